/-
  The document's Page.
-/
import Derived.Test.YtcacocndcfbmaaaB3
import Derived.Lib.SlicesS
namespace Go.Proofs.Ytcacocndcfbmaaa
open Go.ChangeShapes Go.WideShapes Go.ChangeAt Go.RowKit
set_option linter.unusedVariables false
set_option linter.unusedSimpArgs false

theorem up_cons {x : LS} {r : List LS} (h : ∀ i j, i < j → j < (x :: r).length → ltN ((x :: r).getD i LS.z).name ((x :: r).getD j LS.z).name = true) : (∀ i j, i < j → j < r.length → ltN (r.getD i LS.z).name (r.getD j LS.z).name = true) ∧ ∀ y ∈ r, ltN x.name y.name = true := by
  refine ⟨fun i j hij hj => ?_, fun y hy => ?_⟩
  · have := h (i + 1) (j + 1) (by omega) (by simpa using hj)
    simpa using this
  · obtain ⟨n, hn, e⟩ := List.getElem_of_mem hy
    have := h 0 (n + 1) (by omega) (by simpa using hn)
    rw [List.getD_eq_getElem?_getD, List.getD_eq_getElem?_getD, List.getElem?_cons_succ, List.getElem?_eq_getElem hn, e] at this
    simpa using this
/-- Of rising lines one at most has a name. -/
theorem filt_name {name : ByteArray} : ∀ {ls : List LS}, (∀ i j, i < j → j < ls.length → ltN (ls.getD i LS.z).name (ls.getD j LS.z).name = true) → ls.filter (fun l => eqN l.name name) = if hitN name ls = true then [ls.getD (posN name ls) LS.z] else []
  | [], _ => rfl
  | x :: r, h => by
    obtain ⟨hr, hx⟩ := up_cons h
    have ih := filt_name (name := name) hr
    cases hl : ltN x.name name with
    | true =>
      have p1 : posN name (x :: r) = posN name r + 1 := by
        show (if ltN x.name name = true then _ else 0) = _
        rw [if_pos hl]
      have p2 : hitN name (x :: r) = hitN name r := by
        show hit _ _ _ = hit _ _ _
        unfold hit
        rw [show pos (fun y : LS => ltN y.name name) (x :: r) = pos (fun y : LS => ltN y.name name) r + 1 from p1, List.getElem?_cons_succ]
      rw [List.filter_cons, ltN_eq hl, p2, p1, List.getD_cons_succ]
      exact ih
    | false =>
      have p1 : posN name (x :: r) = 0 := by
        show (if ltN x.name name = true then _ else 0) = _
        rw [if_neg (by rw [hl]; decide)]
      have p2 : hitN name (x :: r) = eqN x.name name := by
        show hit _ _ _ = _
        unfold hit
        rw [show pos (fun y : LS => ltN y.name name) (x :: r) = 0 from p1]
        rfl
      have none : r.filter (fun l => eqN l.name name) = [] := by
        rw [List.filter_eq_nil_iff]
        intro y hy
        have h1 := hx y hy
        cases he : eqN x.name name with
        | true =>
          have e : x.name = name := by unfold eqN at he; exact (Go.Lib.bytes_beq_iff _ _).1 he
          rw [e] at h1
          rw [ltN_eq' h1]; decide
        | false => rw [ltN_eq' (ltN_trans (lt_tri hl he) h1)]; decide
      rw [List.filter_cons, none, p2, p1]
      cases eqN x.name name <;> rfl
theorem exec_load42m {o : Oper} {ρ : Operand → Value} {x : Operand} (ho : o.op = .load 50 x) (g off : Nat) (v p f : Int) (hx : ρ x = .pointer (some ⟨g, off, none⟩)) (X : World) (hc : X.rangeAt g off [.int .i64 v, .int .i64 p, .int .i64 f]) : (execOp ρ o).run Try.prog X = .ok (.value (rg v p f)) X := by
  simp only [execOp, ho, hx, Instr.loadAt, Instr.sureAddr, Sem.run_bind, Sem.run_pure, Result.andThen_ok, run_loadVar_mid X g off 50 _ _ hc Try.underlying50 rfl (by show _ = some 3; kernel_rfl)]
def doc1 (id : Int) (name : ByteArray) (x : HS) (ls : List LS) : List (Int × Int) := (ls.filter (fun l => eqN l.name name)).map fun l => (x.peer, outZ l.v l.p l.f id x.peer)
def docE (id : Int) (name : ByteArray) (hs : List HS) : List (Int × Int) := hs.flatMap fun x => doc1 id name x x.ls
theorem fit_list {id : Int} {x : HS} (h : x.fit id = true) : linesB id x.peer x.ls = true := by
  unfold HS.fit at h
  simp only [Bool.and_eq_true] at h
  exact h.2.2.2.2.2.2.2
theorem fit_lines {id : Int} {x : HS} (h : x.fit id = true) : x.ls.length ≤ 8 := by
  unfold HS.fit at h
  simp only [Bool.and_eq_true] at h
  exact of_decide_eq_true h.2.2.2.2.2.2.1
theorem doc1_eq {id : Int} {name : ByteArray} {x : HS} (h : x.fit id = true) : doc1 id name x x.ls = (ent1 id name x).toList := by
  have hl := fit_list h
  unfold doc1 ent1
  rw [filt_name (up hl)]
  cases hh : hitN name x.ls with
  | false =>
    rw [if_neg (by decide), show regN name x.ls = LS.z from by unfold regN; rw [hh]; rfl, if_pos (by rfl)]
    rfl
  | true =>
    have hr : regN name x.ls = x.ls.getD (posN name x.ls) LS.z := by unfold regN; rw [hh]; rfl
    have := lines_at hl _ (hit_iff hh).1
    unfold okAt ok1 at this
    simp only [Bool.and_eq_true, Bool.not_eq_true'] at this
    rw [if_pos rfl, hr, if_neg (by rw [this.2.2.1]; decide)]
    rfl
theorem doc_eq {id : Int} {name : ByteArray} : ∀ {hs : List HS}, (∀ j, j < hs.length → (hs.getD j HS.z).fit id = true) → docE id name hs = ents id name hs
  | [], _ => rfl
  | x :: r, h => by
    have h0 := doc1_eq (name := name) (h 0 (by simp))
    have ih := doc_eq (name := name) (hs := r) (fun j hj => by have := h (j + 1) (by simpa using hj); simpa using this)
    unfold docE ents at ih ⊢
    rw [List.flatMap_cons, ih, List.filterMap_cons]
    rw [show doc1 id name x x.ls = (ent1 id name x).toList from h0]
    cases ent1 id name x <;> rfl
theorem doc1_next {id : Int} {name : ByteArray} {x : HS} {k : Nat} (hk : k < x.ls.length) : doc1 id name x (x.ls.take (k + 1)) = if eqN (x.ls.getD k LS.z).name name = true then doc1 id name x (x.ls.take k) ++ [(x.peer, outZ (x.ls.getD k LS.z).v (x.ls.getD k LS.z).p (x.ls.getD k LS.z).f id x.peer)] else doc1 id name x (x.ls.take k) := by
  unfold doc1
  rw [take_next (z := LS.z) hk, List.filter_append, List.map_append, List.filter_cons]
  cases eqN (x.ls.getD k LS.z).name name <;> simp
theorem docE_next {id : Int} {name : ByteArray} {hs : List HS} {i : Nat} (hi : i < hs.length) : docE id name (hs.take (i + 1)) = docE id name (hs.take i) ++ doc1 id name (hs.getD i HS.z) (hs.getD i HS.z).ls := by
  unfold docE
  rw [take_next (z := HS.z) hi, List.flatMap_append, List.flatMap_cons, List.flatMap_nil, List.append_nil]
set_option maxRecDepth 100000 in
set_option maxHeartbeats 8000000 in
theorem rpage_any (id : Int) (A : Option Addr) (c : Nat) (hs : List HS) (name : ByteArray) (w : World) (P : Hs w A hs.length c hs) (h16 : hs.length ≤ 16) (h8 : ∀ j, j < hs.length → (hs.getD j HS.z).ls.length ≤ 8) :
    Calls Try.prog 10 #[.int .i64 id, .slice A hs.length c, .string name] w fun e w' => ∃ v, e = .returned v ∧ w'.ownsRow w.heap.size 58 2 v (docE id name hs).length (csP (docE id name hs)) ∧ Below w.heap.size w w' := by
  have H16 : Hid (hs.length ≤ 16) := h16
  have H8 : Hid (∀ j, j < hs.length → (hs.getD j HS.z).ls.length ≤ 8) := h8
  clear h16 h8
  go_enter Try.func10, Try.ntmps10
  go_wp2
  go_loopg [7, 8, 9, 10] hs.length (fun gk v7 v8 v9 v10 wr => ∃ (i : Nat) (ds : List (Int × Int)) (vv : Value), vv = v7 ∧ v8 = .int .i64 (i : Int) ∧ i + gk = hs.length ∧ ds = docE id name (hs.take i) ∧ ds.length ≤ 8 * i ∧ wr.ownsRow w.heap.size 58 2 vv ds.length (csP ds) ∧ Below w.heap.size w wr)
  case atStart => exact ⟨0, [], _, rfl, by first | rfl | go_num, by omega, rfl, Nat.le_refl _, World.ownsRow_nil _ _ 58 2, Below.refl _ _⟩
  case round =>
    obtain ⟨i, ds, vv, rfl, rfl, hgk, hds, hdl, O, B⟩ := hrel
    by_cases hi : i < hs.length
    case pos =>
      have HI : Hid (i < hs.length) := hi
      have HDS : Hid (ds = docE id name (hs.take i)) := hds
      have HDL : Hid (ds.length ≤ 8 * i) := hdl
      have hiI : (i : Int) < (hs.length : Int) := by omega
      have hwr : IntKind.i64.wrap ((i : Int) + 1) = (i : Int) + 1 := by rw [IntKind.wrap_i64]; have := H16.out; omega
      obtain ⟨g, o, a1, c1, rfl, k10, r10, R10⟩ := P.at i hi
      have hx8 := H8.out i hi
      have hnx := docE_next (id := id) (name := name) hi
      obtain ⟨x, ex⟩ : ∃ x, hs.getD i HS.z = x := ⟨_, rfl⟩
      rw [ex] at r10 R10 hx8 hnx
      have HX8 : Hid (x.ls.length ≤ 8) := hx8
      have HNX : Hid (docE id name (hs.take (i + 1)) = ds ++ doc1 id name x x.ls) := by show _ = _; rw [hnx, HDS.out]
      have r1 := range_later r10 k10 B
      have HGK : Hid (i + gk = hs.length) := hgk
      clear ex r10 hx8 hnx hds hdl hi hgk
      obtain ⟨gko, hgko⟩ : ∃ g : Nat, g = gk := ⟨_, rfl⟩
      rw [← hgko] at HGK
      have TA : (wr.alloc (.cells #[.int .i64 x.peer, .int .i64 x.boot, .int .i64 x.life, .slice a1 x.ls.length c1, .bool x.pend, .int .i64 x.miss] 43)).heap[wr.heap.size]? = some (.cells (x.on a1 c1).cells.toArray 43 (0, 0)) := heap_new rfl
      have BA := B.alloc B.size (.cells #[.int .i64 x.peer, .int .i64 x.boot, .int .i64 x.life, .slice a1 x.ls.length c1, .bool x.pend, .int .i64 x.miss] 43)
      have OA := owns_later O ((Below.refl _ wr).alloc (Nat.le_refl _) (.cells #[.int .i64 x.peer, .int .i64 x.boot, .int .i64 x.life, .slice a1 x.ls.length c1, .bool x.pend, .int .i64 x.miss] 43))
      go_wp2_with (first
        | ((with_reducible show wpList _ _ _ (Oper.mk _ (Op.load 43 _) _ _ _ _ :: _) _ _); refine wpList_load24 rfl _ rfl g (o + i * 6) (x.on a1 c1) rfl r1 ?_; dsimp only [HS.on, HR.val])
        | fail)
      obtain ⟨q9, hq9⟩ : ∃ q : Nat, wr.heap.size = q := ⟨_, rfl⟩
      obtain ⟨wA, hwA⟩ : ∃ X, wr.alloc (.cells #[.int .i64 x.peer, .int .i64 x.boot, .int .i64 x.life, .slice a1 x.ls.length c1, .bool x.pend, .int .i64 x.miss] 43) = X := ⟨_, rfl⟩
      rw [hwA] at TA BA OA ⊢
      rw [hq9] at TA
      simp only [hq9]
      clear hwA hq9 O B r1
      rename World => wro
      go_loopg [7, 10] x.ls.length (fun gk v7 v10 wr => ∃ (k : Nat) (es : List (Int × Int)) (vv : Value), vv = v7 ∧ v10 = .int .i64 (k : Int) ∧ k + gk = x.ls.length ∧ es = ds ++ doc1 id name x (x.ls.take k) ∧ es.length ≤ 8 * i + k ∧ wr.ownsRow w.heap.size 58 2 vv es.length (csP es) ∧ Below w.heap.size w wr ∧ wr.heap[q9]? = some (.cells (x.on a1 c1).cells.toArray 43 (0, 0)))
      case atStart => exact ⟨0, ds, _, rfl, by first | rfl | go_num, by omega, by simp [doc1], by have := HDL.out; omega, OA, BA, TA⟩
      case round =>
        obtain ⟨k, es, vk, rfl, rfl, hgj, hes, hel, Ok, Bk, Tk⟩ := hrel
        have c3 : wr.cell? ⟨q9, 3, none⟩ = some (.slice a1 x.ls.length c1) := row_cell Tk 3 _ rfl
        by_cases hk : k < x.ls.length
        case pos =>
          have HKL : Hid (k < x.ls.length) := hk
          have hkI : (k : Int) < (x.ls.length : Int) := by omega
          have hwk : IntKind.i64.wrap ((k : Int) + 1) = (k : Int) + 1 := by rw [IntKind.wrap_i64]; have := HX8.out; omega
          obtain ⟨g2, o2, rfl, hg2, hd2, hr2⟩ := RdL.at R10 k hk
          have hnx := doc1_next (id := id) (name := name) hk
          obtain ⟨d, ed⟩ : ∃ d, x.ls.getD k LS.z = d := ⟨_, rfl⟩
          rw [ed] at hr2 hnx
          have hrk := range_later hr2 hg2 Bk
          have hnm := LS.name_cell hrk
          have HEL : Hid (es.length ≤ 8 * i + k) := hel
          cases he : eqN d.name name with
          | false =>
            rw [if_neg (by rw [he]; decide)] at hnx
            have HES : Hid (es = ds ++ doc1 id name x (x.ls.take (k + 1))) := by show _ = _; rw [hnx]; exact hes
            have he2 : (d.name.toList == name.toList) = false := he
            clear hnx he hes ed hd2 hr2
            go_wp2
            go_roundg (gk - 1)
            case measure => omega
            case rel => exact ⟨k + 1, es, _, rfl, by first | rfl | go_num, by omega, HES.out, by have := HEL.out; omega, Ok, Bk, Tk⟩
          | true =>
            rw [if_pos he] at hnx
            have HES : Hid (es ++ [(x.peer, outZ d.v d.p d.f id x.peer)] = ds ++ doc1 id name x (x.ls.take (k + 1))) := by show _ = _; rw [hnx, ← List.append_assoc, ← hes]
            have he2 : (d.name.toList == name.toList) = true := he
            have HBK : Hid (Below w.heap.size w wr) := Bk
            have krg : ∀ X, Below w.heap.size w X → X.rangeAt g2 (o2 + k * 4 + 1) [.int .i64 d.v, .int .i64 d.p, .int .i64 d.f] := fun X b => LS.reg_range (range_later hr2 hg2 b)
            have kp : ∀ X : World, X.heap[q9]? = some (.cells (x.on (some ⟨g2, o2, none⟩) c1).cells.toArray 43 (0, 0)) → X.cell? ⟨q9, 0, none⟩ = some (.int .i64 x.peer) ∧ X.cell? ⟨q9, 3, none⟩ = some (.slice (some ⟨g2, o2, none⟩) x.ls.length c1) := fun X h => ⟨row_cell h 0 _ rfl, row_cell h 3 _ rfl⟩
            clear hnx he hes ed hd2 hr2 hrk
            go_wp2_with (fail)
            refine wp_region_any (by kernel_rfl) ?_
            change wpAny _ _ _ _ _ _ _ (World.drew _)
            refine wpAny_narrow (fun W' => Below w.heap.size w W' ∧ W'.heap[q9]? = some (.cells (x.on (some ⟨g2, o2, none⟩) c1).cells.toArray 43 (0, 0))) _ _ _ _ ?_
            refine anyH_take 1 37 (.pointer (some ⟨q9, 0, none⟩)) rfl rfl (by kernel_rfl) (by kernel_rfl) (by kernel_rfl) (fun _ _ _ h => h) (Or.inl ⟨by rfl, by intro w hSw; go_simp⟩) (⟨HBK.out.drew, Tk⟩) ?_
            try simp only [Act.put, List.setIfInBounds_toArray, List.set_cons_zero, List.set_cons_succ]
            refine anyH_take 2 38 (.int .i64 x.peer) rfl rfl (by kernel_rfl) (by kernel_rfl) (by kernel_rfl) (fun _ _ _ h => h) (Or.inl ⟨by rfl, by intro w hSw; have s1 := (kp _ hSw.2).1; go_simp⟩) (⟨HBK.out.drew, Tk⟩) ?_
            try simp only [Act.put, List.setIfInBounds_toArray, List.set_cons_zero, List.set_cons_succ]
            refine anyH_take 3 39 (.pointer (some ⟨q9, 3, none⟩)) rfl rfl (by kernel_rfl) (by kernel_rfl) (by kernel_rfl) (fun _ _ _ h => h) (Or.inl ⟨by rfl, by intro w hSw; go_simp⟩) (⟨HBK.out.drew, Tk⟩) ?_
            try simp only [Act.put, List.setIfInBounds_toArray, List.set_cons_zero, List.set_cons_succ]
            refine anyH_take 4 40 (.slice (some ⟨g2, o2, none⟩) x.ls.length c1) rfl rfl (by kernel_rfl) (by kernel_rfl) (by kernel_rfl) (fun _ _ _ h => h) (Or.inl ⟨by rfl, by intro w hSw; have s1 := (kp _ hSw.2).2; go_simp⟩) (⟨HBK.out.drew, Tk⟩) ?_
            try simp only [Act.put, List.setIfInBounds_toArray, List.set_cons_zero, List.set_cons_succ]
            refine anyH_take 5 41 (.int .i64 (k : Int)) rfl rfl (by kernel_rfl) (by kernel_rfl) (by kernel_rfl) (fun _ _ _ h => h) (Or.inl ⟨by rfl, by intro w hSw; go_simp⟩) (⟨HBK.out.drew, Tk⟩) ?_
            try simp only [Act.put, List.setIfInBounds_toArray, List.set_cons_zero, List.set_cons_succ]
            refine anyH_take 6 42 (.pointer (some ⟨g2, o2 + k * 4, none⟩)) rfl rfl (by kernel_rfl) (by kernel_rfl) (by kernel_rfl) (fun _ _ _ h => h) (Or.inl ⟨by rfl, by intro w hSw; go_simp⟩) (⟨HBK.out.drew, Tk⟩) ?_
            try simp only [Act.put, List.setIfInBounds_toArray, List.set_cons_zero, List.set_cons_succ]
            refine anyH_take 7 43 (.pointer (some ⟨g2, o2 + k * 4 + 1, none⟩)) rfl rfl (by kernel_rfl) (by kernel_rfl) (by kernel_rfl) (fun _ _ _ h => h) (Or.inl ⟨by rfl, by intro w hSw; go_simp⟩) (⟨HBK.out.drew, Tk⟩) ?_
            try simp only [Act.put, List.setIfInBounds_toArray, List.set_cons_zero, List.set_cons_succ]
            refine anyH_take 8 44 (rg d.v d.p d.f) rfl rfl (by kernel_rfl) (by kernel_rfl) (by kernel_rfl) (fun _ _ _ h => h) (Or.inl ⟨by rfl, fun X hSw => exec_load42m rfl g2 (o2 + k * 4 + 1) d.v d.p d.f rfl X (krg X hSw.1)⟩) (⟨HBK.out.drew, Tk⟩) ?_
            try simp only [Act.put, List.setIfInBounds_toArray, List.set_cons_zero, List.set_cons_succ]
            refine anyH_take 9 45 (.int .i64 id) rfl rfl (by kernel_rfl) (by kernel_rfl) (by kernel_rfl) (fun _ _ _ h => h) (Or.inl ⟨by rfl, by intro w hSw; go_simp⟩) (⟨HBK.out.drew, Tk⟩) ?_
            try simp only [Act.put, List.setIfInBounds_toArray, List.set_cons_zero, List.set_cons_succ]
            refine anyH_take 10 46 (.pointer (some ⟨q9, 0, none⟩)) rfl rfl (by kernel_rfl) (by kernel_rfl) (by kernel_rfl) (fun _ _ _ h => h) (Or.inl ⟨by rfl, by intro w hSw; go_simp⟩) (⟨HBK.out.drew, Tk⟩) ?_
            try simp only [Act.put, List.setIfInBounds_toArray, List.set_cons_zero, List.set_cons_succ]
            refine anyH_take 11 47 (.int .i64 x.peer) rfl rfl (by kernel_rfl) (by kernel_rfl) (by kernel_rfl) (fun _ _ _ h => h) (Or.inl ⟨by rfl, by intro w hSw; have s1 := (kp _ hSw.2).1; go_simp⟩) (⟨HBK.out.drew, Tk⟩) ?_
            try simp only [Act.put, List.setIfInBounds_toArray, List.set_cons_zero, List.set_cons_succ]
            obtain ⟨av, cv, ev⟩ : ∃ av cv, vk = .slice av es.length cv := by
              rcases Ok.2 with ⟨e0, h0⟩ | ⟨g, cap, cur, e0, _⟩
              · exact ⟨none, 0, by rw [h0]; exact e0⟩
              · exact ⟨_, cap, e0⟩
            subst ev
            refine anyH_take 0 36 (.slice av es.length cv) rfl rfl (by kernel_rfl) (by kernel_rfl) (by kernel_rfl) (fun _ _ _ h => h) (Or.inl ⟨by rfl, by intro w hSw; go_simp⟩) (⟨HBK.out.drew, Tk⟩) ?_
            try simp only [Act.put, List.setIfInBounds_toArray, List.set_cons_zero, List.set_cons_succ]
            refine wpAnyH_ready (rs := [12]) (by kernel_rfl) (by simp) ?_
            refine AllReadyH.cons rfl (fun K hK => ?_) AllReadyH.nil
            go_simp
            go_wp2_with (go_at_call 23; refine (rout_any d.v d.p d.f id x.peer _).mono ?_; rintro e w5 ⟨rfl, b5⟩; have b5' : Below wr.heap.size wr w5 := (Below.refl _ _).drew.trans b5; have S5 : Below w.heap.size w w5 ∧ w5.heap[q9]? = some (.cells (x.on (some ⟨g2, o2, none⟩) c1).cells.toArray 43 (0, 0)) := ⟨HBK.out.trans (b5'.mono HBK.out.size), (b5'.block _ (row_lt Tk)).trans Tk⟩; have O5 := owns_later Ok b5'; clear Ok)
            refine hK.out _ _ (S5) (fun hS => ?_)
            clear hK
            refine anyH_take 13 49 (.agg #[.int .i64 x.peer, .int .i64 (outZ d.v d.p d.f id x.peer)]) rfl rfl (by kernel_rfl) (by kernel_rfl) (by kernel_rfl) (fun _ _ _ h => h) (Or.inl ⟨by rfl, by intro w hSw; go_simp⟩) (hS) ?_
            try simp only [Act.put, List.setIfInBounds_toArray, List.set_cons_zero, List.set_cons_succ]
            refine wpAnyH_ready (rs := [14]) (by kernel_rfl) (by simp) ?_
            refine AllReadyH.cons rfl (fun K hK => ?_) AllReadyH.nil
            go_simp
            go_wp2_with (fail)
            refine hK.out _ _ (⟨hS.1.alloc hS.1.size _, heap_old (row_lt hS.2) hS.2⟩) (fun hS => ?_)
            clear hK
            try simp only [Act.put, List.setIfInBounds_toArray, List.set_cons_zero, List.set_cons_succ]
            have O6 := owns_later O5 ((Below.refl _ w5).alloc (Nat.le_refl _) (.cells #[.int .i64 x.peer, .int .i64 (outZ d.v d.p d.f id x.peer)] 58))
            have X6 := World.alloc_heap_new w5 (.cells #[.int .i64 x.peer, .int .i64 (outZ d.v d.p d.f id x.peer)] 58)
            refine wpAnyH_ready (rs := [15]) (by kernel_rfl) (by simp) ?_
            refine AllReadyH.cons rfl (fun K hK => ?_) AllReadyH.nil
            refine wp_more_lstE (base := w.heap.size) (v := .slice av es.length cv) (k := es.length) (es := es.map toEN) (ds := [EN.mk x.peer (outZ d.v d.p d.f id x.peer)]) (ad := ⟨w5.heap.size, 0, none⟩) _ _ rfl rfl rfl O6 rfl (fun j u hj => by rw [add_plain, Nat.zero_add]; exact row_cell X6 j u (by simpa [csE, EN.cells] using hj)) (by have := HEL.out; have := H16.out; have := HI.out; have := HX8.out; have := HKL.out; omega) hS.1.size ?_
            intro v7 w7 O7 g7 b7
            replace O7 : w7.ownsRow w.heap.size 58 2 v7 (es ++ [(x.peer, outZ d.v d.p d.f id x.peer)]).length (csP (es ++ [(x.peer, outZ d.v d.p d.f id x.peer)])) := by
              rw [List.length_append]
              show w7.ownsRow w.heap.size 58 2 v7 (es.length + 1) (csE ((es ++ [(x.peer, outZ d.v d.p d.f id x.peer)]).map toEN))
              rw [List.map_append]
              exact O7
            have T7 := (g7.block _ (row_lt hS.2) (owns_ne O6 hS.2 (by decide))).trans hS.2
            refine hK.out _ _ (⟨hS.1.trans b7, T7⟩) (fun hS => ?_)
            clear hK
            try simp only [Act.put, List.setIfInBounds_toArray, List.set_cons_zero, List.set_cons_succ]
            obtain ⟨a7, c7, e7⟩ : ∃ a7 c7, v7 = .slice a7 (es.length + 1) c7 := by
              rcases O7.2 with ⟨e0, h0⟩ | ⟨g, cap, cur, e0, _⟩
              · rw [List.length_append] at h0; exact absurd h0 (by simp)
              · exact ⟨_, cap, by rw [List.length_append] at e0; exact e0⟩
            subst e7
            refine anyH_take 16 7 (.slice a7 (es.length + 1) c7) rfl rfl (by kernel_rfl) (by kernel_rfl) (by kernel_rfl) (fun _ _ _ h => h) (Or.inl ⟨by rfl, by intro w hSw; go_simp⟩) (hS) ?_
            try simp only [Act.put, List.setIfInBounds_toArray, List.set_cons_zero, List.set_cons_succ]
            refine wpAnyH_done (by kernel_rfl) ?_ _
            go_wp2
            go_roundg (gk - 1)
            case measure => omega
            case rel => exact ⟨k + 1, _, _, rfl, by first | rfl | go_num, by omega, HES.out, by rw [List.length_append]; have := HEL.out; show es.length + 1 ≤ _; omega, O7, hS.1, hS.2⟩
        case neg =>
          have hkI : ¬ (k : Int) < (x.ls.length : Int) := by omega
          have hkk : k = x.ls.length := by omega
          rw [hkk, List.take_length] at hes
          have HES : Hid (es = docE id name (hs.take (i + 1))) := by show _ = _; rw [HNX.out]; exact hes
          have HEL : Hid (es.length ≤ 8 * (i + 1)) := by have := HX8.out; show _ ≤ _; omega
          clear hes hel hkk
          go_wp2
          go_roundg (gko - 1)
          case measure => have := HGK.out; have := HI.out; omega
          case rel => exact ⟨i + 1, es, _, rfl, by first | rfl | go_num, by have := HGK.out; have := HI.out; omega, HES.out, HEL.out, Ok, Bk⟩
    case neg =>
      have hiI : ¬ (i : Int) < (hs.length : Int) := by omega
      have hin : i = hs.length := by omega
      have e : ds = docE id name hs := by rw [hds, hin, List.take_length]
      subst e
      clear hds hdl hin
      go_wp2
      go_ret
      exact ⟨_, rfl, O, B⟩
end Go.Proofs.Ytcacocndcfbmaaa
