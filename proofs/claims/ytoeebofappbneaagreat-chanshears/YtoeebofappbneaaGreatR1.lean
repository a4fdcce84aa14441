/-
  The document's own put: a record in its place.
-/
import Derived.Test.YtoeebofappbneaaGreatE1
namespace Go.Proofs.YtoeebofappbneaaGreat
open Go.ChangeShapes Go.WideShapes Go.ChangeAt Go.RowKit Go.Maps Go.Shelf
set_option linter.unusedVariables false
set_option linter.unusedSimpArgs false

def ptS (c : CH) (st : List CH × Bool) (x : CH) : List CH × Bool :=
  let o := if st.2 = false ∧ ltN x.nm c.nm = false then st.1 ++ [c] else st.1
  (if x.nm = c.nm then o else o ++ [x], st.2 || !ltN x.nm c.nm)
def ptT (l : List CH) (c : CH) (i : Nat) : List CH × Bool := (l.take i).foldl (ptS c) ([], false)
def ptL (l : List CH) (c : CH) : List CH := if (l.foldl (ptS c) ([], false)).2 = true then (l.foldl (ptS c) ([], false)).1 else (l.foldl (ptS c) ([], false)).1 ++ [c]
theorem ptT_step {l : List CH} {c : CH} {i : Nat} {x : CH} (h : l[i]? = some x) : ptT l c (i + 1) = ptS c (ptT l c i) x := by
  unfold ptT
  rw [List.take_add_one, h, List.foldl_append]
  rfl
theorem ptS_len (c : CH) (st : List CH × Bool) (x : CH) : (ptS c st x).1.length ≤ st.1.length + 2 := by
  unfold ptS
  dsimp only
  split <;> split <;> (try simp only [List.length_append, List.length_cons, List.length_nil]) <;> omega
theorem pt_len (c : CH) : ∀ (l : List CH) (st : List CH × Bool), (l.foldl (ptS c) st).1.length ≤ st.1.length + 2 * l.length
  | [], st => Nat.le_refl _
  | x :: l, st => by
    have h1 := pt_len c l (ptS c st x)
    have h2 := ptS_len c st x
    simp only [List.foldl_cons, List.length_cons]
    omega
theorem ptT_len (l : List CH) (c : CH) (i : Nat) : (ptT l c i).1.length ≤ 2 * i := by
  have h := pt_len c (l.take i) ([], false)
  rw [List.length_take] at h
  unfold ptT
  simp only [List.length_nil] at h
  omega
theorem ptT_all {l : List CH} {n : Nat} (h : l.length = n) (c : CH) : ptT l c n = l.foldl (ptS c) ([], false) := by unfold ptT; rw [List.take_of_length_le (by omega)]
theorem pt_past (c : CH) : ∀ (l : List CH) (o : List CH), (∀ x, x ∈ l → ltN c.nm x.nm = true) → l.foldl (ptS c) (o, true) = (o ++ l, true)
  | [], o, _ => by simp
  | x :: l, o, h => by
    have h1 := h x (.head _)
    have hn : x.nm ≠ c.nm := fun e => by rw [e, lt_irr] at h1; cases h1
    have e : ptS c (o, true) x = (o ++ [x], true) := by simp [ptS, hn]
    rw [List.foldl_cons, e, pt_past c l _ (fun y hy => h y (.tail _ hy))]
    simp
theorem pt_ins (c : CH) : ∀ (l : List CH) (o : List CH), Rise l → (if (l.foldl (ptS c) (o, false)).2 = true then (l.foldl (ptS c) (o, false)).1 else (l.foldl (ptS c) (o, false)).1 ++ [c]) = o ++ ins l c
  | [], o, _ => by simp [ins]
  | x :: l, o, hr => by
    have hp := List.pairwise_cons.1 hr
    rcases three x.nm c.nm with ⟨h1, h2, h3⟩ | ⟨h1, h2, h3⟩ | ⟨h1, h2, h3⟩
    · have e : ptS c (o, false) x = (o ++ [x], false) := by simp [ptS, h1, h3]
      rw [List.foldl_cons, e, pt_ins c l _ hp.2, ins_lt h1]
      simp
    · have e : ptS c (o, false) x = (o ++ [c] ++ [x], true) := by simp [ptS, h2, h3]
      rw [List.foldl_cons, e, pt_past c l _ (fun y hy => lt_trans' h1 (hp.1 y hy)), if_pos rfl]
      have hi : ins (x :: l) c = c :: x :: l := by rw [ins, if_neg (by rw [h2]; decide), if_pos h1]
      rw [hi]
      simp
    · have e : ptS c (o, false) x = (o ++ [c], true) := by simp [ptS, h1, lt_irr]
      rw [List.foldl_cons, e, pt_past c l _ (fun y hy => by rw [← h1]; exact hp.1 y hy), if_pos rfl]
      have hi : ins (x :: l) c = c :: l := by rw [ins, if_neg (by rw [h2]; decide), if_neg (by rw [h3]; decide)]
      rw [hi]
      simp
theorem ptL_ins {l : List CH} {c : CH} (h : Rise l) : ptL l c = ins l c := by
  have := pt_ins c l [] h
  rw [List.nil_append] at this
  exact this
set_option maxRecDepth 100000 in
set_option maxHeartbeats 8000000 in
theorem put_any (a : Option Addr) (n cap : Nat) (l : List CH) (nm' : ByteArray) (ep' mr' : Int) (al' : Bool) (kd' sc' : Int) (w : World) (hr : RdC w a n cap l) (hn : n ≤ 1000) : Calls Tryz.prog 65 #[.slice a n cap, chv nm' ep' mr' al' kd' sc'] w (Ans w (ptL l ⟨nm', ep', mr', al', kd', sc'⟩)) := by
  have HN : Hid (n ≤ 1000) := hn
  have HL : Hid (l.length = n) := hr.size
  have M := Mem.nil w
  obtain ⟨LL, hLL⟩ : ∃ LL, ptL l ⟨nm', ep', mr', al', kd', sc'⟩ = LL := ⟨_, rfl⟩
  rw [hLL]
  have HF : Hid (ptL l ⟨nm', ep', mr', al', kd', sc'⟩ = LL) := hLL
  clear hLL hn
  go_enter Tryz.func65, Tryz.ntmps65
  go_wp2_with (first
      | ((with_reducible show wpList _ _ _ (Oper.mk (some 3) (Op.box 47 _) _ _ _ _ :: _) _ _); refine wpList_box M rfl _ rfl _ rfl ?_; clear M; intro k3 W M))
  go_loopg [5, 6, 7] n (fun gk v5 v6 v7 wr => ∃ (i : Nat) (v : Value) (ds : List CH) (dn : Bool), v = v5 ∧ v6 = .bool dn ∧ v7 = .int .i64 (i : Int) ∧ i + gk = n ∧ Mem w wr [(k3, chc nm' ep' mr' al' kd' sc', 47)] ∧ wr.ownsRow w.heap.size 47 6 v ds.length (csC ds) ∧ Hid (ptT l ⟨nm', ep', mr', al', kd', sc'⟩ i = (ds, dn)) ∧ (∀ g, v.ownBlock = some g → ∀ p, p ∈ [((k3, chc nm' ep' mr' al' kd' sc', 47) : Blk)] → p.1 ≠ g))
  case atStart => exact ⟨0, _, [], false, rfl, rfl, by first | rfl | go_num, by omega, M, World.ownsRow_nil _ _ _ _, rfl, fun g hg => by cases hg⟩
  case round =>
    clear M
    obtain ⟨i, v, ds, dn, rfl, rfl, rfl, hgk, M0, O, HQ, hne⟩ := hrel
    obtain ⟨av, cv, rfl⟩ : ∃ av cv, v = .slice av ds.length cv := by
      rcases O.2 with ⟨e, h0⟩ | ⟨g, cp, cur, e, _⟩
      · exact ⟨_, _, by rw [e, h0]⟩
      · exact ⟨_, _, e⟩
    have HIK : Hid (ds.length ≤ 2 * n) := by show _ ≤ _; have := ptT_len l ⟨nm', ep', mr', al', kd', sc'⟩ i; rw [HQ.out] at this; dsimp only at this; omega
    replace HIK : Hid (ds.length ≤ 2000) := by show _ ≤ _; have := HIK.out; have := HN.out; omega
    have M := M0.own O hne
    clear hne
    by_cases hi : i < n
    case pos =>
      have HI : Hid (i < n) := hi
      have hiI : (i : Int) < (n : Int) := by omega
      have hwr : IntKind.i64.wrap ((i : Int) + 1) = (i : Int) + 1 := by rw [IntKind.wrap_i64]; have := HN.out; omega
      obtain ⟨b, off, rfl, hb1, hd, hra⟩ := hr.at i hi
      obtain ⟨⟨nm, ep, mr, al, kd, sc⟩, hri⟩ : ∃ r, l.getD i CH.z = r := ⟨_, rfl⟩
      rw [hri] at hra hd
      have HT : Hid (ptT l ⟨nm', ep', mr', al', kd', sc'⟩ (i + 1) = ptS ⟨nm', ep', mr', al', kd', sc'⟩ (ptT l ⟨nm', ep', mr', al', kd', sc'⟩ i) ⟨nm, ep, mr, al, kd, sc⟩) := ptT_step hd
      have KR : ∀ X, Below w.heap.size w X → X.rangeAt b (off + i * 6) (CH.cells ⟨nm, ep, mr, al, kd, sc⟩) := fun X h => range_later hra hb1 h
      clear hri hd hi hra
      cases dn with
      | true =>
        rcases three nm nm' with ⟨h1, h2, h3⟩ | ⟨h1, h2, h3⟩ | ⟨h1, h2, h3⟩
        · have hltX : ltN nm nm' = true := h1
          have hneX : nm ≠ nm' := h3
          have HP : Hid (ptT l ⟨nm', ep', mr', al', kd', sc'⟩ (i + 1) = (ds ++ [⟨nm, ep, mr, al, kd, sc⟩], true)) := by show _ = _; rw [HT.out, HQ.out]; simp only [ptS]; simp [hltX, hneX, lt_irr]
          have g1 : Op.bytesLess nm.toList nm'.toList = true := hltX
          have g3 : (nm.toList == nm'.toList) = false := nm_bne hneX
          clear h1 h2 h3 hltX hneX HT HQ
          go_wp2_with (fail)
          refine wp_region_any (by kernel_rfl) ?_
          change wpAny _ _ _ _ _ _ _ (World.drew _)
          replace M := M.drew
          generalize World.drew _ = WD at M ⊢
          refine wpAny_narrow (fun W' => W'.cell? ⟨b, off + i * 6, none⟩ = some (.string nm) ∧ W'.cell? ⟨k3, 0, none⟩ = some (.string nm')) _ _ _ _ ?_
          refine anyH_take 0 14 (.bool true) rfl rfl (by kernel_rfl) (by kernel_rfl) (by kernel_rfl) (fun _ _ _ h => h) (Or.inl ⟨by rfl, by intro w hSw; go_simp⟩) (⟨KR _ (M0.back M).below 0 _ rfl, row_cell (M.get (.head _)) 0 _ rfl⟩) ?_
          try simp only [Act.put, List.setIfInBounds_toArray, List.set_cons_zero, List.set_cons_succ]
          refine anyH_take 1 15 (.bool false) rfl rfl (by kernel_rfl) (by kernel_rfl) (by kernel_rfl) (fun _ _ _ h => h) (Or.inl ⟨by rfl, by intro w hSw; go_simp⟩) (⟨KR _ (M0.back M).below 0 _ rfl, row_cell (M.get (.head _)) 0 _ rfl⟩) ?_
          try simp only [Act.put, List.setIfInBounds_toArray, List.set_cons_zero, List.set_cons_succ]
          refine anyH_take 2 16 (.bool false) rfl rfl (by kernel_rfl) (by kernel_rfl) (by kernel_rfl) (fun _ _ _ h => h) (Or.inl ⟨by rfl, by intro w hSw; go_simp⟩) (⟨KR _ (M0.back M).below 0 _ rfl, row_cell (M.get (.head _)) 0 _ rfl⟩) ?_
          try simp only [Act.put, List.setIfInBounds_toArray, List.set_cons_zero, List.set_cons_succ]
          refine anyH_take 3 17 (undef) rfl rfl (by kernel_rfl) (by kernel_rfl) (by kernel_rfl) (fun _ _ _ h => h) (Or.inr ⟨by rfl, rfl⟩) (⟨KR _ (M0.back M).below 0 _ rfl, row_cell (M.get (.head _)) 0 _ rfl⟩) ?_
          try simp only [Act.put, List.setIfInBounds_toArray, List.set_cons_zero, List.set_cons_succ]
          refine anyH_take 4 18 (undef) rfl rfl (by kernel_rfl) (by kernel_rfl) (by kernel_rfl) (fun _ _ _ h => h) (Or.inr ⟨by rfl, rfl⟩) (⟨KR _ (M0.back M).below 0 _ rfl, row_cell (M.get (.head _)) 0 _ rfl⟩) ?_
          try simp only [Act.put, List.setIfInBounds_toArray, List.set_cons_zero, List.set_cons_succ]
          refine anyH_take 5 19 (undef) rfl rfl (by kernel_rfl) (by kernel_rfl) (by kernel_rfl) (fun _ _ _ h => h) (Or.inr ⟨by rfl, rfl⟩) (⟨KR _ (M0.back M).below 0 _ rfl, row_cell (M.get (.head _)) 0 _ rfl⟩) ?_
          try simp only [Act.put, List.setIfInBounds_toArray, List.set_cons_zero, List.set_cons_succ]
          refine anyH_take 6 20 (undef) rfl rfl (by kernel_rfl) (by kernel_rfl) (by kernel_rfl) (fun _ _ _ h => h) (Or.inr ⟨by rfl, rfl⟩) (⟨KR _ (M0.back M).below 0 _ rfl, row_cell (M.get (.head _)) 0 _ rfl⟩) ?_
          try simp only [Act.put, List.setIfInBounds_toArray, List.set_cons_zero, List.set_cons_succ]
          refine anyH_take 7 21 (undef) rfl rfl (by kernel_rfl) (by kernel_rfl) (by kernel_rfl) (fun _ _ _ h => h) (Or.inr ⟨by rfl, rfl⟩) (⟨KR _ (M0.back M).below 0 _ rfl, row_cell (M.get (.head _)) 0 _ rfl⟩) ?_
          try simp only [Act.put, List.setIfInBounds_toArray, List.set_cons_zero, List.set_cons_succ]
          refine anyH_take 8 22 (undef) rfl rfl (by kernel_rfl) (by kernel_rfl) (by kernel_rfl) (fun _ _ _ h => h) (Or.inr ⟨by rfl, rfl⟩) (⟨KR _ (M0.back M).below 0 _ rfl, row_cell (M.get (.head _)) 0 _ rfl⟩) ?_
          try simp only [Act.put, List.setIfInBounds_toArray, List.set_cons_zero, List.set_cons_succ]
          refine anyH_take 9 23 (undef) rfl rfl (by kernel_rfl) (by kernel_rfl) (by kernel_rfl) (fun _ _ _ h => h) (Or.inr ⟨by rfl, rfl⟩) (⟨KR _ (M0.back M).below 0 _ rfl, row_cell (M.get (.head _)) 0 _ rfl⟩) ?_
          try simp only [Act.put, List.setIfInBounds_toArray, List.set_cons_zero, List.set_cons_succ]
          refine anyH_take 10 24 (undef) rfl rfl (by kernel_rfl) (by kernel_rfl) (by kernel_rfl) (fun _ _ _ h => h) (Or.inr ⟨by rfl, rfl⟩) (⟨KR _ (M0.back M).below 0 _ rfl, row_cell (M.get (.head _)) 0 _ rfl⟩) ?_
          try simp only [Act.put, List.setIfInBounds_toArray, List.set_cons_zero, List.set_cons_succ]
          refine anyH_take 11 25 (.bool false) rfl rfl (by kernel_rfl) (by kernel_rfl) (by kernel_rfl) (fun _ _ _ h => h) (Or.inl ⟨by rfl, by intro w hSw; go_simp⟩) (⟨KR _ (M0.back M).below 0 _ rfl, row_cell (M.get (.head _)) 0 _ rfl⟩) ?_
          try simp only [Act.put, List.setIfInBounds_toArray, List.set_cons_zero, List.set_cons_succ]
          refine wpAnyH_done (by kernel_rfl) ?_ _
          go_wp2_with (fail)
          refine wp_region_any (by kernel_rfl) ?_
          change wpAny _ _ _ _ _ _ _ (World.drew _)
          replace M := M.drew
          generalize World.drew _ = WD at M ⊢
          refine wpAny_narrow (fun W' => W'.cell? ⟨b, off + i * 6, none⟩ = some (.string nm) ∧ W'.cell? ⟨k3, 0, none⟩ = some (.string nm')) _ _ _ _ ?_
          refine anyH_take 0 30 (.slice (some ⟨b, off, none⟩) n cap) rfl rfl (by kernel_rfl) (by kernel_rfl) (by kernel_rfl) (fun _ _ _ h => h) (Or.inl ⟨by rfl, by intro w hSw; go_simp⟩) (⟨KR _ (M0.back M).below 0 _ rfl, row_cell (M.get (.head _)) 0 _ rfl⟩) ?_
          try simp only [Act.put, List.setIfInBounds_toArray, List.set_cons_zero, List.set_cons_succ]
          refine anyH_take 1 31 (.int .i64 (i : Int)) rfl rfl (by kernel_rfl) (by kernel_rfl) (by kernel_rfl) (fun _ _ _ h => h) (Or.inl ⟨by rfl, by intro w hSw; go_simp⟩) (⟨KR _ (M0.back M).below 0 _ rfl, row_cell (M.get (.head _)) 0 _ rfl⟩) ?_
          try simp only [Act.put, List.setIfInBounds_toArray, List.set_cons_zero, List.set_cons_succ]
          refine anyH_take 2 32 (.pointer (some ⟨b, off + i * 6, none⟩)) rfl rfl (by kernel_rfl) (by kernel_rfl) (by kernel_rfl) (fun _ _ _ h => h) (Or.inl ⟨by rfl, by intro w hSw; go_simp⟩) (⟨KR _ (M0.back M).below 0 _ rfl, row_cell (M.get (.head _)) 0 _ rfl⟩) ?_
          try simp only [Act.put, List.setIfInBounds_toArray, List.set_cons_zero, List.set_cons_succ]
          refine anyH_take 3 33 (.pointer (some ⟨b, off + i * 6, none⟩)) rfl rfl (by kernel_rfl) (by kernel_rfl) (by kernel_rfl) (fun _ _ _ h => h) (Or.inl ⟨by rfl, by intro w hSw; go_simp⟩) (⟨KR _ (M0.back M).below 0 _ rfl, row_cell (M.get (.head _)) 0 _ rfl⟩) ?_
          try simp only [Act.put, List.setIfInBounds_toArray, List.set_cons_zero, List.set_cons_succ]
          refine anyH_take 4 34 (.string nm) rfl rfl (by kernel_rfl) (by kernel_rfl) (by kernel_rfl) (fun _ _ _ h => h) (Or.inl ⟨by rfl, by intro w hSw; have s1 := hSw.1; go_simp⟩) (⟨KR _ (M0.back M).below 0 _ rfl, row_cell (M.get (.head _)) 0 _ rfl⟩) ?_
          try simp only [Act.put, List.setIfInBounds_toArray, List.set_cons_zero, List.set_cons_succ]
          refine anyH_take 5 35 (.pointer (some ⟨k3, 0, none⟩)) rfl rfl (by kernel_rfl) (by kernel_rfl) (by kernel_rfl) (fun _ _ _ h => h) (Or.inl ⟨by rfl, by intro w hSw; go_simp⟩) (⟨KR _ (M0.back M).below 0 _ rfl, row_cell (M.get (.head _)) 0 _ rfl⟩) ?_
          try simp only [Act.put, List.setIfInBounds_toArray, List.set_cons_zero, List.set_cons_succ]
          refine anyH_take 6 36 (.string nm') rfl rfl (by kernel_rfl) (by kernel_rfl) (by kernel_rfl) (fun _ _ _ h => h) (Or.inl ⟨by rfl, by intro w hSw; have s2 := hSw.2; go_simp⟩) (⟨KR _ (M0.back M).below 0 _ rfl, row_cell (M.get (.head _)) 0 _ rfl⟩) ?_
          try simp only [Act.put, List.setIfInBounds_toArray, List.set_cons_zero, List.set_cons_succ]
          refine anyH_take 7 37 (.bool true) rfl rfl (by kernel_rfl) (by kernel_rfl) (by kernel_rfl) (fun _ _ _ h => h) (Or.inl ⟨by rfl, by intro w hSw; go_simp⟩) (⟨KR _ (M0.back M).below 0 _ rfl, row_cell (M.get (.head _)) 0 _ rfl⟩) ?_
          try simp only [Act.put, List.setIfInBounds_toArray, List.set_cons_zero, List.set_cons_succ]
          refine wpAnyH_done (by kernel_rfl) ?_ _
          go_wp2_with (first | ((with_reducible show wpList _ _ _ (Oper.mk _ (Op.load 47 (Operand.tmp 41)) _ _ _ _ :: _) _ _); refine wpList_load23w (by rfl) _ rfl b (off + i * 6) nm ep mr al kd sc rfl (KR _ (M0.back M).below) ?_) | ((with_reducible show wpList _ _ _ (Oper.mk _ (Op.buildSlice 44 1 #[(0, Operand.tmp 42)]) _ _ _ _ :: _) _ _); refine wpList_mk1 M rfl _ rfl nm ep mr al kd sc rfl ?_; clear M; intro q W M) | ((with_reducible show wpList _ _ _ (Oper.mk _ (Op.call { callee := Callee.builtin Builtin.append, args := _, argTypes := #[44, 44] }) _ _ _ _ :: _) _ _); refine wpList_appM M O rfl _ _ rfl rfl rfl (by have := HIK.out; omega) ?_; intro g cp W1 M1 O1 N1; replace M0 := M0.back M1; clear M O; have O := O1; have M := M0.own O1 N1; clear M1 N1 O1))
          go_roundg (gk - 1)
          case measure => have := HI.out; omega
          case rel =>
            refine ⟨i + 1, _, ds ++ [⟨nm, ep, mr, al, kd, sc⟩], true, rfl, rfl, by first | rfl | go_num, by have := HI.out; omega, M0.back M, ?_, HP, M.ne⟩
            rw [csC_snoc, List.length_append]; exact M.owns O
        · have hltX : ltN nm nm' = false := h2
          have hneX : nm ≠ nm' := h3
          have HP : Hid (ptT l ⟨nm', ep', mr', al', kd', sc'⟩ (i + 1) = (ds ++ [⟨nm, ep, mr, al, kd, sc⟩], true)) := by show _ = _; rw [HT.out, HQ.out]; simp only [ptS]; simp [hltX, hneX, lt_irr]
          have g1 : Op.bytesLess nm.toList nm'.toList = false := hltX
          have g3 : (nm.toList == nm'.toList) = false := nm_bne hneX
          clear h1 h2 h3 hltX hneX HT HQ
          go_wp2_with (fail)
          refine wp_region_any (by kernel_rfl) ?_
          change wpAny _ _ _ _ _ _ _ (World.drew _)
          replace M := M.drew
          generalize World.drew _ = WD at M ⊢
          refine wpAny_narrow (fun W' => W'.cell? ⟨b, off + i * 6, none⟩ = some (.string nm) ∧ W'.cell? ⟨k3, 0, none⟩ = some (.string nm')) _ _ _ _ ?_
          refine anyH_take 0 14 (.bool true) rfl rfl (by kernel_rfl) (by kernel_rfl) (by kernel_rfl) (fun _ _ _ h => h) (Or.inl ⟨by rfl, by intro w hSw; go_simp⟩) (⟨KR _ (M0.back M).below 0 _ rfl, row_cell (M.get (.head _)) 0 _ rfl⟩) ?_
          try simp only [Act.put, List.setIfInBounds_toArray, List.set_cons_zero, List.set_cons_succ]
          refine anyH_take 1 15 (.bool false) rfl rfl (by kernel_rfl) (by kernel_rfl) (by kernel_rfl) (fun _ _ _ h => h) (Or.inl ⟨by rfl, by intro w hSw; go_simp⟩) (⟨KR _ (M0.back M).below 0 _ rfl, row_cell (M.get (.head _)) 0 _ rfl⟩) ?_
          try simp only [Act.put, List.setIfInBounds_toArray, List.set_cons_zero, List.set_cons_succ]
          refine anyH_take 2 16 (.bool false) rfl rfl (by kernel_rfl) (by kernel_rfl) (by kernel_rfl) (fun _ _ _ h => h) (Or.inl ⟨by rfl, by intro w hSw; go_simp⟩) (⟨KR _ (M0.back M).below 0 _ rfl, row_cell (M.get (.head _)) 0 _ rfl⟩) ?_
          try simp only [Act.put, List.setIfInBounds_toArray, List.set_cons_zero, List.set_cons_succ]
          refine anyH_take 3 17 (undef) rfl rfl (by kernel_rfl) (by kernel_rfl) (by kernel_rfl) (fun _ _ _ h => h) (Or.inr ⟨by rfl, rfl⟩) (⟨KR _ (M0.back M).below 0 _ rfl, row_cell (M.get (.head _)) 0 _ rfl⟩) ?_
          try simp only [Act.put, List.setIfInBounds_toArray, List.set_cons_zero, List.set_cons_succ]
          refine anyH_take 4 18 (undef) rfl rfl (by kernel_rfl) (by kernel_rfl) (by kernel_rfl) (fun _ _ _ h => h) (Or.inr ⟨by rfl, rfl⟩) (⟨KR _ (M0.back M).below 0 _ rfl, row_cell (M.get (.head _)) 0 _ rfl⟩) ?_
          try simp only [Act.put, List.setIfInBounds_toArray, List.set_cons_zero, List.set_cons_succ]
          refine anyH_take 5 19 (undef) rfl rfl (by kernel_rfl) (by kernel_rfl) (by kernel_rfl) (fun _ _ _ h => h) (Or.inr ⟨by rfl, rfl⟩) (⟨KR _ (M0.back M).below 0 _ rfl, row_cell (M.get (.head _)) 0 _ rfl⟩) ?_
          try simp only [Act.put, List.setIfInBounds_toArray, List.set_cons_zero, List.set_cons_succ]
          refine anyH_take 6 20 (undef) rfl rfl (by kernel_rfl) (by kernel_rfl) (by kernel_rfl) (fun _ _ _ h => h) (Or.inr ⟨by rfl, rfl⟩) (⟨KR _ (M0.back M).below 0 _ rfl, row_cell (M.get (.head _)) 0 _ rfl⟩) ?_
          try simp only [Act.put, List.setIfInBounds_toArray, List.set_cons_zero, List.set_cons_succ]
          refine anyH_take 7 21 (undef) rfl rfl (by kernel_rfl) (by kernel_rfl) (by kernel_rfl) (fun _ _ _ h => h) (Or.inr ⟨by rfl, rfl⟩) (⟨KR _ (M0.back M).below 0 _ rfl, row_cell (M.get (.head _)) 0 _ rfl⟩) ?_
          try simp only [Act.put, List.setIfInBounds_toArray, List.set_cons_zero, List.set_cons_succ]
          refine anyH_take 8 22 (undef) rfl rfl (by kernel_rfl) (by kernel_rfl) (by kernel_rfl) (fun _ _ _ h => h) (Or.inr ⟨by rfl, rfl⟩) (⟨KR _ (M0.back M).below 0 _ rfl, row_cell (M.get (.head _)) 0 _ rfl⟩) ?_
          try simp only [Act.put, List.setIfInBounds_toArray, List.set_cons_zero, List.set_cons_succ]
          refine anyH_take 9 23 (undef) rfl rfl (by kernel_rfl) (by kernel_rfl) (by kernel_rfl) (fun _ _ _ h => h) (Or.inr ⟨by rfl, rfl⟩) (⟨KR _ (M0.back M).below 0 _ rfl, row_cell (M.get (.head _)) 0 _ rfl⟩) ?_
          try simp only [Act.put, List.setIfInBounds_toArray, List.set_cons_zero, List.set_cons_succ]
          refine anyH_take 10 24 (undef) rfl rfl (by kernel_rfl) (by kernel_rfl) (by kernel_rfl) (fun _ _ _ h => h) (Or.inr ⟨by rfl, rfl⟩) (⟨KR _ (M0.back M).below 0 _ rfl, row_cell (M.get (.head _)) 0 _ rfl⟩) ?_
          try simp only [Act.put, List.setIfInBounds_toArray, List.set_cons_zero, List.set_cons_succ]
          refine anyH_take 11 25 (.bool false) rfl rfl (by kernel_rfl) (by kernel_rfl) (by kernel_rfl) (fun _ _ _ h => h) (Or.inl ⟨by rfl, by intro w hSw; go_simp⟩) (⟨KR _ (M0.back M).below 0 _ rfl, row_cell (M.get (.head _)) 0 _ rfl⟩) ?_
          try simp only [Act.put, List.setIfInBounds_toArray, List.set_cons_zero, List.set_cons_succ]
          refine wpAnyH_done (by kernel_rfl) ?_ _
          go_wp2_with (fail)
          refine wp_region_any (by kernel_rfl) ?_
          change wpAny _ _ _ _ _ _ _ (World.drew _)
          replace M := M.drew
          generalize World.drew _ = WD at M ⊢
          refine wpAny_narrow (fun W' => W'.cell? ⟨b, off + i * 6, none⟩ = some (.string nm) ∧ W'.cell? ⟨k3, 0, none⟩ = some (.string nm')) _ _ _ _ ?_
          refine anyH_take 0 30 (.slice (some ⟨b, off, none⟩) n cap) rfl rfl (by kernel_rfl) (by kernel_rfl) (by kernel_rfl) (fun _ _ _ h => h) (Or.inl ⟨by rfl, by intro w hSw; go_simp⟩) (⟨KR _ (M0.back M).below 0 _ rfl, row_cell (M.get (.head _)) 0 _ rfl⟩) ?_
          try simp only [Act.put, List.setIfInBounds_toArray, List.set_cons_zero, List.set_cons_succ]
          refine anyH_take 1 31 (.int .i64 (i : Int)) rfl rfl (by kernel_rfl) (by kernel_rfl) (by kernel_rfl) (fun _ _ _ h => h) (Or.inl ⟨by rfl, by intro w hSw; go_simp⟩) (⟨KR _ (M0.back M).below 0 _ rfl, row_cell (M.get (.head _)) 0 _ rfl⟩) ?_
          try simp only [Act.put, List.setIfInBounds_toArray, List.set_cons_zero, List.set_cons_succ]
          refine anyH_take 2 32 (.pointer (some ⟨b, off + i * 6, none⟩)) rfl rfl (by kernel_rfl) (by kernel_rfl) (by kernel_rfl) (fun _ _ _ h => h) (Or.inl ⟨by rfl, by intro w hSw; go_simp⟩) (⟨KR _ (M0.back M).below 0 _ rfl, row_cell (M.get (.head _)) 0 _ rfl⟩) ?_
          try simp only [Act.put, List.setIfInBounds_toArray, List.set_cons_zero, List.set_cons_succ]
          refine anyH_take 3 33 (.pointer (some ⟨b, off + i * 6, none⟩)) rfl rfl (by kernel_rfl) (by kernel_rfl) (by kernel_rfl) (fun _ _ _ h => h) (Or.inl ⟨by rfl, by intro w hSw; go_simp⟩) (⟨KR _ (M0.back M).below 0 _ rfl, row_cell (M.get (.head _)) 0 _ rfl⟩) ?_
          try simp only [Act.put, List.setIfInBounds_toArray, List.set_cons_zero, List.set_cons_succ]
          refine anyH_take 4 34 (.string nm) rfl rfl (by kernel_rfl) (by kernel_rfl) (by kernel_rfl) (fun _ _ _ h => h) (Or.inl ⟨by rfl, by intro w hSw; have s1 := hSw.1; go_simp⟩) (⟨KR _ (M0.back M).below 0 _ rfl, row_cell (M.get (.head _)) 0 _ rfl⟩) ?_
          try simp only [Act.put, List.setIfInBounds_toArray, List.set_cons_zero, List.set_cons_succ]
          refine anyH_take 5 35 (.pointer (some ⟨k3, 0, none⟩)) rfl rfl (by kernel_rfl) (by kernel_rfl) (by kernel_rfl) (fun _ _ _ h => h) (Or.inl ⟨by rfl, by intro w hSw; go_simp⟩) (⟨KR _ (M0.back M).below 0 _ rfl, row_cell (M.get (.head _)) 0 _ rfl⟩) ?_
          try simp only [Act.put, List.setIfInBounds_toArray, List.set_cons_zero, List.set_cons_succ]
          refine anyH_take 6 36 (.string nm') rfl rfl (by kernel_rfl) (by kernel_rfl) (by kernel_rfl) (fun _ _ _ h => h) (Or.inl ⟨by rfl, by intro w hSw; have s2 := hSw.2; go_simp⟩) (⟨KR _ (M0.back M).below 0 _ rfl, row_cell (M.get (.head _)) 0 _ rfl⟩) ?_
          try simp only [Act.put, List.setIfInBounds_toArray, List.set_cons_zero, List.set_cons_succ]
          refine anyH_take 7 37 (.bool true) rfl rfl (by kernel_rfl) (by kernel_rfl) (by kernel_rfl) (fun _ _ _ h => h) (Or.inl ⟨by rfl, by intro w hSw; go_simp⟩) (⟨KR _ (M0.back M).below 0 _ rfl, row_cell (M.get (.head _)) 0 _ rfl⟩) ?_
          try simp only [Act.put, List.setIfInBounds_toArray, List.set_cons_zero, List.set_cons_succ]
          refine wpAnyH_done (by kernel_rfl) ?_ _
          go_wp2_with (first | ((with_reducible show wpList _ _ _ (Oper.mk _ (Op.load 47 (Operand.tmp 41)) _ _ _ _ :: _) _ _); refine wpList_load23w (by rfl) _ rfl b (off + i * 6) nm ep mr al kd sc rfl (KR _ (M0.back M).below) ?_) | ((with_reducible show wpList _ _ _ (Oper.mk _ (Op.buildSlice 44 1 #[(0, Operand.tmp 42)]) _ _ _ _ :: _) _ _); refine wpList_mk1 M rfl _ rfl nm ep mr al kd sc rfl ?_; clear M; intro q W M) | ((with_reducible show wpList _ _ _ (Oper.mk _ (Op.call { callee := Callee.builtin Builtin.append, args := _, argTypes := #[44, 44] }) _ _ _ _ :: _) _ _); refine wpList_appM M O rfl _ _ rfl rfl rfl (by have := HIK.out; omega) ?_; intro g cp W1 M1 O1 N1; replace M0 := M0.back M1; clear M O; have O := O1; have M := M0.own O1 N1; clear M1 N1 O1))
          go_roundg (gk - 1)
          case measure => have := HI.out; omega
          case rel =>
            refine ⟨i + 1, _, ds ++ [⟨nm, ep, mr, al, kd, sc⟩], true, rfl, rfl, by first | rfl | go_num, by have := HI.out; omega, M0.back M, ?_, HP, M.ne⟩
            rw [csC_snoc, List.length_append]; exact M.owns O
        · have hltX : ltN nm nm' = false := h2
          have hneX : nm = nm' := h1
          have HP : Hid (ptT l ⟨nm', ep', mr', al', kd', sc'⟩ (i + 1) = (ds, true)) := by show _ = _; rw [HT.out, HQ.out]; simp only [ptS]; simp [hltX, hneX, lt_irr]
          have g1 : Op.bytesLess nm.toList nm'.toList = false := hltX
          have g3 : (nm.toList == nm'.toList) = true := nm_beq.2 hneX
          clear h1 h2 h3 hltX hneX HT HQ
          go_wp2_with (fail)
          refine wp_region_any (by kernel_rfl) ?_
          change wpAny _ _ _ _ _ _ _ (World.drew _)
          replace M := M.drew
          generalize World.drew _ = WD at M ⊢
          refine wpAny_narrow (fun W' => W'.cell? ⟨b, off + i * 6, none⟩ = some (.string nm) ∧ W'.cell? ⟨k3, 0, none⟩ = some (.string nm')) _ _ _ _ ?_
          refine anyH_take 0 14 (.bool true) rfl rfl (by kernel_rfl) (by kernel_rfl) (by kernel_rfl) (fun _ _ _ h => h) (Or.inl ⟨by rfl, by intro w hSw; go_simp⟩) (⟨KR _ (M0.back M).below 0 _ rfl, row_cell (M.get (.head _)) 0 _ rfl⟩) ?_
          try simp only [Act.put, List.setIfInBounds_toArray, List.set_cons_zero, List.set_cons_succ]
          refine anyH_take 1 15 (.bool false) rfl rfl (by kernel_rfl) (by kernel_rfl) (by kernel_rfl) (fun _ _ _ h => h) (Or.inl ⟨by rfl, by intro w hSw; go_simp⟩) (⟨KR _ (M0.back M).below 0 _ rfl, row_cell (M.get (.head _)) 0 _ rfl⟩) ?_
          try simp only [Act.put, List.setIfInBounds_toArray, List.set_cons_zero, List.set_cons_succ]
          refine anyH_take 2 16 (.bool false) rfl rfl (by kernel_rfl) (by kernel_rfl) (by kernel_rfl) (fun _ _ _ h => h) (Or.inl ⟨by rfl, by intro w hSw; go_simp⟩) (⟨KR _ (M0.back M).below 0 _ rfl, row_cell (M.get (.head _)) 0 _ rfl⟩) ?_
          try simp only [Act.put, List.setIfInBounds_toArray, List.set_cons_zero, List.set_cons_succ]
          refine anyH_take 3 17 (undef) rfl rfl (by kernel_rfl) (by kernel_rfl) (by kernel_rfl) (fun _ _ _ h => h) (Or.inr ⟨by rfl, rfl⟩) (⟨KR _ (M0.back M).below 0 _ rfl, row_cell (M.get (.head _)) 0 _ rfl⟩) ?_
          try simp only [Act.put, List.setIfInBounds_toArray, List.set_cons_zero, List.set_cons_succ]
          refine anyH_take 4 18 (undef) rfl rfl (by kernel_rfl) (by kernel_rfl) (by kernel_rfl) (fun _ _ _ h => h) (Or.inr ⟨by rfl, rfl⟩) (⟨KR _ (M0.back M).below 0 _ rfl, row_cell (M.get (.head _)) 0 _ rfl⟩) ?_
          try simp only [Act.put, List.setIfInBounds_toArray, List.set_cons_zero, List.set_cons_succ]
          refine anyH_take 5 19 (undef) rfl rfl (by kernel_rfl) (by kernel_rfl) (by kernel_rfl) (fun _ _ _ h => h) (Or.inr ⟨by rfl, rfl⟩) (⟨KR _ (M0.back M).below 0 _ rfl, row_cell (M.get (.head _)) 0 _ rfl⟩) ?_
          try simp only [Act.put, List.setIfInBounds_toArray, List.set_cons_zero, List.set_cons_succ]
          refine anyH_take 6 20 (undef) rfl rfl (by kernel_rfl) (by kernel_rfl) (by kernel_rfl) (fun _ _ _ h => h) (Or.inr ⟨by rfl, rfl⟩) (⟨KR _ (M0.back M).below 0 _ rfl, row_cell (M.get (.head _)) 0 _ rfl⟩) ?_
          try simp only [Act.put, List.setIfInBounds_toArray, List.set_cons_zero, List.set_cons_succ]
          refine anyH_take 7 21 (undef) rfl rfl (by kernel_rfl) (by kernel_rfl) (by kernel_rfl) (fun _ _ _ h => h) (Or.inr ⟨by rfl, rfl⟩) (⟨KR _ (M0.back M).below 0 _ rfl, row_cell (M.get (.head _)) 0 _ rfl⟩) ?_
          try simp only [Act.put, List.setIfInBounds_toArray, List.set_cons_zero, List.set_cons_succ]
          refine anyH_take 8 22 (undef) rfl rfl (by kernel_rfl) (by kernel_rfl) (by kernel_rfl) (fun _ _ _ h => h) (Or.inr ⟨by rfl, rfl⟩) (⟨KR _ (M0.back M).below 0 _ rfl, row_cell (M.get (.head _)) 0 _ rfl⟩) ?_
          try simp only [Act.put, List.setIfInBounds_toArray, List.set_cons_zero, List.set_cons_succ]
          refine anyH_take 9 23 (undef) rfl rfl (by kernel_rfl) (by kernel_rfl) (by kernel_rfl) (fun _ _ _ h => h) (Or.inr ⟨by rfl, rfl⟩) (⟨KR _ (M0.back M).below 0 _ rfl, row_cell (M.get (.head _)) 0 _ rfl⟩) ?_
          try simp only [Act.put, List.setIfInBounds_toArray, List.set_cons_zero, List.set_cons_succ]
          refine anyH_take 10 24 (undef) rfl rfl (by kernel_rfl) (by kernel_rfl) (by kernel_rfl) (fun _ _ _ h => h) (Or.inr ⟨by rfl, rfl⟩) (⟨KR _ (M0.back M).below 0 _ rfl, row_cell (M.get (.head _)) 0 _ rfl⟩) ?_
          try simp only [Act.put, List.setIfInBounds_toArray, List.set_cons_zero, List.set_cons_succ]
          refine anyH_take 11 25 (.bool false) rfl rfl (by kernel_rfl) (by kernel_rfl) (by kernel_rfl) (fun _ _ _ h => h) (Or.inl ⟨by rfl, by intro w hSw; go_simp⟩) (⟨KR _ (M0.back M).below 0 _ rfl, row_cell (M.get (.head _)) 0 _ rfl⟩) ?_
          try simp only [Act.put, List.setIfInBounds_toArray, List.set_cons_zero, List.set_cons_succ]
          refine wpAnyH_done (by kernel_rfl) ?_ _
          go_wp2_with (fail)
          refine wp_region_any (by kernel_rfl) ?_
          change wpAny _ _ _ _ _ _ _ (World.drew _)
          replace M := M.drew
          generalize World.drew _ = WD at M ⊢
          refine wpAny_narrow (fun W' => W'.cell? ⟨b, off + i * 6, none⟩ = some (.string nm) ∧ W'.cell? ⟨k3, 0, none⟩ = some (.string nm')) _ _ _ _ ?_
          refine anyH_take 0 30 (.slice (some ⟨b, off, none⟩) n cap) rfl rfl (by kernel_rfl) (by kernel_rfl) (by kernel_rfl) (fun _ _ _ h => h) (Or.inl ⟨by rfl, by intro w hSw; go_simp⟩) (⟨KR _ (M0.back M).below 0 _ rfl, row_cell (M.get (.head _)) 0 _ rfl⟩) ?_
          try simp only [Act.put, List.setIfInBounds_toArray, List.set_cons_zero, List.set_cons_succ]
          refine anyH_take 1 31 (.int .i64 (i : Int)) rfl rfl (by kernel_rfl) (by kernel_rfl) (by kernel_rfl) (fun _ _ _ h => h) (Or.inl ⟨by rfl, by intro w hSw; go_simp⟩) (⟨KR _ (M0.back M).below 0 _ rfl, row_cell (M.get (.head _)) 0 _ rfl⟩) ?_
          try simp only [Act.put, List.setIfInBounds_toArray, List.set_cons_zero, List.set_cons_succ]
          refine anyH_take 2 32 (.pointer (some ⟨b, off + i * 6, none⟩)) rfl rfl (by kernel_rfl) (by kernel_rfl) (by kernel_rfl) (fun _ _ _ h => h) (Or.inl ⟨by rfl, by intro w hSw; go_simp⟩) (⟨KR _ (M0.back M).below 0 _ rfl, row_cell (M.get (.head _)) 0 _ rfl⟩) ?_
          try simp only [Act.put, List.setIfInBounds_toArray, List.set_cons_zero, List.set_cons_succ]
          refine anyH_take 3 33 (.pointer (some ⟨b, off + i * 6, none⟩)) rfl rfl (by kernel_rfl) (by kernel_rfl) (by kernel_rfl) (fun _ _ _ h => h) (Or.inl ⟨by rfl, by intro w hSw; go_simp⟩) (⟨KR _ (M0.back M).below 0 _ rfl, row_cell (M.get (.head _)) 0 _ rfl⟩) ?_
          try simp only [Act.put, List.setIfInBounds_toArray, List.set_cons_zero, List.set_cons_succ]
          refine anyH_take 4 34 (.string nm) rfl rfl (by kernel_rfl) (by kernel_rfl) (by kernel_rfl) (fun _ _ _ h => h) (Or.inl ⟨by rfl, by intro w hSw; have s1 := hSw.1; go_simp⟩) (⟨KR _ (M0.back M).below 0 _ rfl, row_cell (M.get (.head _)) 0 _ rfl⟩) ?_
          try simp only [Act.put, List.setIfInBounds_toArray, List.set_cons_zero, List.set_cons_succ]
          refine anyH_take 5 35 (.pointer (some ⟨k3, 0, none⟩)) rfl rfl (by kernel_rfl) (by kernel_rfl) (by kernel_rfl) (fun _ _ _ h => h) (Or.inl ⟨by rfl, by intro w hSw; go_simp⟩) (⟨KR _ (M0.back M).below 0 _ rfl, row_cell (M.get (.head _)) 0 _ rfl⟩) ?_
          try simp only [Act.put, List.setIfInBounds_toArray, List.set_cons_zero, List.set_cons_succ]
          refine anyH_take 6 36 (.string nm') rfl rfl (by kernel_rfl) (by kernel_rfl) (by kernel_rfl) (fun _ _ _ h => h) (Or.inl ⟨by rfl, by intro w hSw; have s2 := hSw.2; go_simp⟩) (⟨KR _ (M0.back M).below 0 _ rfl, row_cell (M.get (.head _)) 0 _ rfl⟩) ?_
          try simp only [Act.put, List.setIfInBounds_toArray, List.set_cons_zero, List.set_cons_succ]
          refine anyH_take 7 37 (.bool false) rfl rfl (by kernel_rfl) (by kernel_rfl) (by kernel_rfl) (fun _ _ _ h => h) (Or.inl ⟨by rfl, by intro w hSw; go_simp⟩) (⟨KR _ (M0.back M).below 0 _ rfl, row_cell (M.get (.head _)) 0 _ rfl⟩) ?_
          try simp only [Act.put, List.setIfInBounds_toArray, List.set_cons_zero, List.set_cons_succ]
          refine wpAnyH_done (by kernel_rfl) ?_ _
          go_wp2
          go_roundg (gk - 1)
          case measure => have := HI.out; omega
          case rel =>
            refine ⟨i + 1, _, ds, true, rfl, rfl, by first | rfl | go_num, by have := HI.out; omega, M0.back M, ?_, HP, M.ne⟩
            exact M.owns O
      | false =>
        rcases three nm nm' with ⟨h1, h2, h3⟩ | ⟨h1, h2, h3⟩ | ⟨h1, h2, h3⟩
        · have hltX : ltN nm nm' = true := h1
          have hneX : nm ≠ nm' := h3
          have HP : Hid (ptT l ⟨nm', ep', mr', al', kd', sc'⟩ (i + 1) = (ds ++ [⟨nm, ep, mr, al, kd, sc⟩], false)) := by show _ = _; rw [HT.out, HQ.out]; simp only [ptS]; simp [hltX, hneX, lt_irr]
          have g1 : Op.bytesLess nm.toList nm'.toList = true := hltX
          have g3 : (nm.toList == nm'.toList) = false := nm_bne hneX
          clear h1 h2 h3 hltX hneX HT HQ
          go_wp2_with (fail)
          refine wp_region_any (by kernel_rfl) ?_
          change wpAny _ _ _ _ _ _ _ (World.drew _)
          replace M := M.drew
          generalize World.drew _ = WD at M ⊢
          refine wpAny_narrow (fun W' => W'.cell? ⟨b, off + i * 6, none⟩ = some (.string nm) ∧ W'.cell? ⟨k3, 0, none⟩ = some (.string nm')) _ _ _ _ ?_
          refine anyH_take 0 14 (.bool false) rfl rfl (by kernel_rfl) (by kernel_rfl) (by kernel_rfl) (fun _ _ _ h => h) (Or.inl ⟨by rfl, by intro w hSw; go_simp⟩) (⟨KR _ (M0.back M).below 0 _ rfl, row_cell (M.get (.head _)) 0 _ rfl⟩) ?_
          try simp only [Act.put, List.setIfInBounds_toArray, List.set_cons_zero, List.set_cons_succ]
          refine anyH_take 1 15 (.bool true) rfl rfl (by kernel_rfl) (by kernel_rfl) (by kernel_rfl) (fun _ _ _ h => h) (Or.inl ⟨by rfl, by intro w hSw; go_simp⟩) (⟨KR _ (M0.back M).below 0 _ rfl, row_cell (M.get (.head _)) 0 _ rfl⟩) ?_
          try simp only [Act.put, List.setIfInBounds_toArray, List.set_cons_zero, List.set_cons_succ]
          refine anyH_take 2 16 (.bool true) rfl rfl (by kernel_rfl) (by kernel_rfl) (by kernel_rfl) (fun _ _ _ h => h) (Or.inl ⟨by rfl, by intro w hSw; go_simp⟩) (⟨KR _ (M0.back M).below 0 _ rfl, row_cell (M.get (.head _)) 0 _ rfl⟩) ?_
          try simp only [Act.put, List.setIfInBounds_toArray, List.set_cons_zero, List.set_cons_succ]
          refine anyH_take 3 17 (.slice (some ⟨b, off, none⟩) n cap) rfl rfl (by kernel_rfl) (by kernel_rfl) (by kernel_rfl) (fun _ _ _ h => h) (Or.inl ⟨by rfl, by intro w hSw; go_simp⟩) (⟨KR _ (M0.back M).below 0 _ rfl, row_cell (M.get (.head _)) 0 _ rfl⟩) ?_
          try simp only [Act.put, List.setIfInBounds_toArray, List.set_cons_zero, List.set_cons_succ]
          refine anyH_take 4 18 (.int .i64 (i : Int)) rfl rfl (by kernel_rfl) (by kernel_rfl) (by kernel_rfl) (fun _ _ _ h => h) (Or.inl ⟨by rfl, by intro w hSw; go_simp⟩) (⟨KR _ (M0.back M).below 0 _ rfl, row_cell (M.get (.head _)) 0 _ rfl⟩) ?_
          try simp only [Act.put, List.setIfInBounds_toArray, List.set_cons_zero, List.set_cons_succ]
          refine anyH_take 5 19 (.pointer (some ⟨b, off + i * 6, none⟩)) rfl rfl (by kernel_rfl) (by kernel_rfl) (by kernel_rfl) (fun _ _ _ h => h) (Or.inl ⟨by rfl, by intro w hSw; go_simp⟩) (⟨KR _ (M0.back M).below 0 _ rfl, row_cell (M.get (.head _)) 0 _ rfl⟩) ?_
          try simp only [Act.put, List.setIfInBounds_toArray, List.set_cons_zero, List.set_cons_succ]
          refine anyH_take 6 20 (.pointer (some ⟨b, off + i * 6, none⟩)) rfl rfl (by kernel_rfl) (by kernel_rfl) (by kernel_rfl) (fun _ _ _ h => h) (Or.inl ⟨by rfl, by intro w hSw; go_simp⟩) (⟨KR _ (M0.back M).below 0 _ rfl, row_cell (M.get (.head _)) 0 _ rfl⟩) ?_
          try simp only [Act.put, List.setIfInBounds_toArray, List.set_cons_zero, List.set_cons_succ]
          refine anyH_take 7 21 (.string nm) rfl rfl (by kernel_rfl) (by kernel_rfl) (by kernel_rfl) (fun _ _ _ h => h) (Or.inl ⟨by rfl, by intro w hSw; have s1 := hSw.1; go_simp⟩) (⟨KR _ (M0.back M).below 0 _ rfl, row_cell (M.get (.head _)) 0 _ rfl⟩) ?_
          try simp only [Act.put, List.setIfInBounds_toArray, List.set_cons_zero, List.set_cons_succ]
          refine anyH_take 8 22 (.pointer (some ⟨k3, 0, none⟩)) rfl rfl (by kernel_rfl) (by kernel_rfl) (by kernel_rfl) (fun _ _ _ h => h) (Or.inl ⟨by rfl, by intro w hSw; go_simp⟩) (⟨KR _ (M0.back M).below 0 _ rfl, row_cell (M.get (.head _)) 0 _ rfl⟩) ?_
          try simp only [Act.put, List.setIfInBounds_toArray, List.set_cons_zero, List.set_cons_succ]
          refine anyH_take 9 23 (.string nm') rfl rfl (by kernel_rfl) (by kernel_rfl) (by kernel_rfl) (fun _ _ _ h => h) (Or.inl ⟨by rfl, by intro w hSw; have s2 := hSw.2; go_simp⟩) (⟨KR _ (M0.back M).below 0 _ rfl, row_cell (M.get (.head _)) 0 _ rfl⟩) ?_
          try simp only [Act.put, List.setIfInBounds_toArray, List.set_cons_zero, List.set_cons_succ]
          refine anyH_take 10 24 (.bool false) rfl rfl (by kernel_rfl) (by kernel_rfl) (by kernel_rfl) (fun _ _ _ h => h) (Or.inl ⟨by rfl, by intro w hSw; go_simp⟩) (⟨KR _ (M0.back M).below 0 _ rfl, row_cell (M.get (.head _)) 0 _ rfl⟩) ?_
          try simp only [Act.put, List.setIfInBounds_toArray, List.set_cons_zero, List.set_cons_succ]
          refine anyH_take 11 25 (.bool false) rfl rfl (by kernel_rfl) (by kernel_rfl) (by kernel_rfl) (fun _ _ _ h => h) (Or.inl ⟨by rfl, by intro w hSw; go_simp⟩) (⟨KR _ (M0.back M).below 0 _ rfl, row_cell (M.get (.head _)) 0 _ rfl⟩) ?_
          try simp only [Act.put, List.setIfInBounds_toArray, List.set_cons_zero, List.set_cons_succ]
          refine wpAnyH_done (by kernel_rfl) ?_ _
          go_wp2_with (fail)
          refine wp_region_any (by kernel_rfl) ?_
          change wpAny _ _ _ _ _ _ _ (World.drew _)
          replace M := M.drew
          generalize World.drew _ = WD at M ⊢
          refine wpAny_narrow (fun W' => W'.cell? ⟨b, off + i * 6, none⟩ = some (.string nm) ∧ W'.cell? ⟨k3, 0, none⟩ = some (.string nm')) _ _ _ _ ?_
          refine anyH_take 0 30 (.slice (some ⟨b, off, none⟩) n cap) rfl rfl (by kernel_rfl) (by kernel_rfl) (by kernel_rfl) (fun _ _ _ h => h) (Or.inl ⟨by rfl, by intro w hSw; go_simp⟩) (⟨KR _ (M0.back M).below 0 _ rfl, row_cell (M.get (.head _)) 0 _ rfl⟩) ?_
          try simp only [Act.put, List.setIfInBounds_toArray, List.set_cons_zero, List.set_cons_succ]
          refine anyH_take 1 31 (.int .i64 (i : Int)) rfl rfl (by kernel_rfl) (by kernel_rfl) (by kernel_rfl) (fun _ _ _ h => h) (Or.inl ⟨by rfl, by intro w hSw; go_simp⟩) (⟨KR _ (M0.back M).below 0 _ rfl, row_cell (M.get (.head _)) 0 _ rfl⟩) ?_
          try simp only [Act.put, List.setIfInBounds_toArray, List.set_cons_zero, List.set_cons_succ]
          refine anyH_take 2 32 (.pointer (some ⟨b, off + i * 6, none⟩)) rfl rfl (by kernel_rfl) (by kernel_rfl) (by kernel_rfl) (fun _ _ _ h => h) (Or.inl ⟨by rfl, by intro w hSw; go_simp⟩) (⟨KR _ (M0.back M).below 0 _ rfl, row_cell (M.get (.head _)) 0 _ rfl⟩) ?_
          try simp only [Act.put, List.setIfInBounds_toArray, List.set_cons_zero, List.set_cons_succ]
          refine anyH_take 3 33 (.pointer (some ⟨b, off + i * 6, none⟩)) rfl rfl (by kernel_rfl) (by kernel_rfl) (by kernel_rfl) (fun _ _ _ h => h) (Or.inl ⟨by rfl, by intro w hSw; go_simp⟩) (⟨KR _ (M0.back M).below 0 _ rfl, row_cell (M.get (.head _)) 0 _ rfl⟩) ?_
          try simp only [Act.put, List.setIfInBounds_toArray, List.set_cons_zero, List.set_cons_succ]
          refine anyH_take 4 34 (.string nm) rfl rfl (by kernel_rfl) (by kernel_rfl) (by kernel_rfl) (fun _ _ _ h => h) (Or.inl ⟨by rfl, by intro w hSw; have s1 := hSw.1; go_simp⟩) (⟨KR _ (M0.back M).below 0 _ rfl, row_cell (M.get (.head _)) 0 _ rfl⟩) ?_
          try simp only [Act.put, List.setIfInBounds_toArray, List.set_cons_zero, List.set_cons_succ]
          refine anyH_take 5 35 (.pointer (some ⟨k3, 0, none⟩)) rfl rfl (by kernel_rfl) (by kernel_rfl) (by kernel_rfl) (fun _ _ _ h => h) (Or.inl ⟨by rfl, by intro w hSw; go_simp⟩) (⟨KR _ (M0.back M).below 0 _ rfl, row_cell (M.get (.head _)) 0 _ rfl⟩) ?_
          try simp only [Act.put, List.setIfInBounds_toArray, List.set_cons_zero, List.set_cons_succ]
          refine anyH_take 6 36 (.string nm') rfl rfl (by kernel_rfl) (by kernel_rfl) (by kernel_rfl) (fun _ _ _ h => h) (Or.inl ⟨by rfl, by intro w hSw; have s2 := hSw.2; go_simp⟩) (⟨KR _ (M0.back M).below 0 _ rfl, row_cell (M.get (.head _)) 0 _ rfl⟩) ?_
          try simp only [Act.put, List.setIfInBounds_toArray, List.set_cons_zero, List.set_cons_succ]
          refine anyH_take 7 37 (.bool true) rfl rfl (by kernel_rfl) (by kernel_rfl) (by kernel_rfl) (fun _ _ _ h => h) (Or.inl ⟨by rfl, by intro w hSw; go_simp⟩) (⟨KR _ (M0.back M).below 0 _ rfl, row_cell (M.get (.head _)) 0 _ rfl⟩) ?_
          try simp only [Act.put, List.setIfInBounds_toArray, List.set_cons_zero, List.set_cons_succ]
          refine wpAnyH_done (by kernel_rfl) ?_ _
          go_wp2_with (first | ((with_reducible show wpList _ _ _ (Oper.mk _ (Op.load 47 (Operand.tmp 41)) _ _ _ _ :: _) _ _); refine wpList_load23w (by rfl) _ rfl b (off + i * 6) nm ep mr al kd sc rfl (KR _ (M0.back M).below) ?_) | ((with_reducible show wpList _ _ _ (Oper.mk _ (Op.buildSlice 44 1 #[(0, Operand.tmp 42)]) _ _ _ _ :: _) _ _); refine wpList_mk1 M rfl _ rfl nm ep mr al kd sc rfl ?_; clear M; intro q W M) | ((with_reducible show wpList _ _ _ (Oper.mk _ (Op.call { callee := Callee.builtin Builtin.append, args := _, argTypes := #[44, 44] }) _ _ _ _ :: _) _ _); refine wpList_appM M O rfl _ _ rfl rfl rfl (by have := HIK.out; omega) ?_; intro g cp W1 M1 O1 N1; replace M0 := M0.back M1; clear M O; have O := O1; have M := M0.own O1 N1; clear M1 N1 O1))
          go_roundg (gk - 1)
          case measure => have := HI.out; omega
          case rel =>
            refine ⟨i + 1, _, ds ++ [⟨nm, ep, mr, al, kd, sc⟩], false, rfl, rfl, by first | rfl | go_num, by have := HI.out; omega, M0.back M, ?_, HP, M.ne⟩
            rw [csC_snoc, List.length_append]; exact M.owns O
        · have hltX : ltN nm nm' = false := h2
          have hneX : nm ≠ nm' := h3
          have HP : Hid (ptT l ⟨nm', ep', mr', al', kd', sc'⟩ (i + 1) = (ds ++ [⟨nm', ep', mr', al', kd', sc'⟩] ++ [⟨nm, ep, mr, al, kd, sc⟩], true)) := by show _ = _; rw [HT.out, HQ.out]; simp only [ptS]; simp [hltX, hneX, lt_irr]
          have g1 : Op.bytesLess nm.toList nm'.toList = false := hltX
          have g3 : (nm.toList == nm'.toList) = false := nm_bne hneX
          clear h1 h2 h3 hltX hneX HT HQ
          go_wp2_with (fail)
          refine wp_region_any (by kernel_rfl) ?_
          change wpAny _ _ _ _ _ _ _ (World.drew _)
          replace M := M.drew
          generalize World.drew _ = WD at M ⊢
          refine wpAny_narrow (fun W' => W'.cell? ⟨b, off + i * 6, none⟩ = some (.string nm) ∧ W'.cell? ⟨k3, 0, none⟩ = some (.string nm')) _ _ _ _ ?_
          refine anyH_take 0 14 (.bool false) rfl rfl (by kernel_rfl) (by kernel_rfl) (by kernel_rfl) (fun _ _ _ h => h) (Or.inl ⟨by rfl, by intro w hSw; go_simp⟩) (⟨KR _ (M0.back M).below 0 _ rfl, row_cell (M.get (.head _)) 0 _ rfl⟩) ?_
          try simp only [Act.put, List.setIfInBounds_toArray, List.set_cons_zero, List.set_cons_succ]
          refine anyH_take 1 15 (.bool true) rfl rfl (by kernel_rfl) (by kernel_rfl) (by kernel_rfl) (fun _ _ _ h => h) (Or.inl ⟨by rfl, by intro w hSw; go_simp⟩) (⟨KR _ (M0.back M).below 0 _ rfl, row_cell (M.get (.head _)) 0 _ rfl⟩) ?_
          try simp only [Act.put, List.setIfInBounds_toArray, List.set_cons_zero, List.set_cons_succ]
          refine anyH_take 2 16 (.bool true) rfl rfl (by kernel_rfl) (by kernel_rfl) (by kernel_rfl) (fun _ _ _ h => h) (Or.inl ⟨by rfl, by intro w hSw; go_simp⟩) (⟨KR _ (M0.back M).below 0 _ rfl, row_cell (M.get (.head _)) 0 _ rfl⟩) ?_
          try simp only [Act.put, List.setIfInBounds_toArray, List.set_cons_zero, List.set_cons_succ]
          refine anyH_take 3 17 (.slice (some ⟨b, off, none⟩) n cap) rfl rfl (by kernel_rfl) (by kernel_rfl) (by kernel_rfl) (fun _ _ _ h => h) (Or.inl ⟨by rfl, by intro w hSw; go_simp⟩) (⟨KR _ (M0.back M).below 0 _ rfl, row_cell (M.get (.head _)) 0 _ rfl⟩) ?_
          try simp only [Act.put, List.setIfInBounds_toArray, List.set_cons_zero, List.set_cons_succ]
          refine anyH_take 4 18 (.int .i64 (i : Int)) rfl rfl (by kernel_rfl) (by kernel_rfl) (by kernel_rfl) (fun _ _ _ h => h) (Or.inl ⟨by rfl, by intro w hSw; go_simp⟩) (⟨KR _ (M0.back M).below 0 _ rfl, row_cell (M.get (.head _)) 0 _ rfl⟩) ?_
          try simp only [Act.put, List.setIfInBounds_toArray, List.set_cons_zero, List.set_cons_succ]
          refine anyH_take 5 19 (.pointer (some ⟨b, off + i * 6, none⟩)) rfl rfl (by kernel_rfl) (by kernel_rfl) (by kernel_rfl) (fun _ _ _ h => h) (Or.inl ⟨by rfl, by intro w hSw; go_simp⟩) (⟨KR _ (M0.back M).below 0 _ rfl, row_cell (M.get (.head _)) 0 _ rfl⟩) ?_
          try simp only [Act.put, List.setIfInBounds_toArray, List.set_cons_zero, List.set_cons_succ]
          refine anyH_take 6 20 (.pointer (some ⟨b, off + i * 6, none⟩)) rfl rfl (by kernel_rfl) (by kernel_rfl) (by kernel_rfl) (fun _ _ _ h => h) (Or.inl ⟨by rfl, by intro w hSw; go_simp⟩) (⟨KR _ (M0.back M).below 0 _ rfl, row_cell (M.get (.head _)) 0 _ rfl⟩) ?_
          try simp only [Act.put, List.setIfInBounds_toArray, List.set_cons_zero, List.set_cons_succ]
          refine anyH_take 7 21 (.string nm) rfl rfl (by kernel_rfl) (by kernel_rfl) (by kernel_rfl) (fun _ _ _ h => h) (Or.inl ⟨by rfl, by intro w hSw; have s1 := hSw.1; go_simp⟩) (⟨KR _ (M0.back M).below 0 _ rfl, row_cell (M.get (.head _)) 0 _ rfl⟩) ?_
          try simp only [Act.put, List.setIfInBounds_toArray, List.set_cons_zero, List.set_cons_succ]
          refine anyH_take 8 22 (.pointer (some ⟨k3, 0, none⟩)) rfl rfl (by kernel_rfl) (by kernel_rfl) (by kernel_rfl) (fun _ _ _ h => h) (Or.inl ⟨by rfl, by intro w hSw; go_simp⟩) (⟨KR _ (M0.back M).below 0 _ rfl, row_cell (M.get (.head _)) 0 _ rfl⟩) ?_
          try simp only [Act.put, List.setIfInBounds_toArray, List.set_cons_zero, List.set_cons_succ]
          refine anyH_take 9 23 (.string nm') rfl rfl (by kernel_rfl) (by kernel_rfl) (by kernel_rfl) (fun _ _ _ h => h) (Or.inl ⟨by rfl, by intro w hSw; have s2 := hSw.2; go_simp⟩) (⟨KR _ (M0.back M).below 0 _ rfl, row_cell (M.get (.head _)) 0 _ rfl⟩) ?_
          try simp only [Act.put, List.setIfInBounds_toArray, List.set_cons_zero, List.set_cons_succ]
          refine anyH_take 10 24 (.bool true) rfl rfl (by kernel_rfl) (by kernel_rfl) (by kernel_rfl) (fun _ _ _ h => h) (Or.inl ⟨by rfl, by intro w hSw; go_simp⟩) (⟨KR _ (M0.back M).below 0 _ rfl, row_cell (M.get (.head _)) 0 _ rfl⟩) ?_
          try simp only [Act.put, List.setIfInBounds_toArray, List.set_cons_zero, List.set_cons_succ]
          refine anyH_take 11 25 (.bool true) rfl rfl (by kernel_rfl) (by kernel_rfl) (by kernel_rfl) (fun _ _ _ h => h) (Or.inl ⟨by rfl, by intro w hSw; go_simp⟩) (⟨KR _ (M0.back M).below 0 _ rfl, row_cell (M.get (.head _)) 0 _ rfl⟩) ?_
          try simp only [Act.put, List.setIfInBounds_toArray, List.set_cons_zero, List.set_cons_succ]
          refine wpAnyH_done (by kernel_rfl) ?_ _
          go_wp2_with (first | ((with_reducible show wpList _ _ _ (Oper.mk _ (Op.load 47 (Operand.tmp 3)) _ _ _ _ :: _) _ _); refine wpList_load M (by rfl) _ rfl rt23 rfl (.head _) (by rfl) ?_) | ((with_reducible show wpList _ _ _ (Oper.mk _ (Op.buildSlice 44 1 #[(0, Operand.tmp 27)]) _ _ _ _ :: _) _ _); refine wpList_mk1 M rfl _ rfl nm' ep' mr' al' kd' sc' rfl ?_; clear M; intro q W M) | ((with_reducible show wpList _ _ _ (Oper.mk _ (Op.call { callee := Callee.builtin Builtin.append, args := _, argTypes := #[44, 44] }) _ _ _ _ :: _) _ _); refine wpList_appM M O rfl _ _ rfl rfl rfl (by have := HIK.out; omega) ?_; intro g cp W1 M1 O1 N1; replace M0 := M0.back M1; clear M O; have O := O1; have M := M0.own O1 N1; clear M1 N1 O1))
          refine wp_region_any (by kernel_rfl) ?_
          change wpAny _ _ _ _ _ _ _ (World.drew _)
          replace M := M.drew
          generalize World.drew _ = WD at M ⊢
          refine wpAny_narrow (fun W' => W'.cell? ⟨b, off + i * 6, none⟩ = some (.string nm) ∧ W'.cell? ⟨k3, 0, none⟩ = some (.string nm')) _ _ _ _ ?_
          refine anyH_take 0 30 (.slice (some ⟨b, off, none⟩) n cap) rfl rfl (by kernel_rfl) (by kernel_rfl) (by kernel_rfl) (fun _ _ _ h => h) (Or.inl ⟨by rfl, by intro w hSw; go_simp⟩) (⟨KR _ (M0.back M).below 0 _ rfl, row_cell (M.get (.head _)) 0 _ rfl⟩) ?_
          try simp only [Act.put, List.setIfInBounds_toArray, List.set_cons_zero, List.set_cons_succ]
          refine anyH_take 1 31 (.int .i64 (i : Int)) rfl rfl (by kernel_rfl) (by kernel_rfl) (by kernel_rfl) (fun _ _ _ h => h) (Or.inl ⟨by rfl, by intro w hSw; go_simp⟩) (⟨KR _ (M0.back M).below 0 _ rfl, row_cell (M.get (.head _)) 0 _ rfl⟩) ?_
          try simp only [Act.put, List.setIfInBounds_toArray, List.set_cons_zero, List.set_cons_succ]
          refine anyH_take 2 32 (.pointer (some ⟨b, off + i * 6, none⟩)) rfl rfl (by kernel_rfl) (by kernel_rfl) (by kernel_rfl) (fun _ _ _ h => h) (Or.inl ⟨by rfl, by intro w hSw; go_simp⟩) (⟨KR _ (M0.back M).below 0 _ rfl, row_cell (M.get (.head _)) 0 _ rfl⟩) ?_
          try simp only [Act.put, List.setIfInBounds_toArray, List.set_cons_zero, List.set_cons_succ]
          refine anyH_take 3 33 (.pointer (some ⟨b, off + i * 6, none⟩)) rfl rfl (by kernel_rfl) (by kernel_rfl) (by kernel_rfl) (fun _ _ _ h => h) (Or.inl ⟨by rfl, by intro w hSw; go_simp⟩) (⟨KR _ (M0.back M).below 0 _ rfl, row_cell (M.get (.head _)) 0 _ rfl⟩) ?_
          try simp only [Act.put, List.setIfInBounds_toArray, List.set_cons_zero, List.set_cons_succ]
          refine anyH_take 4 34 (.string nm) rfl rfl (by kernel_rfl) (by kernel_rfl) (by kernel_rfl) (fun _ _ _ h => h) (Or.inl ⟨by rfl, by intro w hSw; have s1 := hSw.1; go_simp⟩) (⟨KR _ (M0.back M).below 0 _ rfl, row_cell (M.get (.head _)) 0 _ rfl⟩) ?_
          try simp only [Act.put, List.setIfInBounds_toArray, List.set_cons_zero, List.set_cons_succ]
          refine anyH_take 5 35 (.pointer (some ⟨k3, 0, none⟩)) rfl rfl (by kernel_rfl) (by kernel_rfl) (by kernel_rfl) (fun _ _ _ h => h) (Or.inl ⟨by rfl, by intro w hSw; go_simp⟩) (⟨KR _ (M0.back M).below 0 _ rfl, row_cell (M.get (.head _)) 0 _ rfl⟩) ?_
          try simp only [Act.put, List.setIfInBounds_toArray, List.set_cons_zero, List.set_cons_succ]
          refine anyH_take 6 36 (.string nm') rfl rfl (by kernel_rfl) (by kernel_rfl) (by kernel_rfl) (fun _ _ _ h => h) (Or.inl ⟨by rfl, by intro w hSw; have s2 := hSw.2; go_simp⟩) (⟨KR _ (M0.back M).below 0 _ rfl, row_cell (M.get (.head _)) 0 _ rfl⟩) ?_
          try simp only [Act.put, List.setIfInBounds_toArray, List.set_cons_zero, List.set_cons_succ]
          refine anyH_take 7 37 (.bool true) rfl rfl (by kernel_rfl) (by kernel_rfl) (by kernel_rfl) (fun _ _ _ h => h) (Or.inl ⟨by rfl, by intro w hSw; go_simp⟩) (⟨KR _ (M0.back M).below 0 _ rfl, row_cell (M.get (.head _)) 0 _ rfl⟩) ?_
          try simp only [Act.put, List.setIfInBounds_toArray, List.set_cons_zero, List.set_cons_succ]
          refine wpAnyH_done (by kernel_rfl) ?_ _
          go_wp2_with (first | ((with_reducible show wpList _ _ _ (Oper.mk _ (Op.load 47 (Operand.tmp 41)) _ _ _ _ :: _) _ _); refine wpList_load23w (by rfl) _ rfl b (off + i * 6) nm ep mr al kd sc rfl (KR _ (M0.back M).below) ?_) | ((with_reducible show wpList _ _ _ (Oper.mk _ (Op.buildSlice 44 1 #[(0, Operand.tmp 42)]) _ _ _ _ :: _) _ _); refine wpList_mk1 M rfl _ rfl nm ep mr al kd sc rfl ?_; clear M; intro q W M) | ((with_reducible show wpList _ _ _ (Oper.mk _ (Op.call { callee := Callee.builtin Builtin.append, args := _, argTypes := #[44, 44] }) _ _ _ _ :: _) _ _); refine wpList_appM M O rfl _ _ rfl rfl rfl (by have := HIK.out; omega) ?_; intro g cp W1 M1 O1 N1; replace M0 := M0.back M1; clear M O; have O := O1; have M := M0.own O1 N1; clear M1 N1 O1))
          go_roundg (gk - 1)
          case measure => have := HI.out; omega
          case rel =>
            refine ⟨i + 1, _, ds ++ [⟨nm', ep', mr', al', kd', sc'⟩] ++ [⟨nm, ep, mr, al, kd, sc⟩], true, rfl, rfl, by first | rfl | go_num, by have := HI.out; omega, M0.back M, ?_, HP, M.ne⟩
            rw [csC_snoc, csC_snoc, List.length_append, List.length_append]; exact M.owns O
        · have hltX : ltN nm nm' = false := h2
          have hneX : nm = nm' := h1
          have HP : Hid (ptT l ⟨nm', ep', mr', al', kd', sc'⟩ (i + 1) = (ds ++ [⟨nm', ep', mr', al', kd', sc'⟩], true)) := by show _ = _; rw [HT.out, HQ.out]; simp only [ptS]; simp [hltX, hneX, lt_irr]
          have g1 : Op.bytesLess nm.toList nm'.toList = false := hltX
          have g3 : (nm.toList == nm'.toList) = true := nm_beq.2 hneX
          clear h1 h2 h3 hltX hneX HT HQ
          go_wp2_with (fail)
          refine wp_region_any (by kernel_rfl) ?_
          change wpAny _ _ _ _ _ _ _ (World.drew _)
          replace M := M.drew
          generalize World.drew _ = WD at M ⊢
          refine wpAny_narrow (fun W' => W'.cell? ⟨b, off + i * 6, none⟩ = some (.string nm) ∧ W'.cell? ⟨k3, 0, none⟩ = some (.string nm')) _ _ _ _ ?_
          refine anyH_take 0 14 (.bool false) rfl rfl (by kernel_rfl) (by kernel_rfl) (by kernel_rfl) (fun _ _ _ h => h) (Or.inl ⟨by rfl, by intro w hSw; go_simp⟩) (⟨KR _ (M0.back M).below 0 _ rfl, row_cell (M.get (.head _)) 0 _ rfl⟩) ?_
          try simp only [Act.put, List.setIfInBounds_toArray, List.set_cons_zero, List.set_cons_succ]
          refine anyH_take 1 15 (.bool true) rfl rfl (by kernel_rfl) (by kernel_rfl) (by kernel_rfl) (fun _ _ _ h => h) (Or.inl ⟨by rfl, by intro w hSw; go_simp⟩) (⟨KR _ (M0.back M).below 0 _ rfl, row_cell (M.get (.head _)) 0 _ rfl⟩) ?_
          try simp only [Act.put, List.setIfInBounds_toArray, List.set_cons_zero, List.set_cons_succ]
          refine anyH_take 2 16 (.bool true) rfl rfl (by kernel_rfl) (by kernel_rfl) (by kernel_rfl) (fun _ _ _ h => h) (Or.inl ⟨by rfl, by intro w hSw; go_simp⟩) (⟨KR _ (M0.back M).below 0 _ rfl, row_cell (M.get (.head _)) 0 _ rfl⟩) ?_
          try simp only [Act.put, List.setIfInBounds_toArray, List.set_cons_zero, List.set_cons_succ]
          refine anyH_take 3 17 (.slice (some ⟨b, off, none⟩) n cap) rfl rfl (by kernel_rfl) (by kernel_rfl) (by kernel_rfl) (fun _ _ _ h => h) (Or.inl ⟨by rfl, by intro w hSw; go_simp⟩) (⟨KR _ (M0.back M).below 0 _ rfl, row_cell (M.get (.head _)) 0 _ rfl⟩) ?_
          try simp only [Act.put, List.setIfInBounds_toArray, List.set_cons_zero, List.set_cons_succ]
          refine anyH_take 4 18 (.int .i64 (i : Int)) rfl rfl (by kernel_rfl) (by kernel_rfl) (by kernel_rfl) (fun _ _ _ h => h) (Or.inl ⟨by rfl, by intro w hSw; go_simp⟩) (⟨KR _ (M0.back M).below 0 _ rfl, row_cell (M.get (.head _)) 0 _ rfl⟩) ?_
          try simp only [Act.put, List.setIfInBounds_toArray, List.set_cons_zero, List.set_cons_succ]
          refine anyH_take 5 19 (.pointer (some ⟨b, off + i * 6, none⟩)) rfl rfl (by kernel_rfl) (by kernel_rfl) (by kernel_rfl) (fun _ _ _ h => h) (Or.inl ⟨by rfl, by intro w hSw; go_simp⟩) (⟨KR _ (M0.back M).below 0 _ rfl, row_cell (M.get (.head _)) 0 _ rfl⟩) ?_
          try simp only [Act.put, List.setIfInBounds_toArray, List.set_cons_zero, List.set_cons_succ]
          refine anyH_take 6 20 (.pointer (some ⟨b, off + i * 6, none⟩)) rfl rfl (by kernel_rfl) (by kernel_rfl) (by kernel_rfl) (fun _ _ _ h => h) (Or.inl ⟨by rfl, by intro w hSw; go_simp⟩) (⟨KR _ (M0.back M).below 0 _ rfl, row_cell (M.get (.head _)) 0 _ rfl⟩) ?_
          try simp only [Act.put, List.setIfInBounds_toArray, List.set_cons_zero, List.set_cons_succ]
          refine anyH_take 7 21 (.string nm) rfl rfl (by kernel_rfl) (by kernel_rfl) (by kernel_rfl) (fun _ _ _ h => h) (Or.inl ⟨by rfl, by intro w hSw; have s1 := hSw.1; go_simp⟩) (⟨KR _ (M0.back M).below 0 _ rfl, row_cell (M.get (.head _)) 0 _ rfl⟩) ?_
          try simp only [Act.put, List.setIfInBounds_toArray, List.set_cons_zero, List.set_cons_succ]
          refine anyH_take 8 22 (.pointer (some ⟨k3, 0, none⟩)) rfl rfl (by kernel_rfl) (by kernel_rfl) (by kernel_rfl) (fun _ _ _ h => h) (Or.inl ⟨by rfl, by intro w hSw; go_simp⟩) (⟨KR _ (M0.back M).below 0 _ rfl, row_cell (M.get (.head _)) 0 _ rfl⟩) ?_
          try simp only [Act.put, List.setIfInBounds_toArray, List.set_cons_zero, List.set_cons_succ]
          refine anyH_take 9 23 (.string nm') rfl rfl (by kernel_rfl) (by kernel_rfl) (by kernel_rfl) (fun _ _ _ h => h) (Or.inl ⟨by rfl, by intro w hSw; have s2 := hSw.2; go_simp⟩) (⟨KR _ (M0.back M).below 0 _ rfl, row_cell (M.get (.head _)) 0 _ rfl⟩) ?_
          try simp only [Act.put, List.setIfInBounds_toArray, List.set_cons_zero, List.set_cons_succ]
          refine anyH_take 10 24 (.bool true) rfl rfl (by kernel_rfl) (by kernel_rfl) (by kernel_rfl) (fun _ _ _ h => h) (Or.inl ⟨by rfl, by intro w hSw; go_simp⟩) (⟨KR _ (M0.back M).below 0 _ rfl, row_cell (M.get (.head _)) 0 _ rfl⟩) ?_
          try simp only [Act.put, List.setIfInBounds_toArray, List.set_cons_zero, List.set_cons_succ]
          refine anyH_take 11 25 (.bool true) rfl rfl (by kernel_rfl) (by kernel_rfl) (by kernel_rfl) (fun _ _ _ h => h) (Or.inl ⟨by rfl, by intro w hSw; go_simp⟩) (⟨KR _ (M0.back M).below 0 _ rfl, row_cell (M.get (.head _)) 0 _ rfl⟩) ?_
          try simp only [Act.put, List.setIfInBounds_toArray, List.set_cons_zero, List.set_cons_succ]
          refine wpAnyH_done (by kernel_rfl) ?_ _
          go_wp2_with (first | ((with_reducible show wpList _ _ _ (Oper.mk _ (Op.load 47 (Operand.tmp 3)) _ _ _ _ :: _) _ _); refine wpList_load M (by rfl) _ rfl rt23 rfl (.head _) (by rfl) ?_) | ((with_reducible show wpList _ _ _ (Oper.mk _ (Op.buildSlice 44 1 #[(0, Operand.tmp 27)]) _ _ _ _ :: _) _ _); refine wpList_mk1 M rfl _ rfl nm' ep' mr' al' kd' sc' rfl ?_; clear M; intro q W M) | ((with_reducible show wpList _ _ _ (Oper.mk _ (Op.call { callee := Callee.builtin Builtin.append, args := _, argTypes := #[44, 44] }) _ _ _ _ :: _) _ _); refine wpList_appM M O rfl _ _ rfl rfl rfl (by have := HIK.out; omega) ?_; intro g cp W1 M1 O1 N1; replace M0 := M0.back M1; clear M O; have O := O1; have M := M0.own O1 N1; clear M1 N1 O1))
          refine wp_region_any (by kernel_rfl) ?_
          change wpAny _ _ _ _ _ _ _ (World.drew _)
          replace M := M.drew
          generalize World.drew _ = WD at M ⊢
          refine wpAny_narrow (fun W' => W'.cell? ⟨b, off + i * 6, none⟩ = some (.string nm) ∧ W'.cell? ⟨k3, 0, none⟩ = some (.string nm')) _ _ _ _ ?_
          refine anyH_take 0 30 (.slice (some ⟨b, off, none⟩) n cap) rfl rfl (by kernel_rfl) (by kernel_rfl) (by kernel_rfl) (fun _ _ _ h => h) (Or.inl ⟨by rfl, by intro w hSw; go_simp⟩) (⟨KR _ (M0.back M).below 0 _ rfl, row_cell (M.get (.head _)) 0 _ rfl⟩) ?_
          try simp only [Act.put, List.setIfInBounds_toArray, List.set_cons_zero, List.set_cons_succ]
          refine anyH_take 1 31 (.int .i64 (i : Int)) rfl rfl (by kernel_rfl) (by kernel_rfl) (by kernel_rfl) (fun _ _ _ h => h) (Or.inl ⟨by rfl, by intro w hSw; go_simp⟩) (⟨KR _ (M0.back M).below 0 _ rfl, row_cell (M.get (.head _)) 0 _ rfl⟩) ?_
          try simp only [Act.put, List.setIfInBounds_toArray, List.set_cons_zero, List.set_cons_succ]
          refine anyH_take 2 32 (.pointer (some ⟨b, off + i * 6, none⟩)) rfl rfl (by kernel_rfl) (by kernel_rfl) (by kernel_rfl) (fun _ _ _ h => h) (Or.inl ⟨by rfl, by intro w hSw; go_simp⟩) (⟨KR _ (M0.back M).below 0 _ rfl, row_cell (M.get (.head _)) 0 _ rfl⟩) ?_
          try simp only [Act.put, List.setIfInBounds_toArray, List.set_cons_zero, List.set_cons_succ]
          refine anyH_take 3 33 (.pointer (some ⟨b, off + i * 6, none⟩)) rfl rfl (by kernel_rfl) (by kernel_rfl) (by kernel_rfl) (fun _ _ _ h => h) (Or.inl ⟨by rfl, by intro w hSw; go_simp⟩) (⟨KR _ (M0.back M).below 0 _ rfl, row_cell (M.get (.head _)) 0 _ rfl⟩) ?_
          try simp only [Act.put, List.setIfInBounds_toArray, List.set_cons_zero, List.set_cons_succ]
          refine anyH_take 4 34 (.string nm) rfl rfl (by kernel_rfl) (by kernel_rfl) (by kernel_rfl) (fun _ _ _ h => h) (Or.inl ⟨by rfl, by intro w hSw; have s1 := hSw.1; go_simp⟩) (⟨KR _ (M0.back M).below 0 _ rfl, row_cell (M.get (.head _)) 0 _ rfl⟩) ?_
          try simp only [Act.put, List.setIfInBounds_toArray, List.set_cons_zero, List.set_cons_succ]
          refine anyH_take 5 35 (.pointer (some ⟨k3, 0, none⟩)) rfl rfl (by kernel_rfl) (by kernel_rfl) (by kernel_rfl) (fun _ _ _ h => h) (Or.inl ⟨by rfl, by intro w hSw; go_simp⟩) (⟨KR _ (M0.back M).below 0 _ rfl, row_cell (M.get (.head _)) 0 _ rfl⟩) ?_
          try simp only [Act.put, List.setIfInBounds_toArray, List.set_cons_zero, List.set_cons_succ]
          refine anyH_take 6 36 (.string nm') rfl rfl (by kernel_rfl) (by kernel_rfl) (by kernel_rfl) (fun _ _ _ h => h) (Or.inl ⟨by rfl, by intro w hSw; have s2 := hSw.2; go_simp⟩) (⟨KR _ (M0.back M).below 0 _ rfl, row_cell (M.get (.head _)) 0 _ rfl⟩) ?_
          try simp only [Act.put, List.setIfInBounds_toArray, List.set_cons_zero, List.set_cons_succ]
          refine anyH_take 7 37 (.bool false) rfl rfl (by kernel_rfl) (by kernel_rfl) (by kernel_rfl) (fun _ _ _ h => h) (Or.inl ⟨by rfl, by intro w hSw; go_simp⟩) (⟨KR _ (M0.back M).below 0 _ rfl, row_cell (M.get (.head _)) 0 _ rfl⟩) ?_
          try simp only [Act.put, List.setIfInBounds_toArray, List.set_cons_zero, List.set_cons_succ]
          refine wpAnyH_done (by kernel_rfl) ?_ _
          go_wp2
          go_roundg (gk - 1)
          case measure => have := HI.out; omega
          case rel =>
            refine ⟨i + 1, _, ds ++ [⟨nm', ep', mr', al', kd', sc'⟩], true, rfl, rfl, by first | rfl | go_num, by have := HI.out; omega, M0.back M, ?_, HP, M.ne⟩
            rw [csC_snoc, List.length_append]; exact M.owns O
    case neg =>
      have hiI : ¬ (i : Int) < (n : Int) := by omega
      have hin : i = n := by omega
      have HE : Hid (LL = if dn = true then ds else ds ++ [⟨nm', ep', mr', al', kd', sc'⟩]) := by
        show _ = _
        rw [← HF.out]
        unfold ptL
        rw [← ptT_all HL.out, ← hin, HQ.out]
      have B := M0.below
      clear hin hi hgk HQ
      cases dn with
      | true =>
        have HE2 : Hid (LL = ds) := HE.out.trans (if_pos rfl)
        obtain ⟨a2, c2, e2, L2, h2⟩ := own_lstC O rfl
        cases e2
        go_wp2
        go_ret
        rw [HE2.out]
        exact ⟨_, _, rfl, L2, h2, B⟩
      | false =>
        have HE2 : Hid (LL = ds ++ [⟨nm', ep', mr', al', kd', sc'⟩]) := HE.out.trans (if_neg (by decide))
        clear B HE
        go_wp2_with (first | ((with_reducible show wpList _ _ _ (Oper.mk _ (Op.load 47 (Operand.tmp 3)) _ _ _ _ :: _) _ _); refine wpList_load M (by rfl) _ rfl rt23 rfl (.head _) (by rfl) ?_) | ((with_reducible show wpList _ _ _ (Oper.mk _ (Op.buildSlice 44 1 #[(0, Operand.tmp 48)]) _ _ _ _ :: _) _ _); refine wpList_mk1 M rfl _ rfl nm' ep' mr' al' kd' sc' rfl ?_; clear M; intro q W M) | ((with_reducible show wpList _ _ _ (Oper.mk _ (Op.call { callee := Callee.builtin Builtin.append, args := _, argTypes := #[44, 44] }) _ _ _ _ :: _) _ _); refine wpList_appM M O rfl _ _ rfl rfl rfl (by have := HIK.out; omega) ?_; intro g cp W1 M1 O1 N1; replace M0 := M0.back M1; clear M O; have O := O1; have M := M0.own O1 N1; clear M1 N1 O1))
        go_ret
        have O2 := O
        rw [← csC_snoc] at O2
        have hl2 : (ds ++ [(⟨nm', ep', mr', al', kd', sc'⟩ : CH)]).length = ds.length + 1 := by simp
        obtain ⟨a2, c2, e2, L2, h2⟩ := own_lstC O2 hl2
        rw [HE2.out, e2]
        rw [← hl2] at L2 ⊢
        exact ⟨_, _, rfl, L2, h2, M0.below⟩
end Go.Proofs.YtoeebofappbneaaGreat
