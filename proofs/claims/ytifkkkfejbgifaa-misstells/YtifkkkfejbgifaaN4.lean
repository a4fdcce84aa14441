/-
  Package miss: Play.
-/
import Derived.Test.YtifkkkfejbgifaaU0
import Derived.WalkMore
namespace Go.Proofs.Ytifkkkfejbgifaa
open Go.ChangeShapes Go.WideShapes Go.ChangeAt Go.RowKit
set_option linter.unusedVariables false
set_option linter.unusedSimpArgs false

/-- What one of the row does to a half-edge. -/
def plS (n : Int) (h : HS) : HS := if n = 1 then tnH h else if n = 2 then asH h else if n = 3 then heH h else if n = 4 then anH h else h
/-- What a row makes of a half-edge, and what its turns told. -/
def plL : HS → List Int → HS × List Int
  | h, [] => (h, [])
  | h, n :: l => if n = 1 then (if tnW h = 2 then (tnH h, [2]) else ((plL (tnH h) l).1, 1 :: (plL (tnH h) l).2)) else plL (plS n h) l
theorem tnW_cases (h : HS) : tnW h = 1 ∨ tnW h = 2 := by
  unfold tnW
  split
  · split
    · exact .inr rfl
    · exact .inl rfl
  · exact .inl rfl
theorem okM_pl {h : HS} (k : OkM h) (n : Int) : OkM (plS n h) := by
  unfold plS
  split
  · exact okM_tn k
  split
  · exact okM_as k
  split
  · exact okM_he h
  split
  · exact okM_an h
  · exact k
/-- So far: what is left comes behind. -/
def Sofar (h : HS) (l : List Int) (i : Nat) (x : HS) (ts : List Int) : Prop := plL h l = ((plL x (l.drop i)).1, ts ++ (plL x (l.drop i)).2)
theorem sofar_0 (h : HS) (l : List Int) : Sofar h l 0 h [] := by unfold Sofar; simp
theorem drop_at {l : List Int} {i : Nat} (hi : i < l.length) : l.drop i = l.getD i 0 :: l.drop (i + 1) := by
  rw [List.drop_eq_getElem_cons hi]
  simp [List.getD, hi]
theorem sofar_end {h : HS} {l : List Int} {i : Nat} {x : HS} {ts : List Int} (s : Sofar h l i x ts) (hi : i = l.length) : plL h l = (x, ts) := by
  unfold Sofar at s
  rw [s, hi]
  simp [plL]
theorem sofar_drop {h : HS} {l : List Int} {i : Nat} {x : HS} {ts : List Int} (s : Sofar h l i x ts) (hi : i < l.length) (hn : l.getD i 0 = 1) (hw : tnW x = 2) : plL h l = (tnH x, ts ++ [2]) := by
  unfold Sofar at s
  rw [s, drop_at hi, hn]
  simp [plL, hw]
theorem sofar_ask {h : HS} {l : List Int} {i : Nat} {x : HS} {ts : List Int} (s : Sofar h l i x ts) (hi : i < l.length) (hn : l.getD i 0 = 1) (hw : tnW x = 1) : Sofar h l (i + 1) (tnH x) (ts ++ [1]) := by
  unfold Sofar at *
  rw [s, drop_at hi, hn]
  simp [plL, hw]
theorem sofar_else {h : HS} {l : List Int} {i : Nat} {x : HS} {ts : List Int} (s : Sofar h l i x ts) (hi : i < l.length) (hn : l.getD i 0 ≠ 1) : Sofar h l (i + 1) (plS (l.getD i 0) x) ts := by
  unfold Sofar at *
  rw [s, drop_at hi]
  simp only [plL, if_neg hn]
/-- A deed: a method of a record. -/
abbrev dd (f g : Nat) : Value := .func (.func f) #[.pointer (some ⟨g, 0, none⟩)] #[]
set_option maxHeartbeats 4000000 in
theorem deeds_any (g : Nat) (w : World) : Calls Try.prog 31 #[.pointer (some ⟨g, 0, none⟩)] w fun e w' => e = .returned (.slice (some ⟨w.heap.size, 0, none⟩) 4 4) ∧ w' = w.alloc (.cells #[dd 25 g, dd 28 g, dd 29 g, dd 30 g] 44) := by
  go_enter Try.func31, Try.ntmps31
  go_wp2
  go_ret
  exact ⟨rfl, rfl⟩
/-- What Play keeps. -/
structure PlSt (w : World) (g D : Nat) (x : HS) (vv : Value) (ts : List Int) (W : World) : Prop where
  below : Below w.heap.size w W
  box : W.heap[w.heap.size + 1]? = some (.cells z6 24 (0, 0))
  rcd : Rec (w.heap.size + 2) W g x
  dds : W.heap[D]? = some (.cells #[dd 25 g, dd 28 g, dd 29 g, dd 30 g] 44 (0, 0))
  row : W.ownsRow (w.heap.size + 2) 3 1 vv ts.length (ts.map iv)
theorem PlSt.ne {w : World} {g D : Nat} {x : HS} {vv : Value} {ts : List Int} {W : World} (S : PlSt w g D x vv ts W) : D ≠ g ∧ w.heap.size + 1 ≠ g ∧ some g ≠ vv.ownBlock := by
  obtain ⟨lo, a, c, hh, o⟩ := S.rcd
  refine ⟨?_, by omega, owns_ne S.row hh (by decide)⟩
  intro e
  have := S.dds
  rw [e, hh] at this
  cases this
theorem PlSt.meth {w : World} {g D : Nat} {x y : HS} {vv : Value} {ts : List Int} {W W' : World} (S : PlSt w g D x vv ts W) (o : Only (at1 g) W W') (r : Rec (w.heap.size + 2) W' g y) : PlSt w g D y vv ts W' := by
  obtain ⟨n1, n2, n3⟩ := S.ne
  have hg := S.rcd.lo
  refine ⟨S.below.trans (o.below S.below.size (fun q hq => by cases hq; omega)), only_far o S.box n2, r, only_far o S.dds n1, owns_of_block S.row fun q hq => ?_⟩
  refine o.block q (S.row.lt q hq).2 ?_
  intro e
  cases e
  exact n3 hq.symm
theorem PlSt.later {w : World} {g D : Nat} {x : HS} {vv : Value} {ts : List Int} {W W' : World} (S : PlSt w g D x vv ts W) (b : Below W.heap.size W W') : PlSt w g D x vv ts W' :=
  ⟨S.below.trans (b.mono S.below.size), (b.block _ (row_lt S.box)).trans S.box, S.rcd.below b, (b.block _ (row_lt S.dds)).trans S.dds, owns_later S.row b⟩
theorem PlSt.tell {w : World} {g D : Nat} {x : HS} {vv v' : Value} {ts : List Int} {W W' : World} {y : Int} (S : PlSt w g D x vv ts W) (r : W.grownBy W' vv.ownBlock) (o : W'.ownsRow (w.heap.size + 2) 3 1 v' (ts.length + 1) (ts.map iv ++ [iv y])) : PlSt w g D x v' (ts ++ [y]) W' := by
  obtain ⟨lo, a, c, hh, ow⟩ := S.rcd
  have k : ∀ (q : Nat) (t : TypeId) (cs : Array Value), W.heap[q]? = some (Obj.cells cs t (0, 0)) → t ≠ 3 → W'.heap[q]? = some (Obj.cells cs t (0, 0)) := fun q t cs hq ht => (r.block q (row_lt hq) (owns_ne S.row hq ht)).trans hq
  refine ⟨S.below.trans ((Below.refl _ W).grown r S.below.size (fun j e => Nat.le_trans (by omega) (S.row.lt j e).1)), k _ _ _ S.box (by decide), ⟨lo, a, c, k _ _ _ hh (by decide), ?_, ow.new⟩, k _ _ _ S.dds (by decide), ?_⟩
  · refine ow.lst.of_block fun q off e => ?_
    rcases ow.lst.mem with ⟨e', _⟩ | ⟨g', off', cur, e', h2, _⟩
    · rw [e'] at e; cases e
    · rw [e'] at e; cases e
      exact (k _ _ _ h2 (by decide)).trans h2.symm
  · rw [List.length_append, List.map_append]
    exact o
theorem Row.at {w : World} {a : Option Addr} {n cap : Nat} {l : List Int} (R : Row w a n cap l) {i : Nat} (hi : i < n) : ∃ b off, a = some ⟨b, off, none⟩ ∧ b < w.heap.size ∧ w.cell? ⟨b, off + i, none⟩ = some (.int .i64 (l.getD i 0)) := by
  obtain ⟨b, off, e, hb, hc⟩ := R.mem.resolve_left (by omega)
  exact ⟨b, off, e, hb, hc i hi⟩
set_option maxRecDepth 100000 in
set_option maxHeartbeats 8000000 in
theorem mplay_any (h : HS) (a : Option Addr) (c : Nat) (la : Option Addr) (cap : Nat) (l : List Int) (w : World) (R : RdO w h a c) (L : Row w la l.length cap l) (hB : l.length * 8 ≤ 140737488355328) (k : OkM h) : Calls Try.prog 20 #[(h.on a c).val, .slice la l.length cap] w fun e w' => ∃ a' c' b' d', e = .returned (.tuple #[((plL h l).1.on a' c').val, .slice b' (plL h l).2.length d']) ∧ Own w.heap.size w' (plL h l).1 a' c' ∧ Row w' b' (plL h l).2.length d' (plL h l).2 ∧ Below w.heap.size w w' := by
  have HB : Hid (l.length * 8 ≤ 140737488355328) := hB
  have KH : Hid (OkM h) := k
  have hSo : Hid (∀ x y, plL h l = (x, y) → (plL h l).1 = x ∧ (plL h l).2 = y) := fun x y e => by rw [e]; exact ⟨rfl, rfl⟩
  obtain ⟨peer, boot, life, ls, pend, miss⟩ := h
  have C0 := ((Bx.nil w).add rfl (.cells #[.int .i64 peer, .int .i64 boot, .int .i64 life, .slice a ls.length c, .bool pend, .int .i64 miss] 24)).add (by simp) (.cells z6 24)
  have R1 : RdO _ (HS.mk peer boot life ls pend miss) a c := R.below C0.below
  have K1 := hold_any (HS.mk peer boot life ls pend miss) a c _ R1
  have HF : Hid (Sofar ⟨peer, boot, life, ls, pend, miss⟩ l 0 ⟨peer, boot, life, ls, pend, miss⟩ []) := sofar_0 _ _
  obtain ⟨PF, hPF⟩ : ∃ PF, plL ⟨peer, boot, life, ls, pend, miss⟩ l = PF := ⟨_, rfl⟩
  obtain ⟨h0, hh0⟩ : ∃ h0, HS.mk peer boot life ls pend miss = h0 := ⟨_, rfl⟩
  rw [hh0] at HF KH
  have HPF : Hid (plL h0 l = PF) := by rw [← hh0]; exact hPF
  rw [hPF]
  clear hSo hPF k hB R
  dsimp only [HS.on, HR.val] at K1 ⊢
  go_enter Try.func20, Try.ntmps20
  go_wp2
  go_step3
  go_wp2_with (first
    | (go_at_call 24; refine K1.mono ?_; rintro e w1 ⟨g, rfl, Q1, b1⟩; have K2 := deeds_any g w1; clear K1)
    | (go_at_call 31; refine K2.mono ?_; rintro e w2 ⟨rfl, rfl⟩; clear K2))
  have S0 : PlSt w g w1.heap.size h0 (.slice none 0 0) [] (w1.alloc (.cells #[dd 25 g, dd 28 g, dd 29 g, dd 30 g] 44)) := by
    rw [hh0] at Q1
    have Q2 : Rec (w.heap.size + 2) w1 g h0 := by simpa using Q1
    have b2 : Below w1.heap.size w1 (w1.alloc (.cells #[dd 25 g, dd 28 g, dd 29 g, dd 30 g] 44)) := (Below.refl _ _).alloc (Nat.le_refl _) _
    have C1 := (C0.later b1).later b2
    exact ⟨C1.below, C1.at_ 1 _ rfl, Q2.below b2, heap_new rfl, World.ownsRow_nil _ _ _ _⟩
  obtain ⟨D, hD⟩ : ∃ D, w1.heap.size = D := ⟨_, rfl⟩
  simp only [hD] at S0 ⊢
  have HS0 : Hid (PlSt w g D h0 (.slice none 0 0) [] (w1.alloc (.cells #[dd 25 g, dd 28 g, dd 29 g, dd 30 g] 44))) := S0
  clear S0 C0 R1 Q1 b1
  go_step3
  go_wp2
  go_loopg [8, 18] l.length (fun gk v8 v18 wr => ∃ (i : Nat) (x : HS) (ts : List Int) (vv : Value), vv = v8 ∧ v18 = .int .i64 (i : Int) ∧ i + gk = l.length ∧ PlSt w g D x vv ts wr ∧ Sofar h0 l i x ts ∧ ts.length ≤ i ∧ OkM x)
  case atStart => exact ⟨0, h0, [], _, rfl, by first | rfl | go_num, by omega, HS0.out, HF.out, Nat.le_refl _, KH.out⟩
  case round =>
    obtain ⟨i, x, ts, vv, rfl, rfl, hgk, St, So, hT, kx⟩ := hrel
    clear HS0 HF
    have HT : Hid (ts.length ≤ i) := hT
    have HSo : Hid (Sofar h0 l i x ts) := So
    have HK : Hid (OkM x) := kx
    clear hT So kx KH
    by_cases hi : i < l.length
    case pos =>
      have HI : Hid (i < l.length) := hi
      have hiI : (i : Int) < (l.length : Int) := by omega
      have hwr : IntKind.i64.wrap ((i : Int) + 1) = (i : Int) + 1 := by rw [IntKind.wrap_i64]; have := HB.out; omega
      obtain ⟨lb, lo, rfl, hlb, hc0⟩ := L.at hi
      have hc : wr.cell? ⟨lb, lo + i, none⟩ = some (.int .i64 (l.getD i 0)) := (St.below.cell (p := ⟨lb, lo + i, none⟩) hlb).trans hc0
      clear hc0
      obtain ⟨n, hn⟩ : ∃ n, l.getD i 0 = n := ⟨_, rfl⟩
      have HN : Hid (l.getD i 0 = n) := hn
      rw [hn] at hc
      clear hn
      have d0 := row_cell St.dds 0 _ rfl
      have d1 := row_cell St.dds 1 _ rfl
      have d2 := row_cell St.dds 2 _ rfl
      have d3 := row_cell St.dds 3 _ rfl
      have HSt : Hid (PlSt w g D x vv ts wr) := St
      clear St
      by_cases h1 : n = 1
      case pos =>
        subst h1
        have KT := turn_any g x _ wr HSt.out.rcd HK.out
        rcases tnW_cases x with hw | hw
        · rw [hw] at KT
          go_wp2_with (first
            | (go_at_call 25; refine KT.mono ?_; rintro e w7 ⟨rfl, R7, o7⟩; have S7 := HSt.out.meth o7 R7; clear KT)
            | ((with_reducible show wpList _ _ _ (Oper.mk _ (Op.call { callee := Callee.builtin Builtin.append, args := _, argTypes := #[36, 36] }) _ _ _ _ :: _) _ _); go_must (have T8 := S7.later ((Below.refl _ _).alloc (Nat.le_refl _) (.cells #[.int .i64 1] 3)); have X8 := World.alloc_heap_new w7 (.cells #[.int .i64 1] 3); refine wpList_append_int rfl _ _ rfl (w.heap.size + 2) vv ts.length (ts.map iv) rfl T8.row ⟨w7.heap.size, 0, none⟩ 1 rfl (fun j u hj => by rw [add_plain, Nat.zero_add]; exact row_cell X8 j u (by simpa using hj)) (by have := HB.out; have := HI.out; have := HT.out; omega) (by have := S7.rcd.lo; have := S7.rcd.lt; simp; omega) ?_; intro g8 c8 w8 O8 r8)))
          have S9 := T8.tell r8 O8
          go_roundg (gk - 1)
          case measure => omega
          case rel => exact ⟨i + 1, _, _, _, rfl, by first | rfl | go_num, by omega, S9, sofar_ask HSo.out HI.out HN.out hw, by have := HT.out; simp; omega, okM_tn HK.out⟩
        · rw [hw] at KT
          have HE := sofar_drop HSo.out HI.out HN.out hw
          rw [HPF.out] at HE
          subst HE
          obtain ⟨Y9, hY9⟩ : ∃ Y9, tnH x = Y9 := ⟨_, rfl⟩
          have hl2 : (ts ++ [2]).length = ts.length + 1 := by simp
          simp only [hY9] at KT
          go_wp2_with (first
            | (go_at_call 25; refine KT.mono ?_; rintro e w7 ⟨rfl, R7, o7⟩; have S7 := HSt.out.meth o7 R7; clear KT)
            | ((with_reducible show wpList _ _ _ (Oper.mk _ (Op.call { callee := Callee.builtin Builtin.append, args := _, argTypes := #[36, 36] }) _ _ _ _ :: _) _ _); go_must (have T8 := S7.later ((Below.refl _ _).alloc (Nat.le_refl _) (.cells #[.int .i64 2] 3)); have X8 := World.alloc_heap_new w7 (.cells #[.int .i64 2] 3); refine wpList_append_int rfl _ _ rfl (w.heap.size + 2) vv ts.length (ts.map iv) rfl T8.row ⟨w7.heap.size, 0, none⟩ 2 rfl (fun j u hj => by rw [add_plain, Nat.zero_add]; exact row_cell X8 j u (by simpa using hj)) (by have := HB.out; have := HI.out; have := HT.out; omega) (by have := S7.rcd.lo; have := S7.rcd.lt; simp; omega) ?_; intro g8 c8 w8 O8 r8))
            | ((with_reducible show wpList _ _ _ (Oper.mk _ (Op.load 24 (Operand.tmp 52)) _ _ _ _ :: _) _ _); go_must (obtain ⟨lo9, a9, c9, hh9, O9⟩ := (T8.tell r8 O8).rcd; refine wpList_load24 rfl _ rfl g 0 _ rfl (get46 hh9) ?_))
            | ((with_reducible show wpList _ _ _ (Oper.mk _ (Op.store 24 (Operand.tmp 4) _) _ _ _ _ :: _) _ _); go_must (refine wpList_put24 rfl _ _ rfl (HS.on Y9 a9 c9) (T8.tell r8 O8).box rfl rfl rfl ?_; intro w10 T10 o10 z10)))
          try rw [Exit.noGoto_ret]
          have S9 := T8.tell r8 O8
          have Rw := S9.row
          rw [hl2] at Rw
          have O10 := own_only O9 o10 S9.box (by decide)
          have R10 := owns_row (owns_of_block Rw fun q hq => o10.block q (Rw.lt q hq).2 (by intro e; cases e; exact owns_ne Rw S9.box (by decide) hq.symm))
          have B10 := S9.below.trans (o10.below S9.below.size (fun q hq => by cases hq; omega))
          subst hY9
          rw [← hl2] at R10
          exact bodyPost_ret (results_ct rfl _ _ (w.heap.size + 1) _ rfl (load_24 (d := HS.on (tnH x) a9 c9) T10)) rfl ⟨a9, c9, some ⟨g8, 0, none⟩, c8, (by show _ = Ending.returned (Value.tuple #[((tnH x).on a9 c9).val, .slice (some ⟨g8, 0, none⟩) (ts ++ [2]).length c8]); rw [hl2]; rfl), O10.mono (by omega), R10, B10⟩
      case neg =>
        by_cases h2 : n = 2
        case pos =>
          subst h2
          have KT := asked_any g x _ wr HSt.out.rcd
          go_wp2_with (go_at_call 28; refine KT.mono ?_; rintro e w7 ⟨rfl, R7, o7⟩; have S7 := HSt.out.meth o7 R7; clear KT)
          go_roundg (gk - 1)
          case measure => omega
          case rel => exact ⟨i + 1, _, _, _, rfl, by first | rfl | go_num, by omega, S7, by have := sofar_else HSo.out HI.out (by rw [HN.out]; decide); rw [HN.out] at this; exact this, by have := HT.out; omega, okM_as HK.out⟩
        case neg =>
          by_cases h3 : n = 3
          case pos =>
            subst h3
            have KT := heard_any g x _ wr HSt.out.rcd
            go_wp2_with (go_at_call 29; refine KT.mono ?_; rintro e w7 ⟨rfl, R7, o7⟩; have S7 := HSt.out.meth o7 R7; clear KT)
            go_roundg (gk - 1)
            case measure => omega
            case rel => exact ⟨i + 1, _, _, _, rfl, by first | rfl | go_num, by omega, S7, by have := sofar_else HSo.out HI.out (by rw [HN.out]; decide); rw [HN.out] at this; exact this, by have := HT.out; omega, okM_he x⟩
          case neg =>
            by_cases h4 : n = 4
            case pos =>
              subst h4
              have KT := answered_any g x _ wr HSt.out.rcd
              go_wp2_with (go_at_call 30; refine KT.mono ?_; rintro e w7 ⟨rfl, R7, o7⟩; have S7 := HSt.out.meth o7 R7; clear KT)
              go_roundg (gk - 1)
              case measure => omega
              case rel => exact ⟨i + 1, _, _, _, rfl, by first | rfl | go_num, by omega, S7, by have := sofar_else HSo.out HI.out (by rw [HN.out]; decide); rw [HN.out] at this; exact this, by have := HT.out; omega, okM_an x⟩
            case neg =>
              have hS : Sofar h0 l (i + 1) x ts := by
                have := sofar_else HSo.out HI.out (by rw [HN.out]; exact h1)
                rw [HN.out] at this
                unfold plS at this
                rw [if_neg h1, if_neg h2, if_neg h3, if_neg h4] at this
                exact this
              by_cases h5 : n < 1
              · go_wp2
                go_roundg (gk - 1)
                case measure => omega
                case rel => exact ⟨i + 1, _, _, _, rfl, by first | rfl | go_num, by omega, HSt.out, hS, by have := HT.out; omega, HK.out⟩
              · have h6 : n > 4 := by omega
                go_wp2
                go_roundg (gk - 1)
                case measure => omega
                case rel => exact ⟨i + 1, _, _, _, rfl, by first | rfl | go_num, by omega, HSt.out, hS, by have := HT.out; omega, HK.out⟩
    case neg =>
      have hiI : ¬ (i : Int) < (l.length : Int) := by omega
      have HE := sofar_end HSo.out (by omega)
      rw [HPF.out] at HE
      subst HE
      have S9 := St
      obtain ⟨Y9, hY9⟩ : ∃ Y9, x = Y9 := ⟨_, rfl⟩
      simp only [hY9] at S9 ⊢
      clear St
      go_wp2_with (first
        | ((with_reducible show wpList _ _ _ (Oper.mk _ (Op.load 24 (Operand.tmp 52)) _ _ _ _ :: _) _ _); go_must (obtain ⟨lo9, a9, c9, hh9, O9⟩ := S9.rcd; refine wpList_load24 rfl _ rfl g 0 _ rfl (get46 hh9) ?_))
        | ((with_reducible show wpList _ _ _ (Oper.mk _ (Op.store 24 (Operand.tmp 4) _) _ _ _ _ :: _) _ _); go_must (refine wpList_put24 rfl _ _ rfl (HS.on Y9 a9 c9) S9.box rfl rfl rfl ?_; intro w10 T10 o10 z10)))
      try rw [Exit.noGoto_ret]
      obtain ⟨b9, d9, e9⟩ := owns_slice S9.row
      subst e9
      have O10 := own_only O9 o10 S9.box (by decide)
      have R10 := owns_row (owns_of_block S9.row fun q hq => o10.block q (S9.row.lt q hq).2 (by intro e; cases e; exact owns_ne S9.row S9.box (by decide) hq.symm))
      have B10 := S9.below.trans (o10.below S9.below.size (fun q hq => by cases hq; omega))
      exact bodyPost_ret (results_ct rfl _ _ (w.heap.size + 1) _ rfl (load_24 (d := HS.on Y9 a9 c9) T10)) rfl ⟨a9, c9, b9, d9, rfl, O10.mono (by omega), R10, B10⟩
end Go.Proofs.Ytifkkkfejbgifaa
