/-
  Chapter 4's examples, which every law calls at its end: awake returns true.
-/
import Derived.Test.YteadkfcbgphgnaaDoorSalv
import Derived.Test.YteadkfcbgphgnaaDoorFaces
import Derived.Lib.SlBytesConst
namespace Go.Proofs.YteadkfcbgphgnaaDoor
open Go.ChangeShapes Go.WideShapes Go.ChangeAt Go.RowKit
set_option linter.unusedVariables false

/-- append(b, c...) where b has no room: a new row. -/
theorem run_append_rows (w : World) (ty : TypeId) (ad bd : Addr) (n c m c2 : Nat) (zs ys : List Int) (R : Row .u8 w (some ad) n c zs) (S : Row .u8 w (some bd) m c2 ys) (hg : c < n + m) (hl : n + m ≤ 140737488355328) :
    ∃ v' w', (Builtin.append_ #[22, 22] ty #[.slice (some ad) n c, .slice (some bd) m c2]).run Tryd.prog w = .ok v' w' ∧ Own w.heap.size w' v' (zs ++ ys) ∧ Below w.heap.size w w' := by
  obtain ⟨i0, hi, hz0, hz1, hz2⟩ := info_parts info5
  have hn := R.size
  have hm := S.size
  have hr := run_append_grow (P := Tryd.prog) w 22 ty 5 i0 (.int .u8 0) Tryd.underlying22 hi hz0 ad n c (zs.map bv) (by rw [hz1]; simp; omega) R.cells bd m c2 (ys.map bv) (by rw [hz1]; simp; omega) S.cells hg (by omega) (by rw [hz2]; exact growslice_fits hg (by omega))
  have h63 : n + m ≤ maxLen := by unfold maxLen; omega
  refine ⟨_, _, hr, ⟨by simp, .inr ⟨w.heap.size, _, _, by rw [List.length_append, hn, hm], Nat.le_refl _, heap_new w.drew _, ?_, grownCap_le_maxLen w (n + m) c 5 h63, ?_, ?_⟩⟩, ((Below.refl _ w).drew).alloc (Nat.le_refl _) _⟩
  · have := grownCap_ge w (n + m) c 5
    rw [List.length_append]
    omega
  · have := grownCap_ge w (n + m) c 5
    simp only [Array.size_append, List.size_toArray, size_zeroCells, List.length_map]
    rw [show (Value.int .u8 0).cells.size = 1 from rfl]
    omega
  · simp only [Array.toList_append, List.append_assoc, List.map_append]
    rw [← List.append_assoc, show (zs ++ ys).length * 1 = (zs.map bv ++ ys.map bv).length by simp]
    exact List.take_left
theorem wpList_append_rows (w : World) {ops : Array Oper} {rest : List Oper} {o : Oper} {a : Act} {Q : Exit → Act → World → Prop} (hg : o.guard = none)
    (s x : Operand) (hop : o.op = Op.call { callee := Callee.builtin Builtin.append, args := #[s, x], argTypes := #[22, 22] })
    (ad bd : Addr) (n c m c2 : Nat) (zs ys : List Int) (hs : a.eval s = .slice (some ad) n c) (hx : a.eval x = .slice (some bd) m c2) (R : Row .u8 w (some ad) n c zs) (S : Row .u8 w (some bd) m c2 ys) (hgr : c < n + m) (hl : n + m ≤ 140737488355328)
    (hK : ∀ v' w', Own w.heap.size w' v' (zs ++ ys) → Below w.heap.size w w' → wpList Tryd.prog ops Q rest (a.put o.dst v') w') : wpList Tryd.prog ops Q (o :: rest) a w := by
  refine wpList_plain hg fun K hK' => ?_
  obtain ⟨v', w', hr, h1, h2⟩ := run_append_rows w o.type ad bd n c m c2 zs ys R S hgr hl
  unfold Oper.wp execOp
  simp only [hop, resolve, invoke, builtin, Sem.run_bind, Sem.run_pure, Result.andThen_ok, List.map_toArray, List.map_cons, List.map_nil, hs, hx, hr]
  exact hK' _ _ (hK v' w' h1 h2)

/-- A literal's bytes, with the run-time's mark behind them. -/
theorem row_mark {w : World} {C : Array Value} {f : Nat × Nat} {n : Nat} {xs : List Int} (hn : xs.length = n) (hC : C = (xs.map bv).toArray) (hb : Byt xs) : Row .u8 (w.alloc (.cells C 5 f)) (some ⟨w.heap.size, 0, none⟩) n n xs where
  size := hn
  le := Nat.le_refl _
  nil := fun h => by cases h
  wf := fun z hz => u8_wf (hb z hz).1 (hb z hz).2
  mem := by
    refine .inr ⟨_, 0, rfl, by simp, fun k hk => ?_⟩
    have hk' : k < xs.length := by omega
    unfold World.cell?
    have : (w.alloc (.cells C 5 f)).heap[w.heap.size]? = some (.cells C 5 f) := heap_new _ _
    rw [this]
    subst hC
    simp [List.getD, List.getElem?_eq_getElem hk']
theorem conv_const (w : World) (C : Array Value) (n c : Nat) : (convert 22 22 (.slice (some ⟨w.heap.size, 0, none⟩) n c)).run Tryd.prog (w.alloc (.cells C 5)) = .ok (.slice (some ⟨w.heap.size, 0, none⟩) n c) (w.alloc (.cells C 5 (C.size, C.size + 1))) :=
  Lib.run_convert_bytes_const (P := Tryd.prog) w 22 5 C n c Tryd.underlying22 Tryd.underlying5
theorem ex_sum : sumB [49, 50, 51, 52, 53, 54, 55, 56, 57] = 3421780262 := by decide +kernel
theorem ex_open : opn (frm [97]) = .ok ([97], 9) := by
  have h := opn_frm [97] [] (by decide)
  rw [List.append_nil] at h
  exact h
theorem ex_x : opn [120] = .error 20 := opn_other (by decide) []
theorem ex_sal : salF 10 0 (120 :: frm [97]) = [([97], 1)] := by
  have h := sal_ahead [120] (frm [97]) 10 0 (by intro z hz; simp at hz; omega) (by rw [frm_len]; decide)
  rw [show (120 :: frm [97]) = [120] ++ frm [97] from rfl, h]
  have h2 := sal_frames [[97]] (frm [97]).length (0 + ([120] : List Int).length) (by intro b hb; simp at hb; subst hb; decide) (by simp)
  simp only [List.flatMap_cons, List.flatMap_nil, List.append_nil] at h2
  rw [h2]
  rfl
theorem ex_byt : Byt (frm [97]) := byt_frm (by intro z hz; simp at hz; omega) (by decide)

set_option maxRecDepth 100000 in
set_option maxHeartbeats 4000000 in
theorem awake_any (w : World) (ht : Tab w) : Calls Tryd.prog 14 #[] w fun e w' => e = .returned (.bool true) ∧ Below w.heap.size w w' := by
  have hfl : (frm [97]).length = 9 := frm_len [97]
  have b97 : (0 : Int) ≤ 97 ∧ (97 : Int) < 256 := by omega
  have kc := conv_const
  have K1 := seal_ok _ _ _ _ _ (row_mark (w := w) (C := #[bv 97]) (f := (1, 2)) (n := 1) (xs := [97]) rfl rfl (by intro z hz; simp at hz; omega)) (ht.alloc _) (by omega)
  go_enter Tryd.func14, Tryd.ntmps14
  go_wp2_with fail
  refine K1.mono ?_
  rintro e w1 ⟨v1, rfl, ho1, hb1⟩
  have B1 : Below w.heap.size w w1 := ((Below.refl _ w).alloc (Nat.le_refl _) _).trans (hb1.mono (by simp))
  obtain ⟨a1, c1, rfl, R1⟩ := ho1.row ex_byt
  have hc1 := ho1.cap
  rw [hfl] at R1
  have T1 := ht.below B1
  have K2 := open_ok _ _ _ _ w1 R1 T1 (by omega) (by omega) _ _ ex_open
  clear K1 hb1
  simp only [hfl]
  go_wp2_with fail
  refine K2.mono ?_
  rintro e w2 ⟨v2, rfl, ho2, hb2⟩
  have B2 : Below w.heap.size w w2 := B1.trans (hb2.mono B1.size)
  have R2 := R1.below hb2
  obtain ⟨a2, c2, rfl, S2⟩ := ho2.row (by intro z hz; simp at hz; omega)
  have K3 := open_no _ _ _ _ _ (row_mark (w := w2) (C := #[bv 120]) (f := (1, 2)) (n := 1) (xs := [120]) rfl rfl (by intro z hz; simp at hz; omega)) ((ht.below B2).alloc _) (by omega) (by omega) _ ex_x
  clear K2 hb2
  go_wp2_with fail
  refine K3.mono ?_
  rintro e w3 ⟨rfl, hb3⟩
  have hw23 : Below w2.heap.size w2 w3 := ((Below.refl _ w2).alloc (Nat.le_refl _) _).trans (hb3.mono (by simp))
  have B3 : Below w.heap.size w w3 := B2.trans (hw23.mono B2.size)
  have S3 := S2.below hw23
  have R3 := (R2.below hw23).alloc (.cells #[bv 120] 5 (1, 2))
  clear K3 hb3
  have L3 := (row_mark (w := w3) (C := #[bv 120]) (f := (1, 2)) (n := 1) (xs := [120]) rfl rfl (by intro z hz; simp at hz; omega))
  obtain ⟨g1, rfl⟩ : ∃ g1, a1 = some g1 := by
    cases a1 with
    | none => have := R1.nil rfl; omega
    | some g => exact ⟨g, rfl⟩
  go_wp2_with (at_builtin; refine wpList_append_rows _ rfl _ _ rfl _ _ 1 1 9 c1 [120] (frm [97]) rfl rfl L3 R3 (by omega) (by omega) ?_)
  intro v4 w4 O4 hb4
  have hw34 : Below w3.heap.size w3 w4 := ((Below.refl _ w3).alloc (Nat.le_refl _) _).trans (hb4.mono (by simp))
  have B4 : Below w.heap.size w w4 := B3.trans (hw34.mono B3.size)
  replace O4 : Own w3.heap.size w4 v4 (120 :: frm [97]) := O4.at (by simp)
  have l10 : (120 :: frm [97]).length = 10 := by simp [hfl]
  obtain ⟨a4, c4, rfl, R4⟩ := O4.row (by intro z hz; rcases List.mem_cons.1 hz with rfl | hz; omega; exact ex_byt z hz)
  have hc4 := O4.cap
  rw [l10] at R4
  have K5 := salvage_any _ _ _ _ w4 R4 (ht.below B4) (by omega) (by omega)
  rw [ex_sal] at K5
  have S4 := S3.below hw34
  clear O4 R3 hb4
  simp only [l10]
  go_wp2_with fail
  refine K5.mono ?_
  rintro e w5 ⟨⟨v5, u5, rfl, hbs, hps⟩, hb5⟩
  have B5 : Below w.heap.size w w5 := B4.trans (hb5.mono B4.size)
  obtain ⟨a5, c5, rfl, RB, hcc5, _⟩ := hbs.rows (by intro b hb; simp at hb; subst hb; intro z hz; simp at hz; omega)
  obtain ⟨a6, c6, rfl, hc6, hc6', hcell⟩ := hps.len
  obtain ⟨g6, rfl, hg6, hcell⟩ := hcell (by simp)
  have c60 := hcell 0 (by simp)
  have S5 := S4.below hb5
  have B5' : Below w5.heap.size w5 (w5.alloc (.cells #[bv 49, bv 50, bv 51, bv 52, bv 53, bv 54, bv 55, bv 56, bv 57] 5 (9, 10))) := (Below.refl _ _).alloc (Nat.le_refl _) _
  have K6 := sum_any _ _ _ _ _ (row_mark (w := w5) (C := #[bv 49, bv 50, bv 51, bv 52, bv 53, bv 54, bv 55, bv 56, bv 57]) (f := (9, 10)) (n := 9) (xs := [49, 50, 51, 52, 53, 54, 55, 56, 57]) rfl rfl (by intro z hz; simp at hz; omega)) ((ht.below B5).alloc _) (by omega)
  rw [ex_sum] at K6
  have c61 : (w5.alloc (.cells #[bv 49, bv 50, bv 51, bv 52, bv 53, bv 54, bv 55, bv 56, bv 57] 5 (9, 10))).cell? ⟨g6, 0, none⟩ = some (.int .i64 1) := (B5'.cell (p := ⟨g6, 0, none⟩) hg6).trans c60
  have hcv := conv_row (S5.below B5')
  have hstr : strOfNums [97] = ⟨#[97]⟩ := rfl
  rw [hstr] at hcv
  clear K5 hcell RB
  simp only [List.map_cons, List.map_nil, List.length_cons, List.length_nil, Nat.zero_add]
  simp only [List.length_cons, List.length_nil, Nat.zero_add] at hcv
  go_wp2_with (go_at_call 12; refine K6.mono ?_; rintro e w6 ⟨rfl, hw⟩; rw [hw]; clear hw w6)
  go_ret
  exact ⟨rfl, B5.alloc B5.size _⟩

end Go.Proofs.YteadkfcbgphgnaaDoor
