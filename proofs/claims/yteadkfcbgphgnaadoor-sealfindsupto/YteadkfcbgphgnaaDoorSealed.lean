/-
  What sealed returns: frames of bodies, one behind the other, and bytes behind them.
-/
import Derived.Test.YteadkfcbgphgnaaDoorRowIn
import Derived.Test.YteadkfcbgphgnaaDoorWritesWalk
import Derived.Test.YteadkfcbgphgnaaDoorAll
import Derived.Test.YteadkfcbgphgnaaDoorRSalv
namespace Go.Proofs.YteadkfcbgphgnaaDoor
open Go.ChangeShapes Go.WideShapes Go.ChangeAt Go.RowKit
set_option linter.unusedVariables false

/-- A body's frame; none, where it is too long. -/
def frm0 (b : List Int) : List Int := if 65535 < b.length then [] else frm b
def sealL (bs : List (List Int)) (zs : List Int) : List Int := bs.flatMap frm0 ++ zs
theorem frm0_len (b : List Int) : (frm0 b).length ≤ 8 * (b.length + 1) := by
  unfold frm0
  split
  · simp
  · rw [frm_len]; omega
theorem frames_len (bs : List (List Int)) : (bs.flatMap frm0).length ≤ 8 * bsum bs := by
  induction bs with
  | nil => simp [bsum]
  | cons x r ih =>
    have := frm0_len x
    simp only [List.flatMap_cons, List.length_append, bsum, List.map_cons, List.sum_cons] at *
    omega
theorem frames_take (bs : List (List Int)) (j : Nat) : ((bs.take j).flatMap frm0).length ≤ 8 * bsum bs := by
  refine Nat.le_trans (frames_len _) ?_
  have : ∀ (l : List (List Int)) (j : Nat), bsum (l.take j) ≤ bsum l := by
    intro l
    induction l with
    | nil => intro j; simp
    | cons x r ih =>
      intro j
      cases j with
      | zero => simp [bsum]
      | succ j => have := ih j; simp only [List.take_succ_cons, bsum, List.map_cons, List.sum_cons] at *; omega
  have := this bs j
  omega
theorem byt_frm0 {b : List Int} (h : Byt b) : Byt (frm0 b) := by
  unfold frm0
  split
  · intro c hc; cases hc
  · exact byt_frm h (by omega)
theorem byt_frames {bs : List (List Int)} (h : ∀ b ∈ bs, Byt b) : Byt (bs.flatMap frm0) := by
  intro c hc
  obtain ⟨b, hb, hc⟩ := List.mem_flatMap.1 hc
  exact byt_frm0 (h b hb) c hc
theorem take_snocB (l : List (List Int)) (j : Nat) (h : j < l.length) : l.take (j + 1) = l.take j ++ [l.getD j []] := by
  rw [List.take_add_one, List.getD_eq_getElem?_getD, List.getElem?_eq_getElem h]
  rfl
theorem getD_mem {bs : List (List Int)} {j : Nat} (h : j < bs.length) : bs.getD j [] ∈ bs := by
  rw [List.getD_eq_getElem?_getD, List.getElem?_eq_getElem h]
  exact List.getElem_mem h

/-- The document's own Seal, as bytes. -/
theorem rseal_row (a : Option Addr) (len cap : Nat) (zs : List Int) (w : World) (R : Row .u8 w a len cap zs) (hl : len ≤ 9223372036854775807) :
    Calls Tryd.prog 11 #[.slice a len cap] w fun e w' => ∃ a1 n1 c1 k, e = .returned (.tuple #[.slice a1 n1 c1, .int .i64 k]) ∧ Row .u8 w' a1 n1 c1 (frm0 zs) ∧ Below w.heap.size w w' :=
  (rseal_any a len cap zs w R hl).mono fun e w' ⟨h1, h2⟩ => by
    unfold SealOut at h1
    by_cases h : 65535 < zs.length
    · rw [if_pos h] at h1
      have e0 : frm0 zs = [] := by unfold frm0; rw [if_pos h]
      rw [e0]
      exact ⟨none, 0, 0, 23, h1, row_nil _ _, h2⟩
    · rw [if_neg h] at h1
      have e0 : frm0 zs = frm zs := by unfold frm0; rw [if_neg h]
      rw [e0]
      obtain ⟨v, h3, h4⟩ := h1
      obtain ⟨a1, c1, rfl, R1⟩ := h4.row (byt_frm R.byte (by omega))
      exact ⟨a1, _, c1, 0, h3, R1, h2⟩

set_option maxRecDepth 100000 in
set_option maxHeartbeats 4000000 in
theorem sealed_any (a : Option Addr) (len cap : Nat) (bs : List (List Int)) (a2 : Option Addr) (len2 cap2 : Nat) (zs : List Int) (w : World) (RB : RowsB w a len cap bs) (R : Row .u8 w a2 len2 cap2 zs)
    (hl : len ≤ 9223372036854775807) (hs : 8 * bsum bs + len2 ≤ 1099511627776) :
    Calls Tryd.prog 15 #[.slice a len cap, .slice a2 len2 cap2] w fun e w' => ∃ v, e = .returned v ∧ Own w.heap.size w' v (sealL bs zs) ∧ Below w.heap.size w w' := by
  have hsz := RB.size
  go_enter Tryd.func15, Tryd.ntmps15
  go_wp2
  go_loopg [5, 6] len (fun f ot ix wr => ∃ j : Nat, ix = .int .i64 j ∧ j + f = len ∧ Own w.heap.size wr ot ((bs.take j).flatMap frm0) ∧ Below w.heap.size w wr)
  case atStart => exact ⟨0, rfl, by omega, Own.nil _ _, Below.refl _ _⟩
  case round =>
    obtain ⟨j, rfl, hjg, ho, hB⟩ := hrel
    by_cases hc : j < len
    · obtain ⟨b, off, rfl, hb, hcc⟩ := RB.mem.resolve_left (by omega)
      clear hcc
      obtain ⟨p, n, c, q1, q2, q3⟩ := (RB.below hB).at j hc
      have hn : n ≤ 9223372036854775807 := by have := q3.le; omega
      have K1 := rseal_row _ _ _ _ wr q3 hn
      have hmem := getD_mem (bs := bs) (j := j) (by omega)
      have hb1 := bsum_mem hmem
      have hfl := frm0_len (bs.getD j [])
      have hft := frames_take bs j
      have HT : Hid ((bs.take (j + 1)).flatMap frm0 = (bs.take j).flatMap frm0 ++ frm0 (bs.getD j [])) := by
        show _ = _
        rw [take_snocB bs j (by omega), List.flatMap_append]
        simp
      obtain ⟨ys, hys⟩ : ∃ ys, frm0 (bs.getD j []) = ys := ⟨_, rfl⟩
      obtain ⟨xs, hxs⟩ : ∃ xs, (bs.take j).flatMap frm0 = xs := ⟨_, rfl⟩
      rw [hys] at K1 hfl HT
      rw [hxs] at ho hft HT
      have hbs := hB.size
      clear hys hxs q3
      go_wp2_with (first
        | (go_at_call 11; refine K1.mono ?_; rintro e w2 ⟨a3, n3, c3, k3, rfl, R3, b2⟩; have ho2 := ho.below b2; have hb2 : w.heap.size ≤ w2.heap.size := Nat.le_trans hbs b2.size; have l3 : xs.length + n3 ≤ 140737488355328 := (by have := R3.size; omega); have B2 : Below w.heap.size w w2 := hB.trans (b2.mono hbs); clear K1)
        | (at_builtin; refine wpList_append_row _ rfl _ _ rfl w.heap.size _ _ rfl ho2 _ _ _ _ rfl R3 hb2 l3 ?_; intro v4 w4 o4 b4))
      go_roundg (gk - 1)
      case measure => omega
      case rel => exact ⟨j + 1, by first | rfl | go_num, by omega, by rw [HT.out]; exact o4, B2.trans b4⟩
    · have e : len = j := by omega
      have hft := frames_take bs j
      have R2 := R.below hB
      have hbs := hB.size
      have l3 : ((bs.take j).flatMap frm0).length + len2 ≤ 140737488355328 := by omega
      have HT : Hid (sealL bs zs = (bs.take j).flatMap frm0 ++ zs) := by
        show _ = _
        unfold sealL
        rw [List.take_of_length_le (by omega)]
      obtain ⟨xs, hxs⟩ : ∃ xs, (bs.take j).flatMap frm0 = xs := ⟨_, rfl⟩
      rw [hxs] at ho l3 HT
      clear hxs
      subst e
      go_wp2_with (at_builtin; refine wpList_append_row _ rfl _ _ rfl w.heap.size _ _ rfl ho _ _ _ _ rfl R2 hbs l3 ?_; intro v4 w4 o4 b4)
      go_ret
      exact ⟨_, rfl, by rw [HT.out]; exact o4, hB.trans b4⟩

end Go.Proofs.YteadkfcbgphgnaaDoor
