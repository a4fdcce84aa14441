/-
  The document's own Same, over lists of byte lists.
-/
import Derived.Test.YteadkfcbgphgnaaDoorLists
namespace Go.Proofs.YteadkfcbgphgnaaDoor
open Go.ChangeShapes Go.WideShapes Go.ChangeAt Go.RowKit
set_option linter.unusedVariables false

theorem beq_refl_bytes (s : ByteArray) : (s.toList == s.toList) = true := by simp
theorem getD_byt {bs : List (List Int)} (hb : ∀ b ∈ bs, Byt b) (k : Nat) : Byt (bs.getD k []) := by
  rw [List.getD_eq_getElem?_getD]
  cases h : bs[k]? with
  | none => intro c hc; simp at hc
  | some b => exact hb b (List.mem_of_getElem? h)

set_option maxHeartbeats 4000000 in
/-- The same list, wherever it lies. -/
theorem same_any (a a2 : Option Addr) (len cap cap2 : Nat) (bs : List (List Int)) (w : World) (R : RowsB w a len cap bs) (R2 : RowsB w a2 len cap2 bs) (hl : len ≤ 9223372036854775807) :
    Calls Tryd.prog 22 #[.slice a len cap, .slice a2 len cap2] w fun e w' => e = .returned (.bool true) ∧ ∃ n, w' = w.drewN n := by
  have hsz := R.size
  go_enter Tryd.func22, Tryd.ntmps22
  go_wp2
  go_loopg [5] len (fun g ix wr => ∃ (j : Nat), ix = .int .i64 j ∧ j + g = len ∧ ∃ n, wr = w.drewN n)
  case atStart => exact ⟨0, rfl, by omega, 0, rfl⟩
  case round =>
    obtain ⟨j, rfl, hg, n0, hw⟩ := hrel
    by_cases hc : j < len
    · obtain ⟨b, off, rfl, hb, hcc⟩ := R.mem.resolve_left (by omega)
      clear hcc
      obtain ⟨b2, off2, rfl, hb2, hcc⟩ := R2.mem.resolve_left (by omega)
      clear hcc
      obtain ⟨p, n, c, q1, q2, q3⟩ := R.at j hc
      obtain ⟨p2, n2, c2, r1, r2, r3⟩ := R2.at j hc
      have c1 : wr.cell? ⟨b, off + j, none⟩ = some (.slice p n c) := by rw [hw]; exact q1
      have d1 : wr.cell? ⟨b2, off2 + j, none⟩ = some (.slice p2 n2 c2) := by rw [hw]; exact r1
      have v1 : ∀ k, (convert 22 9 (.slice p n c)).run Tryd.prog (wr.drewN k) = .ok (.string (strOfNums (bs.getD j []))) (wr.drewN k) := fun k => by rw [hw]; exact conv_row ((q3.drewN _).drewN _)
      have v2 : ∀ k, (convert 22 9 (.slice p2 n2 c2)).run Tryd.prog (wr.drewN k) = .ok (.string (strOfNums (bs.getD j []))) (wr.drewN k) := fun k => by rw [hw]; exact conv_row ((r3.drewN _).drewN _)
      obtain ⟨s, hs⟩ : ∃ s, strOfNums (bs.getD j []) = s := ⟨_, rfl⟩
      rw [hs] at v1 v2
      have hq := beq_refl_bytes s
      have HW : Hid (wr = w.drewN n0) := hw
      clear hs q1 q3 r1 r3 hw
      go_wp2
      go_quiet (fail)
      go_wp2
      go_roundg (gk - 1)
      case measure => omega
      case rel => exact ⟨j + 1, by first | rfl | go_num, by omega, n0 + nq, by rw [HW.out, World.drewN_drewN]⟩
    · have e : j = len := by omega
      subst e
      go_wp2
      go_ret
      exact ⟨rfl, n0, rfl⟩

end Go.Proofs.YteadkfcbgphgnaaDoor
