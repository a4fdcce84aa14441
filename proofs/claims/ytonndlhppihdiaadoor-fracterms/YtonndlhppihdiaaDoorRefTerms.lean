/-
  What the document's own Terms returns: a new list of the same terms.
-/
import Derived.Test.YtonndlhppihdiaaDoorFold
import Derived.OwnWalk
namespace Go.Proofs.YtonndlhppihdiaaDoor
open Go.ChangeShapes Go.WideShapes Go.ChangeAt Go.RowKit Go.Shelf
set_option linter.unusedVariables false
set_option linter.unusedSimpArgs false

set_option maxRecDepth 100000 in
set_option maxHeartbeats 2000000 in
theorem rterms_list (n d : Int) (w : World) (hn : Sm n) (hd : 0 ≤ d) (hd' : d ≤ 2147483647) :
    Calls Tryd.prog 33 #[fr n d] w fun e w' => ∃ v, e = .returned v ∧ w'.ownsRow w.heap.size 2 1 v (tms n d).length (((tms n d).map Prod.fst).map (Value.int .i64)) ∧ Below w.heap.size w w' := by
  obtain ⟨i0, hi, hz0, hz1, hz2⟩ := info_parts info2
  have HT : Hid ((tms n d).map Prod.fst = [] ++ (tms n d).map Prod.fst) := rfl
  go_enter Tryd.func33, Tryd.ntmps33
  go_wp2
  go_loopg [3, 4, 5] d.toNat (fun g v N D wr => ∃ (ys : List Int) (N' D' : Int), N = .int .i64 N' ∧ D = .int .i64 D' ∧ D'.toNat ≤ g ∧ ys.length + D'.toNat ≤ d.toNat ∧ 0 ≤ D' ∧ Sm N' ∧ Hid ((tms n d).map Prod.fst = ys ++ (tms N' D').map Prod.fst) ∧ wr.ownsRow w.heap.size 2 1 v ys.length (ys.map (Value.int .i64)) ∧ Below w.heap.size w wr)
  case atStart => exact ⟨[], n, d, rfl, rfl, Nat.le_refl _, by simp, hd, hn, HT.out, World.ownsRow_nil _ _ _ _, by go_grown⟩
  case round =>
    obtain ⟨ys, N, D, rfl, rfl, hg, hl, h0, hN, HE, hown, hB⟩ := hrel
    by_cases hz : D = 0
    · subst hz
      have HQ : Hid ((tms n d).map Prod.fst = ys) := by
        show _ = ys
        rw [HE.out, tms_zero]; simp
      have HL : Hid ((tms n d).length = ys.length) := by show _ = _; rw [← HQ.out]; simp
      go_wp2
      exact bodyPost_ret (results_tmp rfl _ _ _) rfl ⟨_, rfl, by rw [HQ.out, HL.out]; exact hown, hB⟩
    · have p : 0 < D := by omega
      have m0 := Int.emod_nonneg N hz
      have m1 := Int.emod_lt_of_pos N p
      have ee := Int.mul_ediv_add_emod N D
      have HX : Hid ((tms n d).map Prod.fst = (ys ++ [N / D]) ++ (tms D (N % D)).map Prod.fst) := by
        show _ = _
        rw [HE.out, tms_pos N p]; simp
      have F := fun W => rfloor_any N D W hN p (by omega)
      have B := fl_bd hN p
      obtain ⟨s1, s2⟩ := id hN
      obtain ⟨q, hq⟩ : ∃ q, N / D = q := ⟨_, rfl⟩
      obtain ⟨r, hr⟩ : ∃ r, N % D = r := ⟨_, rfl⟩
      rw [hq] at HX F ee B
      rw [hr] at HX m0 m1 ee
      rw [Int.mul_comm] at ee
      obtain ⟨x, hx⟩ : ∃ x, q * D = x := ⟨_, rfl⟩
      rw [hx] at ee
      have x1 : -9223372036854775808 ≤ x ∧ x ≤ 9223372036854775807 := by omega
      have x2 : N - x = r := by omega
      have r1 : r ≤ 9223372036854775807 := by omega
      have hzb : (D != 0) = true := by simpa using hz
      have HD : Hid (D.toNat ≤ gk) := hg
      have HL : Hid (ys.length + D.toNat ≤ d.toNat) := hl
      clear hq hr ee HE hz hg hl
      go_wp2_with (first
        | (go_at_call 25; refine (F _).mono ?_; rintro e w1 ⟨rfl, hb1⟩; replace hB := hB.trans (hb1.mono hB.size); replace hown := owns_of_block hown (fun g hg => hb1.block g (hown.lt g hg).2); clear hb1)
        | (at_builtin; refine wpList_append_own _ rfl _ _ 37 rfl w.heap.size 2 i0 (.int .i64 0) 1 8 Tryd.underlying37 hi hz0 hz1 hz2 rfl (by decide) _ _ _ rfl (hown.alloc _) ⟨w1.heap.size, 0, none⟩ 1 1 [.int .i64 q] rfl rfl ?c1 ?c2 ?c3 ?c4 ?c5 ?_))
      case c1 => exact cell_one_new _ _ _
      case c2 => simp [Value.oneCell']
      case c3 => have := HL.out; unfold maxLen; omega
      case c4 => have := HL.out; omega
      case c5 => have := hB.size; simp; omega
      intro v' w2 hown1 hg1 _
      have hB1 : Below w.heap.size w w2 := (hB.alloc hB.size _).grown hg1 (by have := hB.size; simp; omega) (fun j e => (hown.lt j e).1)
      clear hg1 hown hB
      go_wp2
      go_roundg r.toNat
      case measure => have := HD.out; omega
      case rel =>
        exact ⟨ys ++ [q], D, r, rfl, rfl, Nat.le_refl _, by have := HL.out; simp; omega, m0, by have := HL.out; unfold Sm; omega, HX.out, by simpa using hown1, hB1⟩

end Go.Proofs.YtonndlhppihdiaaDoor
