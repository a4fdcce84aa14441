/-
  The law FracReckons, walked at every input.
-/
import Derived.Test.YtonndlhppihdiaaDoorReck
namespace Go.Proofs.YtonndlhppihdiaaDoor
open Go.ChangeShapes Go.WideShapes Go.ChangeAt Go.RowKit
set_option linter.unusedVariables false
set_option linter.unusedSimpArgs false

theorem valid_sm {n d : Int} (h : validB n d = true) : Sm n ∧ Sm d ∧ 0 < d ∧ mkG n d = 1 := by
  unfold validB at h
  rw [decide_eq_true_eq] at h
  unfold Sm
  omega

set_option maxRecDepth 100000 in
set_option maxHeartbeats 1000000 in
theorem reck_out (an ad bn bd : Int) (va vb : Bool) (hv : va = false ∨ (va = true ∧ vb = false)) (w : World) (ht : Tab w)
    (VA : Hid (∀ W, Calls Tryd.prog 12 #[fr an ad] W fun e w' => e = .returned (.bool va) ∧ Below W.heap.size W w'))
    (VB : Hid (∀ W, Calls Tryd.prog 12 #[fr bn bd] W fun e w' => e = .returned (.bool vb) ∧ Below W.heap.size W w')) :
    Calls Tryd.prog 4 #[fr an ad, fr bn bd] w fun e w' => e = .returned (.bool true) ∧ Below w.heap.size w w' := by
  have J := ((Env.start ht).push an ad).push bn bd
  rw [World.size_alloc] at J
  go_enter Tryd.func4, Tryd.ntmps4
  go_wp2_with fail
  refine (VA.out _).mono ?_
  rintro e w1 ⟨rfl, hb⟩
  replace J := J.below hb
  clear hb
  obtain ⟨_, _, _, _, _⟩ := id (J.two (w.heap.size + 1, bn, bd) (by simp))
  rcases hv with rfl | ⟨rfl, rfl⟩
  · go_wp2_with fail
    refine (awake_any _ J.tab).mono ?_
    rintro e w2 ⟨rfl, hb⟩
    go_wp2_with fail
    go_ret
    exact ⟨rfl, (J.below hb).old⟩
  · go_wp2_with fail
    refine (VB.out _).mono ?_
    rintro e w2 ⟨rfl, hb⟩
    replace J := J.below hb
    go_wp2_with fail
    refine (awake_any _ J.tab).mono ?_
    rintro e w3 ⟨rfl, hb⟩
    go_wp2_with fail
    go_ret
    exact ⟨rfl, (J.below hb).old⟩

theorem reck_walk (an ad bn bd : Int) (w : World) (h1 : I64 an) (h2 : I64 ad) (h3 : I64 bn) (h4 : I64 bd) (ht : Tab w) :
    Calls Tryd.prog 4 #[fr an ad, fr bn bd] w fun e w' => e = .returned (.bool true) ∧ Below w.heap.size w w' := by
  have VA := fun W => rvalid_any an ad W h1.1 h1.2 h2.1 h2.2
  have VB := fun W => rvalid_any bn bd W h3.1 h3.2 h4.1 h4.2
  cases ha : validB an ad with
  | false =>
    rw [ha] at VA
    exact reck_out an ad bn bd false (validB bn bd) (.inl rfl) w ht VA VB
  | true =>
    rw [ha] at VA
    cases hb : validB bn bd with
    | false =>
      rw [hb] at VB
      exact reck_out an ad bn bd true false (.inr ⟨rfl, rfl⟩) w ht VA VB
    | true =>
      rw [hb] at VB
      obtain ⟨s1, s2, _, _⟩ := valid_sm ha
      obtain ⟨s3, s4, _, _⟩ := valid_sm hb
      exact reck_in an ad bn bd (mkN (an * bd + bn * ad) (ad * bd)) (mkD (an * bd + bn * ad) (ad * bd)) (mkE (an * bd + bn * ad) (ad * bd)) (mkN (an * bd - bn * ad) (ad * bd)) (mkD (an * bd - bn * ad) (ad * bd)) (mkE (an * bd - bn * ad) (ad * bd)) (mkN (an * bn) (ad * bd)) (mkD (an * bn) (ad * bd)) (mkE (an * bn) (ad * bd)) (mkN (an * bd) (ad * bn)) (mkD (an * bd) (ad * bn)) (mkE (an * bd) (ad * bn)) (cmpV (an * bd) (bn * ad)) w ht VA VB
        (fun W => add_any an ad bn bd W s1 s2 s3 s4) (fun W => radd_any an ad bn bd W s1 s2 s3 s4) (fun W => sub_any an ad bn bd W s1 s2 s3 s4) (fun W => rsub_any an ad bn bd W s1 s2 s3 s4) (fun W => mul_any an ad bn bd W s1 s2 s3 s4) (fun W => rmul_any an ad bn bd W s1 s2 s3 s4) (fun W => div_any an ad bn bd W s1 s2 s3 s4) (fun W => rdiv_any an ad bn bd W s1 s2 s3 s4)
        (fun W => cmp_any an ad bn bd W s1 s2 s3 s4) (fun W => rcmp_any an ad bn bd W s1 s2 s3 s4)

end Go.Proofs.YtonndlhppihdiaaDoor
