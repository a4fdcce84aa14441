/-
  The law FracField, walked at every input.
-/
import Derived.Test.YtonndlhppihdiabDoorField0
import Derived.Test.YtonndlhppihdiabDoorField1
import Derived.Test.YtonndlhppihdiabDoorField2
import Derived.Test.YtonndlhppihdiabDoorField3
import Derived.Test.YtonndlhppihdiabDoorRatio
import Derived.Test.YtonndlhppihdiabDoorOrderOut
namespace Go.Proofs.YtonndlhppihdiabDoor
open Go.ChangeShapes Go.WideShapes Go.ChangeAt Go.RowKit
set_option linter.unusedVariables false
set_option linter.unusedSimpArgs false

theorem valid_den {n d : Int} (h : validB n d = true) : Sm n ∧ Sm d ∧ 0 < d := by
  unfold validB at h
  rw [decide_eq_true_eq] at h
  unfold Sm
  omega

/-- Sums do not hang on grouping. -/
theorem assoc {an ad bn bd cn cd : Int} (ha : 0 < ad) (hb : 0 < bd) (hc : 0 < cd) (e : mkE (an * bd + bn * ad) (ad * bd) = 0) (g : mkE (bn * cd + cn * bd) (bd * cd) = 0) :
    mkV (mkN (an * bd + bn * ad) (ad * bd) * cd + cn * mkD (an * bd + bn * ad) (ad * bd)) (mkD (an * bd + bn * ad) (ad * bd) * cd) =
    mkV (an * mkD (bn * cd + cn * bd) (bd * cd) + mkN (bn * cd + cn * bd) (bd * cd) * ad) (ad * mkD (bn * cd + cn * bd) (bd * cd)) := by
  obtain ⟨k1, k2⟩ := mk_eq e
  obtain ⟨l1, l2⟩ := mk_eq g
  generalize mkN (an * bd + bn * ad) (ad * bd) = pn at *
  generalize mkD (an * bd + bn * ad) (ad * bd) = pd at *
  generalize mkN (bn * cd + cn * bd) (bd * cd) = qn at *
  generalize mkD (bn * cd + cn * bd) (bd * cd) = qd at *
  have hne : ad * bd * (bd * cd) ≠ 0 := by have := Int.mul_pos (Int.mul_pos ha hb) (Int.mul_pos hb hc); omega
  have r := mk_ratio (n := pn * cd + cn * pd) (d := pd * cd) (n' := an * qd + qn * ad) (d' := ad * qd) (by have := Int.mul_pos k2 hc; omega) (by have := Int.mul_pos ha l2; omega) (by
    have e1 : (ad * bd * (bd * cd)) * ((pn * cd + cn * pd) * (ad * qd)) = (ad * bd * (bd * cd)) * ((an * qd + qn * ad) * (pd * cd)) := by
      have x1 : (ad * bd * (bd * cd)) * ((pn * cd + cn * pd) * (ad * qd)) = (pn * (ad * bd)) * (bd * cd * cd * ad * qd) + cn * pd * ad * qd * (ad * bd * (bd * cd)) := by grind
      have x2 : (ad * bd * (bd * cd)) * ((an * qd + qn * ad) * (pd * cd)) = (qn * (bd * cd)) * (ad * bd * ad * pd * cd) + an * qd * pd * cd * (ad * bd * (bd * cd)) := by grind
      rw [x1, x2, k1, l1]
      grind
    exact Int.eq_of_mul_eq_mul_left hne e1)
  simp only [mkV, r.1, r.2.1, r.2.2]
/-- Sub takes back Add. -/
theorem back_sub {an ad bn bd : Int} (va : validB an ad = true) (ha : 0 < ad) (hb : 0 < bd) (e : mkE (an * bd + bn * ad) (ad * bd) = 0) :
    mkV (mkN (an * bd + bn * ad) (ad * bd) * bd - bn * mkD (an * bd + bn * ad) (ad * bd)) (mkD (an * bd + bn * ad) (ad * bd) * bd) = .tuple #[fr an ad, .int .i64 0] := by
  obtain ⟨k1, k2⟩ := mk_eq e
  generalize mkN (an * bd + bn * ad) (ad * bd) = pn at *
  generalize mkD (an * bd + bn * ad) (ad * bd) = pd at *
  have r := mk_ratio (n := pn * bd - bn * pd) (d := pd * bd) (n' := an) (d' := ad) (by have := Int.mul_pos k2 hb; omega) (by omega) (by grind)
  have s := mk_self va
  simp only [mkV, r.1, r.2.1, r.2.2, s.1, s.2.1, s.2.2]
/-- Div takes back Mul. -/
theorem back_div {an ad bn bd : Int} (va : validB an ad = true) (ha : 0 < ad) (hb : 0 < bd) (hbn : bn ≠ 0) (e : mkE (an * bn) (ad * bd) = 0) :
    mkV (mkN (an * bn) (ad * bd) * bd) (mkD (an * bn) (ad * bd) * bn) = .tuple #[fr an ad, .int .i64 0] := by
  obtain ⟨k1, k2⟩ := mk_eq e
  generalize mkN (an * bn) (ad * bd) = pn at *
  generalize mkD (an * bn) (ad * bd) = pd at *
  have h0 : pd * bn ≠ 0 := fun h => by rcases Int.mul_eq_zero.1 h with x | x <;> omega
  have r := mk_ratio (n := pn * bd) (d := pd * bn) (n' := an) (d' := ad) h0 (by omega) (by grind)
  have s := mk_self va
  simp only [mkV, r.1, r.2.1, r.2.2, s.1, s.2.1, s.2.2]
/-- A product of a sum is the sum of the products. -/
theorem distrib {an ad bn bd cn cd : Int} (ha : 0 < ad) (hb : 0 < bd) (hc : 0 < cd) (e : mkE (an * bd + bn * ad) (ad * bd) = 0) (f : mkE (an * cn) (ad * cd) = 0) (g : mkE (bn * cn) (bd * cd) = 0) :
    mkV (mkN (an * cn) (ad * cd) * mkD (bn * cn) (bd * cd) + mkN (bn * cn) (bd * cd) * mkD (an * cn) (ad * cd)) (mkD (an * cn) (ad * cd) * mkD (bn * cn) (bd * cd)) =
    mkV (mkN (an * bd + bn * ad) (ad * bd) * cn) (mkD (an * bd + bn * ad) (ad * bd) * cd) := by
  obtain ⟨k1, k2⟩ := mk_eq e
  obtain ⟨l1, l2⟩ := mk_eq f
  obtain ⟨m1, m2⟩ := mk_eq g
  generalize mkN (an * bd + bn * ad) (ad * bd) = pn at *
  generalize mkD (an * bd + bn * ad) (ad * bd) = pd at *
  generalize mkN (an * cn) (ad * cd) = yn at *
  generalize mkD (an * cn) (ad * cd) = yd at *
  generalize mkN (bn * cn) (bd * cd) = zn at *
  generalize mkD (bn * cn) (bd * cd) = zd at *
  have hne : (ad * cd) * (bd * cd) * (ad * bd) ≠ 0 := by have := Int.mul_pos (Int.mul_pos (Int.mul_pos ha hc) (Int.mul_pos hb hc)) (Int.mul_pos ha hb); omega
  have r := mk_ratio (n := yn * zd + zn * yd) (d := yd * zd) (n' := pn * cn) (d' := pd * cd) (by have := Int.mul_pos l2 m2; omega) (by have := Int.mul_pos k2 hc; omega) (by
    have e1 : ((ad * cd) * (bd * cd) * (ad * bd)) * ((yn * zd + zn * yd) * (pd * cd)) = ((ad * cd) * (bd * cd) * (ad * bd)) * ((pn * cn) * (yd * zd)) := by
      have x1 : ((ad * cd) * (bd * cd) * (ad * bd)) * ((yn * zd + zn * yd) * (pd * cd)) = (yn * (ad * cd)) * (zd * pd * cd * (bd * cd) * (ad * bd)) + (zn * (bd * cd)) * (yd * pd * cd * (ad * cd) * (ad * bd)) := by grind
      have x2 : ((ad * cd) * (bd * cd) * (ad * bd)) * ((pn * cn) * (yd * zd)) = (pn * (ad * bd)) * (cn * yd * zd * (ad * cd) * (bd * cd)) := by grind
      rw [x1, x2, k1, l1, m1]
      grind
    exact Int.eq_of_mul_eq_mul_left hne e1)
  simp only [mkV, r.1, r.2.1, r.2.2]

set_option maxHeartbeats 1000000 in
theorem field_walk (an ad bn bd cn cd : Int) (w : World) (h1 : I64 an) (h2 : I64 ad) (h3 : I64 bn) (h4 : I64 bd) (h5 : I64 cn) (h6 : I64 cd) (ht : Tab w) :
    Calls Tryd.prog 4 #[fr an ad, fr bn bd, fr cn cd] w fun e w' => e = .returned (.bool true) ∧ Below w.heap.size w w' := by
  have Va := fun W => rvalid_any an ad W h1.1 h1.2 h2.1 h2.2
  have Vb := fun W => rvalid_any bn bd W h3.1 h3.2 h4.1 h4.2
  have Vc := fun W => rvalid_any cn cd W h5.1 h5.2 h6.1 h6.2
  cases va : validB an ad with
  | false =>
    rw [va] at Va
    exact field_out an ad bn bd cn cd false (validB bn bd) (validB cn cd) (.inl rfl) w ht Va Vb Vc
  | true =>
  rw [va] at Va
  cases vb : validB bn bd with
  | false =>
    rw [vb] at Vb
    exact field_out an ad bn bd cn cd true false (validB cn cd) (.inr (.inl ⟨rfl, rfl⟩)) w ht Va Vb Vc
  | true =>
  rw [vb] at Vb
  cases vc : validB cn cd with
  | false =>
    rw [vc] at Vc
    exact field_out an ad bn bd cn cd true true false (.inr (.inr ⟨rfl, rfl, rfl⟩)) w ht Va Vb Vc
  | true =>
  rw [vc] at Vc
  obtain ⟨s1, s2, p1⟩ := valid_den va
  obtain ⟨s3, s4, p2⟩ := valid_den vb
  obtain ⟨s5, s6, p3⟩ := valid_den vc
  have mp := mk_sm (an * bd + bn * ad) (ad * bd)
  have mq := mk_sm (bn * cd + cn * bd) (bd * cd)
  have mm := mk_sm (an * bn) (ad * bd)
  have my := mk_sm (an * cn) (ad * cd)
  have mz := mk_sm (bn * cn) (bd * cd)
  have P := fun W => add_any an ad bn bd W s1 s2 s3 s4
  have P2 := fun W => add_any bn bd an ad W s3 s4 s1 s2
  rw [show bn * ad + an * bd = an * bd + bn * ad by omega, Int.mul_comm bd ad] at P2
  have Q := fun W => add_any bn bd cn cd W s3 s4 s5 s6
  have L := fun W => add_any (mkN (an * bd + bn * ad) (ad * bd)) (mkD (an * bd + bn * ad) (ad * bd)) cn cd W mp.1 mp.2 s5 s6
  have R := fun W => add_any an ad (mkN (bn * cd + cn * bd) (bd * cd)) (mkD (bn * cd + cn * bd) (bd * cd)) W s1 s2 mq.1 mq.2
  have K := fun W => sub_any (mkN (an * bd + bn * ad) (ad * bd)) (mkD (an * bd + bn * ad) (ad * bd)) bn bd W mp.1 mp.2 s3 s4
  have M := fun W => mul_any an ad bn bd W s1 s2 s3 s4
  have O := fun W => div_any (mkN (an * bn) (ad * bd)) (mkD (an * bn) (ad * bd)) bn bd W mm.1 mm.2 s3 s4
  have X := fun W => mul_any (mkN (an * bd + bn * ad) (ad * bd)) (mkD (an * bd + bn * ad) (ad * bd)) cn cd W mp.1 mp.2 s5 s6
  have Y := fun W => mul_any an ad cn cd W s1 s2 s5 s6
  have Z := fun W => mul_any bn bd cn cd W s3 s4 s5 s6
  have S := fun W => add_any (mkN (an * cn) (ad * cd)) (mkD (an * cn) (ad * cd)) (mkN (bn * cn) (bd * cd)) (mkD (bn * cn) (bd * cd)) W my.1 my.2 mz.1 mz.2
  by_cases he : mkE (an * bd + bn * ad) (ad * bd) = 0
  · have HK := back_sub va p1 p2 he
    rw [HK] at K
    by_cases hg : mkE (bn * cd + cn * bd) (bd * cd) = 0
    · have HA := assoc p1 p2 p3 he hg
      rw [← HA] at R
      simp only [mkV, he] at P P2
      simp only [mkV, hg] at Q
      by_cases hm : mkE (an * bn) (ad * bd) = 0
      · have M' := M
        by_cases hbn : bn = 0
        · simp only [mkV, hm] at M
          subst hbn
          by_cases hy : mkE (an * cn) (ad * cd) = 0
          · by_cases hz : mkE (0 * cn) (bd * cd) = 0
            · have HS := distrib p1 p2 p3 he hy hz
              rw [HS] at S
              simp only [mkV, hy, hz] at Y Z
              exact field_p_p_z_ok _ _ 0 _ _ _ _ _ 0 _ _ 0 _ _ _ 0 0 0 0 0 0 _ _ 0 _ _ _ _ _ _ _ _ 0 _ _ 0 w ht Va Vb Vc P P2 Q L R K M O X Y Z S
            · simp only [mkV, hy] at Y
              exact field_p_p_z_n _ _ 0 _ _ _ _ _ 0 _ _ 0 _ _ _ 0 0 0 0 0 0 _ _ 0 _ _ _ _ _ _ _ _ 0 _ _ _ w ht Va Vb Vc P P2 Q L R K M O X Y Z (by simpa using hz)
          · skip
            exact field_p_p_z_m _ _ 0 _ _ _ _ _ 0 _ _ 0 _ _ _ 0 0 0 0 0 0 _ _ 0 _ _ _ _ _ _ _ _ _ _ _ _ w ht Va Vb Vc P P2 Q L R K M O X Y Z (by simpa using hy)
        · have HO := back_div va p1 p2 hbn hm
          rw [HO] at O
          simp only [mkV, hm] at M
          by_cases hy : mkE (an * cn) (ad * cd) = 0
          · by_cases hz : mkE (bn * cn) (bd * cd) = 0
            · have HS := distrib p1 p2 p3 he hy hz
              rw [HS] at S
              simp only [mkV, hy, hz] at Y Z
              exact field_p_p_ok_ok _ _ _ _ _ _ _ _ 0 _ _ 0 _ _ _ 0 0 0 0 0 0 _ _ 0 0 0 0 _ _ _ _ _ 0 _ _ 0 w ht (by simpa using hbn) Va Vb Vc P P2 Q L R K M O X Y Z S
            · simp only [mkV, hy] at Y
              exact field_p_p_ok_n _ _ _ _ _ _ _ _ 0 _ _ 0 _ _ _ 0 0 0 0 0 0 _ _ 0 0 0 0 _ _ _ _ _ 0 _ _ _ w ht (by simpa using hbn) Va Vb Vc P P2 Q L R K M O X Y Z (by simpa using hz)
          · skip
            exact field_p_p_ok_m _ _ _ _ _ _ _ _ 0 _ _ 0 _ _ _ 0 0 0 0 0 0 _ _ 0 0 0 0 _ _ _ _ _ _ _ _ _ w ht (by simpa using hbn) Va Vb Vc P P2 Q L R K M O X Y Z (by simpa using hy)
      · skip
        by_cases hy : mkE (an * cn) (ad * cd) = 0
        · by_cases hz : mkE (bn * cn) (bd * cd) = 0
          · have HS := distrib p1 p2 p3 he hy hz
            rw [HS] at S
            simp only [mkV, hy, hz] at Y Z
            exact field_p_p_k_ok _ _ _ _ _ _ _ _ 0 _ _ 0 _ _ _ 0 0 0 0 0 0 _ _ _ _ _ _ _ _ _ _ _ 0 _ _ 0 w ht Va Vb Vc P P2 Q L R K (by simpa using hm) M O X Y Z S
          · simp only [mkV, hy] at Y
            exact field_p_p_k_n _ _ _ _ _ _ _ _ 0 _ _ 0 _ _ _ 0 0 0 0 0 0 _ _ _ _ _ _ _ _ _ _ _ 0 _ _ _ w ht Va Vb Vc P P2 Q L R K (by simpa using hm) M O X Y Z (by simpa using hz)
        · skip
          exact field_p_p_k_m _ _ _ _ _ _ _ _ 0 _ _ 0 _ _ _ 0 0 0 0 0 0 _ _ _ _ _ _ _ _ _ _ _ _ _ _ _ w ht Va Vb Vc P P2 Q L R K (by simpa using hm) M O X Y Z (by simpa using hy)
    · simp only [mkV, he] at P P2
      by_cases hm : mkE (an * bn) (ad * bd) = 0
      · have M' := M
        by_cases hbn : bn = 0
        · simp only [mkV, hm] at M
          subst hbn
          by_cases hy : mkE (an * cn) (ad * cd) = 0
          · by_cases hz : mkE (0 * cn) (bd * cd) = 0
            · have HS := distrib p1 p2 p3 he hy hz
              rw [HS] at S
              simp only [mkV, hy, hz] at Y Z
              exact field_p_e_z_ok _ _ 0 _ _ _ _ _ 0 _ _ _ _ _ _ _ _ _ 0 0 0 _ _ 0 _ _ _ _ _ _ _ _ 0 _ _ 0 w ht (by simpa using hg) Va Vb Vc P P2 Q L R K M O X Y Z S
            · simp only [mkV, hy] at Y
              exact field_p_e_z_n _ _ 0 _ _ _ _ _ 0 _ _ _ _ _ _ _ _ _ 0 0 0 _ _ 0 _ _ _ _ _ _ _ _ 0 _ _ _ w ht (by simpa using hg) Va Vb Vc P P2 Q L R K M O X Y Z (by simpa using hz)
          · skip
            exact field_p_e_z_m _ _ 0 _ _ _ _ _ 0 _ _ _ _ _ _ _ _ _ 0 0 0 _ _ 0 _ _ _ _ _ _ _ _ _ _ _ _ w ht (by simpa using hg) Va Vb Vc P P2 Q L R K M O X Y Z (by simpa using hy)
        · have HO := back_div va p1 p2 hbn hm
          rw [HO] at O
          simp only [mkV, hm] at M
          by_cases hy : mkE (an * cn) (ad * cd) = 0
          · by_cases hz : mkE (bn * cn) (bd * cd) = 0
            · have HS := distrib p1 p2 p3 he hy hz
              rw [HS] at S
              simp only [mkV, hy, hz] at Y Z
              exact field_p_e_ok_ok _ _ _ _ _ _ _ _ 0 _ _ _ _ _ _ _ _ _ 0 0 0 _ _ 0 0 0 0 _ _ _ _ _ 0 _ _ 0 w ht (by simpa using hbn) (by simpa using hg) Va Vb Vc P P2 Q L R K M O X Y Z S
            · simp only [mkV, hy] at Y
              exact field_p_e_ok_n _ _ _ _ _ _ _ _ 0 _ _ _ _ _ _ _ _ _ 0 0 0 _ _ 0 0 0 0 _ _ _ _ _ 0 _ _ _ w ht (by simpa using hbn) (by simpa using hg) Va Vb Vc P P2 Q L R K M O X Y Z (by simpa using hz)
          · skip
            exact field_p_e_ok_m _ _ _ _ _ _ _ _ 0 _ _ _ _ _ _ _ _ _ 0 0 0 _ _ 0 0 0 0 _ _ _ _ _ _ _ _ _ w ht (by simpa using hbn) (by simpa using hg) Va Vb Vc P P2 Q L R K M O X Y Z (by simpa using hy)
      · skip
        by_cases hy : mkE (an * cn) (ad * cd) = 0
        · by_cases hz : mkE (bn * cn) (bd * cd) = 0
          · have HS := distrib p1 p2 p3 he hy hz
            rw [HS] at S
            simp only [mkV, hy, hz] at Y Z
            exact field_p_e_k_ok _ _ _ _ _ _ _ _ 0 _ _ _ _ _ _ _ _ _ 0 0 0 _ _ _ _ _ _ _ _ _ _ _ 0 _ _ 0 w ht (by simpa using hg) Va Vb Vc P P2 Q L R K (by simpa using hm) M O X Y Z S
          · simp only [mkV, hy] at Y
            exact field_p_e_k_n _ _ _ _ _ _ _ _ 0 _ _ _ _ _ _ _ _ _ 0 0 0 _ _ _ _ _ _ _ _ _ _ _ 0 _ _ _ w ht (by simpa using hg) Va Vb Vc P P2 Q L R K (by simpa using hm) M O X Y Z (by simpa using hz)
        · skip
          exact field_p_e_k_m _ _ _ _ _ _ _ _ 0 _ _ _ _ _ _ _ _ _ 0 0 0 _ _ _ _ _ _ _ _ _ _ _ _ _ _ _ w ht (by simpa using hg) Va Vb Vc P P2 Q L R K (by simpa using hm) M O X Y Z (by simpa using hy)
  · skip
    by_cases hm : mkE (an * bn) (ad * bd) = 0
    · have M' := M
      by_cases hbn : bn = 0
      · simp only [mkV, hm] at M
        subst hbn
        exact field_e_e_z_n _ _ 0 _ _ _ _ _ _ _ _ _ _ _ _ _ _ _ _ _ _ _ _ 0 _ _ _ _ _ _ _ _ _ _ _ _ w ht (by simpa using he) (by simpa using he) Va Vb Vc P P2 Q L R K M O X Y Z
      · have HO := back_div va p1 p2 hbn hm
        rw [HO] at O
        simp only [mkV, hm] at M
        exact field_e_e_ok_n _ _ _ _ _ _ _ _ _ _ _ _ _ _ _ _ _ _ _ _ _ _ _ 0 0 0 0 _ _ _ _ _ _ _ _ _ w ht (by simpa using hbn) (by simpa using he) (by simpa using he) Va Vb Vc P P2 Q L R K M O X Y Z
    · skip
      exact field_e_e_k_n _ _ _ _ _ _ _ _ _ _ _ _ _ _ _ _ _ _ _ _ _ _ _ _ _ _ _ _ _ _ _ _ _ _ _ _ w ht (by simpa using he) (by simpa using he) Va Vb Vc P P2 Q L R K (by simpa using hm) M O X Y Z

end Go.Proofs.YtonndlhppihdiabDoor
