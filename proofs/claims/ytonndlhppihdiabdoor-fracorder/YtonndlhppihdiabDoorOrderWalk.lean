/-
  The law FracOrder, walked at every input.
-/
import Derived.Test.YtonndlhppihdiabDoorOrder0
import Derived.Test.YtonndlhppihdiabDoorOrder1
import Derived.Test.YtonndlhppihdiabDoorOrder2
import Derived.Test.YtonndlhppihdiabDoorOrder3
import Derived.Test.YtonndlhppihdiabDoorRatio
import Derived.Test.YtonndlhppihdiabDoorOrderOut
namespace Go.Proofs.YtonndlhppihdiabDoor
open Go.ChangeShapes Go.WideShapes Go.ChangeAt Go.RowKit
set_option linter.unusedVariables false
set_option linter.unusedSimpArgs false

theorem cmp_scale {p q u v K L : Int} (hK : 0 < K) (hL : 0 < L) (h : K * (p - q) = L * (u - v)) : cmpV p q = cmpV u v := by
  unfold cmpV
  rcases Int.lt_trichotomy p q with a | a | a
  · have h1 : K * (p - q) < 0 := Int.mul_neg_of_pos_of_neg hK (by omega)
    rcases Int.lt_trichotomy u v with b | b | b
    · rw [if_pos a, if_pos b]
    · have : u - v = 0 := by omega
      rw [this] at h; omega
    · have : 0 < L * (u - v) := Int.mul_pos hL (by omega)
      omega
  · have h1 : p - q = 0 := by omega
    rw [h1, Int.mul_zero] at h
    rcases Int.mul_eq_zero.1 h.symm with x | x
    · omega
    · rw [if_neg (by omega), if_neg (by omega), if_neg (by omega), if_neg (by omega)]
  · have h1 : 0 < K * (p - q) := Int.mul_pos hK (by omega)
    rcases Int.lt_trichotomy u v with b | b | b
    · have : L * (u - v) < 0 := Int.mul_neg_of_pos_of_neg hL (by omega)
      omega
    · have : u - v = 0 := by omega
      rw [this] at h; omega
    · rw [if_neg (by omega), if_pos a, if_neg (by omega), if_pos b]
theorem cmp_flip (p q : Int) : cmpV q p = -cmpV p q := by
  unfold cmpV
  rcases Int.lt_trichotomy p q with a | a | a
  · rw [if_neg (by omega), if_pos a, if_pos a]; rfl
  · subst a; simp
  · rw [if_pos a, if_neg (by omega), if_pos a]
theorem cmp_sign (p q : Int) : (cmpV p q = 1 ∧ q < p) ∨ (cmpV p q = 0 ∧ p = q) ∨ (cmpV p q = -1 ∧ p < q) := by
  unfold cmpV
  rcases Int.lt_trichotomy p q with a | a | a
  · rw [if_pos a]; exact .inr (.inr ⟨rfl, a⟩)
  · subst a; simp
  · rw [if_neg (by omega), if_pos a]; exact .inl ⟨rfl, a⟩
theorem trans_le {an ad bn bd cn cd : Int} (ha : 0 < ad) (hb : 0 < bd) (hc : 0 < cd) (h1 : an * bd ≤ bn * ad) (h2 : bn * cd ≤ cn * bd) : an * cd ≤ cn * ad := by
  have e1 : an * bd * cd ≤ bn * ad * cd := Int.mul_le_mul_of_nonneg_right h1 (by omega)
  have e2 : bn * cd * ad ≤ cn * bd * ad := Int.mul_le_mul_of_nonneg_right h2 (by omega)
  have e3 : bd * (an * cd) ≤ bd * (cn * ad) := by grind
  exact Int.le_of_mul_le_mul_left e3 hb
theorem eq_of_cross {an ad bn bd : Int} (va : validB an ad = true) (vb : validB bn bd = true) (h : an * bd = bn * ad) : an = bn ∧ ad = bd := by
  have da : ad ≠ 0 := by unfold validB at va; rw [decide_eq_true_eq] at va; omega
  have db : bd ≠ 0 := by unfold validB at vb; rw [decide_eq_true_eq] at vb; omega
  have r := mk_ratio da db h
  rw [(mk_self va).1, (mk_self va).2.1, (mk_self vb).1, (mk_self vb).2.1] at r
  exact ⟨r.1, r.2.1⟩
theorem sub_sign {p q m dn dd : Int} (hm : 0 < m) (hd : 0 < dd) (h : dn * m = (p - q) * dd) : (q < p → 0 < dn) ∧ (p < q → dn < 0) ∧ (p = q → dn = 0) := by
  refine ⟨fun a => ?_, fun a => ?_, fun a => ?_⟩
  · have : 0 < (p - q) * dd := Int.mul_pos (by omega) hd
    rcases Int.lt_trichotomy dn 0 with x | x | x
    · have := Int.mul_neg_of_neg_of_pos x hm; omega
    · subst x; omega
    · exact x
  · have : (p - q) * dd < 0 := Int.mul_neg_of_neg_of_pos (by omega) hd
    rcases Int.lt_trichotomy dn 0 with x | x | x
    · exact x
    · subst x; omega
    · have := Int.mul_pos x hm; omega
  · subst a
    rw [Int.sub_self, Int.zero_mul] at h
    rcases Int.mul_eq_zero.1 h with x | x
    · exact x
    · omega

theorem valid_pos {n d : Int} (h : validB n d = true) : Sm n ∧ Sm d ∧ 0 < d := by
  unfold validB at h
  rw [decide_eq_true_eq] at h
  unfold Sm
  omega

theorem order_walk (an ad bn bd cn cd : Int) (w : World) (h1 : I64 an) (h2 : I64 ad) (h3 : I64 bn) (h4 : I64 bd) (h5 : I64 cn) (h6 : I64 cd) (ht : Tab w) :
    Calls Tryd.prog 5 #[fr an ad, fr bn bd, fr cn cd] w fun e w' => e = .returned (.bool true) ∧ Below w.heap.size w w' := by
  have Va := fun W => rvalid_any an ad W h1.1 h1.2 h2.1 h2.2
  have Vb := fun W => rvalid_any bn bd W h3.1 h3.2 h4.1 h4.2
  have Vc := fun W => rvalid_any cn cd W h5.1 h5.2 h6.1 h6.2
  cases va : validB an ad with
  | false =>
    rw [va] at Va
    exact order_out an ad bn bd cn cd false (validB bn bd) (validB cn cd) (.inl rfl) w ht Va Vb Vc
  | true =>
  rw [va] at Va
  cases vb : validB bn bd with
  | false =>
    rw [vb] at Vb
    exact order_out an ad bn bd cn cd true false (validB cn cd) (.inr (.inl ⟨rfl, rfl⟩)) w ht Va Vb Vc
  | true =>
  rw [vb] at Vb
  cases vc : validB cn cd with
  | false =>
    rw [vc] at Vc
    exact order_out an ad bn bd cn cd true true false (.inr (.inr ⟨rfl, rfl, rfl⟩)) w ht Va Vb Vc
  | true =>
  rw [vc] at Vc
  obtain ⟨s1, s2, p1⟩ := valid_pos va
  obtain ⟨s3, s4, p2⟩ := valid_pos vb
  obtain ⟨s5, s6, p3⟩ := valid_pos vc
  have C1 := fun W => cmp_any an ad bn bd W s1 s2 s3 s4
  have C2 := fun W => cmp_any bn bd an ad W s3 s4 s1 s2
  have C3 := fun W => cmp_any bn bd cn cd W s3 s4 s5 s6
  have C4 := fun W => cmp_any an ad cn cd W s1 s2 s5 s6
  have S := fun W => sub_any an ad bn bd W s1 s2 s3 s4
  have A1 := fun W => add_any an ad cn cd W s1 s2 s5 s6
  have A2 := fun W => add_any bn bd cn cd W s3 s4 s5 s6
  have ms := mk_sm (an * cd + cn * ad) (ad * cd)
  have mt := mk_sm (bn * cd + cn * bd) (bd * cd)
  have C5 := fun W => cmp_any (mkN (an * cd + cn * ad) (ad * cd)) (mkD (an * cd + cn * ad) (ad * cd)) (mkN (bn * cd + cn * bd) (bd * cd)) (mkD (bn * cd + cn * bd) (bd * cd)) W ms.1 ms.2 mt.1 mt.2
  have hab : 0 < ad * bd := Int.mul_pos p1 p2
  have hac : 0 < ad * cd := Int.mul_pos p1 p3
  have hbc : 0 < bd * cd := Int.mul_pos p2 p3
  rw [cmp_flip (an * bd) (bn * ad)] at C2
  have HS : mkE (an * bd - bn * ad) (ad * bd) = 0 → (bn * ad < an * bd → 0 < mkN (an * bd - bn * ad) (ad * bd)) ∧ (an * bd < bn * ad → mkN (an * bd - bn * ad) (ad * bd) < 0) ∧ (an * bd = bn * ad → mkN (an * bd - bn * ad) (ad * bd) = 0) := fun e => by
    have k := mk_eq e
    exact sub_sign hab k.2 k.1
  have HC : mkE (an * cd + cn * ad) (ad * cd) = 0 → mkE (bn * cd + cn * bd) (bd * cd) = 0 → cmpV (mkN (an * cd + cn * ad) (ad * cd) * mkD (bn * cd + cn * bd) (bd * cd)) (mkN (bn * cd + cn * bd) (bd * cd) * mkD (an * cd + cn * ad) (ad * cd)) = cmpV (an * bd) (bn * ad) := fun e f => by
    have k := mk_eq e
    have l := mk_eq f
    generalize mkN (an * cd + cn * ad) (ad * cd) = sn at *
    generalize mkD (an * cd + cn * ad) (ad * cd) = sd at *
    generalize mkN (bn * cd + cn * bd) (bd * cd) = tn at *
    generalize mkD (bn * cd + cn * bd) (bd * cd) = td at *
    refine cmp_scale (K := ad * cd * (bd * cd)) (L := sd * td * (cd * cd)) (Int.mul_pos hac hbc) (Int.mul_pos (Int.mul_pos k.2 l.2) (Int.mul_pos p3 p3)) ?_
    obtain ⟨k1, _⟩ := k
    obtain ⟨l1, _⟩ := l
    have e1 : ad * cd * (bd * cd) * (sn * td - tn * sd) = (sn * (ad * cd)) * td * (bd * cd) - (tn * (bd * cd)) * sd * (ad * cd) := by grind
    rw [e1, k1, l1]
    grind
  have HT : cmpV (an * bd) (bn * ad) ≤ 0 → cmpV (bn * cd) (cn * bd) ≤ 0 → cmpV (an * cd) (cn * ad) ≤ 0 := fun a b => by
    have u : an * bd ≤ bn * ad := by rcases cmp_sign (an * bd) (bn * ad) with x | x | x <;> omega
    have v : bn * cd ≤ cn * bd := by rcases cmp_sign (bn * cd) (cn * bd) with x | x | x <;> omega
    have := trans_le p1 p2 p3 u v
    rcases cmp_sign (an * cd) (cn * ad) with x | x | x <;> omega
  have HE : an * bd = bn * ad → an = bn ∧ ad = bd := eq_of_cross va vb
  obtain ⟨se, hse⟩ : ∃ se, mkE (an * cd + cn * ad) (ad * cd) = se := ⟨_, rfl⟩
  obtain ⟨te, hte⟩ : ∃ te, mkE (bn * cd + cn * bd) (bd * cd) = te := ⟨_, rfl⟩
  obtain ⟨de, hde⟩ : ∃ de, mkE (an * bd - bn * ad) (ad * bd) = de := ⟨_, rfl⟩
  obtain ⟨x, hx⟩ : ∃ x, cmpV (an * bd) (bn * ad) = x := ⟨_, rfl⟩
  obtain ⟨y, hy⟩ : ∃ y, cmpV (bn * cd) (cn * bd) = y := ⟨_, rfl⟩
  obtain ⟨z, hz⟩ : ∃ z, cmpV (an * cd) (cn * ad) = z := ⟨_, rfl⟩
  simp only [mkV, hse, hte, hde, hx, hy, hz] at C1 C2 C3 C4 S A1 A2 HS HC HT
  have SX := cmp_sign (an * bd) (bn * ad)
  rw [hx] at SX
  have hst : an = bn ∧ ad = bd → se = te := by
    rintro ⟨e, f⟩
    rw [← hse, ← hte, e, f]
  clear hse hte hde hx hy hz va vb vc
  rcases SX with ⟨X1, X2⟩ | ⟨X1, X2⟩ | ⟨X1, X2⟩
  · subst X1
    by_cases hn : an = bn
    · subst hn
      have hm : ¬ ad = bd := fun e => by subst e; omega
      by_cases hde : de = 0
      · subst hde
        have HD := (HS rfl).1 X2
        by_cases hse : se = 0
        · subst hse
          by_cases hte : te = 0
          · subst hte
            have HH := HC rfl rfl
            rw [HH] at C5
            exact order_p_den_n_d_ok _ _ 0 _ _ _ 0 0 _ _ 0 _ _ 0 _ _ 0 w ht (by simpa using hm) Va Vb Vc C1 C2 S HD A1 A2 C5
          · skip
            exact order_p_den_n_d_t _ _ 0 _ _ _ 0 0 _ _ 0 _ _ 0 _ _ _ w ht (by simpa using hm) Va Vb Vc C1 C2 S HD A1 A2 (by simpa using hte)
        · skip
          exact order_p_den_n_d_s _ _ 0 _ _ _ 0 0 _ _ 0 _ _ _ _ _ _ w ht (by simpa using hm) Va Vb Vc C1 C2 S HD A1 A2 (by simpa using hse)
      · skip
        by_cases hse : se = 0
        · subst hse
          by_cases hte : te = 0
          · subst hte
            have HH := HC rfl rfl
            rw [HH] at C5
            exact order_p_den_n_e_ok _ _ 0 _ _ _ 0 0 _ _ _ _ _ 0 _ _ 0 w ht (by simpa using hm) Va Vb Vc C1 C2 S (by simpa using hde) A1 A2 C5
          · skip
            exact order_p_den_n_e_t _ _ 0 _ _ _ 0 0 _ _ _ _ _ 0 _ _ _ w ht (by simpa using hm) Va Vb Vc C1 C2 S (by simpa using hde) A1 A2 (by simpa using hte)
        · skip
          exact order_p_den_n_e_s _ _ 0 _ _ _ 0 0 _ _ _ _ _ _ _ _ _ w ht (by simpa using hm) Va Vb Vc C1 C2 S (by simpa using hde) A1 A2 (by simpa using hse)
    · skip
      by_cases hde : de = 0
      · subst hde
        have HD := (HS rfl).1 X2
        by_cases hse : se = 0
        · subst hse
          by_cases hte : te = 0
          · subst hte
            have HH := HC rfl rfl
            rw [HH] at C5
            exact order_p_num_n_d_ok _ _ _ _ _ _ 0 0 _ _ 0 _ _ 0 _ _ 0 w ht (by simpa using hn) Va Vb Vc C1 C2 S HD A1 A2 C5
          · skip
            exact order_p_num_n_d_t _ _ _ _ _ _ 0 0 _ _ 0 _ _ 0 _ _ _ w ht (by simpa using hn) Va Vb Vc C1 C2 S HD A1 A2 (by simpa using hte)
        · skip
          exact order_p_num_n_d_s _ _ _ _ _ _ 0 0 _ _ 0 _ _ _ _ _ _ w ht (by simpa using hn) Va Vb Vc C1 C2 S HD A1 A2 (by simpa using hse)
      · skip
        by_cases hse : se = 0
        · subst hse
          by_cases hte : te = 0
          · subst hte
            have HH := HC rfl rfl
            rw [HH] at C5
            exact order_p_num_n_e_ok _ _ _ _ _ _ 0 0 _ _ _ _ _ 0 _ _ 0 w ht (by simpa using hn) Va Vb Vc C1 C2 S (by simpa using hde) A1 A2 C5
          · skip
            exact order_p_num_n_e_t _ _ _ _ _ _ 0 0 _ _ _ _ _ 0 _ _ _ w ht (by simpa using hn) Va Vb Vc C1 C2 S (by simpa using hde) A1 A2 (by simpa using hte)
        · skip
          exact order_p_num_n_e_s _ _ _ _ _ _ 0 0 _ _ _ _ _ _ _ _ _ w ht (by simpa using hn) Va Vb Vc C1 C2 S (by simpa using hde) A1 A2 (by simpa using hse)
  · subst X1
    obtain ⟨rfl, rfl⟩ := HE X2
    by_cases hy : y ≤ 0
    · skip
      by_cases hde : de = 0
      · subst hde
        rw [(HS rfl).2.2 X2] at S
        by_cases hse : se = 0
        · subst hse
          have HH := HC rfl (hst ⟨rfl, rfl⟩).symm
          rw [HH] at C5
          exact order_z_same_le_d_ok _ _ 0 0 _ _ _ 0 0 _ 0 _ _ 0 0 0 0 w ht Va Vc C1 C3 hy S A1 C5
        · skip
          exact order_z_same_le_d_s _ _ 0 0 _ _ _ 0 0 _ 0 _ _ _ 0 0 0 w ht Va Vc C1 C3 hy S A1 (by simpa using hse)
      · skip
        by_cases hse : se = 0
        · subst hse
          have HH := HC rfl (hst ⟨rfl, rfl⟩).symm
          rw [HH] at C5
          exact order_z_same_le_e_ok _ _ 0 0 _ _ _ 0 _ _ _ _ _ 0 0 0 0 w ht Va Vc C1 C3 hy S (by simpa using hde) A1 C5
        · skip
          exact order_z_same_le_e_s _ _ 0 0 _ _ _ 0 _ _ _ _ _ _ 0 0 0 w ht Va Vc C1 C3 hy S (by simpa using hde) A1 (by simpa using hse)
    · have hy : 0 < y := by omega
      by_cases hde : de = 0
      · subst hde
        rw [(HS rfl).2.2 X2] at S
        by_cases hse : se = 0
        · subst hse
          have HH := HC rfl (hst ⟨rfl, rfl⟩).symm
          rw [HH] at C5
          exact order_z_same_gt_d_ok _ _ 0 0 _ _ _ 0 0 _ 0 _ _ 0 0 0 0 w ht Va Vc C1 C3 hy S A1 C5
        · skip
          exact order_z_same_gt_d_s _ _ 0 0 _ _ _ 0 0 _ 0 _ _ _ 0 0 0 w ht Va Vc C1 C3 hy S A1 (by simpa using hse)
      · skip
        by_cases hse : se = 0
        · subst hse
          have HH := HC rfl (hst ⟨rfl, rfl⟩).symm
          rw [HH] at C5
          exact order_z_same_gt_e_ok _ _ 0 0 _ _ _ 0 _ _ _ _ _ 0 0 0 0 w ht Va Vc C1 C3 hy S (by simpa using hde) A1 C5
        · skip
          exact order_z_same_gt_e_s _ _ 0 0 _ _ _ 0 _ _ _ _ _ _ 0 0 0 w ht Va Vc C1 C3 hy S (by simpa using hde) A1 (by simpa using hse)
  · subst X1
    by_cases hn : an = bn
    · subst hn
      have hm : ¬ ad = bd := fun e => by subst e; omega
      by_cases hy : y ≤ 0
      · skip
        by_cases hde : de = 0
        · subst hde
          have HD := (HS rfl).2.1 X2
          by_cases hse : se = 0
          · subst hse
            by_cases hte : te = 0
            · subst hte
              have HH := HC rfl rfl
              rw [HH] at C5
              exact order_m_den_le_d_ok _ _ 0 _ _ _ _ _ _ _ 0 _ _ 0 _ _ 0 w ht (by simpa using hm) Va Vb Vc C1 C2 C3 hy C4 (HT (by omega) hy) S HD A1 A2 C5
            · skip
              exact order_m_den_le_d_t _ _ 0 _ _ _ _ _ _ _ 0 _ _ 0 _ _ _ w ht (by simpa using hm) Va Vb Vc C1 C2 C3 hy C4 (HT (by omega) hy) S HD A1 A2 (by simpa using hte)
          · skip
            exact order_m_den_le_d_s _ _ 0 _ _ _ _ _ _ _ 0 _ _ _ _ _ _ w ht (by simpa using hm) Va Vb Vc C1 C2 C3 hy C4 (HT (by omega) hy) S HD A1 A2 (by simpa using hse)
        · skip
          by_cases hse : se = 0
          · subst hse
            by_cases hte : te = 0
            · subst hte
              have HH := HC rfl rfl
              rw [HH] at C5
              exact order_m_den_le_e_ok _ _ 0 _ _ _ _ _ _ _ _ _ _ 0 _ _ 0 w ht (by simpa using hm) Va Vb Vc C1 C2 C3 hy C4 (HT (by omega) hy) S (by simpa using hde) A1 A2 C5
            · skip
              exact order_m_den_le_e_t _ _ 0 _ _ _ _ _ _ _ _ _ _ 0 _ _ _ w ht (by simpa using hm) Va Vb Vc C1 C2 C3 hy C4 (HT (by omega) hy) S (by simpa using hde) A1 A2 (by simpa using hte)
          · skip
            exact order_m_den_le_e_s _ _ 0 _ _ _ _ _ _ _ _ _ _ _ _ _ _ w ht (by simpa using hm) Va Vb Vc C1 C2 C3 hy C4 (HT (by omega) hy) S (by simpa using hde) A1 A2 (by simpa using hse)
      · have hy : 0 < y := by omega
        by_cases hde : de = 0
        · subst hde
          have HD := (HS rfl).2.1 X2
          by_cases hse : se = 0
          · subst hse
            by_cases hte : te = 0
            · subst hte
              have HH := HC rfl rfl
              rw [HH] at C5
              exact order_m_den_gt_d_ok _ _ 0 _ _ _ _ 0 _ _ 0 _ _ 0 _ _ 0 w ht (by simpa using hm) Va Vb Vc C1 C2 C3 hy S HD A1 A2 C5
            · skip
              exact order_m_den_gt_d_t _ _ 0 _ _ _ _ 0 _ _ 0 _ _ 0 _ _ _ w ht (by simpa using hm) Va Vb Vc C1 C2 C3 hy S HD A1 A2 (by simpa using hte)
          · skip
            exact order_m_den_gt_d_s _ _ 0 _ _ _ _ 0 _ _ 0 _ _ _ _ _ _ w ht (by simpa using hm) Va Vb Vc C1 C2 C3 hy S HD A1 A2 (by simpa using hse)
        · skip
          by_cases hse : se = 0
          · subst hse
            by_cases hte : te = 0
            · subst hte
              have HH := HC rfl rfl
              rw [HH] at C5
              exact order_m_den_gt_e_ok _ _ 0 _ _ _ _ 0 _ _ _ _ _ 0 _ _ 0 w ht (by simpa using hm) Va Vb Vc C1 C2 C3 hy S (by simpa using hde) A1 A2 C5
            · skip
              exact order_m_den_gt_e_t _ _ 0 _ _ _ _ 0 _ _ _ _ _ 0 _ _ _ w ht (by simpa using hm) Va Vb Vc C1 C2 C3 hy S (by simpa using hde) A1 A2 (by simpa using hte)
          · skip
            exact order_m_den_gt_e_s _ _ 0 _ _ _ _ 0 _ _ _ _ _ _ _ _ _ w ht (by simpa using hm) Va Vb Vc C1 C2 C3 hy S (by simpa using hde) A1 A2 (by simpa using hse)
    · skip
      by_cases hy : y ≤ 0
      · skip
        by_cases hde : de = 0
        · subst hde
          have HD := (HS rfl).2.1 X2
          by_cases hse : se = 0
          · subst hse
            by_cases hte : te = 0
            · subst hte
              have HH := HC rfl rfl
              rw [HH] at C5
              exact order_m_num_le_d_ok _ _ _ _ _ _ _ _ _ _ 0 _ _ 0 _ _ 0 w ht (by simpa using hn) Va Vb Vc C1 C2 C3 hy C4 (HT (by omega) hy) S HD A1 A2 C5
            · skip
              exact order_m_num_le_d_t _ _ _ _ _ _ _ _ _ _ 0 _ _ 0 _ _ _ w ht (by simpa using hn) Va Vb Vc C1 C2 C3 hy C4 (HT (by omega) hy) S HD A1 A2 (by simpa using hte)
          · skip
            exact order_m_num_le_d_s _ _ _ _ _ _ _ _ _ _ 0 _ _ _ _ _ _ w ht (by simpa using hn) Va Vb Vc C1 C2 C3 hy C4 (HT (by omega) hy) S HD A1 A2 (by simpa using hse)
        · skip
          by_cases hse : se = 0
          · subst hse
            by_cases hte : te = 0
            · subst hte
              have HH := HC rfl rfl
              rw [HH] at C5
              exact order_m_num_le_e_ok _ _ _ _ _ _ _ _ _ _ _ _ _ 0 _ _ 0 w ht (by simpa using hn) Va Vb Vc C1 C2 C3 hy C4 (HT (by omega) hy) S (by simpa using hde) A1 A2 C5
            · skip
              exact order_m_num_le_e_t _ _ _ _ _ _ _ _ _ _ _ _ _ 0 _ _ _ w ht (by simpa using hn) Va Vb Vc C1 C2 C3 hy C4 (HT (by omega) hy) S (by simpa using hde) A1 A2 (by simpa using hte)
          · skip
            exact order_m_num_le_e_s _ _ _ _ _ _ _ _ _ _ _ _ _ _ _ _ _ w ht (by simpa using hn) Va Vb Vc C1 C2 C3 hy C4 (HT (by omega) hy) S (by simpa using hde) A1 A2 (by simpa using hse)
      · have hy : 0 < y := by omega
        by_cases hde : de = 0
        · subst hde
          have HD := (HS rfl).2.1 X2
          by_cases hse : se = 0
          · subst hse
            by_cases hte : te = 0
            · subst hte
              have HH := HC rfl rfl
              rw [HH] at C5
              exact order_m_num_gt_d_ok _ _ _ _ _ _ _ 0 _ _ 0 _ _ 0 _ _ 0 w ht (by simpa using hn) Va Vb Vc C1 C2 C3 hy S HD A1 A2 C5
            · skip
              exact order_m_num_gt_d_t _ _ _ _ _ _ _ 0 _ _ 0 _ _ 0 _ _ _ w ht (by simpa using hn) Va Vb Vc C1 C2 C3 hy S HD A1 A2 (by simpa using hte)
          · skip
            exact order_m_num_gt_d_s _ _ _ _ _ _ _ 0 _ _ 0 _ _ _ _ _ _ w ht (by simpa using hn) Va Vb Vc C1 C2 C3 hy S HD A1 A2 (by simpa using hse)
        · skip
          by_cases hse : se = 0
          · subst hse
            by_cases hte : te = 0
            · subst hte
              have HH := HC rfl rfl
              rw [HH] at C5
              exact order_m_num_gt_e_ok _ _ _ _ _ _ _ 0 _ _ _ _ _ 0 _ _ 0 w ht (by simpa using hn) Va Vb Vc C1 C2 C3 hy S (by simpa using hde) A1 A2 C5
            · skip
              exact order_m_num_gt_e_t _ _ _ _ _ _ _ 0 _ _ _ _ _ 0 _ _ _ w ht (by simpa using hn) Va Vb Vc C1 C2 C3 hy S (by simpa using hde) A1 A2 (by simpa using hte)
          · skip
            exact order_m_num_gt_e_s _ _ _ _ _ _ _ 0 _ _ _ _ _ _ _ _ _ w ht (by simpa using hn) Va Vb Vc C1 C2 C3 hy S (by simpa using hde) A1 A2 (by simpa using hse)

end Go.Proofs.YtonndlhppihdiabDoor
