/-
  What the document's own Parse returns: the fraction whose text it is handed, or none.
-/
import Derived.Test.YtkdaefaggbmbnaaDoorParse
import Derived.Test.YtkdaefaggbmbnaaDoorRParse0
import Derived.Test.YtkdaefaggbmbnaaDoorRParse1
namespace Go.Proofs.YtkdaefaggbmbnaaDoor
open Go.ChangeShapes Go.WideShapes Go.ChangeAt Go.RowKit
set_option linter.unusedVariables false
set_option linter.unusedSimpArgs false

theorem dig_bd (l : List UInt8) : ((digR 11 0 l).2 : Int) ≤ 11 ∧ ((digR 11 0 l).1 : Int) ≤ 99999999999 ∧ (digR 11 0 l).2 ≤ l.length := by
  have h1 := digR_le 11 0 l
  have h2 := digR_lt 11 0 l
  simp at h2
  omega
theorem dig_text (u : Nat) (R : List UInt8) (hu : u ≤ 2147483647) (hR : R = [] ∨ ∃ r, R = 47 :: r) : digR 11 0 (Lib.decDigits u ++ R) = (u, (Lib.decDigits u).length) ∧ (Lib.decDigits u).length ≤ 10 := by
  obtain ⟨d1, d2, d3⟩ := dec_all u
  have hl := dec_len 9 u (by omega)
  refine ⟨?_, hl⟩
  rw [digR_app _ _ _ _ d1 (by omega), d2]
  rcases hR with rfl | ⟨r, rfl⟩
  · rw [digR_end]; simp
  · rw [digR_stop (by decide)]; simp
theorem at_mid {s : ByteArray} {l r : List UInt8} {p : Nat} (h : s.data.toList = l ++ 47 :: r) (hp : p = l.length) (hq : p < s.size) : (s[p]'hq).toNat = 47 := by
  subst hp
  have hz : l.length < s.data.toList.length := by rw [list_size]; exact hq
  have e : s[l.length]'hq = s.data.toList[l.length]'hz := rfl
  rw [e]
  simp [h]
theorem at_first {s : ByteArray} {c : UInt8} {r : List UInt8} (h : s.data.toList = c :: r) (hq : 0 < s.size) : s[0]'hq = c := by
  have hz : 0 < s.data.toList.length := by rw [list_size]; exact hq
  have e : s[0]'hq = s.data.toList[0]'hz := rfl
  rw [e]
  simp [h]
theorem tail_list {s : ByteArray} {c : UInt8} {r : List UInt8} (h : s.data.toList = c :: r) : (s.extract 1 s.size).data.toList = r := by
  have e : s.size = r.length + 1 := by rw [← list_size, h]; simp
  rw [ext_list, h, e]
  simp
theorem itoa_pos {d : Int} (h : ¬ d < 0) : Lib.itoa d = Lib.decDigits d.toNat := by unfold Lib.itoa; rw [if_neg h]
theorem itoa_neg {d : Int} (h : d < 0) : Lib.itoa d = 45 :: Lib.decDigits d.natAbs := by unfold Lib.itoa; rw [if_pos h]

theorem rparse_no (s : ByteArray) (w : World) (h : ∀ n d, ¬ okS s n d) (hs : s.size ≤ 281474976710656) (ht : Tab w) :
    Calls Tryd.prog 7 #[.string s] w fun e w' => e = .returned (.tuple #[fr 0 0, .bool false]) ∧ Below w.heap.size w w' := by
  have hs' : (s.size : Int) ≤ 281474976710656 := by omega
  by_cases h0 : s.size = 0
  · have H1 := fun W => digits_any s W (by omega)
    obtain ⟨c1, c2, c3⟩ := dig_bd s.data.toList
    rw [list_size] at c3
    obtain ⟨p, hp⟩ : ∃ p, 0 + (digR 11 0 s.data.toList).2 = p := ⟨_, rfl⟩
    have hps : p ≤ s.size := by omega
    have hq : p = s.size := by omega
    cases hv : validB ((digR 11 0 s.data.toList).1 : Int) 1 with
    | false => exact rp_empty_end_bad s _ _ 0 0 w ht hs' c1 c2 (by decide) (by decide) h0 H1 p hp hps hq hq _ 1 rfl rfl hv
    | true => exact rp_empty_end_ne s _ _ 0 0 w ht hs' c1 c2 (by decide) (by decide) h0 H1 p hp hps hq hq _ 1 rfl rfl hv _ rfl (fun e => h _ _ ⟨hv, e⟩)
  · have h0 : 0 < s.size := by omega
    by_cases hc : (s[0]'h0).toNat = 45
    · obtain ⟨t1, e1⟩ : ∃ t, s.extract 1 s.size = t := ⟨_, rfl⟩
      have z1 : t1.size = s.size - 1 := by rw [← e1, ByteArray.size_extract]; omega
      have H1 := fun W => digits_any t1 W (by omega)
      obtain ⟨c1, c2, c3⟩ := dig_bd t1.data.toList
      rw [list_size] at c3
      obtain ⟨p, hp⟩ : ∃ p, 1 + (digR 11 0 t1.data.toList).2 = p := ⟨_, rfl⟩
      have hps : p ≤ s.size := by omega
      by_cases hq : p = s.size
      · cases hv : validB (-((digR 11 0 t1.data.toList).1 : Int)) 1 with
        | false => exact rp_yes_end_bad s _ _ 0 0 w ht hs' c1 c2 (by decide) (by decide) h0 hc t1 e1 H1 p hp hps hq hq (-((digR 11 0 t1.data.toList).1 : Int)) 1 rfl rfl hv
        | true => exact rp_yes_end_ne s _ _ 0 0 w ht hs' c1 c2 (by decide) (by decide) h0 hc t1 e1 H1 p hp hps hq hq (-((digR 11 0 t1.data.toList).1 : Int)) 1 rfl rfl hv _ rfl (fun e => h _ _ ⟨hv, e⟩)
      · have hq' : p < s.size := by omega
        by_cases hr : (s[p]'hq').toNat = 47
        · obtain ⟨t2, e2⟩ : ∃ t, s.extract (p + 1) s.size = t := ⟨_, rfl⟩
          have z2 : t2.size ≤ s.size := by rw [← e2]; exact ext_size _ _ _ (Nat.le_refl _)
          have H2 := fun W => digits_any t2 W (by omega)
          obtain ⟨d1, d2, d3⟩ := dig_bd t2.data.toList
          obtain ⟨q, hq2⟩ : ∃ q, p + 1 + (digR 11 0 t2.data.toList).2 = q := ⟨_, rfl⟩
          by_cases hl : q = s.size
          · cases hv : validB (-((digR 11 0 t1.data.toList).1 : Int)) ((digR 11 0 t2.data.toList).1 : Int) with
            | false => exact rp_yes_yes_bad s _ _ _ _ w ht hs' c1 c2 d1 d2 h0 hc t1 e1 H1 p hp hps hq' hr t2 e2 H2 q hq2 hl (-((digR 11 0 t1.data.toList).1 : Int)) ((digR 11 0 t2.data.toList).1 : Int) rfl rfl hv
            | true => exact rp_yes_yes_ne s _ _ _ _ w ht hs' c1 c2 d1 d2 h0 hc t1 e1 H1 p hp hps hq' hr t2 e2 H2 q hq2 hl (-((digR 11 0 t1.data.toList).1 : Int)) ((digR 11 0 t2.data.toList).1 : Int) rfl rfl hv _ rfl (fun e => h _ _ ⟨hv, e⟩)
          · exact rp_yes_yes_len s _ _ _ _ w ht hs' c1 c2 d1 d2 h0 hc t1 e1 H1 p hp hps hq' hr t2 e2 H2 q hq2 hl
        · exact rp_yes_other_len s _ _ 0 0 w ht hs' c1 c2 (by decide) (by decide) h0 hc t1 e1 H1 p hp hps hq' hr hq
    · have H1 := fun W => digits_any s W (by omega)
      obtain ⟨c1, c2, c3⟩ := dig_bd s.data.toList
      rw [list_size] at c3
      obtain ⟨p, hp⟩ : ∃ p, 0 + (digR 11 0 s.data.toList).2 = p := ⟨_, rfl⟩
      have hps : p ≤ s.size := by omega
      by_cases hq : p = s.size
      · cases hv : validB ((digR 11 0 s.data.toList).1 : Int) 1 with
        | false => exact rp_no_end_bad s _ _ 0 0 w ht hs' c1 c2 (by decide) (by decide) h0 hc H1 p hp hps hq hq ((digR 11 0 s.data.toList).1 : Int) 1 rfl rfl hv
        | true => exact rp_no_end_ne s _ _ 0 0 w ht hs' c1 c2 (by decide) (by decide) h0 hc H1 p hp hps hq hq ((digR 11 0 s.data.toList).1 : Int) 1 rfl rfl hv _ rfl (fun e => h _ _ ⟨hv, e⟩)
      · have hq' : p < s.size := by omega
        by_cases hr : (s[p]'hq').toNat = 47
        · obtain ⟨t2, e2⟩ : ∃ t, s.extract (p + 1) s.size = t := ⟨_, rfl⟩
          have z2 : t2.size ≤ s.size := by rw [← e2]; exact ext_size _ _ _ (Nat.le_refl _)
          have H2 := fun W => digits_any t2 W (by omega)
          obtain ⟨d1, d2, d3⟩ := dig_bd t2.data.toList
          obtain ⟨q, hq2⟩ : ∃ q, p + 1 + (digR 11 0 t2.data.toList).2 = q := ⟨_, rfl⟩
          by_cases hl : q = s.size
          · cases hv : validB ((digR 11 0 s.data.toList).1 : Int) ((digR 11 0 t2.data.toList).1 : Int) with
            | false => exact rp_no_yes_bad s _ _ _ _ w ht hs' c1 c2 d1 d2 h0 hc H1 p hp hps hq' hr t2 e2 H2 q hq2 hl ((digR 11 0 s.data.toList).1 : Int) ((digR 11 0 t2.data.toList).1 : Int) rfl rfl hv
            | true => exact rp_no_yes_ne s _ _ _ _ w ht hs' c1 c2 d1 d2 h0 hc H1 p hp hps hq' hr t2 e2 H2 q hq2 hl ((digR 11 0 s.data.toList).1 : Int) ((digR 11 0 t2.data.toList).1 : Int) rfl rfl hv _ rfl (fun e => h _ _ ⟨hv, e⟩)
          · exact rp_no_yes_len s _ _ _ _ w ht hs' c1 c2 d1 d2 h0 hc H1 p hp hps hq' hr t2 e2 H2 q hq2 hl
        · exact rp_no_other_len s _ _ 0 0 w ht hs' c1 c2 (by decide) (by decide) h0 hc H1 p hp hps hq' hr hq

theorem rparse_yes (s : ByteArray) (n d : Int) (w : World) (h : okS s n d) (hs : s.size ≤ 281474976710656) (ht : Tab w) :
    Calls Tryd.prog 7 #[.string s] w fun e w' => e = .returned (.tuple #[fr n d, .bool true]) ∧ Below w.heap.size w w' := by
  have hs' : (s.size : Int) ≤ 281474976710656 := by omega
  obtain ⟨hv, hx⟩ := h
  obtain ⟨s1, s2, s3⟩ := valid_sm hv
  by_cases h1 : d = 1
  · subst h1
    by_cases hn : n < 0
    · skip
      obtain ⟨E, hk⟩ := dig_text n.natAbs ([]) (by unfold Sm at s1; omega) (.inl rfl)
      obtain ⟨d1, d2, d3⟩ := dec_all n.natAbs
      have hl : s.data.toList = 45 :: (Lib.decDigits n.natAbs ++ ([])) := by rw [← hx, txt_one, itoa_neg hn, List.append_nil]
      obtain ⟨L, eL⟩ : ∃ l, Lib.decDigits n.natAbs = l := ⟨_, rfl⟩
      rw [eL] at E hk hl d1 d2 d3
      obtain ⟨c, r, hcr⟩ : ∃ c r, L = c :: r := List.exists_cons_of_ne_nil d3
      have hL : 0 < L.length := by rw [hcr]; simp
      have hz : s.size = 1 + L.length := by rw [← list_size, hl]; simp; omega
      have h0 : 0 < s.size := by omega
      have hc : (s[0]'h0).toNat = 45 := by rw [at_first hl h0]; rfl
      obtain ⟨t1, e1⟩ : ∃ t, s.extract 1 s.size = t := ⟨_, rfl⟩
      have z1 : t1.size ≤ s.size := by rw [← e1]; exact ext_size _ _ _ (Nat.le_refl _)
      have H1 := fun W => digits_any t1 W (by omega)
      have el1 := tail_list hl; rw [e1] at el1
      rw [el1, E] at H1
      exact rp_yes_end_eq s n.natAbs L.length 0 0 w ht hs' (by omega) (by unfold Sm at s1; omega) (by decide) (by decide) h0 hc t1 e1 H1 _ rfl (by omega) (by omega) (by omega) n 1 (by omega) rfl hv hx
    · skip
      obtain ⟨E, hk⟩ := dig_text n.toNat ([]) (by unfold Sm at s1; omega) (.inl rfl)
      obtain ⟨d1, d2, d3⟩ := dec_all n.toNat
      have hl : s.data.toList = (Lib.decDigits n.toNat ++ ([])) := by rw [← hx, txt_one, itoa_pos hn, List.append_nil]
      obtain ⟨L, eL⟩ : ∃ l, Lib.decDigits n.toNat = l := ⟨_, rfl⟩
      rw [eL] at E hk hl d1 d2 d3
      obtain ⟨c, r, hcr⟩ : ∃ c r, L = c :: r := List.exists_cons_of_ne_nil d3
      have hL : 0 < L.length := by rw [hcr]; simp
      have hz : s.size = L.length := by rw [← list_size, hl]; simp
      have h0 : 0 < s.size := by omega
      have hc : ¬ (s[0]'h0).toNat = 45 := by
        have hf : s.data.toList = c :: (r ++ []) := by rw [hl, hcr]; rfl
        rw [at_first hf h0]
        have := d1 c (by rw [hcr]; simp)
        unfold dig at this
        omega
      have H1 := fun W => digits_any s W (by omega)
      rw [hl, E] at H1
      exact rp_no_end_eq s n.toNat L.length 0 0 w ht hs' (by omega) (by unfold Sm at s1; omega) (by decide) (by decide) h0 hc H1 _ rfl (by omega) (by omega) (by omega) n 1 (by omega) rfl hv hx
  · by_cases hn : n < 0
    · skip
      obtain ⟨E, hk⟩ := dig_text n.natAbs (47 :: Lib.decDigits d.toNat) (by unfold Sm at s1; omega) (.inr ⟨_, rfl⟩)
      obtain ⟨d1, d2, d3⟩ := dec_all n.natAbs
      have hl : s.data.toList = 45 :: (Lib.decDigits n.natAbs ++ (47 :: Lib.decDigits d.toNat)) := by rw [← hx, txt_two n h1, itoa_neg hn, itoa_pos (by omega)]; rfl
      obtain ⟨L, eL⟩ : ∃ l, Lib.decDigits n.natAbs = l := ⟨_, rfl⟩
      rw [eL] at E hk hl d1 d2 d3
      obtain ⟨c, r, hcr⟩ : ∃ c r, L = c :: r := List.exists_cons_of_ne_nil d3
      have hL : 0 < L.length := by rw [hcr]; simp
      obtain ⟨M, eM⟩ : ∃ l, Lib.decDigits d.toNat = l := ⟨_, rfl⟩
      obtain ⟨E2, hm⟩ := dig_text d.toNat [] (by unfold Sm at s2; omega) (.inl rfl)
      rw [eM, List.append_nil] at E2
      rw [eM] at hm hl E
      have hz : s.size = 1 + L.length + 1 + M.length := by rw [← list_size, hl]; simp; omega
      have h0 : 0 < s.size := by omega
      have hc : (s[0]'h0).toNat = 45 := by rw [at_first hl h0]; rfl
      obtain ⟨t1, e1⟩ : ∃ t, s.extract 1 s.size = t := ⟨_, rfl⟩
      have z1 : t1.size ≤ s.size := by rw [← e1]; exact ext_size _ _ _ (Nat.le_refl _)
      have H1 := fun W => digits_any t1 W (by omega)
      have el1 := tail_list hl; rw [e1] at el1
      rw [el1, E] at H1
      have hl2 : s.data.toList = (45 :: L) ++ 47 :: M := by rw [hl]; rfl
      have hp : 1 + L.length = 1 + L.length := rfl
      have hq : 1 + L.length < s.size := by omega
      have hr := at_mid hl2 (p := 1 + L.length) (by simp; omega) hq
      obtain ⟨t2, e2⟩ : ∃ t, s.extract (1 + L.length + 1) s.size = t := ⟨_, rfl⟩
      have z2 : t2.size ≤ s.size := by rw [← e2]; exact ext_size _ _ _ (Nat.le_refl _)
      have H2 := fun W => digits_any t2 W (by omega)
      have el2 : t2.data.toList = M := by rw [← e2, ← cut_low hl2]; congr 3; simp; omega
      rw [el2, E2] at H2
      exact rp_yes_yes_eq s n.natAbs L.length d.toNat M.length w ht hs' (by omega) (by unfold Sm at s1; omega) (by omega) (by unfold Sm at s2; omega) h0 hc t1 e1 H1 _ rfl (by omega) hq hr t2 e2 H2 _ rfl (by omega) n d (by omega) (by omega) hv hx
    · skip
      obtain ⟨E, hk⟩ := dig_text n.toNat (47 :: Lib.decDigits d.toNat) (by unfold Sm at s1; omega) (.inr ⟨_, rfl⟩)
      obtain ⟨d1, d2, d3⟩ := dec_all n.toNat
      have hl : s.data.toList = (Lib.decDigits n.toNat ++ (47 :: Lib.decDigits d.toNat)) := by rw [← hx, txt_two n h1, itoa_pos hn, itoa_pos (by omega)]
      obtain ⟨L, eL⟩ : ∃ l, Lib.decDigits n.toNat = l := ⟨_, rfl⟩
      rw [eL] at E hk hl d1 d2 d3
      obtain ⟨c, r, hcr⟩ : ∃ c r, L = c :: r := List.exists_cons_of_ne_nil d3
      have hL : 0 < L.length := by rw [hcr]; simp
      obtain ⟨M, eM⟩ : ∃ l, Lib.decDigits d.toNat = l := ⟨_, rfl⟩
      obtain ⟨E2, hm⟩ := dig_text d.toNat [] (by unfold Sm at s2; omega) (.inl rfl)
      rw [eM, List.append_nil] at E2
      rw [eM] at hm hl E
      have hz : s.size = L.length + 1 + M.length := by rw [← list_size, hl]; simp; omega
      have h0 : 0 < s.size := by omega
      have hc : ¬ (s[0]'h0).toNat = 45 := by
        have hf : s.data.toList = c :: (r ++ 47 :: M) := by rw [hl, hcr]; rfl
        rw [at_first hf h0]
        have := d1 c (by rw [hcr]; simp)
        unfold dig at this
        omega
      have H1 := fun W => digits_any s W (by omega)
      rw [hl, E] at H1
      have hl2 : s.data.toList = L ++ 47 :: M := by rw [hl]
      have hp : 0 + L.length = 0 + L.length := rfl
      have hq : 0 + L.length < s.size := by omega
      have hr := at_mid hl2 (p := 0 + L.length) (by simp) hq
      obtain ⟨t2, e2⟩ : ∃ t, s.extract (0 + L.length + 1) s.size = t := ⟨_, rfl⟩
      have z2 : t2.size ≤ s.size := by rw [← e2]; exact ext_size _ _ _ (Nat.le_refl _)
      have H2 := fun W => digits_any t2 W (by omega)
      have el2 : t2.data.toList = M := by rw [← e2, ← cut_low hl2]; congr 3; simp
      rw [el2, E2] at H2
      exact rp_no_yes_eq s n.toNat L.length d.toNat M.length w ht hs' (by omega) (by unfold Sm at s1; omega) (by omega) (by unfold Sm at s2; omega) h0 hc H1 _ rfl (by omega) hq hr t2 e2 H2 _ rfl (by omega) n d (by omega) (by omega) hv hx

end Go.Proofs.YtkdaefaggbmbnaaDoor
