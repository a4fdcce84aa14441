/-
  What Parse returns: the fraction whose text it is handed, or none.
-/
import Derived.Test.YtkdaefaggbmbnaaDoorParse0
namespace Go.Proofs.YtkdaefaggbmbnaaDoor
open Go.ChangeShapes Go.WideShapes Go.ChangeAt Go.RowKit
set_option linter.unusedVariables false
set_option linter.unusedSimpArgs false

/-- s is the text of the valid fraction n/d. -/
def okS (s : ByteArray) (n d : Int) : Prop := validB n d = true ∧ txt n d = s
theorem valid_sm {n d : Int} (h : validB n d = true) : Sm n ∧ Sm d ∧ 0 < d := by
  unfold validB at h
  simp at h
  unfold Sm
  omega
theorem sm_i64 {n : Int} (h : Sm n) : I64 n := by unfold Sm at h; unfold I64; omega
theorem txt_one (n : Int) : (txt n 1).data.toList = Lib.itoa n := by simp [txt]
theorem txt_two (n : Int) {d : Int} (h : ¬ d = 1) : (txt n d).data.toList = Lib.itoa n ++ 47 :: Lib.itoa d := by
  unfold txt
  rw [if_neg h]
  simp [ByteArray.data_append]
theorem ext_list (s : ByteArray) (a b : Nat) : (s.extract a b).data.toList = (s.data.toList.drop a).take (b - a) := by
  rw [ByteArray.data_extract, Array.toList_extract, List.extract_eq_take_drop]
theorem ext_size (s : ByteArray) (a b : Nat) (h : b ≤ s.size) : (s.extract a b).size ≤ s.size := by
  rw [ByteArray.size_extract]; omega
theorem list_size (s : ByteArray) : s.data.toList.length = s.size := dig_len s
theorem one_ok : Lib.parseIntB 64 (⟨#[49]⟩ : ByteArray).data.toList = .ok 1 := by
  have h := pint_itoa 1 (by unfold Sm; omega)
  have e : Lib.itoa 1 = [49] := by
    unfold Lib.itoa
    rw [if_neg (by omega), Lib.decDigits, dif_pos (by decide)]
    rfl
  rw [e] at h
  exact h
theorem cut_top {s : ByteArray} {l r : List UInt8} (h : s.data.toList = l ++ 47 :: r) : (s.extract 0 l.length).data.toList = l := by
  rw [ext_list, h]; simp
theorem cut_low {s : ByteArray} {l r : List UInt8} (h : s.data.toList = l ++ 47 :: r) : (s.extract (l.length + 1) s.size).data.toList = r := by
  have e : s.size = l.length + (r.length + 1) := by rw [← list_size, h]; simp
  rw [ext_list, h, e]
  have : (l ++ 47 :: r).drop (l.length + 1) = r := by
    rw [show l ++ 47 :: r = (l ++ [47]) ++ r by simp, List.drop_left' (by simp)]
  rw [this, show l.length + (r.length + 1) - (l.length + 1) = r.length by omega, List.take_length]
theorem told (l : List UInt8) : (∃ v, Lib.parseIntB 64 l = .ok v) ∨ ∀ v, Lib.parseIntB 64 l ≠ .ok v := by
  by_cases h : ∃ v, Lib.parseIntB 64 l = .ok v
  · exact .inl h
  · exact .inr fun v hv => h ⟨v, hv⟩

theorem parse_yes (s : ByteArray) (n d : Int) (w : World) (h : okS s n d) (hs : s.size ≤ 281474976710656) (ht : Tab w) (hS : Sent w) :
    Calls Tryd.prog 6 #[.string s] w fun e w' => e = .returned (.tuple #[fr n d, .bool true]) ∧ Below w.heap.size w w' := by
  obtain ⟨hv, hx⟩ := h
  obtain ⟨s1, s2, s3⟩ := valid_sm hv
  by_cases h1 : d = 1
  · subst h1
    have hl : s.data.toList = Lib.itoa n := by rw [← hx, txt_one]
    have hm : Lib.indexByte s.data.toList 47 = -1 := by rw [hl]; exact ix_none _ (itoa_no n)
    exact parse_w_yes s s ⟨#[]⟩ n 1 w (fun W => cut_miss s hm W) (fun W => pint_ok s n W hs (by rw [hl]; exact pint_itoa n s1)) (fun W => pint_ok _ 1 W (by decide) one_ok) ht hS (sm_i64 s1) (sm_i64 s2) hv hx
  · have hl : s.data.toList = Lib.itoa n ++ 47 :: Lib.itoa d := by rw [← hx, txt_two n h1]
    have hm : Lib.indexByte s.data.toList 47 = ((Lib.itoa n).length : Nat) := by rw [hl]; exact ix_some _ _ (itoa_no n)
    have hz : (Lib.itoa n).length + 1 ≤ s.size := by rw [← list_size, hl]; simp
    exact parse_c_yes s _ _ n d w (fun W => cut_hit s _ hm hz (by omega) W) (fun W => pint_ok _ n W (by have := ext_size s 0 (Lib.itoa n).length (by omega); omega) (by rw [cut_top hl]; exact pint_itoa n s1))
      (fun W => pint_ok _ d W (by have := ext_size s ((Lib.itoa n).length + 1) s.size (Nat.le_refl _); omega) (by rw [cut_low hl]; exact pint_itoa d s2)) ht hS (sm_i64 s1) (sm_i64 s2) hv hx

theorem parse_no (s : ByteArray) (w : World) (h : ∀ n d, ¬ okS s n d) (hs : s.size ≤ 281474976710656) (ht : Tab w) (hS : Sent w) :
    Calls Tryd.prog 6 #[.string s] w fun e w' => e = .returned (.tuple #[fr 0 0, .bool false]) ∧ Below w.heap.size w w' := by
  rcases cut_cases s with hm | ⟨i, hm, hi⟩
  · have HC := fun W => cut_miss s hm W
    have z : (⟨#[49]⟩ : ByteArray).size ≤ 281474976710656 := by decide
    rcases told s.data.toList with ⟨a, ha⟩ | ha
    · cases hv : validB a 1 with
      | false => exact parse_w_bad s s ⟨#[]⟩ a 1 w HC (fun W => pint_ok s a W hs ha) (fun W => pint_ok _ 1 W z one_ok) ht hS (pint_bd ha) (pint_bd one_ok) hv
      | true => exact parse_w_ne s s ⟨#[]⟩ a 1 w HC (fun W => pint_ok s a W hs ha) (fun W => pint_ok _ 1 W z one_ok) ht hS (pint_bd ha) (pint_bd one_ok) hv _ rfl (fun e => h a 1 ⟨hv, e⟩)
    · exact parse_w_top s s ⟨#[]⟩ 0 1 w HC (fun W => pint_no s W hs ha) (fun W => pint_ok _ 1 W z one_ok) ht hS
  · have HC := fun W => cut_hit s i hm hi (by omega) W
    have z1 : (s.extract 0 i).size ≤ 281474976710656 := by have := ext_size s 0 i (by omega); omega
    have z2 : (s.extract (i + 1) s.size).size ≤ 281474976710656 := by have := ext_size s (i + 1) s.size (Nat.le_refl _); omega
    obtain ⟨top, et⟩ : ∃ t, s.extract 0 i = t := ⟨_, rfl⟩
    obtain ⟨low, el⟩ : ∃ t, s.extract (i + 1) s.size = t := ⟨_, rfl⟩
    rw [et] at z1
    rw [el] at z2
    rw [et, el] at HC
    rcases told top.data.toList with ⟨a, ha⟩ | ha
    · rcases told low.data.toList with ⟨b, hb⟩ | hb
      · cases hv : validB a b with
        | false => exact parse_c_bad s top low a b w HC (fun W => pint_ok _ a W z1 ha) (fun W => pint_ok _ b W z2 hb) ht hS (pint_bd ha) (pint_bd hb) hv
        | true => exact parse_c_ne s top low a b w HC (fun W => pint_ok _ a W z1 ha) (fun W => pint_ok _ b W z2 hb) ht hS (pint_bd ha) (pint_bd hb) hv _ rfl (fun e => h a b ⟨hv, e⟩)
      · exact parse_c_low s top low a 0 w HC (fun W => pint_ok _ a W z1 ha) (fun W => pint_no _ W z2 hb) ht hS
    · rcases told low.data.toList with ⟨b, hb⟩ | hb
      · exact parse_c_top s top low 0 b w HC (fun W => pint_no _ W z1 ha) (fun W => pint_ok _ b W z2 hb) ht hS
      · exact parse_c_both s top low 0 0 w HC (fun W => pint_no _ W z1 ha) (fun W => pint_no _ W z2 hb) ht hS

end Go.Proofs.YtkdaefaggbmbnaaDoor
