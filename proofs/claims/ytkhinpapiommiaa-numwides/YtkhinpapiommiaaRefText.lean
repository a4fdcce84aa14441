/-
  What the document's own Text returns for every wide number: the same digits as num.Text.
-/
import Derived.Test.YtkhinpapiommiaaText
import Derived.Laws.Concat
namespace Go.Proofs.Ytkhinpapiommiaa
open Go.ChangeShapes Go.WideShapes Go.ChangeAt Go.RowKit
set_option linter.unusedVariables false

theorem or_add32 {r q : Int} (hr : 0 ≤ r) (hr' : r < 4294967296) (hq : 0 ≤ q) (hq' : q < 4294967296) : bits .or .u64 (r * 4294967296) q = r * 4294967296 + q := by
  obtain ⟨a, rfl⟩ := Int.eq_ofNat_of_zero_le hr
  obtain ⟨b, rfl⟩ := Int.eq_ofNat_of_zero_le hq
  have h := bits_or_u64_nat (a * 4294967296) b (by omega) (by omega)
  have e : a * 4294967296 ||| b = a * 4294967296 + b := by
    have := Nat.two_pow_add_eq_or_of_lt (i := 32) (b := b) (by omega) a
    rw [Nat.mul_comm a, show (4294967296 : Nat) = 2 ^ 32 from rfl]
    exact this.symm
  rw [e] at h
  rw [show ((a : Int) * 4294967296) = ((a * 4294967296 : Nat) : Int) by omega, h]
  omega
theorem and_mask32 {l : Int} (h : 0 ≤ l) (h' : l ≤ 18446744073709551615) : bits .and .u64 l 4294967295 = l % 4294967296 := by
  obtain ⟨a, rfl⟩ := Int.eq_ofNat_of_zero_le h
  rw [maskN a (by omega)]
  omega
theorem ten_math {r l : Int} (hr : 0 ≤ r) (hr' : r ≤ 9) (h : 0 ≤ l) (h' : l ≤ 18446744073709551615) :
    (r * 4294967296 + l / 4294967296) / 10 * 4294967296 + ((r * 4294967296 + l / 4294967296) % 10 * 4294967296 + l % 4294967296) / 10 = (r * 18446744073709551616 + l) / 10 ∧
    ((r * 4294967296 + l / 4294967296) % 10 * 4294967296 + l % 4294967296) % 10 = (r * 18446744073709551616 + l) % 10 := by
  have e : r * 18446744073709551616 + l = (r * 4294967296 + l / 4294967296) * 4294967296 + l % 4294967296 := by omega
  rw [e]
  generalize r * 4294967296 + l / 4294967296 = u
  generalize l % 4294967296 = v
  constructor <;> omega

theorem ret_wideu {a b c d p q : Int} (h : a = c) (l : b = d) (k : p = q) :
    Ending.returned (.tuple #[.agg #[.int .u64 a, .int .u64 b], .int .u64 p]) = .returned (.tuple #[.agg #[.int .u64 c, .int .u64 d], .int .u64 q]) := by rw [h, l, k]

set_option maxHeartbeats 1000000 in
theorem ten_any (h l : Int) (w : World) (h1 : 0 ≤ h) (h1' : h ≤ 18446744073709551615) (h2 : 0 ≤ l) (h2' : l ≤ 18446744073709551615) :
    Calls Try.prog 45 #[wide h l] w fun e w' => e = .returned (.tuple #[wide (hiW (val h l / 10)) (lo64 (val h l / 10)), .int .u64 (val h l % 10)]) ∧ Below w.heap.size w w' := by
  have E1 : Hid (h / 10 = hiW (val h l / 10)) := split_hi h1 h1' h2 h2'
  obtain ⟨m1, m2⟩ := ten_math (r := h % 10) (l := l) (by omega) (by omega) h2 h2'
  have E2 : Hid _ := m1.trans (show (h % 10 * 18446744073709551616 + l) / 10 = lo64 (val h l / 10) by unfold lo64 val; omega)
  have E3 : Hid _ := m2.trans (show (h % 10 * 18446744073709551616 + l) % 10 = val h l % 10 by unfold val; omega)
  clear m1 m2
  obtain ⟨u, hu⟩ : ∃ u, h % 10 * 4294967296 + l / 4294967296 = u := ⟨_, rfl⟩
  have O1 : bits .or .u64 (h % 10 * 4294967296) (l / 4294967296) = u := by rw [← hu]; exact or_add32 (by omega) (by omega) (by omega) (by omega)
  have u1 : 0 ≤ u := by omega
  have u2 : u < 42949672960 := by omega
  rw [hu] at E2 E3
  have M : bits .and .u64 l 4294967295 = l % 4294967296 := and_mask32 h2 h2'
  obtain ⟨v, hv⟩ : ∃ v, u % 10 * 4294967296 + l % 4294967296 = v := ⟨_, rfl⟩
  have O2 : bits .or .u64 (u % 10 * 4294967296) (l % 4294967296) = v := by rw [← hv]; exact or_add32 (by omega) (by omega) (by omega) (by omega)
  have v1 : 0 ≤ v := by omega
  have v2 : v < 42949672960 := by omega
  rw [hv] at E2 E3
  have O3 : bits .or .u64 (u / 10 * 4294967296) (v / 10) = u / 10 * 4294967296 + v / 10 := or_add32 (by omega) (by omega) (by omega) (by omega)
  clear hu hv
  go_enter Try.func45, Try.ntmps45
  go_wp2
  go_returns
  exact ⟨ret_wideu E1.out E2.out E3.out, by go_grown⟩

theorem push_front (d : UInt8) (ds : List UInt8) : (⟨#[d]⟩ : ByteArray) ++ (⟨ds.toArray⟩ : ByteArray) = ⟨(d :: ds).toArray⟩ := by
  apply ByteArray.ext
  rw [ByteArray.data_append]
  simp
theorem conv_one (W : World) (b : Nat) (hb : b = W.heap.size) (x : Int) (d : UInt8) (e : x = (d.toNat : Int)) :
    (convert 61 9 (.slice (some ⟨b, 0, none⟩) 1 1)).run Try.prog (W.alloc (.cells #[.int .u8 x] 5)) = .ok (.string ⟨#[d]⟩) (W.alloc (.cells #[.int .u8 x] 5)) := by
  subst hb
  exact run_convert_bytes_back (P := Try.prog) _ 61 9 5 ⟨W.heap.size, 0, none⟩ 1 [d] Try.underlying61 Try.underlying5 Try.underlying9 (fun j hj => by
    have : j = 0 := by simpa using hj
    subst this
    simp [Addr.add, e])

set_option maxHeartbeats 2000000 in
theorem rtext_any (n : Int) (w : World) (h0 : 0 ≤ n) (h1 : n < 340282366920938463463374607431768211456) :
    Calls Try.prog 31 #[wide (hiW n) (lo64 n)] w fun e w' => e = .returned (.string ⟨(dgs n.toNat).toArray⟩) ∧ Below w.heap.size w w' := by
  go_enter Try.func31, Try.ntmps31
  go_wp2_with fail
  go_loopg [3] 39 (fun g s wr => ∃ (k : Nat) (m : Int) (S : ByteArray) (ds : List UInt8), k + g = 39 ∧ s = .string S ∧ Hid (S = ⟨ds.toArray⟩ ∧ ds.length = k) ∧ 0 ≤ m ∧ m < 340282366920938463463374607431768211456 ∧ Hid (Left n.toNat m.toNat k true ds) ∧ Two wr w.heap.size (.int .u64 (hiW m)) (.int .u64 (lo64 m)) ∧ Below w.heap.size w wr)
  case atStart => exact ⟨0, n, _, [], rfl, rfl, ⟨rfl, rfl⟩, h0, h1, Left.start _, Two.new _ _ _ _, by go_grown⟩
  case round =>
    obtain ⟨k, m, S, ds, hkg, rfl, HS, hm0, hm1, HT, T, hB⟩ := hrel
    obtain ⟨q0, q1, g0, g1, z⟩ := id T
    have HK : Hid (k + gk = 39) := hkg
    have hk : k < 39 := Left.room HT.out (by omega)
    clear hkg
    have V : Hid (val (hiW m) (lo64 m) = m) := val_self hm0 hm1
    obtain ⟨n1, n2⟩ := hiW_bd m
    obtain ⟨n3, n4⟩ := lo64_bd m
    have ss : S.size ≤ 39 := by
      rw [HS.out.1]
      show ds.toArray.size ≤ 39
      simp
      have := HS.out.2
      omega
    go_wp2_with fail
    refine (ten_any _ _ _ n1 n2 n3 n4).mono ?_
    rintro e w1 ⟨rfl, hb1⟩
    rw [V.out]
    have X := T.below hb1
    obtain ⟨x0, x1, y0, y1, v⟩ := id X
    have hB1 : Below w.heap.size w w1 := hB.trans (hb1.mono hB.size)
    clear hb1 q0 q1 g0 g1
    have ed : Hid (48 + m % 10 = ((digit m.toNat).toNat : Int)) := by show _ = _; rw [digit_toNat]; omega
    have et : Hid ((m / 10).toNat = m.toNat / 10) := by show _ = _; omega
    have m1 : 0 ≤ m % 10 := by omega
    have m2 : m % 10 ≤ 9 := by omega
    have ad := fun (W : World) => run_string_add_sum (P := Try.prog) W ⟨#[digit m.toNat]⟩ S (by show 1 + S.size ≤ _; omega)
    have es : Hid ((⟨#[digit m.toNat]⟩ : ByteArray) ++ S = ⟨(digit m.toNat :: ds).toArray⟩) := by show _ = _; rw [HS.out.1]; exact push_front _ _
    by_cases c : m < 10
    · have hz : m / 10 = 0 := by omega
      have e1 : hiW (m / 10) = 0 := by rw [hz]; rfl
      have e2 : lo64 (m / 10) = 0 := by rw [hz]; rfl
      rw [e1, e2]
      clear e1 e2 hz
      have cv := conv_one ((w1.alloc (.cells #[.int .u64 0, .int .u64 0] 35))) (w1.heap.size + 1) (by simp) _ _ ed.out
      go_wp2
      go_ret
      exact ⟨by rw [Left.done (Left.last HT.out (by omega)), ← es.out]; rfl, by go_grown⟩
    · have L : Hid (Left n.toNat (m.toNat / 10) (k + 1) true (digit m.toNat :: ds)) := Left.more HT.out (by omega)
      have cv := conv_one ((w1.alloc (.cells #[.int .u64 (hiW (m / 10)), .int .u64 (lo64 (m / 10))] 35))) (w1.heap.size + 1) (by simp) _ _ ed.out
      by_cases hz : hiW (m / 10) = 0
      · have f1 : (lo64 (m / 10) == 0) = false := by
          simp only [beq_eq_false_iff_ne]; intro e
          have := val_self (n := m / 10) (by omega) (by omega)
          rw [hz, e] at this
          unfold val at this
          omega
        have f0 : (hiW (m / 10) == 0) = true := by simp [hz]
        clear hz
        go_wp2
        go_roundg (gk - 1)
        case measure => have := HK.out; omega
        case rel =>
          refine ⟨k + 1, m / 10, _, digit m.toNat :: ds, by have := HK.out; omega, rfl, ⟨es.out, by simp [HS.out.2]⟩, by omega, by omega, ?_, ?_, ?_⟩
          · show Left _ _ _ _ _; rw [et.out]; exact L.out
          · first | exact Two.set ((X.alloc _).alloc _) _ _ | exact ((Two.set X _ _).alloc _).alloc _
          · first | exact (((hB1.alloc (by have := hB1.size; simpa using this) _).alloc (by have := hB1.size; simp; omega) _).setCell (by simp) _).setCell (by simp) _ | go_grown
      · have f0 : (hiW (m / 10) == 0) = false := by simp [hz]
        clear hz
        go_wp2
        go_roundg (gk - 1)
        case measure => have := HK.out; omega
        case rel =>
          refine ⟨k + 1, m / 10, _, digit m.toNat :: ds, by have := HK.out; omega, rfl, ⟨es.out, by simp [HS.out.2]⟩, by omega, by omega, ?_, ?_, ?_⟩
          · show Left _ _ _ _ _; rw [et.out]; exact L.out
          · first | exact Two.set ((X.alloc _).alloc _) _ _ | exact ((Two.set X _ _).alloc _).alloc _
          · first | exact (((hB1.alloc (by have := hB1.size; simpa using this) _).alloc (by have := hB1.size; simp; omega) _).setCell (by simp) _).setCell (by simp) _ | go_grown
end Go.Proofs.Ytkhinpapiommiaa
