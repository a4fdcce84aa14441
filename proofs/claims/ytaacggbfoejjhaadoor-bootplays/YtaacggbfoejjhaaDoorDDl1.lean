/-
  Package disk: Load where it gives none; the document's.
-/
import Derived.Test.YtaacggbfoejjhaaDoorDDl0
namespace Go.Proofs.YtaacggbfoejjhaaDoor.D
open Go.ChangeShapes Go.WideShapes Go.ChangeAt Go.RowKit
set_option linter.unusedVariables false
set_option linter.unusedSimpArgs false

/-- Whether bytes of that number are a disk's. -/
def fitL (len : Nat) : Bool := decide (len % 16 = 0) && (decide (1 ≤ len / 16) && decide (len / 16 ≤ 64))
theorem fitL_yes {len : Nat} (h : fitL len = true) : ∃ n, len = 16 * n ∧ 1 ≤ n ∧ n ≤ 64 := by
  unfold fitL at h
  simp at h
  exact ⟨len / 16, by omega, h.2.1, h.2.2⟩
theorem fitL_of {len n : Nat} (h : len = 16 * n) (h1 : 1 ≤ n) (h2 : n ≤ 64) : fitL len = true := by
  unfold fitL
  simp
  omega
set_option maxRecDepth 100000 in
set_option maxHeartbeats 1000000 in
theorem load_no (a : Option Addr) (len cap : Nat) (w : World) (h : fitL len = false) (hl : len ≤ 9223372036854775807) : Calls Tryd.prog 17 #[.slice a len cap] w fun e w' => e = .returned (.pointer none) ∧ w' = w := by
  have q0 : Int.tmod (len : Int) 16 = ((len % 16 : Nat) : Int) := by rw [Int.tmod_eq_emod_of_nonneg (by omega)]; omega
  have q2 : Int.tdiv (len : Int) 16 = ((len / 16 : Nat) : Int) := by rw [Int.tdiv_eq_ediv_of_nonneg (by omega)]; omega
  by_cases h1 : len % 16 = 0
  · have h2 : len / 16 < 1 ∨ 64 < len / 16 := by unfold fitL at h; simp [h1] at h; omega
    rw [h1] at q0
    obtain ⟨n, hn⟩ : ∃ n, len / 16 = n := ⟨_, rfl⟩
    rw [hn] at q2 h2
    have K := new_no (n : Int) w (by omega)
    have hnb : (n : Int) ≤ 9223372036854775807 := by omega
    clear h hn
    go_enter Tryd.func17, Tryd.ntmps17
    go_wp2_with (go_at_call 18; refine K.mono ?_; rintro e w1 ⟨rfl, rfl⟩)
    go_ret
    exact ⟨rfl, rfl⟩
  · have h3 : (((len % 16 : Nat) : Int) != 0) = true := by simp; omega
    obtain ⟨k, hk⟩ : ∃ k, len % 16 = k := ⟨_, rfl⟩
    rw [hk] at q0 h3
    clear h hk h1 q2
    go_enter Tryd.func17, Tryd.ntmps17
    go_wp2
    go_ret
    exact ⟨rfl, rfl⟩
set_option maxRecDepth 100000 in
set_option maxHeartbeats 1000000 in
theorem rload_no (a : Option Addr) (len cap : Nat) (w : World) (h : fitL len = false) (hl : len ≤ 9223372036854775807) : Calls Tryd.prog 22 #[.slice a len cap] w fun e w' => e = .returned (.pointer none) ∧ w' = w := by
  have q0 : Int.tmod (len : Int) 16 = ((len % 16 : Nat) : Int) := by rw [Int.tmod_eq_emod_of_nonneg (by omega)]; omega
  have q2 : Int.tdiv (len : Int) 16 = ((len / 16 : Nat) : Int) := by rw [Int.tdiv_eq_ediv_of_nonneg (by omega)]; omega
  obtain ⟨n, hn⟩ : ∃ n, len / 16 = n := ⟨_, rfl⟩
  by_cases h1 : len % 16 = 0
  · have h2 : n < 1 ∨ 64 < n := by unfold fitL at h; simp [h1] at h; omega
    rw [h1] at q0
    have hnb : (n : Int) ≤ 9223372036854775807 := by omega
    rw [hn] at q2
    clear h hn
    rcases h2 with h2 | h2
    · have h3 : (n : Int) < 1 := by omega
      go_enter Tryd.func22, Tryd.ntmps22
      go_wp2
      go_ret
      exact ⟨rfl, rfl⟩
    · have h3 : ¬ (n : Int) < 1 := by omega
      have h4 : (64 : Int) < (n : Int) := by omega
      go_enter Tryd.func22, Tryd.ntmps22
      go_wp2
      go_ret
      exact ⟨rfl, rfl⟩
  · have h3 : (((len % 16 : Nat) : Int) != 0) = true := by simp; omega
    obtain ⟨k, hk⟩ : ∃ k, len % 16 = k := ⟨_, rfl⟩
    rw [hk] at q0 h3
    rw [hn] at q2
    clear h hk h1 hn
    go_enter Tryd.func22, Tryd.ntmps22
    go_wp2
    go_ret
    exact ⟨rfl, rfl⟩
theorem imgS_ok {n : Nat} (h1 : 1 ≤ n) (h2 : n ≤ 64) {zs : List Int} (hz : zs.length = 16 * n) (hb : Byt zs) : (imgS n zs).Ok := ⟨hz, h1, h2, hb, by simp [imgS], by simp [imgS], by simp [imgS], by simp [imgS]⟩
theorem copyAll {W : World} {l n b off len cap : Nat} {zs : List Int} (hl : W.heap[l]? = some (.cells ((newS n).bs.map bv).toArray 5 (0, 0))) (R : Row .u8 W (some ⟨b, off, none⟩) len cap zs) (hn : len = 16 * n) :
    (Builtin.copy_ #[22, 22] 3 #[.slice (some ⟨l, 0, none⟩) (16 * n) (16 * n), .slice (some ⟨b, off, none⟩) len cap]).run Tryd.prog W = .ok (.int .i64 (len : Int)) (W.setRow l (zs.map bv).toArray) := by
  have hz := R.size
  have h16 : (zs.map bv).length = len := by rw [List.length_map, hz]
  have := run_copy_row (P := Tryd.prog) W 22 22 3 5 l 0 (16 * n) (16 * n) ⟨b, off, none⟩ len cap ((newS n).bs.map bv).toArray 5 (zs.map bv) Tryd.underlying22 (by kernel_rfl) hl (by rw [h16, hn]; exact (Nat.min_self _).symm) R.cells (by rw [h16]; simp [newS]; omega) (bv_one _)
  rw [this]
  have e : (((newS n).bs.map bv).toArray.toList.take 0 ++ zs.map bv ++ ((newS n).bs.map bv).toArray.toList.drop (0 + (zs.map bv).length)).toArray = (zs.map bv).toArray := by
    rw [List.drop_eq_nil_of_le (by rw [h16]; simp [newS]; omega)]
    simp
  rw [e, h16]
  rfl
set_option maxRecDepth 100000 in
set_option maxHeartbeats 4000000 in
theorem rload_ok (n b off len cap : Nat) (zs : List Int) (w : World) (R : Row .u8 w (some ⟨b, off, none⟩) len cap zs) (hn : len = 16 * n) (h1 : 1 ≤ n) (h2 : n ≤ 64) :
    Calls Tryd.prog 22 #[.slice (some ⟨b, off, none⟩) len cap] w fun e w' => ∃ d, e = .returned (.pointer (some ⟨d, 0, none⟩)) ∧ w.heap.size ≤ d ∧ (∃ l, w.heap.size ≤ l ∧ DkR w' d l (imgS n zs) ∧ Below w.heap.size w w') := by
  have hz := R.size
  have hzb := R.byte
  have q1 : Int.tmod (len : Int) 16 = 0 := by rw [Int.tmod_eq_emod_of_nonneg (by omega)]; omega
  have q2 : Int.tdiv (len : Int) 16 = (n : Int) := by rw [Int.tdiv_eq_ediv_of_nonneg (by omega)]; omega
  have q3 : ¬ (n : Int) < 1 := by omega
  have q4 : ¬ (64 : Int) < (n : Int) := by omega
  have K8 := rnew_ok n w h1 h2
  have HN : Hid (len = 16 * n) := hn
  have h16 : (zs.map bv).length = len := by rw [List.length_map, hz]
  clear hn
  go_enter Tryd.func22, Tryd.ntmps22
  go_wp2_with (first
    | (go_at_call 23; refine K8.mono ?_; rintro e w1 ⟨d, rfl, hd, l, hl, D1, b1⟩; have c1 := D1.cel.c1; have hlt : (newS n).n = n := rfl; rw [hlt] at c1; have R1 := R.below b1; have hcp := copyAll D1.byt R1 HN.out; have D2 := D1.setList zs (imgS_ok h1 h2 (by rw [hz, HN.out]) hzb); obtain ⟨W2, hW2⟩ : ∃ W2, w1.setRow l (zs.map bv).toArray = W2 := ⟨_, rfl⟩; rw [hW2] at hcp D2; have b2 : Below w.heap.size w W2 := (by rw [← hW2]; exact below_setRow b1 hl _); clear hW2 K8))
  go_ret
  exact ⟨d, rfl, hd, l, hl, D2, b2⟩
end Go.Proofs.YtaacggbfoejjhaaDoor.D
