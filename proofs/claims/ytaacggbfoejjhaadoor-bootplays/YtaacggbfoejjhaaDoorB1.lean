/-
  Package boot: place, fit, told, lay.
-/
import Derived.Test.YtaacggbfoejjhaaDoorB0
import Derived.Laws.BitsAllLaws
namespace Go.Proofs.YtaacggbfoejjhaaDoor
open Go.ChangeShapes Go.WideShapes Go.ChangeAt Go.RowKit
open D
set_option linter.unusedVariables false
set_option linter.unusedSimpArgs false

/-- A block of bytes. -/
def Blk (W : World) (g : Nat) (t : TypeId) (zs : List Int) : Prop := W.heap[g]? = some (.cells (zs.map bv).toArray t (0, 0))
theorem Blk.below {W W' : World} {g : Nat} {t : TypeId} {zs : List Int} (h : Blk W g t zs) (b : Below W.heap.size W W') : Blk W' g t zs := (b.block g (row_lt h)).trans h
theorem Blk.only {C : Nat → Prop} {W W' : World} {g : Nat} {t : TypeId} {zs : List Int} (h : Blk W g t zs) (b : Only C W W') (hC : ¬ C g) : Blk W' g t zs := (b.block g (row_lt h) hC).trans h
theorem Blk.row {W : World} {g : Nat} {t : TypeId} {zs : List Int} (h : Blk W g t zs) (hb : Byt zs) (o n c : Nat) (ho : o + n ≤ zs.length) (hc : n ≤ c) : Row .u8 W (some ⟨g, o, none⟩) n c ((zs.drop o).take n) where
  size := by simp; omega
  le := hc
  nil := fun e => by cases e
  wf := fun z hz => by have := hb z (List.mem_of_mem_drop (List.mem_of_mem_take hz)); exact u8_wf this.1 this.2
  mem := .inr ⟨g, o, rfl, row_lt h, fun k hk => by
    refine row_cell h _ _ ?_
    rw [List.getD_eq_getElem?_getD, List.getElem?_take, if_pos hk, List.getElem?_drop]
    have hl : o + k < zs.length := by omega
    simp [List.getElem?_eq_getElem hl]⟩
theorem Row.toS {kd : IntKind} {w : World} {a : Option Addr} {len cap : Nat} {zs : List Int} (R : Row kd w a len cap zs) : S.Row kd w a len cap zs := ⟨R.size, R.le, R.nil, R.wf, R.mem⟩

set_option maxHeartbeats 1000000 in
theorem place_any (i p : Nat) (w : World) (hi : i < 2) (hp : p < 2) : Calls Tryd.prog 42 #[.int .i64 (i : Int), .int .i64 (p : Int)] w fun e w' => e = .returned (.int .i64 ((i * 2 + p : Nat) : Int)) ∧ w' = w := by
  go_enter Tryd.func42, Tryd.ntmps42
  go_wp2
  go_ret
  refine ⟨?_, rfl⟩
  first | rfl | go_num
set_option maxHeartbeats 1000000 in
theorem fit_any (x : Int) (w : World) : Calls Tryd.prog 37 #[.int .i64 x] w fun e w' => e = .returned (.bool (decide (1 ≤ x) && decide (x ≤ 1099511627776))) ∧ w' = w := by
  by_cases h0 : 1 ≤ x
  · by_cases h1 : x ≤ 1099511627776
    · rw [decide_eq_true h0, decide_eq_true h1]
      go_enter Tryd.func37, Tryd.ntmps37
      go_wp2
      go_ret
      exact ⟨rfl, rfl⟩
    · rw [decide_eq_true h0, decide_eq_false h1]
      go_enter Tryd.func37, Tryd.ntmps37
      go_wp2
      go_ret
      exact ⟨rfl, rfl⟩
  · rw [decide_eq_false h0]
    go_enter Tryd.func37, Tryd.ntmps37
    go_wp2
    go_ret
    exact ⟨rfl, rfl⟩
theorem pw8 {j : Nat} (h : j < 8) : 2 ^ (8 * j) * 256 ≤ 18446744073709551616 := by
  have : 2 ^ (8 * j) ≤ 2 ^ 56 := Nat.pow_le_pow_right (by omega) (by omega)
  have h2 : (2 : Nat) ^ 56 = 72057594037927936 := rfl
  omega
theorem shl_step (z j : Nat) (hz : z < 256) (hj : j < 8) : IntKind.u64.wrap ((z : Int) * 2 ^ (8 * j)) = ((z * 2 ^ (8 * j) : Nat) : Int) := by
  have h1 := pw8 hj
  have e2 : ((z : Int) * 2 ^ (8 * j)) = ((z * 2 ^ (8 * j) : Nat) : Int) := by rw [Int.natCast_mul, Int.natCast_pow]; rfl
  have h2 : z * 2 ^ (8 * j) < 18446744073709551616 := by
    have : z * 2 ^ (8 * j) ≤ 255 * 2 ^ (8 * j) := Nat.mul_le_mul_right _ (by omega)
    have h0 : 0 < 2 ^ (8 * j) := Nat.two_pow_pos _
    omega
  rw [e2, IntKind.wrap_u64]
  omega
theorem shl_lt (z j : Nat) (hz : z < 256) (hj : j < 8) : z * 2 ^ (8 * j) < 18446744073709551616 := by
  have h1 := pw8 hj
  have : z * 2 ^ (8 * j) ≤ 255 * 2 ^ (8 * j) := Nat.mul_le_mul_right _ (by omega)
  have h0 : 0 < 2 ^ (8 * j) := Nat.two_pow_pos _
  omega
theorem or_step (t z j : Nat) (ht : t < 2 ^ (8 * j)) (hz : z < 256) (hj : j < 8) : bits .or .u64 (t : Int) (IntKind.u64.wrap ((z : Int) * 2 ^ (8 * j))) = ((t + z * 2 ^ (8 * j) : Nat) : Int) := by
  have h1 := pw8 hj
  rw [shl_step z j hz hj, u64_or_nat _ _ (by omega) (shl_lt z j hz hj), Nat.or_comm, Nat.mul_comm, ← Nat.two_pow_add_eq_or_of_lt ht, Nat.add_comm]
theorem byte_nat {zs : List Int} (hb : Byt zs) (j : Nat) (h : j < zs.length) : ∃ z : Nat, zs.getD j 0 = (z : Int) ∧ z < 256 := by
  have := S.byt_at hb j h
  exact ⟨(zs.getD j 0).toNat, by omega, by omega⟩
set_option maxHeartbeats 1000000 in
theorem told_any (a : Option Addr) (len cap : Nat) (zs : List Int) (w : World) (R : Row .u8 w a len cap zs) (hl : len ≤ 8) :
    Calls Tryd.prog 51 #[.slice a len cap] w fun e w' => e = .returned (.int .u64 ((tell zs : Nat) : Int)) ∧ w' = w := by
  have hlz := R.size
  have hby := R.byte
  go_enter Tryd.func51, Tryd.ntmps51
  go_wp2
  go_loopg [3, 8] len (fun g st ix wr => ∃ (j t : Nat), ix = .int .i64 j ∧ st = .int .u64 t ∧ Hid (tell (zs.take j) = t) ∧ j + g = len ∧ wr = w)
  case atStart => exact ⟨0, 0, rfl, rfl, rfl, by omega, rfl⟩
  case round =>
    obtain ⟨j, t, rfl, rfl, HT, hg, rfl⟩ := hrel
    by_cases hc : j < len
    · obtain ⟨b, off, rfl, hb, hcell⟩ := R.mem.resolve_left (by omega)
      have hcj := hcell j hc
      obtain ⟨z, hz, hz2⟩ := byte_nat hby j (by omega)
      have HN : Hid (tell (zs.take (j + 1)) = t + z * 2 ^ (8 * j)) := by
        show _ = _
        rw [S.take_snoc _ _ (by omega), tell_snoc, HT.out, hz, List.length_take, Nat.min_eq_left (by omega)]
        rfl
      have hlt : t < 2 ^ (8 * j) := by
        have := tell_lt (zs.take j) (fun c hc => hby c (List.mem_of_mem_take hc))
        rw [HT.out, List.length_take, Nat.min_eq_left (by omega)] at this
        exact this
      rw [hz] at hcj
      clear hcell hz
      go_wp2
      go_roundg (gk - 1)
      case measure => omega
      case rel => exact ⟨j + 1, t + z * 2 ^ (8 * j), by first | rfl | go_num, by rw [or_step t z j hlt hz2 (by omega)], HN, by omega, rfl⟩
    · have e : j = len := by omega
      subst e
      have HF := HT.out
      rw [List.take_of_length_le (by omega)] at HF
      clear HT
      go_wp2
      go_ret
      refine ⟨?_, rfl⟩
      rw [HF]
      rfl
theorem shr_step (n j : Nat) : ((n : Int) / 2 ^ (8 * j) % 256) = ((n / 2 ^ (8 * j) % 256 : Nat) : Int) := by
  have e : ((n : Int) / 2 ^ (8 * j)) = ((n / 2 ^ (8 * j) : Nat) : Int) := by rw [Int.natCast_ediv, Int.natCast_pow]; rfl
  rw [e]
  omega
theorem splice_snoc (bs zs : List Int) (o : Nat) (z : Int) (h : o + zs.length < bs.length) : (splice bs o zs).set (o + zs.length) z = splice bs o (zs ++ [z]) := by
  unfold splice
  rw [List.set_append_right _ _ (by simp; omega), List.length_take, Nat.min_eq_left (by omega), Nat.add_sub_cancel_left, List.set_append_right _ _ (Nat.le_refl _), Nat.sub_self, List.length_append, List.length_singleton, List.drop_eq_getElem_cons h, List.set_cons_zero, List.append_assoc, List.singleton_append]
  rfl
set_option maxHeartbeats 1000000 in
theorem lay_any (g off len cap n : Nat) (t : TypeId) (bs : List Int) (w : World) (B : Blk w g t bs) (ho : off + len ≤ bs.length) (hl : len ≤ 8) (hn : n < 18446744073709551616) :
    Calls Tryd.prog 45 #[.slice (some ⟨g, off, none⟩) len cap, .int .u64 (n : Int)] w fun e w' => e = .returned (.tuple #[]) ∧ Blk w' g t (splice bs off (le len n)) ∧ Only (at1 g) w w' ∧ w'.heap.size = w.heap.size := by
  go_enter Tryd.func45, Tryd.ntmps45
  go_wp2
  go_loopg [7] len (fun gk ix wr => ∃ (j : Nat), ix = .int .i64 j ∧ j + gk = len ∧ Blk wr g t (splice bs off (le j n)) ∧ Only (at1 g) w wr ∧ wr.heap.size = w.heap.size)
  case atStart => exact ⟨0, rfl, by omega, by simpa [le, splice] using B, Only.refl _ _, rfl⟩
  case round =>
    obtain ⟨j, rfl, hg, Bj, oj, hsz⟩ := hrel
    by_cases hc : j < len
    · have hf := row_free Bj (off + j)
      have hcl : ∃ v, wr.cell? ⟨g, off + j, none⟩ = some v := ⟨_, row_cell Bj (off + j) _ (bv_at _ _ (by rw [length_splice _ _ _ (by rw [le_len]; omega)]; omega))⟩
      obtain ⟨v0, hv0⟩ := hcl
      clear B
      go_wp2
      go_roundg (gk - 1)
      case measure => omega
      case rel =>
        refine ⟨j + 1, by first | rfl | go_num, by omega, ?_, oj.set _ _, ?_⟩
        · rw [shr_step]
          have := set_row Bj (off + j) (bv ((n / 2 ^ (8 * j) % 256 : Nat) : Int))
          refine this.trans ?_
          have e : ((splice bs off (le j n)).map bv).toArray.setIfInBounds (off + j) (bv ((n / 2 ^ (8 * j) % 256 : Nat) : Int)) = ((splice bs off (le (j + 1) n)).map bv).toArray := by
            rw [le_snoc, ← splice_snoc _ _ _ _ (by rw [le_len]; omega), le_len, List.map_set, List.setIfInBounds_toArray]
          rw [e]
        · simpa [World.setCell] using hsz
    · have e : j = len := by omega
      subst e
      go_wp2
      exact bodyPost_end (v := .tuple #[]) (by simp [results, Tryd.results45, go_sem]) rfl ⟨rfl, Bj, oj, hsz⟩
end Go.Proofs.YtaacggbfoejjhaaDoor
