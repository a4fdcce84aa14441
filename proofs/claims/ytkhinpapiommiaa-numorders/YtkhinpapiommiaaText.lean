/-
  What num.Text returns for every wide number: its decimal digits.
-/
import Derived.Test.YtkhinpapiommiaaDiv
import Derived.Test.YtkhinpapiommiaaParse
import Derived.Laws.IdiomStrings
namespace Go.Proofs.Ytkhinpapiommiaa
open Go.ChangeShapes Go.WideShapes Go.ChangeAt Go.RowKit
set_option linter.unusedVariables false

/-! ### Plain: decimal digits -/
def digit (n : Nat) : UInt8 := UInt8.ofNat (48 + n % 10)
def dgF : Nat → Nat → List UInt8
  | 0, n => [digit n]
  | f + 1, n => if n < 10 then [digit n] else dgF f (n / 10) ++ [digit n]
def dgs (n : Nat) : List UInt8 := dgF n n
theorem dgF_small {f n : Nat} (h : n < 10) : dgF f n = [digit n] := by
  cases f with
  | zero => rfl
  | succ f => rw [dgF, if_pos h]
theorem dgF_fuel (f : Nat) : ∀ g n : Nat, n ≤ f → n ≤ g → dgF f n = dgF g n := by
  induction f with
  | zero =>
    intro g n hf hg
    rw [dgF_small (by omega), dgF_small (by omega)]
  | succ f ih =>
    intro g n hf hg
    by_cases h : n < 10
    · rw [dgF_small h, dgF_small h]
    · cases g with
      | zero => omega
      | succ g => rw [dgF, dgF, if_neg h, if_neg h, ih g (n / 10) (by omega) (by omega)]
theorem dgs_small {n : Nat} (h : n < 10) : dgs n = [digit n] := dgF_small h
theorem dgs_big {n : Nat} (h : ¬ n < 10) : dgs n = dgs (n / 10) ++ [digit n] := by
  unfold dgs
  rw [dgF_fuel n (n + 1) n (Nat.le_refl _) (by omega), dgF, if_neg h, dgF_fuel n (n / 10) (n / 10) (by omega) (Nat.le_refl _)]
theorem digit_toNat (n : Nat) : (digit n).toNat = 48 + n % 10 := by
  unfold digit
  rw [UInt8.toNat_ofNat_of_lt' (by show 48 + n % 10 < 256; omega)]

/-- What the loop of Text keeps: of n the digits ds are written, the number m is left; b: there is more. -/
def Left (n m k : Nat) (b : Bool) (ds : List UInt8) : Prop :=
  (b = true ∧ dgs n = dgs m ++ ds ∧ m * 10 ^ k ≤ n ∧ (k = 0 ∨ 1 ≤ m)) ∨ (b = false ∧ dgs n = ds)
theorem Left.start (n : Nat) : Left n n 0 true [] := .inl ⟨rfl, by simp, by simp, .inl rfl⟩
theorem Left.room {n m k : Nat} {ds : List UInt8} (h : Left n m k true ds) (hn : n < 340282366920938463463374607431768211456) : k < 39 := by
  rcases h with ⟨_, _, h, h0⟩ | ⟨h, _⟩
  · rcases h0 with rfl | h0
    · omega
    · rcases Nat.lt_or_ge k 39 with hk | hk
      · exact hk
      · have h1 : 10 ^ 39 ≤ 10 ^ k := Nat.pow_le_pow_right (by omega) hk
        have h2 : 1 * 10 ^ k ≤ m * 10 ^ k := Nat.mul_le_mul_right _ h0
        have h3 : (10 : Nat) ^ 39 = 1000000000000000000000000000000000000000 := by decide +kernel
        omega
  · cases h
theorem Left.more {n m k : Nat} {ds : List UInt8} (h : Left n m k true ds) (hm : ¬ m < 10) : Left n (m / 10) (k + 1) true (digit m :: ds) := by
  rcases h with ⟨_, h, h1, _⟩ | ⟨h, _⟩
  · refine .inl ⟨rfl, ?_, ?_, .inr (by omega)⟩
    · rw [h, dgs_big hm]; simp
    · rw [Nat.pow_succ, Nat.mul_comm (10 ^ k) 10, ← Nat.mul_assoc]
      exact Nat.le_trans (Nat.mul_le_mul_right _ (by omega)) h1
  · cases h
theorem Left.last {n m k : Nat} {ds : List UInt8} (h : Left n m k true ds) (hm : m < 10) : Left n (m / 10) (k + 1) false (digit m :: ds) := by
  rcases h with ⟨_, h, _, _⟩ | ⟨h, _⟩
  · exact .inr ⟨rfl, by rw [h, dgs_small hm]; rfl⟩
  · cases h
theorem Left.done {n m k : Nat} {ds : List UInt8} (h : Left n m k false ds) : dgs n = ds := by
  rcases h with ⟨h, _⟩ | ⟨_, h⟩
  · cases h
  · exact h

/-- The row of 39 bytes, the last k of them written. -/
structure Dig (W : World) (B k : Nat) (ds : List UInt8) : Prop where
  len : ds.length = k
  le : k ≤ 39
  cells : ∀ i, i < 39 → ∃ v, W.cell? ⟨B, i, none⟩ = some v
  free : ∀ i, W.frozen? ⟨B, i, none⟩ = false
  have_ : ∀ j (hj : j < ds.length), W.cell? ⟨B, 39 - k + j, none⟩ = some (.int .u8 (ds[j].toNat : Int))
  lt : B < W.heap.size
theorem Dig.below {W w1 : World} {B k : Nat} {ds : List UInt8} (h : Dig W B k ds) (hb : Below W.heap.size W w1) : Dig w1 B k ds :=
  ⟨h.len, h.le, fun i hi => by obtain ⟨v, e⟩ := h.cells i hi; exact ⟨v, (hb.cell (p := ⟨B, i, none⟩) h.lt).trans e⟩, fun i => (hb.frozen (p := ⟨B, i, none⟩) h.lt).trans (h.free i), fun j hj => (hb.cell (p := ⟨B, 39 - k + j, none⟩) h.lt).trans (h.have_ j hj), Nat.lt_of_lt_of_le h.lt hb.size⟩
theorem Dig.far {W : World} {B k : Nat} {ds : List UInt8} (h : Dig W B k ds) (a : Value) (j o : Nat) (n : j ≠ B) : Dig (W.setCell ⟨j, o, none⟩ a) B k ds :=
  ⟨h.len, h.le, fun i hi => by obtain ⟨v, e⟩ := h.cells i hi; exact ⟨v, (World.cell?_setCell_other _ _ _ _ (fun e => n (congrArg Addr.block e))).trans e⟩, fun i => by simpa using h.free i, fun q hq => (World.cell?_setCell_other _ _ _ _ (fun e => n (congrArg Addr.block e))).trans (h.have_ q hq), by simpa using h.lt⟩
theorem Dig.push {W : World} {B k : Nat} {ds : List UInt8} (h : Dig W B k ds) (hk : k < 39) (d : UInt8) (p : Nat) (hp : p = 38 - k) : Dig (W.setCell ⟨B, p, none⟩ (.int .u8 (d.toNat : Int))) B (k + 1) (d :: ds) := by
  subst hp
  obtain ⟨v, hv⟩ := h.cells (38 - k) (by omega)
  refine ⟨by simp [h.len], by omega, fun i hi => ?_, fun i => by simpa using h.free i, fun j hj => ?_, by simpa using h.lt⟩
  · by_cases e : i = 38 - k
    · subst e; exact ⟨_, World.cell?_setCell_same _ _ _ hv⟩
    · obtain ⟨u, hu⟩ := h.cells i hi
      exact ⟨u, (World.cell?_setCell_other _ _ _ _ (fun q => e (congrArg Addr.off q).symm)).trans hu⟩
  · cases j with
    | zero => rw [show 39 - (k + 1) + 0 = 38 - k by omega]; exact World.cell?_setCell_same _ _ _ hv
    | succ j =>
      have hj' : j < ds.length := by simpa using hj
      rw [World.cell?_setCell_other _ _ _ _ (fun q => by have := congrArg Addr.off q; dsimp only at this; omega), show 39 - (k + 1) + (j + 1) = 39 - k + j by omega]
      exact h.have_ j hj'
theorem Dig.new (W : World) (c : Array Value) (t : TypeId) (hc : c.size = 39) : Dig (W.alloc (.cells c t)) W.heap.size 0 [] :=
  ⟨rfl, by omega, fun i hi => ⟨c[i]'(by omega), by rw [World.cell?_alloc_new, Array.getElem?_eq_getElem]⟩, fun i => World.frozen?_alloc_new _ _ _ _, fun j hj => by simp at hj, by simp⟩

theorem Dig.at {W : World} {B B' k : Nat} {ds : List UInt8} (h : Dig W B k ds) (e : B = B') : Dig W B' k ds := e ▸ h
theorem dgs_pos (n : Nat) : 0 < (dgs n).length := by
  by_cases h : n < 10
  · rw [dgs_small h]; simp
  · rw [dgs_big h]; simp
theorem arr58 : Try.prog.arrayLen 58 = 39 := by kernel_rfl
theorem elem58 : Try.prog.elem 58 = 5 := by kernel_rfl
theorem slice_tail (W : World) (B k : Nat) (h0 : 0 < k) (hk : k ≤ 39) :
    (Instr.sliceAt 58 (.pointer (some ⟨B, 0, none⟩)) (some (.int .i64 (39 - (k : Int)))) none none).run Try.prog W = .ok (.slice (some ⟨B, 39 - k, none⟩) k k) W := by
  have e : (39 : Int) - (k : Int) = ((39 - k : Nat) : Int) := by omega
  have h := run_sliceAt_array_l (P := Try.prog) W 58 ⟨B, 0, none⟩ (by rw [arr58, elem58]; exact Try.underlying58) .i64 (39 - (k : Int)) (by omega) (by rw [arr58]; omega)
  have hs : (sizeOf 5).run Try.prog W = .ok 1 W := by kernel_rfl
  rw [h, arr58, elem58, e, hs]
  have n : ¬ (39 = 39 - k) := by omega
  simp [Result.andThen, slicedAt, n, Addr.add]
  omega
theorem ret_str {a b : ByteArray} (h : a = b) : Ending.returned (.string a) = .returned (.string b) := by rw [h]

set_option maxHeartbeats 2000000 in
theorem text_any (n : Int) (w : World) (h0 : 0 ≤ n) (h1 : n < 340282366920938463463374607431768211456) :
    Calls Try.prog 30 #[wide (hiW n) (lo64 n)] w fun e w' => e = .returned (.string ⟨(dgs n.toNat).toArray⟩) ∧ Below w.heap.size w w' := by
  go_enter Try.func30, Try.ntmps30
  go_wp2_with fail
  go_loopg [4, 5] 40 (fun g a o wr => ∃ (k : Nat) (m : Int) (b : Bool) (ds : List UInt8), k + g = 40 ∧ a = .int .i64 (39 - (k : Int)) ∧ o = .bool b ∧ 0 ≤ m ∧ m < 340282366920938463463374607431768211456 ∧ Hid (Left n.toNat m.toNat k b ds) ∧ Two wr w.heap.size (.int .u64 (hiW m)) (.int .u64 (lo64 m)) ∧ Dig wr (w.heap.size + 1) k ds ∧ Below w.heap.size w wr)
  case atStart => exact ⟨0, n, true, [], rfl, by go_num, rfl, h0, h1, Left.start _, (Two.new _ _ _ _).alloc _, (Dig.new _ _ _ rfl).at (by simp), by go_grown⟩
  case round =>
    obtain ⟨k, m, b, ds, hkg, rfl, rfl, hm0, hm1, HT, T, D, hB⟩ := hrel
    obtain ⟨q0, q1, g0, g1, z⟩ := id T
    have HK : Hid (k + gk = 40) := hkg
    have hk39 : k ≤ 39 := D.le
    clear hkg
    by_cases hb : b = true
    · subst hb
      have hk : k < 39 := Left.room HT.out (by omega)
      have V : Hid (val (hiW m) (lo64 m) = m) := val_self hm0 hm1
      obtain ⟨n1, n2⟩ := hiW_bd m
      obtain ⟨n3, n4⟩ := lo64_bd m
      have ea : (39 : Int) - (k : Int) - 1 = ((38 - k : Nat) : Int) := by omega
      have EA : Hid _ := ea
      clear ea
      go_wp2_with fail
      refine (split_any _ _ _ n1 n2 n3 n4).mono ?_
      rintro e w1 ⟨rfl, hb1⟩
      rw [V.out]
      have X := T.below hb1
      have E := D.below hb1
      obtain ⟨x0, x1, y0, y1, v⟩ := id X
      obtain ⟨u, hu⟩ := E.cells (39 - k - 1) (by omega)
      have hf := E.free (39 - k - 1)
      have hlt := E.lt
      have hB1 : Below w.heap.size w w1 := hB.trans (hb1.mono hB.size)
      clear hb1 q0 q1 g0 g1
      have ed : Hid (48 + m % 10 = ((digit m.toNat).toNat : Int)) := by show _ = _; rw [digit_toNat]; omega
      have et : Hid ((m / 10).toNat = m.toNat / 10) := by show _ = _; omega
      by_cases c : m < 10
      · have hz : m / 10 = 0 := by omega
        have e1 : hiW (m / 10) = 0 := by rw [hz]; rfl
        have e2 : lo64 (m / 10) = 0 := by rw [hz]; rfl
        have E1 : Hid _ := e1
        have E2 : Hid _ := e2
        rw [e1, e2]
        clear e1 e2 hz
        go_wp2
        go_roundg (gk - 1)
        case measure => have := HK.out; omega
        case rel =>
          refine ⟨k + 1, m / 10, false, digit m.toNat :: ds, by have := HK.out; omega, by rw [show (39 : Int) - (k : Int) - 1 = 39 - ((k + 1 : Nat) : Int) by omega], rfl, by omega, by omega, ?_, ?_, ?_, ?_⟩
          · show Left _ _ _ _ _; rw [et.out]; exact Left.last HT.out (by omega)
          · exact Two.far ((Two.set X _ _).vals (by rw [E1.out]) (by rw [E2.out])) _ _ _ (by omega)
          · rw [ed.out]; exact Dig.push (Dig.far (Dig.far E _ _ _ (by omega)) _ _ _ (by omega)) hk _ _ (by omega)
          · exact ((hB1.setCell (by simp) _).setCell (by simp) _).setCell (by simp) _
      · by_cases hz : hiW (m / 10) = 0
        · have f1 : (lo64 (m / 10) == 0) = false := by
            simp only [beq_eq_false_iff_ne]; intro e
            have := val_self (n := m / 10) (by omega) (by omega)
            rw [hz, e] at this
            unfold val at this
            omega
          have f0 : (hiW (m / 10) == 0) = true := by simp [hz]
          clear hz
          go_wp2
          go_roundg (gk - 1)
          case measure => have := HK.out; omega
          case rel =>
            refine ⟨k + 1, m / 10, true, digit m.toNat :: ds, by have := HK.out; omega, by rw [show (39 : Int) - (k : Int) - 1 = 39 - ((k + 1 : Nat) : Int) by omega], rfl, by omega, by omega, ?_, ?_, ?_, ?_⟩
            · show Left _ _ _ _ _; rw [et.out]; exact Left.more HT.out (by omega)
            · exact Two.far (Two.set X _ _) _ _ _ (by omega)
            · rw [ed.out]; exact Dig.push (Dig.far (Dig.far E _ _ _ (by omega)) _ _ _ (by omega)) hk _ _ (by omega)
            · exact ((hB1.setCell (by simp) _).setCell (by simp) _).setCell (by simp) _
        · have f0 : (hiW (m / 10) == 0) = false := by simp [hz]
          clear hz
          go_wp2
          go_roundg (gk - 1)
          case measure => have := HK.out; omega
          case rel =>
            refine ⟨k + 1, m / 10, true, digit m.toNat :: ds, by have := HK.out; omega, by rw [show (39 : Int) - (k : Int) - 1 = 39 - ((k + 1 : Nat) : Int) by omega], rfl, by omega, by omega, ?_, ?_, ?_, ?_⟩
            · show Left _ _ _ _ _; rw [et.out]; exact Left.more HT.out (by omega)
            · exact Two.far (Two.set X _ _) _ _ _ (by omega)
            · rw [ed.out]; exact Dig.push (Dig.far (Dig.far E _ _ _ (by omega)) _ _ _ (by omega)) hk _ _ (by omega)
            · exact ((hB1.setCell (by simp) _).setCell (by simp) _).setCell (by simp) _
    · have hb' : b = false := by simpa using hb
      subst hb'
      have hds : Hid (dgs n.toNat = ds) := Left.done HT.out
      have hk0 : Hid (0 < k) := by
        rcases HT.out with ⟨h, _⟩ | ⟨_, h⟩
        · cases h
        · have := dgs_pos n.toNat
          rw [h, D.len] at this
          exact this
      have sl : (Instr.sliceAt 58 (.pointer (some ⟨w.heap.size + 1, 0, none⟩)) (some (.int .i64 (39 - (k : Int)))) none none).run Try.prog wr = .ok (.slice (some ⟨w.heap.size + 1, 39 - k, none⟩) k k) wr := slice_tail wr _ k hk0.out hk39
      have cv := run_convert_bytes_back (P := Try.prog) wr 61 9 5 ⟨w.heap.size + 1, 39 - k, none⟩ k ds Try.underlying61 Try.underlying5 Try.underlying9 (fun j hj => by rw [add_plain]; exact D.have_ j hj)
      rw [D.len] at cv
      go_wp2
      go_ret
      exact ⟨by rw [hds.out]; rfl, hB⟩
end Go.Proofs.Ytkhinpapiommiaa
