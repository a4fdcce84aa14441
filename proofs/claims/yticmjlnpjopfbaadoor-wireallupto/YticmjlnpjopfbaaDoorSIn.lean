/-
  What sumIn, bytes.Clone and bodyIn return.
-/
import Derived.Test.YticmjlnpjopfbaaDoorSStand
import Derived.Lib.BufferMore
namespace Go.Proofs.YticmjlnpjopfbaaDoor.S
open Go.ChangeShapes Go.WideShapes Go.ChangeAt Go.RowKit
set_option linter.unusedVariables false

/-- The number of four bytes, the lowest first. -/
def num4 (l : List Int) : Nat := (l.getD 0 0).toNat + 256 * (l.getD 1 0).toNat + 65536 * (l.getD 2 0).toNat + 16777216 * (l.getD 3 0).toNat

theorem or32 (i : Nat) (x y : Int) (P : Nat) (hP : P = 2 ^ i) (hx : 0 ≤ x ∧ x < P) (hy : 0 ≤ y) (h : x + y * P < 4294967296) : bits .or .u32 x (y * P) = x + y * P := by
  obtain ⟨a, rfl⟩ := Int.eq_ofNat_of_zero_le hx.1
  obtain ⟨c, rfl⟩ := Int.eq_ofNat_of_zero_le hy
  have e : ((c : Int) * (P : Int)) = ((c * P : Nat) : Int) := by simp
  have hc : c * P < 4294967296 := by rw [e] at h; omega
  rw [e, u32_or_nat a (c * P) (by rw [e] at h; omega) hc, Nat.or_comm, nat_join i (c * P) a (by rw [hP]; simp) (by rw [← hP]; omega)]
  omega

set_option maxHeartbeats 2000000 in
theorem sumIn_any (b off len cap : Nat) (zs : List Int) (w : World) (R : Row .u8 w (some ⟨b, off, none⟩) len cap zs) (h4 : 4 ≤ len) (hcap : cap ≤ 9223372036854775807) :
    Calls Tryd.prog 65 #[.slice (some ⟨b, off, none⟩) len cap] w fun e w' => e = .returned (.int .u32 ((num4 (zs.drop (len - 4)) : Nat) : Int)) ∧ ∃ n, w' = w.drewN n := by
  have hle := R.le
  have hsz := R.size
  obtain ⟨k, rfl⟩ : ∃ k, len = k + 4 := ⟨len - 4, by omega⟩
  have hk : k + 4 - 4 = k := by omega
  rw [hk]
  have c0 := R.at k (by omega)
  have c1 := R.at (k + 1) (by omega)
  have c2 := R.at (k + 2) (by omega)
  have c3 := R.at (k + 3) (by omega)
  have b0 := byt_at R.byte k (by omega)
  have b1 := byt_at R.byte (k + 1) (by omega)
  have b2 := byt_at R.byte (k + 2) (by omega)
  have b3 := byt_at R.byte (k + 3) (by omega)
  have HN : Hid (num4 (zs.drop k) = (zs.getD k 0).toNat + 256 * (zs.getD (k + 1) 0).toNat + 65536 * (zs.getD (k + 2) 0).toNat + 16777216 * (zs.getD (k + 3) 0).toNat) := by
    show _ = _
    simp only [num4, List.getD_eq_getElem?_getD, List.getElem?_drop, Nat.add_zero]
  obtain ⟨x0, e0⟩ : ∃ x, zs.getD k 0 = x := ⟨_, rfl⟩
  obtain ⟨x1, e1⟩ : ∃ x, zs.getD (k + 1) 0 = x := ⟨_, rfl⟩
  obtain ⟨x2, e2⟩ : ∃ x, zs.getD (k + 2) 0 = x := ⟨_, rfl⟩
  obtain ⟨x3, e3⟩ : ∃ x, zs.getD (k + 3) 0 = x := ⟨_, rfl⟩
  rw [e0] at c0 b0 HN
  rw [e1] at c1 b1 HN
  rw [e2] at c2 b2 HN
  rw [e3] at c3 b3 HN
  rw [← Nat.add_assoc] at c1 c2 c3
  clear e0 e1 e2 e3
  have o1 : bits .or .u32 x0 (x1 * 256) = x0 + x1 * 256 := or32 8 x0 x1 256 rfl (by omega) (by omega) (by omega)
  have o2 : bits .or .u32 (x0 + x1 * 256) (x2 * 65536) = x0 + x1 * 256 + x2 * 65536 := or32 16 (x0 + x1 * 256) x2 65536 rfl (by omega) (by omega) (by omega)
  have o3 : bits .or .u32 (x0 + x1 * 256 + x2 * 65536) (x3 * 16777216) = x0 + x1 * 256 + x2 * 65536 + x3 * 16777216 := or32 24 (x0 + x1 * 256 + x2 * 65536) x3 16777216 rfl (by omega) (by omega) (by omega)
  go_enter Tryd.func65, Tryd.ntmps65
  go_wp2
  go_quiet (fail)
  go_wp2
  go_ret
  refine ⟨ret_u32 ?_, _, rfl⟩
  rw [HN.out]
  first | omega | (rw [o1, o2, o3]; omega)

theorem heap_new (w : World) (o : Obj) : (w.alloc o).heap[w.heap.size]? = some o := by
  show (w.heap.push o)[w.heap.size]? = some o
  exact Array.getElem?_push_size
theorem own_empty (w : World) : Own w.heap.size (w.alloc (.cells #[] 5)) (.slice (some ⟨w.heap.size, 0, none⟩) 0 0) [] :=
  ⟨rfl, .inr ⟨w.heap.size, 0, #[], rfl, Nat.le_refl _, heap_new _ _, Nat.le_refl _, Nat.zero_le _, rfl, rfl⟩⟩

set_option maxHeartbeats 1000000 in
theorem clone_any (ad : Addr) (len cap : Nat) (zs : List Int) (w : World) (R : Row .u8 w (some ad) len cap zs) (hl : len ≤ 140737488355328) :
    Calls Tryd.prog 82 #[.slice (some ad) len cap] w fun e w' => ∃ v, e = .returned v ∧ Own w.heap.size w' v zs ∧ Below w.heap.size w w' := by
  have R1 := R.alloc (.cells #[] 5)
  have O1 := own_empty w
  have hnil : ∀ w' : World, (binOp .eql 27 (.slice (some ad) len cap) (.slice none 0 0)).run Tryd.prog w' = .ok (.bool false) w' := fun w' => Go.Lib.run_eql_slice_some_nil w' ad len cap Tryd.underlying27
  go_enter Tryd.func82, Tryd.ntmps82
  go_wp2_with (at_builtin; refine wpList_append_row _ rfl _ _ rfl w.heap.size _ [] rfl O1 _ _ _ zs rfl R1 (by simp) (by simp; omega) ?_)
  intro v w2 ho hB
  go_wp2
  go_ret
  exact ⟨_, rfl, by simpa using ho, ((Below.refl _ w).alloc (Nat.le_refl _) _).trans hB⟩

set_option maxHeartbeats 1000000 in
theorem bodyIn_any (b off len cap : Nat) (zs : List Int) (w : World) (R : Row .u8 w (some ⟨b, off, none⟩) len cap zs) (h8 : 8 ≤ len) (hl : len ≤ 140737488355328) (hcap : cap ≤ 9223372036854775807) :
    Calls Tryd.prog 66 #[.slice (some ⟨b, off, none⟩) len cap] w fun e w' => ∃ v, e = .returned v ∧ Own w.heap.size w' v ((zs.drop 4).take (len - 8)) ∧ Below w.heap.size w w' := by
  have hle := R.le
  have P := R.part 4 (len - 4) (by omega) (by omega)
  have e : (⟨b, off, none⟩ : Addr).add 4 = ⟨b, off + 4, none⟩ := by unfold Addr.add; split <;> simp_all
  obtain ⟨k, rfl⟩ : ∃ k, len = k + 8 := ⟨len - 8, by omega⟩
  rw [e, show k + 8 - 4 - 4 = k by omega] at P
  have K := clone_any _ _ _ _ w P (by omega)
  rw [show k + 8 - 8 = k by omega]
  go_enter Tryd.func66, Tryd.ntmps66
  go_wp2_with (go_at_call 82; refine K.mono ?_; rintro e w1 ⟨v, rfl, ho, hb⟩)
  go_ret
  exact ⟨_, rfl, ho, hb⟩

end Go.Proofs.YticmjlnpjopfbaaDoor.S
