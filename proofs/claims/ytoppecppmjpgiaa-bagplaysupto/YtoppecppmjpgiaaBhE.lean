/-
  Package bag: the document's Between.
-/
import Derived.Test.YtoppecppmjpgiaaBhD
namespace Go.Proofs.Ytoppecppmjpgiaa
open Go.ChangeShapes Go.WideShapes Go.ChangeAt Go.RowKit Go.Maps
set_option linter.unusedVariables false
set_option linter.unusedSimpArgs false

set_option maxRecDepth 100000 in
set_option maxHeartbeats 8000000 in
theorem rbetween_any (r : Nat) (next : Int) (a : Option Addr) (n cap : Nat) (ds : List DG) (la : Option Addr) (m lc : Nat) (ls : List LK) (x y : Int) (w : World) (R : RAt w r next a n cap ds la m lc ls) (hn : n ≤ 65536) : Calls Try.prog 30 #[.pointer (some ⟨r, 0, none⟩), .int .i64 x, .int .i64 y] w fun e w' => ∃ v, e = .returned v ∧ OwnN w.heap.size w' v (nums x y ds) ∧ Below w.heap.size w w' := by
  have hsz : Hid (ds.length = n) := ⟨R.lst.size⟩
  have L := R.lst
  go_enter Try.func30, Try.ntmps30
  go_wp2
  go_loopg [7, 8] n (fun g v7 v8 wr => ∃ i : Nat, v8 = .int .i64 (i : Int) ∧ i + g = n ∧ Hid (OwnN w.heap.size wr v7 (nums x y (ds.take i))) ∧ Hid (Below w.heap.size w wr))
  case atStart => exact ⟨0, rfl, by omega, ⟨OwnN.nil _ _⟩, ⟨Below.refl _ _⟩⟩
  case round =>
    obtain ⟨i, rfl, hg, HO, HB⟩ := hrel
    have c1 := row_cell ((HB.out.block r (row_lt R.obj)).trans R.obj) 1 (.slice a n cap) rfl
    by_cases hi : i < n
    · have hiI : (i : Int) < (n : Int) := by omega
      have Lr : Lst wr a n cap ds := L.of_block fun g off e => HB.out.block g (by rw [e] at L; exact L.lt)
      obtain ⟨g, off, rfl, hd, hr⟩ := Lr.at i hi
      have HD : Hid (ds[i]? = some (ds.getD i DG.z)) := ⟨hd⟩
      clear hd
      obtain ⟨d, hdd⟩ : ∃ d, ds.getD i DG.z = d := ⟨_, rfl⟩
      rw [hdd] at HD hr
      clear hdd
      obtain ⟨num, src, dst, body⟩ := d
      have bA : Below wr.heap.size wr (wr.alloc (.cells #[.int .i64 num, .int .i64 src, .int .i64 dst, .string body] 33)) := (Below.refl _ _).alloc (Nat.le_refl _) _
      have OA := HO.out.below bA
      have hlen : (nums x y (ds.take i)).length + 1 ≤ 65537 := by have := nums_len x y ds i n hsz.out; omega
      have hwr : w.heap.size ≤ (wr.alloc (.cells #[.int .i64 num, .int .i64 src, .int .i64 dst, .string body] 33)).heap.size := by have := HB.out.size; have := bA.size; omega
      by_cases h1 : x = -1
      · have b1 : (x == -1) = true := by simp [h1]
        by_cases h3 : y = -1
        · have b3 : (y == -1) = true := by simp [h3]
          have hfit : fits x y ⟨num, src, dst, body⟩ = true := by simp [fits, b1, b3]
          clear h1 h3
          go_wp2_with (first
            | ((with_reducible show wpList _ _ _ (Oper.mk _ (Op.load 33 _) _ _ _ _ :: _) _ _); refine wpList_load33x rfl _ rfl g (off + i * 4) num src dst body rfl hr ?_)
            | ((with_reducible show wpList _ _ _ (Oper.mk _ (Op.call { callee := Callee.builtin Builtin.append, args := _, argTypes := _ }) _ _ _ _ :: _) _ _); go_must (refine wpList_append_num rfl _ _ rfl w.heap.size u7 (nums x y (ds.take i)) num rfl OA (wr.heap.size + 1) (by simp) rfl hwr hlen ?_; intro v5 w5 O5 b5)))
          go_roundg (gk - 1)
          case measure => omega
          case rel => exact ⟨i + 1, by go_num, by omega, ⟨by rw [nums_yes HD.out hfit]; exact O5⟩, ⟨(HB.out.trans (bA.mono HB.out.size)).trans (((Below.refl _ _).alloc hwr (.cells #[nv num] 2)).trans b5)⟩⟩
        · have b3 : (y == -1) = false := by simp [h3]
          by_cases h4 : y = dst
          · have b4 : (y == dst) = true := by simp [h4]
            have d4 : (dst == y) = true := by simp [h4]
            have hfit : fits x y ⟨num, src, dst, body⟩ = true := by simp [fits, b1, b3, b4]
            clear h1 h3 h4
            go_wp2_with (first
              | ((with_reducible show wpList _ _ _ (Oper.mk _ (Op.load 33 _) _ _ _ _ :: _) _ _); refine wpList_load33x rfl _ rfl g (off + i * 4) num src dst body rfl hr ?_)
              | ((with_reducible show wpList _ _ _ (Oper.mk _ (Op.call { callee := Callee.builtin Builtin.append, args := _, argTypes := _ }) _ _ _ _ :: _) _ _); go_must (refine wpList_append_num rfl _ _ rfl w.heap.size u7 (nums x y (ds.take i)) num rfl OA (wr.heap.size + 1) (by simp) rfl hwr hlen ?_; intro v5 w5 O5 b5)))
            go_roundg (gk - 1)
            case measure => omega
            case rel => exact ⟨i + 1, by go_num, by omega, ⟨by rw [nums_yes HD.out hfit]; exact O5⟩, ⟨(HB.out.trans (bA.mono HB.out.size)).trans (((Below.refl _ _).alloc hwr (.cells #[nv num] 2)).trans b5)⟩⟩
          · have b4 : (y == dst) = false := by simp [h4]
            have d4 : (dst == y) = false := beq_eq_false_iff_ne.2 (Ne.symm h4)
            have hfit : fits x y ⟨num, src, dst, body⟩ = false := by simp [fits, b1, b3, b4]
            clear h1 h3 h4
            go_wp2_with (first
              | ((with_reducible show wpList _ _ _ (Oper.mk _ (Op.load 33 _) _ _ _ _ :: _) _ _); refine wpList_load33x rfl _ rfl g (off + i * 4) num src dst body rfl hr ?_)
              | ((with_reducible show wpList _ _ _ (Oper.mk _ (Op.call { callee := Callee.builtin Builtin.append, args := _, argTypes := _ }) _ _ _ _ :: _) _ _); go_must (refine wpList_append_num rfl _ _ rfl w.heap.size u7 (nums x y (ds.take i)) num rfl OA (wr.heap.size + 1) (by simp) rfl hwr hlen ?_; intro v5 w5 O5 b5)))
            go_roundg (gk - 1)
            case measure => omega
            case rel => exact ⟨i + 1, by go_num, by omega, ⟨by rw [nums_no HD.out hfit]; exact OA⟩, ⟨HB.out.trans (bA.mono HB.out.size)⟩⟩
      · have b1 : (x == -1) = false := by simp [h1]
        by_cases h2 : x = src
        · have b2 : (x == src) = true := by simp [h2]
          have d2 : (src == x) = true := by simp [h2]
          by_cases h3 : y = -1
          · have b3 : (y == -1) = true := by simp [h3]
            have hfit : fits x y ⟨num, src, dst, body⟩ = true := by simp [fits, b1, b2, b3]
            clear h1 h2 h3
            go_wp2_with (first
              | ((with_reducible show wpList _ _ _ (Oper.mk _ (Op.load 33 _) _ _ _ _ :: _) _ _); refine wpList_load33x rfl _ rfl g (off + i * 4) num src dst body rfl hr ?_)
              | ((with_reducible show wpList _ _ _ (Oper.mk _ (Op.call { callee := Callee.builtin Builtin.append, args := _, argTypes := _ }) _ _ _ _ :: _) _ _); go_must (refine wpList_append_num rfl _ _ rfl w.heap.size u7 (nums x y (ds.take i)) num rfl OA (wr.heap.size + 1) (by simp) rfl hwr hlen ?_; intro v5 w5 O5 b5)))
            go_roundg (gk - 1)
            case measure => omega
            case rel => exact ⟨i + 1, by go_num, by omega, ⟨by rw [nums_yes HD.out hfit]; exact O5⟩, ⟨(HB.out.trans (bA.mono HB.out.size)).trans (((Below.refl _ _).alloc hwr (.cells #[nv num] 2)).trans b5)⟩⟩
          · have b3 : (y == -1) = false := by simp [h3]
            by_cases h4 : y = dst
            · have b4 : (y == dst) = true := by simp [h4]
              have d4 : (dst == y) = true := by simp [h4]
              have hfit : fits x y ⟨num, src, dst, body⟩ = true := by simp [fits, b1, b2, b3, b4]
              clear h1 h2 h3 h4
              go_wp2_with (first
                | ((with_reducible show wpList _ _ _ (Oper.mk _ (Op.load 33 _) _ _ _ _ :: _) _ _); refine wpList_load33x rfl _ rfl g (off + i * 4) num src dst body rfl hr ?_)
                | ((with_reducible show wpList _ _ _ (Oper.mk _ (Op.call { callee := Callee.builtin Builtin.append, args := _, argTypes := _ }) _ _ _ _ :: _) _ _); go_must (refine wpList_append_num rfl _ _ rfl w.heap.size u7 (nums x y (ds.take i)) num rfl OA (wr.heap.size + 1) (by simp) rfl hwr hlen ?_; intro v5 w5 O5 b5)))
              go_roundg (gk - 1)
              case measure => omega
              case rel => exact ⟨i + 1, by go_num, by omega, ⟨by rw [nums_yes HD.out hfit]; exact O5⟩, ⟨(HB.out.trans (bA.mono HB.out.size)).trans (((Below.refl _ _).alloc hwr (.cells #[nv num] 2)).trans b5)⟩⟩
            · have b4 : (y == dst) = false := by simp [h4]
              have d4 : (dst == y) = false := beq_eq_false_iff_ne.2 (Ne.symm h4)
              have hfit : fits x y ⟨num, src, dst, body⟩ = false := by simp [fits, b1, b2, b3, b4]
              clear h1 h2 h3 h4
              go_wp2_with (first
                | ((with_reducible show wpList _ _ _ (Oper.mk _ (Op.load 33 _) _ _ _ _ :: _) _ _); refine wpList_load33x rfl _ rfl g (off + i * 4) num src dst body rfl hr ?_)
                | ((with_reducible show wpList _ _ _ (Oper.mk _ (Op.call { callee := Callee.builtin Builtin.append, args := _, argTypes := _ }) _ _ _ _ :: _) _ _); go_must (refine wpList_append_num rfl _ _ rfl w.heap.size u7 (nums x y (ds.take i)) num rfl OA (wr.heap.size + 1) (by simp) rfl hwr hlen ?_; intro v5 w5 O5 b5)))
              go_roundg (gk - 1)
              case measure => omega
              case rel => exact ⟨i + 1, by go_num, by omega, ⟨by rw [nums_no HD.out hfit]; exact OA⟩, ⟨HB.out.trans (bA.mono HB.out.size)⟩⟩
        · have b2 : (x == src) = false := by simp [h2]
          have d2 : (src == x) = false := beq_eq_false_iff_ne.2 (Ne.symm h2)
          have hfit : fits x y ⟨num, src, dst, body⟩ = false := by simp [fits, b1, b2]
          clear h1 h2
          go_wp2_with (first
            | ((with_reducible show wpList _ _ _ (Oper.mk _ (Op.load 33 _) _ _ _ _ :: _) _ _); refine wpList_load33x rfl _ rfl g (off + i * 4) num src dst body rfl hr ?_)
            | ((with_reducible show wpList _ _ _ (Oper.mk _ (Op.call { callee := Callee.builtin Builtin.append, args := _, argTypes := _ }) _ _ _ _ :: _) _ _); go_must (refine wpList_append_num rfl _ _ rfl w.heap.size u7 (nums x y (ds.take i)) num rfl OA (wr.heap.size + 1) (by simp) rfl hwr hlen ?_; intro v5 w5 O5 b5)))
          go_roundg (gk - 1)
          case measure => omega
          case rel => exact ⟨i + 1, by go_num, by omega, ⟨by rw [nums_no HD.out hfit]; exact OA⟩, ⟨HB.out.trans (bA.mono HB.out.size)⟩⟩
    · obtain rfl : i = n := by omega
      have hO := HO.out
      rw [List.take_of_length_le (by rw [hsz.out]; exact Nat.le_refl _)] at hO
      go_wp2
      go_ret
      exact ⟨_, rfl, hO, HB.out⟩
end Go.Proofs.Ytoppecppmjpgiaa
