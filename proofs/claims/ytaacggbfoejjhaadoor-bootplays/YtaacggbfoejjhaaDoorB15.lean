/-
  The document's own Record.
-/
import Derived.Test.YtaacggbfoejjhaaDoorB14
import Derived.Lib.SlBytesConst
import Derived.Laws.OwnMore
namespace Go.Proofs.YtaacggbfoejjhaaDoor
open Go.ChangeShapes Go.WideShapes Go.ChangeAt Go.RowKit
open D
set_option linter.unusedVariables false
set_option linter.unusedSimpArgs false

theorem row_lit (w : World) (zs : List Int) (fr : Nat × Nat) (hb : Byt zs) : Row .u8 (w.alloc (.cells (zs.map bv).toArray 5 fr)) (some ⟨w.heap.size, 0, none⟩) zs.length zs.length zs where
  size := rfl
  le := Nat.le_refl _
  nil := fun e => by cases e
  wf := fun z hz => u8_wf (hb z hz).1 (hb z hz).2
  mem := .inr ⟨w.heap.size, 0, rfl, by simp, fun k hk => by
    rw [Nat.zero_add]
    have h : (w.alloc (.cells (zs.map bv).toArray 5 fr)).heap[w.heap.size]? = _ := World.alloc_heap_new _ _
    unfold World.cell?
    simp only [h]
    exact bv_at zs k hk⟩
theorem ownB_alloc {base : Nat} {w : World} {v : Value} {zs : List Int} (h : D.Own base w v zs) (o : Obj) : D.Own base (w.alloc o) v zs := World.ownsRow.alloc h o
theorem own_lit (w : World) (base : Nat) (zs : List Int) (hb : base ≤ w.heap.size) (hl : zs.length ≤ 100) : D.Own base (w.alloc (.cells (zs.map bv).toArray 5)) (.slice (some ⟨w.heap.size, 0, none⟩) zs.length zs.length) zs := by
  have := World.ownsRow_lit (e := 5) (size := 1) w (zs.map bv).toArray zs.length hb (by unfold maxLen; omega) (by simp)
  exact this
set_option maxHeartbeats 1000000 in
theorem rrecord_no (x : Int) (w : World) (h : (decide (1 ≤ x) && decide (x ≤ 1099511627776)) = false) : Calls Tryd.prog 16 #[.int .i64 x] w fun e w' => e = .returned (.tuple #[.slice none 0 0, .slice none 0 0]) ∧ Below w.heap.size w w' := by
  have h2 : x < 1 ∨ (1 ≤ x ∧ 1099511627776 < x) := by simp at h; omega
  clear h
  rcases h2 with h | ⟨h1, h⟩
  · go_enter Tryd.func16, Tryd.ntmps16
    go_wp2
    go_ret2
    exact ⟨rfl, Below.refl _ _⟩
  · go_enter Tryd.func16, Tryd.ntmps16
    go_wp2
    go_ret2
    exact ⟨rfl, Below.refl _ _⟩
theorem le4 (s : Nat) : le 4 s = [((s % 256 : Nat) : Int), ((s / 256 % 256 : Nat) : Int), ((s / 65536 % 256 : Nat) : Int), ((s / 16777216 % 256 : Nat) : Int)] := by
  simp [le, Nat.div_div_eq_div_mul]
set_option maxRecDepth 100000 in
set_option maxHeartbeats 8000000 in
theorem rrecord_ok (n : Nat) (w : World) (h : fitB n = true) : Calls Tryd.prog 16 #[.int .i64 (n : Int)] w fun e w' => ∃ va vc, e = .returned (.tuple #[va, vc]) ∧ D.Own w.heap.size w' va (recA n) ∧ D.Own w.heap.size w' vc (recB n) ∧ Below w.heap.size w w' := by
  have hn1 : ¬ (n : Int) < 1 := by simp [fitB] at h; omega
  have hn2 : ¬ (1099511627776 : Int) < (n : Int) := by simp [fitB] at h; omega
  have hn : n ≤ 1099511627776 := by simp [fitB] at h; omega
  clear h
  have kc := fun (w : World) (C : Array Value) (n c : Nat) => Lib.run_convert_bytes_const (P := Tryd.prog) w 22 5 C n c Tryd.underlying22 Tryd.underlying5
  go_enter Tryd.func16, Tryd.ntmps16
  go_wp2
  go_loopg [4, 5] 8 (fun g v ix wr => ∃ (j : Nat), ix = .int .i64 (j : Int) ∧ j + g = 8 ∧ D.Own w.heap.size wr v (le j n) ∧ Below w.heap.size w wr)
  case atStart => exact ⟨0, rfl, rfl, D.Own.nil _ _, Below.refl _ _⟩
  case round =>
    obtain ⟨j, rfl, hg, Oj, bj⟩ := hrel
    have hjl := le_len j n
    by_cases hc : j < 8
    · have hcI : (j : Int) < 8 := by omega
      have hz := shr_step n j
      have HZ : Hid (le (j + 1) n = le j n ++ [((n / 2 ^ (8 * j) % 256 : Nat) : Int)]) := le_snoc j n
      obtain ⟨z, hzz⟩ : ∃ z : Nat, n / 2 ^ (8 * j) % 256 = z := ⟨_, rfl⟩
      rw [hzz] at hz HZ
      have hz2 : z < 256 := by omega
      clear hzz
      have Rz := row_lit wr [(z : Int)] (0, 0) (by intro c hc; simp at hc; omega)
      have hll : (le j n).length ≤ 8 := by omega
      obtain ⟨zs, HZS⟩ : ∃ zs, Hid (le j n = zs) := ⟨_, rfl⟩
      rw [HZS.out] at HZ Oj hll
      clear hjl kc
      go_wp2_with ((with_reducible show wpList _ _ _ (Oper.mk _ (Op.call { callee := Callee.builtin Builtin.append, args := _, argTypes := _ }) _ _ _ _ :: _) _ _); refine wpList_append_row _ rfl _ _ rfl w.heap.size _ zs rfl (ownB_alloc Oj _) (some ⟨wr.heap.size, 0, none⟩) 1 1 [(z : Int)] rfl Rz (by have := bj.size; simp; omega) (by omega) ?_; intro v' w' O' b')
      go_roundg (gk - 1)
      case measure => omega
      case rel => exact ⟨j + 1, by first | rfl | go_num, by omega, by rw [HZ.out]; exact O', bj.trans (((Below.refl _ _).alloc (Nat.le_refl _) _).mono bj.size |>.trans b')⟩
    · have e : j = 8 := by omega
      subst e
      have hnb := le_byt 8 n
      obtain ⟨aN, nN, cN, rfl, RN, hnN, hcN, _⟩ := Oj.row hnb
      rw [hjl] at hnN
      subst hnN
      have HRA : Hid (le 8 n ++ mark = recA n) := rfl
      have HLN : Hid ((le 8 n).length = 8) := hjl
      have HRB : Hid (le 4 (S.sumB (recA n)) ++ (le 8 n ++ [0, 0, 0, 0]) = recB n) := rfl
      have hRA := recA_byt n
      have HL7 : Hid ((recA n).length = 16) := recA_len n
      obtain ⟨A, hA⟩ : ∃ A, recA n = A := ⟨_, rfl⟩
      have HA : Hid (recA n = A) := hA
      rw [hA] at HRA HRB hRA HL7
      obtain ⟨B, hB⟩ : ∃ B, recB n = B := ⟨_, rfl⟩
      have HB : Hid (recB n = B) := hB
      rw [hB] at HRB
      obtain ⟨N, hN⟩ : ∃ N, le 8 n = N := ⟨_, rfl⟩
      rw [hN] at HRA HRB HLN RN hnb Oj
      clear hA hB hN hjl hcN Oj
      have hsl := S.sumB_lt A
      obtain ⟨s, hs⟩ : ∃ s, S.sumB A = s := ⟨_, rfl⟩
      have KS := fun (a : Option Addr) (c : Nat) (W : World) (R : Row .u8 W a 16 c A) => S.rsum_any a 16 c A W (Row.toS R) (by omega)
      rw [hs] at HRB hsl KS
      clear hs
      have HQ : Hid ([(s : Int) % 256, (s : Int) / 256 % 256, (s : Int) / 65536 % 256, (s : Int) / 16777216] = le 4 s) := by
        show _ = _
        rw [le4]
        have e : (s : Int) / 16777216 = ((s / 16777216 % 256 : Nat) : Int) := by omega
        rw [e]
        simp
      go_wp2_with (first
        | ((with_reducible show wpList _ _ _ (Oper.mk _ (Op.call { callee := Callee.builtin Builtin.append, args := _, argTypes := _ }) _ _ _ _ :: _) _ _); refine wpList_append_row _ rfl _ _ rfl wr.heap.size (.slice none 0 0) [] rfl (D.Own.nil _ _) aN 8 cN N rfl RN (Nat.le_refl _) (by simp) ?_; intro v6 w6 O6 b6; rw [List.nil_append] at O6; have R6 := RN.below b6)
        | ((with_reducible show wpList _ _ _ (Oper.mk _ (Op.call { callee := Callee.builtin Builtin.append, args := _, argTypes := _ }) _ _ _ _ :: _) _ _); refine wpList_append_row _ rfl _ _ rfl wr.heap.size _ N rfl (ownB_alloc O6 _) (some ⟨w6.heap.size, 0, none⟩) 8 8 mark rfl (row_lit w6 mark (8, 9) mark_byt) (by have := b6.size; simp; omega) (by rw [HLN.out]; omega) ?_; intro v7 w7 O7 b7; rw [HRA.out] at O7; have b67 : Below wr.heap.size w6 w7 := ((Below.refl _ _).alloc b6.size _).trans b7; have b07 := b6.trans b67; have R7n := RN.below b07; obtain ⟨a7, n7, c7, rfl, R7, hn7, _, _⟩ := O7.row hRA; rw [HL7.out] at hn7; subst hn7)
        | (go_at_call 38; refine (KS a7 c7 w7 R7).mono ?_; rintro e w8 ⟨rfl, hw⟩; rw [hw]; clear hw)
        | ((with_reducible show wpList _ _ _ (Oper.mk _ (Op.call { callee := Callee.builtin Builtin.append, args := _, argTypes := _ }) _ _ _ _ :: _) _ _); refine wpList_append_row _ rfl _ _ rfl w7.heap.size _ [(s : Int) % 256, (s : Int) / 256 % 256, (s : Int) / 65536 % 256, (s : Int) / 16777216] rfl (own_lit w7 w7.heap.size [(s : Int) % 256, (s : Int) / 256 % 256, (s : Int) / 65536 % 256, (s : Int) / 16777216] (Nat.le_refl _) (by simp)) aN 8 cN N rfl (R7n.alloc _) (by simp) (by simp) ?_; intro v8 w8 O8 b8; rw [HQ.out] at O8; have b78 : Below w7.heap.size w7 w8 := ((Below.refl _ _).alloc (Nat.le_refl _) _).trans b8)
        | ((with_reducible show wpList _ _ _ (Oper.mk _ (Op.call { callee := Callee.builtin Builtin.append, args := _, argTypes := _ }) _ _ _ _ :: _) _ _); refine wpList_append_row _ rfl _ _ rfl w7.heap.size _ (le 4 s ++ N) rfl (ownB_alloc O8 _) (some ⟨w8.heap.size, 0, none⟩) 4 4 [0, 0, 0, 0] rfl (row_lit w8 [0, 0, 0, 0] (0, 0) (by intro c hc; simp at hc; omega)) (by have := b78.size; simp; omega) (by rw [List.length_append, HLN.out, le_len]; omega) ?_; intro v9 w9 O9 b9; rw [List.append_assoc, HRB.out] at O9; have b89 : Below w7.heap.size w7 w9 := b78.trans ((((Below.refl _ w8).alloc (Nat.le_refl _) _).mono b78.size).trans b9)))
      go_ret2
      refine ⟨_, _, rfl, ?_, ?_, bj.trans ((b07.mono bj.size).trans (b89.mono (Nat.le_trans bj.size b07.size)))⟩
      · rw [HA.out]; exact (O7.below b89).at bj.size
      · rw [HB.out]; exact O9.at (Nat.le_trans bj.size b07.size)
end Go.Proofs.YtaacggbfoejjhaaDoor
