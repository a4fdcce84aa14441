/-
  The document's own reader: Num.
-/
import Derived.Test.YtfgniilihdimgaaNumber
namespace Go.Proofs.Ytfgniilihdimgaa
open Go.ChangeShapes Go.WideShapes Go.ChangeAt Go.RowKit
set_option linter.unusedVariables false

/-- Block k holds three cells that may be written. -/
def Three (W : World) (k : Nat) (v0 v1 v2 : Value) : Prop :=
  W.cell? ⟨k, 0, none⟩ = some v0 ∧ W.cell? ⟨k, 1, none⟩ = some v1 ∧ W.cell? ⟨k, 2, none⟩ = some v2 ∧
  W.frozen? ⟨k, 0, none⟩ = false ∧ W.frozen? ⟨k, 1, none⟩ = false ∧ W.frozen? ⟨k, 2, none⟩ = false ∧ k < W.heap.size
theorem Three.lt {W : World} {k : Nat} {v0 v1 v2 : Value} (h : Three W k v0 v1 v2) : k < W.heap.size := h.2.2.2.2.2.2
theorem Three.new (W : World) (v0 v1 v2 : Value) (t : TypeId) : Three (W.alloc (.cells #[v0, v1, v2] t)) W.heap.size v0 v1 v2 :=
  ⟨by simp, by simp, by simp, by simp, by simp, by simp, by simp⟩
theorem Three.of_block {W W' : World} {k : Nat} {v0 v1 v2 : Value} (h : Three W k v0 v1 v2) (hb : W'.heap[k]? = W.heap[k]?) (hs : W.heap.size ≤ W'.heap.size) : Three W' k v0 v1 v2 :=
  ⟨(World.cell?_of_block (a := ⟨k, 0, none⟩) hb).trans h.1, (World.cell?_of_block (a := ⟨k, 1, none⟩) hb).trans h.2.1, (World.cell?_of_block (a := ⟨k, 2, none⟩) hb).trans h.2.2.1,
    (World.frozen?_of_block (a := ⟨k, 0, none⟩) hb).trans h.2.2.2.1, (World.frozen?_of_block (a := ⟨k, 1, none⟩) hb).trans h.2.2.2.2.1, (World.frozen?_of_block (a := ⟨k, 2, none⟩) hb).trans h.2.2.2.2.2.1, by have := h.lt; omega⟩
theorem Three.at {W : World} {k k' : Nat} {v0 v1 v2 : Value} (h : Three W k v0 v1 v2) (e : k = k') : Three W k' v0 v1 v2 := e ▸ h
theorem Three.set1 {W : World} {k : Nat} {v0 v1 v2 : Value} (h : Three W k v0 v1 v2) (v : Value) : Three (W.setCell ⟨k, 1, none⟩ v) k v0 v v2 := by
  obtain ⟨h0, h1, h2, f0, f1, f2, hk⟩ := h
  refine ⟨?_, ?_, ?_, by simpa using f0, by simpa using f1, by simpa using f2, by simpa using hk⟩
  · rw [World.cell?_setCell_other _ _ _ _ (by simp)]; exact h0
  · exact World.cell?_setCell_same _ _ _ h1
  · rw [World.cell?_setCell_other _ _ _ _ (by simp)]; exact h2
theorem Three.set2 {W : World} {k : Nat} {v0 v1 v2 : Value} (h : Three W k v0 v1 v2) (v : Value) : Three (W.setCell ⟨k, 2, none⟩ v) k v0 v1 v := by
  obtain ⟨h0, h1, h2, f0, f1, f2, hk⟩ := h
  refine ⟨?_, ?_, ?_, by simpa using f0, by simpa using f1, by simpa using f2, by simpa using hk⟩
  · rw [World.cell?_setCell_other _ _ _ _ (by simp)]; exact h0
  · rw [World.cell?_setCell_other _ _ _ _ (by simp)]; exact h1
  · exact World.cell?_setCell_same _ _ _ h2

/-- The document's reader in block p: the bytes zs, i of them behind it, the first error. -/
structure Rp (W0 : World) (a : Option Addr) (len cap : Nat) (zs : List Int) (p : Nat) (i : Nat) (code : Int) (w : World) : Prop where
  three : Three w p (.slice a len cap) (.int .i64 i) (.int .i64 code)
  row : Row .u8 W0 a len cap zs
  old : Below W0.heap.size W0 w
  hp : W0.heap.size ≤ p
  le : i ≤ len
  max : len ≤ 70368744170000
  cmax : cap ≤ 9223372036854775807
theorem Rp.kp {W0 : World} {a : Option Addr} {len cap : Nat} {zs : List Int} {p i j : Nat} {c c' : Int} {w w' : World} (h : Rp W0 a len cap zs p i c w) (k : Kp p w w') (t : Three w' p (.slice a len cap) (.int .i64 j) (.int .i64 c')) (hj : j ≤ len) : Rp W0 a len cap zs p j c' w' :=
  ⟨t, h.row, h.old.trans (k.below h.hp h.old.size), h.hp, hj, h.max, h.cmax⟩
theorem Rp.alloc {W0 : World} {a : Option Addr} {len cap : Nat} {zs : List Int} {p i : Nat} {c : Int} {w : World} (h : Rp W0 a len cap zs p i c w) (o : Obj) : Rp W0 a len cap zs p i c (w.alloc o) :=
  h.kp ((Kp.refl _ _).alloc o) (h.three.of_block (Below.heap_alloc _ _ _ h.three.lt) (by simp)) h.le
theorem Rp.drewN {W0 : World} {a : Option Addr} {len cap : Nat} {zs : List Int} {p i : Nat} {c : Int} {w : World} (h : Rp W0 a len cap zs p i c w) (n : Nat) : Rp W0 a len cap zs p i c (w.drewN n) :=
  h.kp ((Kp.refl _ _).drewN n) h.three h.le
theorem Rp.next {W0 : World} {a : Option Addr} {len cap : Nat} {zs : List Int} {p i : Nat} {c : Int} {w : World} (h : Rp W0 a len cap zs p i c w) (n : Nat) (hn : i + n ≤ len) : Rp W0 a len cap zs p (i + n) c (w.setCell ⟨p, 1, none⟩ (.int .i64 ((i : Int) + n))) :=
  h.kp ((Kp.refl _ _).setCell 1 _) (by rw [show ((i + n : Nat) : Int) = (i : Int) + n by omega]; exact h.three.set1 _) hn
theorem Rp.fail {W0 : World} {a : Option Addr} {len cap : Nat} {zs : List Int} {p i : Nat} {c : Int} {w : World} (h : Rp W0 a len cap zs p i c w) (c' : Int) : Rp W0 a len cap zs p i c' (w.setCell ⟨p, 2, none⟩ (.int .i64 c')) :=
  h.kp ((Kp.refl _ _).setCell 2 _) (h.three.set2 _) h.le

theorem Rp.to {W0 : World} {a : Option Addr} {len cap : Nat} {zs : List Int} {p i : Nat} {c : Int} {w : World} (h : Rp W0 a len cap zs p i c w) (q k : Nat) (x : Int) (hx : x = (k : Int)) (hk : k ≤ len) : Rp W0 a len cap zs p k c ((w.drewN q).setCell ⟨p, 1, none⟩ (.int .i64 x)) := by
  subst hx
  exact (h.drewN q).kp ((Kp.refl _ _).setCell 1 _) ((h.drewN q).three.set1 _) hk
theorem and127_8 (c : Int) (h0 : 0 ≤ c) (h1 : c < 256) : bits .and .u8 c 127 = c % 128 := by
  have key : ∀ n : Fin 256, bits .and .u8 (n.val : Int) 127 = (n.val : Int) % 128 := by decide +kernel
  have := key ⟨c.toNat, by omega⟩
  simpa [Int.toNat_of_nonneg h0] using this
theorem put_digit2 {y c : Int} {j : Nat} (hy0 : 0 ≤ y) (hy : y < 128 ^ j) (hj : j ≤ 9) (c0 : 0 ≤ c) (c1 : c < 256) (h9 : j = 9 → c ≤ 1) :
    bits .or .u64 y (IntKind.u64.wrap (IntKind.u64.wrap (bits .and .u8 c 127) * 2 ^ (7 * j))) = y + c % 128 * 128 ^ j := by
  have h := put_digit hy0 hy hj c0 c1 h9
  rw [andNot128 c c0 c1] at h
  rw [and127_8 c c0 c1]
  exact h

/-- What a call of the reader does: a value, and the place behind it; or the error, and zero. -/
def Rout (W0 : World) (a : Option Addr) (len cap : Nat) (zs : List Int) (p i : Nat) (w : World) (zero : Value) (res : Except Int (Value × Nat)) (e : Ending) (w' : World) : Prop :=
  Kp p w w' ∧ match res with
  | .ok (v, n) => e = .returned v ∧ Rp W0 a len cap zs p (i + n) 0 w'
  | .error c => e = .returned zero ∧ ∃ j, Rp W0 a len cap zs p j c w'

set_option maxHeartbeats 2000000 in
theorem rnum_out (W0 : World) (a : Option Addr) (len cap : Nat) (zs : List Int) (p i : Nat) (w : World) (P : Rp W0 a len cap zs p i 0 w) (res : Except Int (Int × Nat)) (hres : num (zs.drop i) = res) :
    Calls Try.prog 47 #[.pointer (some ⟨p, 0, none⟩)] w (Rout W0 a len cap zs p i w (.int .u64 0) (u64R res)) := by
  have HB : Hid (∀ c ∈ zs, 0 ≤ c ∧ c < 256) := P.row.byte
  have HL : Hid (zs.length = len) := P.row.size
  have HP : Hid (Rp W0 a len cap zs p i 0 w) := P
  have HR : Hid (num (zs.drop i) = res) := hres
  clear hres
  obtain ⟨hk, hmax⟩ : p < w.heap.size ∧ len ≤ 70368744170000 := ⟨P.three.lt, P.max⟩
  clear P
  go_enter Try.func47, Try.ntmps47
  go_wp2
  go_loopg [3, 4] 9 (fun g x s wr => ∃ (j : Nat) (y : Int), x = .int .u64 y ∧ s = .int .i64 (j : Int) ∧ j + g = 9 ∧ 0 ≤ y ∧ Hid (y < 128 ^ j) ∧ y ≤ 18446744073709551615 ∧ Hid (numF (zs.drop (i + j)) j y = res) ∧ Hid (Rp W0 a len cap zs p (i + j) 0 wr) ∧ Hid (Kp p w wr) ∧ i + j ≤ len)
  case atStart => exact ⟨0, 0, rfl, rfl, rfl, by omega, by show (0 : Int) < 128 ^ 0; simp, by omega, HR.out, HP.out, Kp.refl _ _, HP.out.le⟩
  case round =>
    obtain ⟨j, y, rfl, rfl, hg, hy0, HY, hy1, HE, HPj, HK, hle⟩ := hrel
    have hj : j ≤ 9 := by omega
    have HG : Hid (j + gk = 9) := hg
    clear hg
    obtain ⟨m0, m1, m2, f0, f1, f2, hz⟩ := id HPj.out.three
    by_cases hend : i + j = len
    · have E : res = .error 21 := by
        rw [← HE.out, List.drop_eq_nil_of_le (by have := HL.out; omega)]; rfl
      subst E
      have hcmp : (len : Int) ≤ ((i + j : Nat) : Int) := by omega
      clear hend
      go_wp2
      go_quiet (fail)
      go_wp2
      go_ret
      exact ⟨(HK.out.drewN _).setCell 2 _, rfl, _, (HPj.out.drewN _).fail 21⟩
    · have hlt : i + j < len := by omega
      have hd := drop_cons (zs := zs) (k := i + j) (by have := HL.out; omega)
      rw [hd] at HE
      clear hd
      obtain ⟨c0, c1⟩ := getD_byte HB.out (i + j)
      obtain ⟨bb, oo, rfl, hbb, hcc⟩ := HPj.out.row.mem.resolve_left (by omega)
      have hcell := (HPj.out.old.cell (p := ⟨bb, oo + (i + j), none⟩) hbb).trans (hcc (i + j) hlt)
      obtain ⟨c, hc⟩ : ∃ c, zs.getD (i + j) 0 = c := ⟨_, rfl⟩
      rw [hc] at HE c0 c1 hcell
      have HC : Hid (zs.getD (i + j) 0 = c) := hc
      clear hc hcc
      have hI : ((i + j : Nat) : Int) < (len : Int) := by omega
      by_cases hz : c = 0
      · have hz' : (c == 0) = true := by simpa using hz
        have h1 : ¬ 1 < c := by omega
        have hl : c < 128 := by omega
        by_cases hj0 : j = 0
        · have hj7 : ¬ (0 : Int) < (j : Int) := by omega
          have h9' : ((j : Int) == 9) = false := by simp; omega
          have hpd := put_digit2 (c := c) hy0 HY.out hj c0 c1 (fun h => by omega)
          have E : res = .ok (y + c * 128 ^ j, j + 1) := by rw [← HE.out, numF_last (by omega) hl]
          subst E
          rw [show c % 128 = c by omega] at hpd
          clear hz hj0
          go_wp2
          go_quiet (fail)
          go_wp2
          go_quiet (fail)
          go_wp2
          go_ret
          exact ⟨(HK.out.drewN _).setCell 1 _, rfl, HPj.out.to _ _ _ (by omega) (by omega)⟩
        · have hj7 : (0 : Int) < (j : Int) := by omega
          have E : res = .error 20 := by rw [← HE.out, numF_bad (.inl ⟨hz, by omega⟩)]
          subst E
          clear hz hj0
          by_cases h9 : j = 9
          · have h9' : ((j : Int) == 9) = true := by simp; omega
            clear h9
            go_wp2
            go_quiet (fail)
            go_wp2
            go_quiet (fail)
            go_wp2
            go_ret
            exact ⟨(HK.out.drewN _).setCell 2 _, rfl, _, (HPj.out.drewN _).fail 20⟩
          · have h9' : ((j : Int) == 9) = false := by simp; omega
            go_wp2
            go_quiet (fail)
            go_wp2
            go_quiet (fail)
            go_wp2
            go_ret
            exact ⟨(HK.out.drewN _).setCell 2 _, rfl, _, (HPj.out.drewN _).fail 20⟩
      · have hz' : (c == 0) = false := by simpa using hz
        by_cases h1 : 1 < c
        · by_cases h9 : j = 9
          · have h9' : ((j : Int) == 9) = true := by simp; omega
            have E : res = .error 20 := by rw [← HE.out, numF_bad (.inr ⟨h1, h9⟩)]
            subst E
            clear h9
            go_wp2
            go_quiet (fail)
            go_wp2
            go_quiet (fail)
            go_wp2
            go_ret
            exact ⟨(HK.out.drewN _).setCell 2 _, rfl, _, (HPj.out.drewN _).fail 20⟩
          · have h9' : ((j : Int) == 9) = false := by simp; omega
            have hpd := put_digit2 (c := c) hy0 HY.out hj c0 c1 (fun h => absurd h h9)
            by_cases hl : c < 128
            · have E : res = .ok (y + c * 128 ^ j, j + 1) := by rw [← HE.out, numF_last (by omega) hl]
              subst E
              rw [show c % 128 = c by omega] at hpd
              go_wp2
              go_quiet (fail)
              go_wp2
              go_quiet (fail)
              go_wp2
              go_ret
              exact ⟨(HK.out.drewN _).setCell 1 _, rfl, HPj.out.to _ _ _ (by omega) (by omega)⟩
            · rw [show c % 128 = c - 128 by omega] at hpd
              have HE' : Hid (numF (zs.drop (i + (j + 1))) (j + 1) (y + (c - 128) * 128 ^ j) = res) := by
                show _ = _
                rw [← HE.out, numF_more (by omega) hl]; rfl
              go_wp2
              go_quiet (fail)
              go_wp2
              go_quiet (fail)
              go_wp2
              go_roundg (gk - 1)
              case measure => have := HG.out; omega
              case rel =>
                have hp := pw_pos j
                have h3 : (c - 128) * 128 ^ j ≤ 127 * 128 ^ j := Int.mul_le_mul_of_nonneg_right (by omega) (Int.le_of_lt hp)
                have h4 : 0 ≤ (c - 128) * 128 ^ j := Int.mul_nonneg (by omega) (Int.le_of_lt hp)
                have h5 := HY.out
                have h6 := pw_le (i := j) (by omega)
                have e : (128 : Int) ^ 9 = 9223372036854775808 := by decide
                rw [e, pw_succ] at h6
                exact ⟨j + 1, _, rfl, by go_num, by have := HG.out; omega, by omega, by show _ < _; rw [pw_succ]; omega, by omega, HE', HPj.out.to _ _ _ (by omega) (by omega), (HK.out.drewN _).setCell 1 _, by omega⟩
        · have hl : c < 128 := by omega
          have hpd := put_digit2 (c := c) hy0 HY.out hj c0 c1 (fun h => by omega)
          have E : res = .ok (y + c * 128 ^ j, j + 1) := by rw [← HE.out, numF_last (by omega) hl]
          subst E
          rw [show c % 128 = c by omega] at hpd
          by_cases h9 : j = 9
          · have h9' : ((j : Int) == 9) = true := by simp; omega
            clear h9
            go_wp2
            go_quiet (fail)
            go_wp2
            go_quiet (fail)
            go_wp2
            go_ret
            exact ⟨(HK.out.drewN _).setCell 1 _, rfl, HPj.out.to _ _ _ (by omega) (by omega)⟩
          · have h9' : ((j : Int) == 9) = false := by simp; omega
            go_wp2
            go_quiet (fail)
            go_wp2
            go_quiet (fail)
            go_wp2
            go_ret
            exact ⟨(HK.out.drewN _).setCell 1 _, rfl, HPj.out.to _ _ _ (by omega) (by omega)⟩

end Go.Proofs.Ytfgniilihdimgaa
