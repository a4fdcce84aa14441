/-
  Package disk: Load, the program's and the document's.
-/
import Derived.Test.YtaacggbfoejjhaaDoorDDr1
namespace Go.Proofs.YtaacggbfoejjhaaDoor.D
open Go.ChangeShapes Go.WideShapes Go.ChangeAt Go.RowKit
set_option linter.unusedVariables false
set_option linter.unusedSimpArgs false

/-- A disk of these bytes, so far as i sectors of them. -/
def loadS (n : Nat) (zs : List Int) (i : Nat) : DS := ⟨false, -1, false, n, zs.take (i * 16) ++ (List.replicate (16 * n) 0).drop (i * 16), 0⟩
def imgS (n : Nat) (zs : List Int) : DS := ⟨false, -1, false, n, zs, 0⟩
theorem loadS_ok {n : Nat} (h1 : 1 ≤ n) (h2 : n ≤ 64) {zs : List Int} (hz : zs.length = 16 * n) (hb : Byt zs) {i : Nat} (hi : i ≤ n) : (loadS n zs i).Ok where
  len := by simp [loadS]; omega
  lo := h1
  hi := h2
  byt := by
    intro c hc
    rcases List.mem_append.1 hc with hc | hc
    · exact hb c (List.mem_of_mem_take hc)
    · have := List.eq_of_mem_replicate (List.mem_of_mem_drop hc); omega
  left0 := by simp [loadS]
  left1 := by simp [loadS]
  dn0 := by simp [loadS]
  dn1 := by simp [loadS]
theorem loadS_0 (n : Nat) (zs : List Int) : loadS n zs 0 = newS n := by simp [loadS, newS]
theorem loadS_n {n : Nat} {zs : List Int} (hz : zs.length = 16 * n) : loadS n zs n = imgS n zs := by
  simp only [loadS, imgS]
  rw [List.take_of_length_le (by omega), List.drop_eq_nil_of_le (by simp; omega), List.append_nil]
theorem loadS_step {n i : Nat} {zs : List Int} (hz : zs.length = 16 * n) (hi : i < n) : splice (loadS n zs i).bs (i * 16) (sec zs i) = (loadS n zs (i + 1)).bs := by
  have hl : (sec zs i).length = 16 := by unfold sec; rw [List.length_take, List.length_drop]; omega
  have h1 : (zs.take (i * 16)).length = i * 16 := by rw [List.length_take]; omega
  unfold splice
  simp only [loadS]
  rw [List.take_append_of_le_length (by omega), List.take_of_length_le (by omega), hl, List.drop_append, h1, List.drop_eq_nil_of_le (by omega), List.nil_append, List.drop_drop, ← List.append_assoc]
  congr 1
  · rw [show (i + 1) * 16 = i * 16 + 16 by omega, List.take_add]
    unfold sec
    rw [Nat.mul_comm 16 i]
  · congr 1
    omega
theorem sec_lenZ {n i : Nat} {zs : List Int} (hz : zs.length = 16 * n) (hi : i < n) : (sec zs i).length = 16 := by unfold sec; rw [List.length_take, List.length_drop]; omega
theorem row_sec {w : World} {b off len cap : Nat} {zs : List Int} (R : Row .u8 w (some ⟨b, off, none⟩) len cap zs) {i : Nat} (h : i * 16 + 16 ≤ len) : w.rangeAt b (off + i * 16) ((sec zs i).map bv) := by
  intro j v hv
  have hz := R.size
  have hl : (sec zs i).length = 16 := by unfold sec; rw [List.length_take, List.length_drop]; omega
  have hj : j < 16 := by have := (List.getElem?_eq_some_iff.1 hv).1; rw [List.length_map, hl] at this; exact this
  have := R.range (i * 16 + j) v (by
    rw [List.getElem?_map] at *
    unfold sec at hv
    rw [List.getElem?_take, if_pos hj, List.getElem?_drop] at hv
    rw [show i * 16 + j = 16 * i + j by omega]
    exact hv)
  rw [show off + i * 16 + j = off + (i * 16 + j) by omega]
  exact this
set_option maxRecDepth 100000 in
set_option maxHeartbeats 4000000 in
theorem load_ok (n b off len cap : Nat) (zs : List Int) (w : World) (R : Row .u8 w (some ⟨b, off, none⟩) len cap zs) (hn : len = 16 * n) (h1 : 1 ≤ n) (h2 : n ≤ 64) (hcap : cap ≤ 9223372036854775807) :
    Calls Tryd.prog 17 #[.slice (some ⟨b, off, none⟩) len cap] w fun e w' => ∃ d, e = .returned (.pointer (some ⟨d, 0, none⟩)) ∧ w.heap.size ≤ d ∧ (∃ l, w.heap.size ≤ l ∧ DkP w' d l (imgS n zs) ∧ Below w.heap.size w w') := by
  have hz := R.size
  have hzn : zs.length = 16 * n := by omega
  have hzb := R.byte
  have hle := R.le
  have HR : Hid (Row .u8 w (some ⟨b, off, none⟩) len cap zs) := R
  have q1 : Int.tmod (len : Int) 16 = 0 := by rw [Int.tmod_eq_emod_of_nonneg (by omega)]; omega
  have q2 : Int.tdiv (len : Int) 16 = (n : Int) := by rw [Int.tdiv_eq_ediv_of_nonneg (by omega)]; omega
  have K7 := new_ok n w h1 h2
  have hbz : b < w.heap.size := by
    rcases R.mem with h | ⟨b', o', e, hb, _⟩
    · omega
    · cases e; exact hb
  have HN : Hid (len = 16 * n) := hn
  clear hn
  go_enter Tryd.func17, Tryd.ntmps17
  go_wp2_with (go_at_call 18; refine K7.mono ?_; rintro e w1 ⟨d, rfl, hd, l, hl, D1, b1⟩; have c3 := D1.cel.c3; rw [← loadS_0 n zs] at D1)
  have hokn := fun i hi => loadS_ok (i := i) h1 h2 hzn hzb hi
  have R1 := R.below b1
  go_loopg [20] n (fun g v20 wr => ∃ i : Nat, v20 = .int .i64 (i : Int) ∧ i + g = n ∧ Hid (DkP wr d l (loadS n zs i)) ∧ Hid (Only (at1 l) w1 wr))
  case atStart => exact ⟨0, rfl, by omega, D1, Only.refl _ _⟩
  case round =>
    obtain ⟨i, rfl, hg, HD, HO⟩ := hrel
    have Dr := HD.out
    have O0 := HO.out
    by_cases hi : i < n
    · have hiI : (i : Int) < (n : Int) := by omega
      have hz16 := sec_lenZ hzn hi
      have hbl : b ≠ l := by omega
      have hbd : b ≠ d := by omega
      have hn := HN.out
      have m1 : (i : Int) * 16 ≤ (len : Int) := by omega
      have m5 : IntKind.i64.wrap ((i : Int) * 16) = (i : Int) * 16 := by rw [IntKind.wrap_i64]; omega
      have m2 : (0 : Int) ≤ (i : Int) * 16 := by omega
      have m3 : ¬ (cap = i * 16) := by omega
      have m4 : ((i : Int) * 16).toNat = i * 16 := by omega
      have Rr : Row .u8 wr (some ⟨b, off, none⟩) len cap zs := R1.of_block O0.size (fun b' o e hb => O0.block b' hb (fun e' => by cases e; exact hbl e'))
      obtain ⟨wd, hwd⟩ : ∃ wd, World.drew wr = wd := ⟨_, rfl⟩
      have Dd := Dr.of_blocks (W' := wd) (by rw [← hwd]; rfl) (by rw [← hwd]; rfl)
      have od : Only (at1 l) w1 wd := by rw [← hwd]; exact O0.drew
      have Rd : Row .u8 wd (some ⟨b, off, none⟩) len cap zs := by rw [← hwd]; exact Rr.drew
      have XD : ∀ X, Only (at1 l) wd X → X.cell? ⟨d, 3, none⟩ = some (.slice (some ⟨l, 0, none⟩) n n) := fun X hX => row_cell ((hX.block _ (row_lt Dd.obj) Dd.ne).trans Dd.obj) 3 _ rfl
      have XR : ∀ X, Only (at1 l) wd X → X.rangeAt b (off + i * 16) ((sec zs i).map bv) := fun X hX => row_sec (Rd.of_block hX.size (fun b' o e hb => hX.block b' hb (fun e' => by cases e; exact hbl e'))) (by omega)
      have hat : ∀ X : World, (Instr.arrayAt 77 (.slice (some ⟨b, off + i * 16, none⟩) (len - i * 16) (cap - i * 16))).run Tryd.prog X = .ok (.pointer (some ⟨b, off + i * 16, none⟩)) X := fun X => arr58 X _ _ _ (by omega)
      have hst := loadS_step hzn hi
      have hlen16 : i * 16 + 16 ≤ len := by omega
      clear hn
      have hlt := (hokn i (by omega)).len
      go_wp2
      refine wp_region_any (by kernel_rfl) ?_
      change wpAny _ _ _ _ _ _ _ (World.drew _)
      rw [hwd]
      refine wpAny_narrow (fun X => Only (at1 l) wd X) _ _ _ _ ?_
      refine anyH_take 0 23 (.pointer (some ⟨d, 0, none⟩)) rfl rfl (by kernel_rfl) (by kernel_rfl) (by kernel_rfl) (fun _ _ _ h => h) (Or.inl ⟨by rfl, by intro X hSw; go_simp⟩) (Only.refl _ _) ?_
      try simp only [Act.put, List.setIfInBounds_toArray, List.set_cons_zero, List.set_cons_succ]
      refine anyH_take 1 24 (.pointer (some ⟨d, 0, none⟩)) rfl rfl (by kernel_rfl) (by kernel_rfl) (by kernel_rfl) (fun _ _ _ h => h) (Or.inl ⟨by rfl, by intro X hSw; go_simp⟩) (Only.refl _ _) ?_
      try simp only [Act.put, List.setIfInBounds_toArray, List.set_cons_zero, List.set_cons_succ]
      refine anyH_take 2 25 (.pointer (some ⟨d, 3, none⟩)) rfl rfl (by kernel_rfl) (by kernel_rfl) (by kernel_rfl) (fun _ _ _ h => h) (Or.inl ⟨by rfl, by intro X hSw; go_simp⟩) (Only.refl _ _) ?_
      try simp only [Act.put, List.setIfInBounds_toArray, List.set_cons_zero, List.set_cons_succ]
      refine anyH_take 3 26 (.slice (some ⟨l, 0, none⟩) n n) rfl rfl (by kernel_rfl) (by kernel_rfl) (by kernel_rfl) (fun _ _ _ h => h) (Or.inl ⟨by rfl, by intro X hSw; have q := XD X hSw; go_simp⟩) (Only.refl _ _) ?_
      try simp only [Act.put, List.setIfInBounds_toArray, List.set_cons_zero, List.set_cons_succ]
      refine anyH_take 4 27 (.int .i64 (i : Int)) rfl rfl (by kernel_rfl) (by kernel_rfl) (by kernel_rfl) (fun _ _ _ h => h) (Or.inl ⟨by rfl, by intro X hSw; go_simp⟩) (Only.refl _ _) ?_
      try simp only [Act.put, List.setIfInBounds_toArray, List.set_cons_zero, List.set_cons_succ]
      refine anyH_take 5 28 (.slice (some ⟨b, off, none⟩) len cap) rfl rfl (by kernel_rfl) (by kernel_rfl) (by kernel_rfl) (fun _ _ _ h => h) (Or.inl ⟨by rfl, by intro X hSw; go_simp⟩) (Only.refl _ _) ?_
      try simp only [Act.put, List.setIfInBounds_toArray, List.set_cons_zero, List.set_cons_succ]
      refine anyH_take 6 29 (.int .i64 (i : Int)) rfl rfl (by kernel_rfl) (by kernel_rfl) (by kernel_rfl) (fun _ _ _ h => h) (Or.inl ⟨by rfl, by intro X hSw; go_simp⟩) (Only.refl _ _) ?_
      try simp only [Act.put, List.setIfInBounds_toArray, List.set_cons_zero, List.set_cons_succ]
      refine anyH_take 7 30 (.int .i64 ((i : Int) * 16)) rfl rfl (by kernel_rfl) (by kernel_rfl) (by kernel_rfl) (fun _ _ _ h => h) (Or.inl ⟨by rfl, by intro X hSw; go_simp⟩) (Only.refl _ _) ?_
      try simp only [Act.put, List.setIfInBounds_toArray, List.set_cons_zero, List.set_cons_succ]
      refine anyH_take 8 31 (.slice (some ⟨b, off + i * 16, none⟩) (len - i * 16) (cap - i * 16)) rfl rfl (by kernel_rfl) (by kernel_rfl) (by kernel_rfl) (fun _ _ _ h => h) (Or.inl ⟨by rfl, by intro X hSw; go_simp⟩) (Only.refl _ _) ?_
      try simp only [Act.put, List.setIfInBounds_toArray, List.set_cons_zero, List.set_cons_succ]
      refine anyH_take 9 32 (.pointer (some ⟨b, off + i * 16, none⟩)) rfl rfl (by kernel_rfl) (by kernel_rfl) (by kernel_rfl) (fun _ _ _ h => h) (Or.inl ⟨by rfl, by intro X hSw; go_simp⟩) (Only.refl _ _) ?_
      try simp only [Act.put, List.setIfInBounds_toArray, List.set_cons_zero, List.set_cons_succ]
      refine anyH_take 10 33 (.agg ((sec zs i).map bv).toArray) rfl rfl (by kernel_rfl) (by kernel_rfl) (by kernel_rfl) (fun _ _ _ h => h) (Or.inl ⟨by rfl, by intro X hSw; exact exec_load58 rfl rfl (XR X hSw) hz16⟩) (Only.refl _ _) ?_
      try simp only [Act.put, List.setIfInBounds_toArray, List.set_cons_zero, List.set_cons_succ]
      refine anyH_take 11 34 (.pointer (some ⟨l, i * 16, none⟩)) rfl rfl (by kernel_rfl) (by kernel_rfl) (by kernel_rfl) (fun _ _ _ h => h) (Or.inl ⟨by rfl, by intro X hSw; go_simp⟩) (Only.refl _ _) ?_
      try simp only [Act.put, List.setIfInBounds_toArray, List.set_cons_zero, List.set_cons_succ]
      refine wpAnyH_ready (rs := [12]) (by kernel_rfl) (by simp) ?_
      refine AllReadyH.cons rfl (fun K hK => ?_) AllReadyH.nil
      refine wp_store58 _ _ rfl l (i * 16) 77 (loadS n zs i).bs (sec zs i) rfl rfl Dd.lst hz16 (by rw [hlt]; show i * 16 + 16 ≤ 16 * n; omega) ?_
      rw [hst]
      have ol : Only (at1 l) wd (wd.setRow l ((loadS n zs (i + 1)).bs.map bv).toArray) := Only.setRow (C := at1 l) (Only.refl _ _) (fun _ => rfl) _
      refine hK.out _ _ ol (fun hS => ?_)
      clear hK
      have De := Dd.setList (loadS n zs (i + 1)).bs (hokn (i + 1) (by omega))
      have De' : DkP (wd.setRow l ((loadS n zs (i + 1)).bs.map bv).toArray) d l (loadS n zs (i + 1)) := De
      have oe := od.trans ol
      refine wpAnyH_done (by kernel_rfl) ?_ _
      go_wp2
      go_roundg (gk - 1)
      case measure => omega
      case rel => exact ⟨i + 1, by first | rfl | go_num, by omega, De', oe⟩
    · obtain rfl : i = n := by omega
      rw [loadS_n hzn] at Dr
      go_wp2
      go_ret
      exact ⟨d, rfl, hd, l, hl, Dr, b1.trans (O0.below (Nat.le_trans b1.size (Nat.le_refl _)) (fun q hq => by have e : q = l := hq; omega))⟩
end Go.Proofs.YtaacggbfoejjhaaDoor.D
