/-
  What Open and Seal return.
-/
import Derived.Test.YticmjlnpjopfbaaDoorSIn
import Derived.WalkSmall
namespace Go.Proofs.YticmjlnpjopfbaaDoor.S
open Go.ChangeShapes Go.WideShapes Go.ChangeAt Go.RowKit
set_option linter.unusedVariables false

theorem byte_split (x s : Nat) : x = s % 256 + 256 * (s / 256 % 256) + 65536 * (s / 65536 % 256) + 16777216 * (s / 16777216 % 256) → s < 4294967296 → x = s := by omega
theorem num4_le4 (a b c d : Int) (s : Nat) (hs : s < 4294967296) (ha : 0 ≤ a ∧ a < 256) (hb : 0 ≤ b ∧ b < 256) (hc : 0 ≤ c ∧ c < 256) (hd : 0 ≤ d ∧ d < 256) : [a, b, c, d] = le4 s ↔ num4 [a, b, c, d] = s := by
  have e : num4 [a, b, c, d] = a.toNat + 256 * b.toNat + 65536 * c.toNat + 16777216 * d.toNat := rfl
  rw [e]
  unfold le4
  simp only [List.cons.injEq, and_true]
  omega
theorem four_take (l : List Int) (i : Nat) (h : i + 4 ≤ l.length) : (l.drop i).take 4 = [l.getD i 0, l.getD (i + 1) 0, l.getD (i + 2) 0, l.getD (i + 3) 0] := by
  apply List.ext_getElem?
  intro j
  rw [List.getElem?_take, List.getElem?_drop]
  by_cases hj : j < 4
  · rw [if_pos hj]
    have hl : i + j < l.length := by omega
    have hv : l[i + j]? = some (l.getD (i + j) 0) := by rw [List.getD_eq_getElem?_getD, List.getElem?_eq_getElem hl]; rfl
    rw [hv]
    rcases (show j = 0 ∨ j = 1 ∨ j = 2 ∨ j = 3 by omega) with rfl | rfl | rfl | rfl <;> rfl
  · rw [if_neg hj]
    rw [List.getElem?_eq_none (by simp; omega)]
theorem num4_drop (l : List Int) (i : Nat) : num4 (l.drop i) = num4 [l.getD i 0, l.getD (i + 1) 0, l.getD (i + 2) 0, l.getD (i + 3) 0] := by
  simp [num4, List.getElem?_drop]
theorem stand_ok {l : List Int} {n : Nat} (h : stand l = .ok n) : n = lenAt l + 8 ∧ n ≤ l.length := by
  unfold stand at h
  split at h
  · cases h
  split at h
  · cases h
  split at h
  · cases h
  rename_i h3
  simp only [Except.ok.injEq] at h
  omega
theorem stand_err {l : List Int} {c : Int} (h : stand l = .error c) : c = 20 ∨ c = 21 := by
  unfold stand at h
  split at h
  · cases h; omega
  split at h
  · cases h; omega
  split at h
  · cases h; omega
  · cases h
theorem opn_stand (l : List Int) (hb : Byt l) : opn l = match stand l with
    | .error c => .error c
    | .ok n => if num4 ((l.take n).drop (n - 4)) ≠ sumB ((l.drop 2).take (n - 6)) then .error 22 else .ok ((l.drop 4).take (n - 8), n) := by
  unfold opn stand
  split
  · rfl
  split
  · rfl
  split
  · rfl
  rename_i h1 h2 h3
  simp only
  have e1 : lenAt l + 8 - 4 = 4 + lenAt l := by omega
  have e2 : lenAt l + 8 - 6 = 2 + lenAt l := by omega
  have e3 : lenAt l + 8 - 8 = lenAt l := by omega
  rw [e1, e2, e3]
  have hl : (l.take (lenAt l + 8)).length = lenAt l + 8 := by rw [List.length_take]; omega
  have hg : ∀ j, j < 4 → (l.take (lenAt l + 8)).getD (4 + lenAt l + j) 0 = l.getD (4 + lenAt l + j) 0 := fun j hj => getD_take _ _ _ (by omega)
  have k : (l.drop (4 + lenAt l)).take 4 = le4 (sumB ((l.drop 2).take (2 + lenAt l))) ↔ num4 ((l.take (lenAt l + 8)).drop (4 + lenAt l)) = sumB ((l.drop 2).take (2 + lenAt l)) := by
    rw [four_take l _ (by omega), num4_drop]
    have g0 := hg 0 (by omega)
    have g1 := hg 1 (by omega)
    have g2 := hg 2 (by omega)
    have g3 := hg 3 (by omega)
    simp only [Nat.add_zero] at g0
    rw [g0, g1, g2, g3]
    exact num4_le4 _ _ _ _ _ (sumB_lt _) (byt_at hb _ (by omega)) (byt_at hb _ (by omega)) (byt_at hb _ (by omega)) (byt_at hb _ (by omega))
  by_cases hc : num4 ((l.take (lenAt l + 8)).drop (4 + lenAt l)) = sumB ((l.drop 2).take (2 + lenAt l))
  · rw [if_neg (by simpa using k.2 hc), if_neg (by simpa using hc)]
  · rw [if_pos (by simpa using fun h => hc (k.1 h)), if_pos (by simpa using hc)]

/-- What Open hands back. -/
def OpenOut (base : Nat) (w : World) (r : Except Int (List Int × Nat)) (e : Ending) : Prop :=
  match r with
  | .error c => e = .returned (.tuple #[.slice none 0 0, .int .i64 0, .int .i64 c])
  | .ok (b, n) => ∃ v, e = .returned (.tuple #[v, .int .i64 n, .int .i64 0]) ∧ Own base w v b
theorem Tab.drewN {w : World} (h : Tab w) (n : Nat) : Tab (w.drewN n) := h
theorem neq_err {c : Int} (h : c = 20 ∨ c = 21) : (c != 0) = true := by
  rcases h with rfl | rfl <;> rfl

set_option maxHeartbeats 2000000 in
theorem open_any (a : Option Addr) (len cap : Nat) (zs : List Int) (w : World) (R : Row .u8 w a len cap zs) (ht : Tab w) (hl : len ≤ 140737488355328) (hcap : cap ≤ 9223372036854775807) :
    Calls Tryd.prog 46 #[.slice a len cap] w fun e w' => OpenOut w.heap.size w' (opn zs) e ∧ Below w.heap.size w w' := by
  have hle := R.le
  have hsz := R.size
  have KS := standing_any a len cap zs w R hcap
  rw [opn_stand zs R.byte]
  cases hst : stand zs with
  | error c =>
    have hc := neq_err (stand_err hst)
    rw [hst] at KS
    simp only [stdV] at KS
    simp only [OpenOut]
    clear hst
    go_enter Tryd.func46, Tryd.ntmps46
    go_wp2_with (go_at_call 64; refine KS.mono ?_; rintro e w' ⟨rfl, n0, hw⟩; rw [hw]; clear hw)
    go_ret3
    exact ⟨rfl, below_drewN (Below.refl _ _) _⟩
  | ok n =>
    obtain ⟨hn, hnl⟩ := stand_ok hst
    rw [hst] at KS
    simp only [stdV] at KS
    have hn8 : 8 ≤ n := by omega
    clear hn hst
    obtain ⟨b, off, rfl, hb, _⟩ := R.mem.resolve_left (by omega)
    have hA : (⟨b, off, none⟩ : Addr).add 2 = ⟨b, off + 2, none⟩ := by unfold Addr.add; split <;> simp_all
    have P2 := R.part 2 (n - 4) (by omega) (by omega)
    rw [hA, show n - 4 - 2 = n - 6 by omega] at P2
    replace hnl : n ≤ len := by omega
    have P1 := R.pre n hnl
    have KI := fun w' R' => sumIn_any b off n cap (zs.take n) w' R' (by omega) hcap
    have KU := fun w' R' ht' => sum_any (some ⟨b, off + 2, none⟩) (n - 6) (cap - 2) ((zs.drop 2).take (n - 6)) w' R' ht' (show n - 6 ≤ 9223372036854775807 by omega)
    have KB := fun w' R' => bodyIn_any b off n cap (zs.take n) w' R' (by omega) (by omega) hcap
    have HB : Hid (((zs.take n).drop 4).take (n - 8) = (zs.drop 4).take (n - 8)) := by
      show _ = _
      rw [List.drop_take, List.take_take]
      congr 1
      omega
    simp only
    obtain ⟨S, hS⟩ : ∃ S, num4 ((zs.take n).drop (n - 4)) = S := ⟨_, rfl⟩
    obtain ⟨U, hU⟩ : ∃ U, sumB ((zs.drop 2).take (n - 6)) = U := ⟨_, rfl⟩
    rw [hS] at KI
    rw [hU] at KU
    rw [hS, hU]
    clear hS hU
    have i1 : (0 : Int) ≤ (n : Int) := by omega
    have i2 : (n : Int) ≤ (len : Int) := by omega
    have i3 : (n : Int) ≤ (cap : Int) := by omega
    have i4 : (2 : Int) ≤ (n : Int) - 4 := by omega
    have i5 : (n : Int) - 4 ≤ (cap : Int) := by omega
    have i6 : ((n : Int) - 4 - 2).toNat = n - 6 := by omega
    by_cases hc : S = U
    · rw [if_neg (by simpa using hc)]
      simp only [OpenOut]
      have hc2 : ((S : Int) != (U : Int)) = false := by simp [hc]
      clear hc
      go_enter Tryd.func46, Tryd.ntmps46
      go_wp2_with (go_at_call 64; refine KS.mono ?_; rintro e w1 ⟨rfl, n0, hw⟩; have Q1 : Row .u8 w1 (some ⟨b, off, none⟩) n cap (zs.take n) := (by rw [hw]; exact P1.drewN n0); have Q2 : Row .u8 w1 (some ⟨b, off + 2, none⟩) (n - 6) (cap - 2) ((zs.drop 2).take (n - 6)) := (by rw [hw]; exact P2.drewN n0); have T1 : Tab w1 := (by rw [hw]; exact ht.drewN n0); have B1 : Below w.heap.size w w1 := (by rw [hw]; exact below_drewN (Below.refl _ _) n0); clear hw)
      go_quiet (first
        | (go_at_call 65; exact Calls.quiet_of (KI _ (Q1.drewN _)))
        | (go_at_call 56; exact Calls.quiet_of_same (KU _ (Q2.drewN _) (T1.drewN _))))
      go_wp2_with (go_at_call 66; refine (KB _ (Q1.drewN _)).mono ?_; rintro e w2 ⟨v, rfl, ho, hb1⟩)
      go_ret3
      rw [HB.out] at ho
      exact ⟨⟨_, rfl, ho.at B1.size⟩, (below_drewN B1 _).trans (hb1.mono B1.size)⟩
    · rw [if_pos (by simpa using hc)]
      simp only [OpenOut]
      have hc2 : ((S : Int) != (U : Int)) = true := by simp; omega
      clear hc
      go_enter Tryd.func46, Tryd.ntmps46
      go_wp2_with (go_at_call 64; refine KS.mono ?_; rintro e w1 ⟨rfl, n0, hw⟩; have Q1 : Row .u8 w1 (some ⟨b, off, none⟩) n cap (zs.take n) := (by rw [hw]; exact P1.drewN n0); have Q2 : Row .u8 w1 (some ⟨b, off + 2, none⟩) (n - 6) (cap - 2) ((zs.drop 2).take (n - 6)) := (by rw [hw]; exact P2.drewN n0); have T1 : Tab w1 := (by rw [hw]; exact ht.drewN n0); have B1 : Below w.heap.size w w1 := (by rw [hw]; exact below_drewN (Below.refl _ _) n0); clear hw)
      go_quiet (first
        | (go_at_call 65; exact Calls.quiet_of (KI _ (Q1.drewN _)))
        | (go_at_call 56; exact Calls.quiet_of_same (KU _ (Q2.drewN _) (T1.drewN _))))
      go_wp2
      go_ret3
      exact ⟨rfl, below_drewN B1 _⟩

end Go.Proofs.YticmjlnpjopfbaaDoor.S
