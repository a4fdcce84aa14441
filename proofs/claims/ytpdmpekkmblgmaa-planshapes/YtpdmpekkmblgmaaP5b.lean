/-
  Package plan: Parts and Width.
-/
import Derived.Test.YtpdmpekkmblgmaaP5
namespace Go.Proofs.Ytpdmpekkmblgmaa
open Go.ChangeShapes Go.WideShapes Go.ChangeAt Go.RowKit Go.Maps Go.Shelf
set_option linter.unusedVariables false
set_option linter.unusedSimpArgs false
attribute [local go_sem] Oper.semAt_some

theorem row_block {W : World} {g : Nat} {zs : List Int} {N : Nat} (h : W.heap[g]? = some (.cells (zs.map iv).toArray 3 (0, 0))) (hz : zs.length = N) (hN : N ≤ 1000) : Row W (some ⟨g, 0, none⟩) N N zs where
  size := hz
  le := Nat.le_refl _
  max := by unfold maxLen; omega
  nil := fun e => by cases e
  mem := .inr ⟨g, 0, rfl, row_lt h, fun k hk => by
    rw [Nat.zero_add]
    exact row_cell h k _ (by simp [List.getD_eq_getElem?_getD, show k < zs.length by omega])⟩
/-- The first that is reached. -/
def fr0 (zs : List Int) : Nat := zs.findIdx rch
def fst0 (zs : List Int) : Int := if fr0 zs < zs.length then (fr0 zs : Int) else -1
theorem fr0_at {zs : List Int} {i : Nat} (hi : i < zs.length) (h : rch (zs.getD i 0) = true) (hb : ∀ j, j < i → rch (zs.getD j 0) = false) : fr0 zs = i := by
  unfold fr0
  rw [List.findIdx_eq hi]
  refine ⟨by rw [List.getD_eq_getElem?_getD, List.getElem?_eq_getElem hi] at h; exact h, fun j hj => ?_⟩
  have := hb j hj
  rw [List.getD_eq_getElem?_getD, List.getElem?_eq_getElem (by omega)] at this
  exact this
theorem fr0_none {zs : List Int} (hb : ∀ j, j < zs.length → rch (zs.getD j 0) = false) : fr0 zs = zs.length := by
  unfold fr0
  rw [List.findIdx_eq_length]
  intro x hx
  obtain ⟨j, hj⟩ := List.getElem?_of_mem hx
  have := hb j (List.getElem?_eq_some_iff.1 hj).1
  rw [List.getD_eq_getElem?_getD, hj] at this
  exact this
set_option maxRecDepth 100000 in
set_option maxHeartbeats 1000000 in
theorem indexfunc_any (b N : Nat) (zs : List Int) (w : World) (R : Row w (some ⟨b, 0, none⟩) N N zs) (hN : N ≤ 1000) : Calls Try.prog 40 #[.slice (some ⟨b, 0, none⟩) N N, .func (.func 41) #[] #[]] w fun e w' => e = .returned (.int .i64 (fst0 zs)) ∧ w' = w := by
  have HS : Hid (zs.length = N) := R.size
  have HM : Hid (∀ k, k < N → w.cell? ⟨b, k, none⟩ = some (.int .i64 (zs.getD k 0))) := by
    show ∀ k, k < N → _
    intro k hk
    rcases R.mem with h | ⟨b', off, e, hb, hc⟩
    · omega
    · cases e
      have := hc k hk
      rwa [Nat.zero_add] at this
  have HN : Hid (N ≤ 1000) := hN
  have KR := fun x W => reached_any x W
  clear R hN
  go_enter Try.func40, Try.ntmps40
  go_wp2
  go_loopg [8] N (fun gk v8 wr => ∃ i : Nat, v8 = .int .i64 (i : Int) ∧ i + gk = N ∧ wr = w ∧ ∀ j, j < i → rch (zs.getD j 0) = false)
  case atStart => exact ⟨0, by first | rfl | go_num, by omega, rfl, fun j hj => by omega⟩
  case round =>
    obtain ⟨i, rfl, hg, rfl, hok⟩ := hrel
    have HOK : Hid (∀ j, j < i → rch (zs.getD j 0) = false) := hok
    clear hok
    by_cases hi : i < N
    case neg =>
      have hiI : ¬ (i : Int) < (N : Int) := by omega
      have HF : Hid (fst0 zs = -1) := by show _ = _; unfold fst0; rw [fr0_none (fun j hj => HOK.out j (by have := HS.out; omega)), if_neg (by omega)]
      go_wp2
      go_ret
      exact ⟨ret_i64 HF.out.symm, rfl⟩
    case pos =>
      have hiI : (i : Int) < (N : Int) := by omega
      have h0 := HM.out i hi
      have hz : i < zs.length := by rw [HS.out]; exact hi
      have KX := KR (zs.getD i 0)
      obtain ⟨x, hx⟩ : ∃ x, zs.getD i 0 = x := ⟨_, rfl⟩
      rw [hx] at h0 KX
      cases hr : rch x with
      | true =>
        have HF : Hid (fst0 zs = (i : Int)) := by show _ = _; unfold fst0; rw [fr0_at hz (by rw [hx]; exact hr) HOK.out, if_pos hz]
        rw [hr] at KX
        clear hx hr
        go_wp2_with (go_at_call 41; refine (KX _).mono ?_; rintro e w1 ⟨rfl, hw⟩; rw [hw]; clear hw w1)
        go_ret
        exact ⟨ret_i64 HF.out.symm, rfl⟩
      | false =>
        have HF : Hid (rch (zs.getD i 0) = false) := by show _ = _; rw [hx]; exact hr
        have hin : IntKind.i64.wrap ((i : Int) + 1) = (i : Int) + 1 := by rw [IntKind.wrap_i64]; have := HN.out; omega
        rw [hr] at KX
        clear hx hr
        go_wp2_with (go_at_call 41; refine (KX _).mono ?_; rintro e w1 ⟨rfl, hw⟩; rw [hw]; clear hw w1)
        go_roundg (gk - 1)
        case measure => omega
        case rel => exact ⟨i + 1, by first | rfl | go_num, by omega, rfl, fun j hj => (Nat.lt_succ_iff_lt_or_eq.1 hj).elim (HOK.out j) (fun e => by rw [e]; exact HF.out)⟩
/-- The greatest of some, and of those of a list. -/
def mxs (x : Int) (zs : List Int) : Int := zs.foldl max x
theorem mxs_take {zs : List Int} {i : Nat} (x : Int) (h : i < zs.length) : mxs x (zs.take (i + 1)) = max (mxs x (zs.take i)) (zs.getD i 0) := by
  unfold mxs
  rw [List.take_add_one, List.foldl_append, List.getElem?_eq_getElem h]
  simp [List.getD_eq_getElem?_getD, List.getElem?_eq_getElem h]
theorem mxs_max (x y : Int) (zs : List Int) : mxs (max x y) zs = max x (mxs y zs) := by
  unfold mxs
  induction zs generalizing y with
  | nil => rfl
  | cons z zs ih =>
    rw [List.foldl_cons, List.foldl_cons, Int.max_assoc, ih]
set_option maxRecDepth 100000 in
set_option maxHeartbeats 1000000 in
theorem max_any (b N : Nat) (zs : List Int) (w : World) (R : Row w (some ⟨b, 0, none⟩) N N zs) (hN : N ≤ 1000) (h1 : 1 ≤ N) : Calls Try.prog 42 #[.slice (some ⟨b, 0, none⟩) N N] w fun e w' => e = .returned (.int .i64 (mxs (zs.getD 0 0) zs)) ∧ w' = w := by
  have HS : Hid (zs.length = N) := R.size
  have HM : Hid (∀ k, k < N → w.cell? ⟨b, k, none⟩ = some (.int .i64 (zs.getD k 0))) := by
    show ∀ k, k < N → _
    intro k hk
    rcases R.mem with h | ⟨b', off, e, hb, hc⟩
    · omega
    · cases e
      have := hc k hk
      rwa [Nat.zero_add] at this
  have HN : Hid (N ≤ 1000 ∧ 1 ≤ N) := ⟨hN, h1⟩
  have hx0 := HM.out 0 (by omega)
  have HX : Hid (mxs (zs.getD 0 0) (zs.take 1) = zs.getD 0 0) := by
    show _ = _
    rw [mxs_take _ (by rw [HS.out]; omega), List.take_zero]
    show max (zs.getD 0 0) _ = _
    omega
  obtain ⟨z, hz⟩ : ∃ z, zs.getD 0 0 = z := ⟨_, rfl⟩
  rw [hz] at hx0 HX ⊢
  have hN0 : ¬ (N : Int) < 1 := by omega
  clear R hN hz
  go_enter Try.func42, Try.ntmps42
  go_wp2
  go_loopg [3, 4] N (fun gk v3 v4 wr => ∃ i : Nat, v3 = .int .i64 (mxs z (zs.take i)) ∧ v4 = .int .i64 (i : Int) ∧ i + gk = N + 1 ∧ 1 ≤ i ∧ i ≤ N ∧ wr = w)
  case atStart => exact ⟨1, by rw [HX.out], by first | rfl | go_num, by omega, Nat.le_refl _, h1, rfl⟩
  case round =>
    obtain ⟨i, rfl, rfl, hg, hi1, hiN, rfl⟩ := hrel
    clear hx0
    by_cases hi : i < N
    case neg =>
      have hiI : ¬ (i : Int) < (N : Int) := by omega
      have HF : Hid (zs.take i = zs) := by show _ = _; rw [List.take_of_length_le (by have := HS.out; omega)]
      rw [HF.out]
      obtain ⟨m, hm⟩ : ∃ m, mxs z zs = m := ⟨_, rfl⟩
      rw [hm]
      go_wp2
      go_ret
      exact ⟨rfl, rfl⟩
    case pos =>
      have hiI : (i : Int) < (N : Int) := by omega
      have h0 := HM.out i hi
      have HT : Hid (mxs z (zs.take (i + 1)) = max (mxs z (zs.take i)) (zs.getD i 0)) := mxs_take z (by rw [HS.out]; exact hi)
      have hin : IntKind.i64.wrap ((i : Int) + 1) = (i : Int) + 1 := by rw [IntKind.wrap_i64]; have := HN.out; omega
      obtain ⟨m, hm⟩ : ∃ m, mxs z (zs.take i) = m := ⟨_, rfl⟩
      obtain ⟨x, hx⟩ : ∃ x, zs.getD i 0 = x := ⟨_, rfl⟩
      rw [hm, hx] at HT
      rw [hx] at h0
      rw [hm]
      clear hm hx
      go_wp2
      all_goals
        go_roundg (gk - 1)
        case measure => omega
        case rel => exact ⟨i + 1, by rw [HT.out]; congr 1; omega, by first | rfl | go_num, by omega, by omega, by omega, rfl⟩
theorem mxs_self {zs : List Int} (h : 0 < zs.length) (w : Int) : max w (mxs (zs.getD 0 0) zs) = mxs w zs := by
  cases zs with
  | nil => simp at h
  | cons z zs =>
    show max w (mxs z (z :: zs)) = mxs w (z :: zs)
    have e : ∀ q, mxs q (z :: zs) = mxs (max q z) zs := fun q => rfl
    rw [e, e, Int.max_self, mxs_max]
/-- The least node that each is joined with. -/
def partsL (N : Nat) (l : List LK) : List Int := (List.range N).map fun v : Nat => fst0 (dst N l (v : Int))
/-- The greatest distance. -/
def widthL (l : List LK) (N : Nat) : Nat → Int
  | 0 => 0
  | v + 1 => mxs (widthL l N v) (dst N l (v : Int))
theorem partsL_len (N : Nat) (l : List LK) : (partsL N l).length = N := by simp [partsL]
theorem partsL_take {N v : Nat} {l : List LK} (h : v < N) : (partsL N l).take (v + 1) = (partsL N l).take v ++ [fst0 (dst N l (v : Int))] := by
  rw [List.take_add_one]
  congr 1
  simp [partsL, h]
end Go.Proofs.Ytpdmpekkmblgmaa
