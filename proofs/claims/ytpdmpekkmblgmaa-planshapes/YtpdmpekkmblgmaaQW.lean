/-
  Package plan: walks over pairs, and what distances have to do with them.
-/
import Derived.Test.YtpdmpekkmblgmaaP5b
namespace Go.Proofs.Ytpdmpekkmblgmaa
open Go.ChangeShapes Go.WideShapes Go.ChangeAt Go.RowKit Go.Maps Go.Shelf
set_option linter.unusedVariables false
set_option linter.unusedSimpArgs false
attribute [local go_sem] Oper.semAt_some

/-- A walk of so many steps. -/
def Wk (l : List LK) (v : Int) : Nat → Int → Prop
  | 0, u => v = u
  | k + 1, u => ∃ x, x ∈ nbs l u ∧ Wk l v k x
theorem nbs_iff {l : List LK} {v u : Int} : u ∈ nbs l v ↔ ∃ p ∈ l, nb v p = some u := by unfold nbs; exact List.mem_filterMap
theorem nbs_pair {l : List LK} (h : Apart l) {a b : Int} (hp : (a, b) ∈ l) : b ∈ nbs l a ∧ a ∈ nbs l b := by
  have := h _ hp
  refine ⟨nbs_iff.2 ⟨_, hp, ?_⟩, nbs_iff.2 ⟨_, hp, ?_⟩⟩
  · unfold nb; rw [if_pos rfl]
  · unfold nb; rw [if_neg this, if_pos rfl]
theorem nbs_sym {l : List LK} (h : Apart l) {v u : Int} (hu : u ∈ nbs l v) : v ∈ nbs l u := by
  obtain ⟨p, hp, e⟩ := nbs_iff.1 hu
  obtain ⟨a, b⟩ := p
  unfold nb at e
  split at e
  · rename_i h1
    cases e
    rw [← h1]
    exact (nbs_pair h hp).2
  · split at e
    · rename_i h1
      cases e
      rw [← h1]
      exact (nbs_pair h hp).1
    · cases e
theorem Wk.front {l : List LK} (h : Apart l) {v x : Int} (hx : x ∈ nbs l v) : ∀ (k : Nat) (u : Int), Wk l x k u → Wk l v (k + 1) u
  | 0, u, e => ⟨v, by subst e; exact nbs_sym h hx, rfl⟩
  | k + 1, u, ⟨y, hy, w⟩ => ⟨y, hy, Wk.front h hx k y w⟩
theorem Wk.turn {l : List LK} (h : Apart l) {v : Int} : ∀ (k : Nat) (u : Int), Wk l v k u → Wk l u k v
  | 0, u, e => by subst e; rfl
  | k + 1, u, ⟨y, hy, w⟩ => Wk.front h hy k v (Wk.turn h k y w)
theorem Wk.trans {l : List LK} {v x : Int} {j : Nat} (hj : Wk l v j x) : ∀ (k : Nat) (u : Int), Wk l x k u → Wk l v (j + k) u
  | 0, u, e => by subst e; exact hj
  | k + 1, u, ⟨y, hy, w⟩ => ⟨y, hy, Wk.trans hj k y w⟩
theorem Wk.in_ {l : List LK} {n : Int} (h : rises n l = true) {v u : Int} {k : Nat} (hv : 0 ≤ v ∧ v < n) (hw : Wk l v k u) (ha : Apart l) : 0 ≤ u ∧ u < n := by
  cases k with
  | zero => cases hw; exact hv
  | succ k =>
    obtain ⟨x, hx, _⟩ := hw
    exact nbs_in h (nbs_sym ha hx)
/-- What a number of a row says of walks. -/
def Tells (l : List LK) (v u : Int) (x : Int) (r : Nat) : Prop := (∃ d : Nat, x = (d : Int) ∧ d ≤ r ∧ Wk l v d u ∧ ∀ k, k < d → ¬ Wk l v k u) ∨ (x = -1 ∧ ∀ k, k ≤ r → ¬ Wk l v k u)
theorem out0_at {N v u : Nat} (hv : v < N) (hu : u < N) : (out0 N (v : Int)).getD u 0 = if v = u then 0 else -1 := by
  unfold out0
  rw [List.getD_eq_getElem?_getD, Int.toNat_natCast, List.getElem?_set]
  by_cases h : v = u
  · rw [if_pos h, if_pos h, if_pos (by simpa using hv)]; rfl
  · rw [if_neg h, if_neg h, List.getElem?_replicate, if_pos hu]; rfl
theorem lev_tells {N v : Nat} {l : List LK} (hr : rises (N : Int) l = true) (hv : v < N) (r : Nat) : ∀ u : Nat, u < N → Tells l (v : Int) (u : Int) ((lev l (out0 N (v : Int)) r).getD u 0) r := by
  induction r with
  | zero =>
    intro u hu
    show Tells _ _ _ ((out0 N (v : Int)).getD u 0) 0
    rw [out0_at hv hu]
    by_cases h : v = u
    · subst h
      rw [if_pos rfl]
      exact .inl ⟨0, rfl, Nat.le_refl _, rfl, fun k hk => by omega⟩
    · rw [if_neg h]
      refine .inr ⟨rfl, fun k hk => ?_⟩
      obtain rfl : k = 0 := by omega
      intro e
      have e2 : (v : Int) = (u : Int) := e
      omega
  | succ r ih =>
    intro u hu
    rw [lev, sweep_at (by rw [lev_len, out0_len]; exact hu)]
    unfold stp
    rcases ih u hu with ⟨d, e, hd, hw, hm⟩ | ⟨e, hm⟩
    · rw [if_pos (by omega), e]
      exact .inl ⟨d, rfl, by omega, hw, hm⟩
    · rw [if_neg (by omega)]
      cases hh : hit l (r : Int) (lev l (out0 N (v : Int)) r) u with
      | true =>
        rw [if_pos rfl]
        obtain ⟨x, hx, hxr⟩ := hit_iff.1 hh
        obtain ⟨h0, h1⟩ := nbs_in hr hx
        obtain ⟨y, rfl⟩ : ∃ y : Nat, x = (y : Int) := ⟨x.toNat, by omega⟩
        rw [Int.toNat_natCast] at hxr
        rcases ih y (by omega) with ⟨d, e2, hd, hw, _⟩ | ⟨e2, _⟩
        · obtain rfl : d = r := by omega
          exact .inl ⟨d + 1, by push_cast; rfl, Nat.le_refl _, ⟨_, hx, hw⟩, fun k hk => hm k (by omega)⟩
        · omega
      | false =>
        rw [if_neg (by decide), e]
        refine .inr ⟨rfl, fun k hk => ?_⟩
        by_cases hkr : k ≤ r
        · exact hm k hkr
        · obtain rfl : k = r + 1 := by omega
          rintro ⟨x, hx, hw⟩
          obtain ⟨h0, h1⟩ := nbs_in hr hx
          obtain ⟨y, rfl⟩ : ∃ y : Nat, x = (y : Int) := ⟨x.toNat, by omega⟩
          rcases ih y (by omega) with ⟨d, e2, hd, hw2, hm2⟩ | ⟨e2, hm2⟩
          · by_cases hdr : d = r
            · have : hit l (r : Int) (lev l (out0 N (v : Int)) r) u = true := hit_yes hx (by rw [Int.toNat_natCast, e2, hdr])
              rw [this] at hh
              cases hh
            · exact hm (d + 1) (by omega) ⟨_, hx, hw2⟩
          · exact hm2 r (Nat.le_refl _) hw
theorem lev_rest (l : List LK) (F : List Int) (r : Nat) : (∃ R, R < r ∧ lev l F (R + 1) = lev l F R) ∨ neg (lev l F r) + r ≤ neg F := by
  induction r with
  | zero => exact .inr (Nat.le_refl _)
  | succ r ih =>
    rcases ih with ⟨R, hR, e⟩ | h
    · exact .inl ⟨R, by omega, e⟩
    · cases hf : fur l (r : Int) (lev l F r) (lev l F r).length with
      | false => exact .inl ⟨r, by omega, by rw [lev]; exact sweep_still hf⟩
      | true =>
        have := neg_sweep (l := l) (r := (r : Int)) (by omega) hf
        refine .inr ?_
        rw [lev]
        omega
theorem lev_over {N v : Nat} {l : List LK} (hv : v < N) (k : Nat) : lev l (out0 N (v : Int)) (N + k) = lev l (out0 N (v : Int)) N := by
  rcases lev_rest l (out0 N (v : Int)) N with ⟨R, hR, e⟩ | h
  · have h1 := lev_stays (out0_le N (v : Int)) e (N - R)
    have h2 := lev_stays (out0_le N (v : Int)) e (N + k - R)
    rw [show R + (N - R) = N by omega] at h1
    rw [show R + (N + k - R) = N + k by omega] at h2
    rw [h1, h2]
  · have := out0_neg (N := N) (v := (v : Int)) (by rw [Int.toNat_natCast]; exact hv)
    omega
/-- How far one node is from another: the least walk, or -1. -/
def Far (l : List LK) (v u : Int) (x : Int) : Prop := (∃ d : Nat, x = (d : Int) ∧ Wk l v d u ∧ ∀ k, k < d → ¬ Wk l v k u) ∨ (x = -1 ∧ ∀ k, ¬ Wk l v k u)
theorem dst_far {N v u : Nat} {l : List LK} (hr : rises (N : Int) l = true) (hv : v < N) (hu : u < N) : Far l (v : Int) (u : Int) ((dst N l (v : Int)).getD u 0) := by
  unfold dst
  rw [if_pos (by omega)]
  rcases lev_tells hr hv N u hu with ⟨d, e, _, hw, hm⟩ | ⟨e, _⟩
  · exact .inl ⟨d, e, hw, hm⟩
  · refine .inr ⟨e, fun k hk => ?_⟩
    have h := lev_tells hr hv (N + k) u hu
    rw [lev_over hv] at h
    rcases h with ⟨d, e2, _⟩ | ⟨_, hm⟩
    · omega
    · exact hm k (by omega) hk
theorem Far.turn {l : List LK} (h : Apart l) {v u x y : Int} (h1 : Far l v u x) (h2 : Far l u v y) : x = y := by
  rcases h1 with ⟨d, rfl, hw, hm⟩ | ⟨rfl, hm⟩
  · rcases h2 with ⟨e, rfl, hw2, hm2⟩ | ⟨rfl, hm2⟩
    · have a1 : ¬ d < e := fun hlt => hm2 d hlt (hw.turn h)
      have a2 : ¬ e < d := fun hlt => hm e hlt (hw2.turn h)
      omega
    · exact (hm2 d (hw.turn h)).elim
  · rcases h2 with ⟨e, rfl, hw2, hm2⟩ | ⟨rfl, hm2⟩
    · exact (hm e (hw2.turn h)).elim
    · rfl
theorem Far.iff {l : List LK} {v u x : Int} (h : Far l v u x) : 0 ≤ x ↔ ∃ k, Wk l v k u := by
  rcases h with ⟨d, rfl, hw, hm⟩ | ⟨rfl, hm⟩
  · exact ⟨fun _ => ⟨d, hw⟩, fun _ => by omega⟩
  · exact ⟨fun h => by omega, fun ⟨k, hk⟩ => (hm k hk).elim⟩
theorem Far.zero {l : List LK} {v u x : Int} (h : Far l v u x) : x = 0 ↔ v = u := by
  rcases h with ⟨d, rfl, hw, hm⟩ | ⟨rfl, hm⟩
  · constructor
    · intro e
      obtain rfl : d = 0 := by omega
      exact hw
    · intro e
      by_cases hd : d = 0
      · subst hd; rfl
      · exact (hm 0 (by omega) e).elim
  · exact ⟨fun h => by omega, fun h => (hm 0 h).elim⟩
theorem Far.ge {l : List LK} {v u x : Int} (h : Far l v u x) : -1 ≤ x := by
  rcases h with ⟨d, rfl, _⟩ | ⟨rfl, _⟩ <;> omega
/-- Of neighbours the distances differ by 1 at most, and both are there or none. -/
theorem Far.next {l : List LK} {v a b x y : Int} (h1 : Far l v a x) (h2 : Far l v b y) (hab : a ∈ nbs l b) (hba : b ∈ nbs l a) : x - y ≤ 1 ∧ y - x ≤ 1 ∧ (x < 0 ↔ y < 0) := by
  rcases h1 with ⟨d, rfl, hw, hm⟩ | ⟨rfl, hm⟩
  · rcases h2 with ⟨e, rfl, hw2, hm2⟩ | ⟨rfl, hm2⟩
    · have a1 : ¬ d + 1 < e := fun hlt => hm2 (d + 1) hlt ⟨_, hab, hw⟩
      have a2 : ¬ e + 1 < d := fun hlt => hm (e + 1) hlt ⟨_, hba, hw2⟩
      omega
    · exact (hm2 (d + 1) ⟨_, hab, hw⟩).elim
  · rcases h2 with ⟨e, rfl, hw2, hm2⟩ | ⟨rfl, hm2⟩
    · exact (hm (e + 1) ⟨_, hba, hw2⟩).elim
    · omega
theorem fst0_spec {zs : List Int} {i : Nat} (hi : i < zs.length) (h : 0 ≤ zs.getD i 0) : ∃ j : Nat, fst0 zs = (j : Int) ∧ j < zs.length ∧ 0 ≤ zs.getD j 0 ∧ ∀ k, k < j → zs.getD k 0 < 0 := by
  have hj : fr0 zs < zs.length := List.findIdx_lt_length_of_exists ⟨zs[i], List.getElem_mem hi, by
    rw [List.getD_eq_getElem?_getD, List.getElem?_eq_getElem hi] at h
    simp [rch]
    exact h⟩
  refine ⟨fr0 zs, by unfold fst0; rw [if_pos hj], hj, ?_, ?_⟩
  · have := List.findIdx_getElem (w := hj)
    rw [List.getD_eq_getElem?_getD, List.getElem?_eq_getElem hj]
    simp only [Option.getD_some]
    exact of_decide_eq_true this
  · intro k hk
    have := List.not_of_lt_findIdx hk
    rw [List.getD_eq_getElem?_getD, List.getElem?_eq_getElem (by omega)]
    have h2 := of_decide_eq_false this
    simp only [Option.getD_some]
    omega
theorem parts_at {N v : Nat} {l : List LK} (h : v < N) : (partsL N l).getD v 0 = fst0 (dst N l (v : Int)) := by
  simp [partsL, List.getD_eq_getElem?_getD, h]
/-- Two are in one part if there is a walk. -/
theorem parts_same {N a b : Nat} {l : List LK} (hr : rises (N : Int) l = true) (ha : a < N) (hb : b < N) : (partsL N l).getD a 0 = (partsL N l).getD b 0 ↔ ∃ k, Wk l (a : Int) k (b : Int) := by
  have hap := rises_apart hr
  rw [parts_at ha, parts_at hb]
  have self : ∀ v : Nat, v < N → 0 ≤ (dst N l (v : Int)).getD v 0 := fun v hv => (dst_far hr hv hv).iff.2 ⟨0, rfl⟩
  obtain ⟨i, ei, hi, hi0, him⟩ := fst0_spec (by rw [dst_len]; exact ha) (self a ha)
  obtain ⟨j, ej, hj, hj0, hjm⟩ := fst0_spec (by rw [dst_len]; exact hb) (self b hb)
  rw [dst_len] at hi hj
  obtain ⟨k1, w1⟩ := (dst_far hr ha hi).iff.1 hi0
  obtain ⟨k2, w2⟩ := (dst_far hr hb hj).iff.1 hj0
  rw [ei, ej]
  constructor
  · intro e
    obtain rfl : i = j := by omega
    exact ⟨_, w1.trans _ _ (w2.turn hap)⟩
  · rintro ⟨k, w⟩
    have a1 : ¬ j < i := fun hlt => by
      have := (dst_far hr ha hj).iff.2 ⟨_, w.trans _ _ w2⟩
      have := him j hlt
      omega
    have a2 : ¬ i < j := fun hlt => by
      have := (dst_far hr hb hi).iff.2 ⟨_, (w.turn hap).trans _ _ w1⟩
      have := hjm i hlt
      omega
    omega
theorem parts_zero {N v : Nat} {l : List LK} (hr : rises (N : Int) l = true) (hv : v < N) {k : Nat} (h : Wk l (v : Int) k 0) : (partsL N l).getD v 0 = 0 := by
  have h0 : 0 < N := by omega
  have e := (parts_same hr hv h0).2 ⟨k, h⟩
  rw [e, parts_at h0]
  obtain ⟨j, ej, hj, hj0, hjm⟩ := fst0_spec (zs := dst N l ((0 : Nat) : Int)) (i := 0) (by rw [dst_len]; exact h0) ((dst_far hr h0 h0).iff.2 ⟨0, rfl⟩)
  rw [ej]
  by_cases hj : j = 0
  · subst hj; rfl
  · have := hjm 0 (by omega)
    have := (dst_far hr h0 h0).iff.2 ⟨0, rfl⟩
    omega
/-- Where each but the first has a pair with a lesser one, all are one part. -/
theorem joined {N : Nat} {l : List LK} (hr : rises (N : Int) l = true) (h : ∀ v : Nat, v < N → 0 < v → ∃ u : Nat, u < v ∧ ((u : Int), (v : Int)) ∈ l) : ∀ v : Nat, v < N → (partsL N l).getD v 0 = 0 := by
  have hap := rises_apart hr
  have go : ∀ v : Nat, v < N → ∃ k, Wk l (v : Int) k 0 := by
    intro v
    induction v using Nat.strongRecOn with
    | ind v ih =>
      intro hv
      by_cases h0 : v = 0
      · subst h0; exact ⟨0, rfl⟩
      · obtain ⟨u, hu, hp⟩ := h v hv (by omega)
        obtain ⟨k, hk⟩ := ih u hu (by omega)
        exact ⟨_, Wk.front hap (nbs_pair hap hp).2 k 0 hk⟩
  intro v hv
  obtain ⟨k, hk⟩ := go v hv
  exact parts_zero hr hv hk
end Go.Proofs.Ytpdmpekkmblgmaa
