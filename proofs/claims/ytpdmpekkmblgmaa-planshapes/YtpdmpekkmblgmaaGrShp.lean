/-
  PlanShapes.
-/
import Derived.Test.YtpdmpekkmblgmaaQW
import Derived.Test.YtpdmpekkmblgmaaGrMh
import Derived.Test.YtpdmpekkmblgmaaPB1
import Derived.Test.YtpdmpekkmblgmaaGrMb
import Derived.Test.YtpdmpekkmblgmaaPB3
import Derived.Test.YtpdmpekkmblgmaaPD
import Derived.Test.YtpdmpekkmblgmaaP5d
import Derived.Test.YtpdmpekkmblgmaaRows
import Derived.WalkKit
import Derived.ProofKit
import Derived.OpenShut
import Derived.ShutString
import Derived.ChangeOld
import Derived.Below
import Derived.SizedLaws
namespace Go.Proofs.Ytpdmpekkmblgmaa
open Go.ChangeShapes Go.WideShapes Go.ChangeAt Go.RowKit Go.Maps Go.Shelf
set_option linter.unusedVariables false
set_option linter.unusedSimpArgs false
attribute [local go_sem] Oper.semAt_some

theorem srt_rises {n : Int} {xs : List LK} (hx : xs.Nodup) (hin : ∀ p ∈ xs, 0 ≤ p.1 ∧ p.1 < p.2 ∧ p.2 < n) : rises n (srt xs) = true := by
  refine rises_yes fun i hi => ?_
  have hu := srt_up hx
  unfold Up at hu
  rw [List.pairwise_iff_getElem] at hu
  have e : (srt xs).getD i LK.z = (srt xs)[i] := by rw [List.getD_eq_getElem?_getD, List.getElem?_eq_getElem hi]; rfl
  have h1 := hin _ (srt_mem.1 (List.getElem_mem hi))
  unfold okr inR upA
  rw [e]
  by_cases h0 : i = 0
  · simp only [Bool.and_eq_true, Bool.or_eq_true, decide_eq_true_eq]
    exact ⟨⟨⟨h1.1, h1.2.1⟩, h1.2.2⟩, .inl h0⟩
  · have e2 : (srt xs).getD (i - 1) LK.z = (srt xs)[i - 1] := by rw [List.getD_eq_getElem?_getD, List.getElem?_eq_getElem (by omega)]; rfl
    have h2 := hu (i - 1) i (by omega) hi (by omega)
    unfold ltL at h2
    rw [e2]
    simp only [Bool.and_eq_true, Bool.or_eq_true, decide_eq_true_eq]
    exact ⟨⟨⟨h1.1, h1.2.1⟩, h1.2.2⟩, .inr (of_decide_eq_true h2)⟩
/-- What a network of a shape has. -/
structure Net (n : Nat) (xs : List LK) : Prop where
  nodup : xs.Nodup
  in_ : ∀ p ∈ xs, 0 ≤ p.1 ∧ p.1 < p.2 ∧ p.2 < (n : Int)
  join : ∀ v : Nat, v < n → 0 < v → ∃ u : Nat, u < v ∧ ((u : Int), (v : Int)) ∈ xs
theorem Net.fit {n : Nat} {xs : List LK} (h : Net n xs) (hf : few (n : Int) = true) (hc : crowded (n : Int) (srt xs) = false) : fit (n : Int) (srt xs) = true := by
  show (few (n : Int) && (rises (n : Int) (srt xs) && !crowded (n : Int) (srt xs))) = true
  rw [hf, srt_rises h.nodup h.in_, hc]
  rfl
theorem Net.parts {n : Nat} {xs : List LK} (h : Net n xs) (v : Nat) (hv : v < n) : (partsL n (srt xs)).getD v 0 = 0 :=
  joined (srt_rises h.nodup h.in_) (fun v h1 h2 => by
    obtain ⟨u, hu, hp⟩ := h.join v h1 h2
    exact ⟨u, hu, srt_mem.2 hp⟩) v hv
theorem Net.len {n : Nat} {xs : List LK} (h : Net n xs) : n - 1 ≤ xs.length := by
  have h1 : ((List.range (n - 1)).map fun i : Nat => ((i : Int) + 1)).Nodup := List.Pairwise.map _ (fun a b hab e => by omega) List.pairwise_lt_range
  have h2 := h1.length_le_of_subset (l₂ := xs.map Prod.snd) (fun x hx => by
    obtain ⟨i, hi, rfl⟩ := List.mem_map.1 hx
    have := List.mem_range.1 hi
    obtain ⟨u, _, hp⟩ := h.join (i + 1) (by omega) (by omega)
    exact List.mem_map.2 ⟨_, hp, by push_cast; rfl⟩)
  simpa using h2
theorem line_net (n : Nat) : Net n (lineL n) where
  nodup := lineL_nodup n
  in_ := fun p hp => by
    obtain ⟨i, hi, rfl⟩ := List.mem_map.1 hp
    have := List.mem_range.1 hi
    show 0 ≤ (i : Int) ∧ (i : Int) < (i : Int) + 1 ∧ (i : Int) + 1 < (n : Int)
    omega
  join := fun v h1 h2 => ⟨v - 1, by omega, List.mem_map.2 ⟨v - 1, List.mem_range.2 (by omega), by
    show (((v - 1 : Nat) : Int), ((v - 1 : Nat) : Int) + 1) = _
    rw [show ((v - 1 : Nat) : Int) + 1 = (v : Int) by omega]⟩⟩
theorem Net.more {n : Nat} {xs ys : List LK} (h : Net n xs) (hd : ys.Nodup) (hs : ∀ p ∈ xs, p ∈ ys) (hi : ∀ p ∈ ys, p ∈ xs ∨ (0 ≤ p.1 ∧ p.1 < p.2 ∧ p.2 < (n : Int))) : Net n ys :=
  ⟨hd, fun p hp => (hi p hp).elim (h.in_ p) id, fun v h1 h2 => by
    obtain ⟨u, hu, hp⟩ := h.join v h1 h2
    exact ⟨u, hu, hs _ hp⟩⟩
theorem ring_net (n : Nat) : Net n (ringL n) :=
  (line_net n).more (ringL_nodup n) (fun p hp => List.mem_append_left _ hp) fun p hp => by
    unfold ringL at hp
    rcases List.mem_append.1 hp with h | h
    · exact .inl h
    · split at h
      · have e : p = (0, (n : Int) - 1) := by simpa using h
        rw [e]
        refine .inr ?_
        show (0 : Int) ≤ 0 ∧ (0 : Int) < (n : Int) - 1 ∧ (n : Int) - 1 < (n : Int)
        omega
      · cases h
theorem tree_net (n : Nat) {k : Int} (hk : 1 ≤ k) : Net n (treeL n k) where
  nodup := treeL_nodup n k
  in_ := fun p hp => by
    obtain ⟨i, hi, rfl⟩ := List.mem_map.1 hp
    have := List.mem_range.1 hi
    show 0 ≤ (i : Int) / k ∧ (i : Int) / k < (i : Int) + 1 ∧ (i : Int) + 1 < (n : Int)
    have h1 := Int.ediv_le_self (a := (i : Int)) k (by omega)
    have h2 := Int.ediv_nonneg (a := (i : Int)) (b := k) (by omega) (by omega)
    omega
  join := fun v h1 h2 => by
    have h3 := Int.ediv_le_self (a := ((v - 1 : Nat) : Int)) k (by omega)
    have h4 := Int.ediv_nonneg (a := ((v - 1 : Nat) : Int)) (b := k) (by omega) (by omega)
    refine ⟨(((v - 1 : Nat) : Int) / k).toNat, by omega, List.mem_map.2 ⟨v - 1, List.mem_range.2 (by omega), ?_⟩⟩
    show (((v - 1 : Nat) : Int) / k, ((v - 1 : Nat) : Int) + 1) = _
    rw [show ((v - 1 : Nat) : Int) + 1 = (v : Int) by omega, Int.toNat_of_nonneg h4]
theorem full_net (n : Nat) : Net n (fullL n) where
  nodup := fullL_nodup n
  in_ := fun p hp => by
    obtain ⟨a, b, h1, h2, rfl⟩ := fullL_mem.1 hp
    show 0 ≤ (a : Int) ∧ (a : Int) < (b : Int) ∧ (b : Int) < (n : Int)
    omega
  join := fun v h1 h2 => ⟨0, h2, fullL_mem.2 ⟨0, v, h2, h1, rfl⟩⟩
theorem full_two (n : Nat) : 2 * (fullL n).length = n * (n - 1) := by
  induction n with
  | zero => rfl
  | succ n ih =>
    rw [fullL, List.length_append, fullR_len, Nat.mul_add, ih, Nat.add_sub_cancel]
    cases n with
    | zero => rfl
    | succ m =>
      rw [Nat.add_sub_cancel, Nat.mul_comm (m + 1) m, ← Nat.add_mul]
theorem grid_net (n : Nat) {k : Int} (hk : 1 ≤ k) : Net n (gridL n k n) where
  nodup := gridL_nodup n k n
  in_ := fun p hp => by
    obtain ⟨i, hi, h⟩ := gridL_mem.1 hp
    rcases gridR_mem.1 h with ⟨h1, _, rfl⟩ | ⟨h1, rfl⟩
    · show 0 ≤ (i : Int) ∧ (i : Int) < (i : Int) + 1 ∧ (i : Int) + 1 < (n : Int)
      omega
    · show 0 ≤ (i : Int) ∧ (i : Int) < (i : Int) + k ∧ (i : Int) + k < (n : Int)
      omega
  join := fun v h1 h2 => by
    by_cases hm : Int.tmod (v : Int) k = 0
    · have hkv : k ≤ (v : Int) := by
        by_cases h : k ≤ (v : Int)
        · exact h
        · rw [Int.tmod_eq_of_lt (by omega) (by omega)] at hm
          omega
      obtain ⟨q, rfl⟩ : ∃ q : Nat, k = (q : Int) := ⟨k.toNat, by omega⟩
      refine ⟨v - q, by omega, gridL_mem.2 ⟨v - q, by omega, gridR_mem.2 (.inr ⟨by omega, ?_⟩)⟩⟩
      rw [show ((v - q : Nat) : Int) + (q : Int) = (v : Int) by omega]
    · refine ⟨v - 1, by omega, gridL_mem.2 ⟨v - 1, by omega, gridR_mem.2 (.inl ⟨by omega, ?_, ?_⟩)⟩⟩
      · rw [show ((v - 1 : Nat) : Int) + 1 = (v : Int) by omega]; exact hm
      · rw [show ((v - 1 : Nat) : Int) + 1 = (v : Int) by omega]
theorem rput_in {n : Int} {l : List LK} {x : Int} (hn : 1 ≤ n) (h : ∀ p ∈ l, 0 ≤ p.1 ∧ p.1 < p.2 ∧ p.2 < n) : ∀ p ∈ rput n l x, 0 ≤ p.1 ∧ p.1 < p.2 ∧ p.2 < n := by
  unfold rput
  split
  · rename_i hr
    unfold roomB at hr
    simp only [Bool.and_eq_true, decide_eq_true_eq] at hr
    intro p hp
    rcases List.mem_append.1 hp with h1 | h1
    · exact h p h1
    · have e : p = rnp n x := by simpa using h1
      rw [e]
      have h2 := hr.1
      unfold rnp at h2 ⊢
      have a := bl_rng (x := x) hn
      have b := bl_rng (x := nx x) hn
      simp only at h2 ⊢
      omega
  · exact h
theorem rpairs_in {n : Int} {l : List LK} {x : Int} (hn : 1 ≤ n) (h : ∀ p ∈ l, 0 ≤ p.1 ∧ p.1 < p.2 ∧ p.2 < n) (m : Nat) : ∀ p ∈ (rpairs n l x m).1, 0 ≤ p.1 ∧ p.1 < p.2 ∧ p.2 < n := by
  induction m with
  | zero => exact h
  | succ m ih => exact rput_in hn ih
theorem rand_net {n : Nat} (k : Int) (hn : 1 ≤ n) : Net n (randL n k) := by
  refine (line_net n).more (rpairs_nodup (lineL_nodup n) _) (fun p hp => ?_) (fun p hp => .inr (rpairs_in (by omega) (line_net n).in_ _ p hp))
  obtain ⟨r, hr⟩ := rpairs_pre (n := (n : Int)) (l := lineL n) (x := IntKind.u64.wrap k) (Nat.zero_le (2 * n))
  unfold randL
  rw [hr]
  exact List.mem_append_left _ hp
end Go.Proofs.Ytpdmpekkmblgmaa

namespace Go.Proofs.Ytpdmpekkmblgmaa
open Go.ChangeShapes Go.WideShapes Go.ChangeAt Go.RowKit Go.Maps Go.Shelf
set_option linter.unusedVariables false
set_option linter.unusedSimpArgs false
attribute [local go_sem] Oper.semAt_some

/-- How many pairs a network of a shape has. -/
def Cnt (s : Int) (N m : Nat) : Prop := ((s = 1 ∨ s = 3 ∨ s = 6) ∧ m = N - 1) ∨ (s = 2 ∧ 3 ≤ N ∧ m = N) ∨ (s = 2 ∧ N < 3 ∧ m = N - 1) ∨ (s = 4 ∧ 2 * m = N * (N - 1)) ∨ ((s = 5 ∨ s = 7) ∧ N - 1 ≤ m)
/-- What Links says of a network, as PlanShapes asks it. -/
structure Good (s n err : Int) (xs : List LK) : Prop where
  bad : err ≠ 0 → xs = []
  good : err = 0 → ∃ N : Nat, n = (N : Int) ∧ 1 ≤ N ∧ N ≤ 16 ∧ fit (N : Int) xs = true ∧ (∀ v, v < N → (partsL N xs).getD v 0 = 0) ∧ Cnt s N xs.length
theorem good_of {s n : Int} {bad : Bool} {xs : List LK} (hb : bad = false → few n = true) (h : bad = false → ∀ N : Nat, n = (N : Int) → 1 ≤ N → N ≤ 16 → Net N xs ∧ Cnt s N xs.length) : Good s n (errL n bad xs) (resL n bad xs) := by
  unfold errL resL
  cases hbd : bad with
  | true => exact ⟨fun _ => rfl, fun e => by rw [if_pos rfl] at e; exact absurd e (by decide)⟩
  | false =>
    rw [if_neg Bool.false_ne_true, if_neg Bool.false_ne_true]
    cases hc : crowded n (srt xs) with
    | true => exact ⟨fun _ => rfl, fun e => by rw [if_pos rfl] at e; exact absurd e (by decide)⟩
    | false =>
      rw [if_neg Bool.false_ne_true, if_neg Bool.false_ne_true]
      refine ⟨fun e => (e rfl).elim, fun _ => ?_⟩
      obtain ⟨N, rfl, h1, h2⟩ := few_nat (hb hbd)
      obtain ⟨hn, hk⟩ := h hbd N rfl h1 h2
      refine ⟨N, rfl, h1, h2, hn.fit (hb hbd) hc, hn.parts, ?_⟩
      rw [(srt_perm xs).length_eq]
      exact hk
theorem neg_few {n : Int} {b : Bool} (h : (!few n || b) = false) : few n = true ∧ b = false := by
  cases h1 : few n <;> cases b <;> simp [h1] at h ⊢
theorem neg_few1 {n : Int} (h : (!few n) = false) : few n = true := by
  cases h1 : few n <;> simp [h1] at h ⊢
/-- Links: what PlanShapes asks of it, each shape. -/
def LnkG (w : World) (err : Int) (xs : List LK) (e : Ending) (w' : World) : Prop := ∃ a m c, e = .returned (.tuple #[.slice a m c, .int .i64 err]) ∧ RdL w' a m c xs ∧ Below w.heap.size w w'
theorem links_good (s n k : Int) (hk : k ≤ 9223372036854775807) : ∃ err xs, Good s n err xs ∧ ∀ w, Calls Try.prog 8 #[.int .i64 s, .int .i64 n, .int .i64 k] w (LnkG w err xs) := by
  by_cases h1 : s = 1
  · subst h1
    refine ⟨_, _, good_of neg_few1 (fun _ N e g1 g2 => ?_), fun w => links_1 n k w⟩
    subst e; rw [Int.toNat_natCast]
    exact ⟨line_net N, .inl ⟨.inl rfl, lineL_len N⟩⟩
  by_cases h2 : s = 2
  · subst h2
    refine ⟨_, _, good_of neg_few1 (fun _ N e g1 g2 => ?_), fun w => links_2 n k w⟩
    subst e; rw [Int.toNat_natCast]
    refine ⟨ring_net N, .inr ?_⟩
    by_cases h3 : 3 ≤ N
    · exact .inl ⟨rfl, h3, by rw [ringL_len h3, lineL_len]; omega⟩
    · exact .inr (.inl ⟨rfl, by omega, by rw [ringL_few h3, lineL_len]⟩)
  by_cases h3 : s = 3
  · subst h3
    refine ⟨_, _, good_of neg_few1 (fun _ N e g1 g2 => ?_), fun w => links_3 n k w⟩
    subst e; rw [Int.toNat_natCast]
    exact ⟨tree_net N (by omega), .inl ⟨.inr (.inl rfl), treeL_len N _⟩⟩
  by_cases h4 : s = 4
  · subst h4
    refine ⟨_, _, good_of neg_few1 (fun _ N e g1 g2 => ?_), fun w => links_4 n k w⟩
    subst e; rw [Int.toNat_natCast]
    exact ⟨full_net N, .inr (.inr (.inr (.inl ⟨rfl, full_two N⟩)))⟩
  by_cases h5 : s = 5
  · subst h5
    refine ⟨_, _, good_of (fun h => (neg_few h).1) (fun hb N e g1 g2 => ?_), fun w => links_5 n k w hk⟩
    have hk1 : 1 ≤ k := by have := of_decide_eq_false (neg_few hb).2; omega
    subst e; rw [Int.toNat_natCast]
    have hn := grid_net N hk1
    exact ⟨hn, .inr (.inr (.inr (.inr ⟨.inl rfl, hn.len⟩)))⟩
  by_cases h6 : s = 6
  · subst h6
    refine ⟨_, _, good_of (fun h => (neg_few h).1) (fun hb N e g1 g2 => ?_), fun w => links_6 n k w hk⟩
    have hk1 : 1 ≤ k := by have := of_decide_eq_false (neg_few hb).2; omega
    subst e; rw [Int.toNat_natCast]
    exact ⟨tree_net N hk1, .inl ⟨.inr (.inr rfl), treeL_len N k⟩⟩
  by_cases h7 : s = 7
  · subst h7
    refine ⟨_, _, good_of neg_few1 (fun _ N e g1 g2 => ?_), fun w => links_7 n k w⟩
    subst e; rw [Int.toNat_natCast]
    have hn := rand_net (n := N) k g1
    exact ⟨hn, .inr (.inr (.inr (.inr ⟨.inr rfl, hn.len⟩)))⟩
  have h : s < 1 ∨ 7 < s := by omega
  exact ⟨46, [], ⟨fun _ => rfl, fun e => by cases e⟩, fun w => (links_no s n k w h).mono fun e w' ⟨h1, h2⟩ => ⟨none, 0, 0, h1, rdL_nil _, by rw [h2]; exact Below.refl _ _⟩⟩
theorem sh_le {a : Int} (h : (Lit.int .i64 a).wf = true) : a ≤ 9223372036854775807 := by
  simp only [Lit.wf, Bool.and_eq_true, decide_eq_true_eq] at h
  have h2 := h.2
  have e : IntKind.max .i64 = 9223372036854775807 := by decide
  omega
end Go.Proofs.Ytpdmpekkmblgmaa

namespace Go.Proofs.Ytpdmpekkmblgmaa
open Go.ChangeShapes Go.WideShapes Go.ChangeAt Go.RowKit Go.Maps Go.Shelf
set_option linter.unusedVariables false
set_option linter.unusedSimpArgs false
attribute [local go_sem] Oper.semAt_some

set_option maxRecDepth 100000 in
set_option maxHeartbeats 4000000 in
theorem shapes_walk (s n k : Int) (w : World) (hk : k ≤ 9223372036854775807) :
    Calls Try.prog 6 #[.int .i64 s, .int .i64 n, .int .i64 k] w fun e w' => e = .returned (.bool true) ∧ Below w.heap.size w w' := by
  obtain ⟨err, xs, G, K8⟩ := links_good s n k hk
  have KA := fun W => awake_any W
  clear hk
  by_cases he : err = 0
  case neg =>
    have hx := G.bad he
    subst hx
    have heb : (err != 0) = true := by simpa using he
    clear G
    go_enter Try.func6, Try.ntmps6
    go_wp2_with (first
      | (go_at_call 8; refine (K8 _).mono ?_; clear K8; rintro e w1 ⟨a1, m1, c1, rfl, R1, b1⟩; have hm : m1 = 0 := (by have h := R1.size; simpa using h.symm); clear R1; subst hm)
      | (go_at_call 13; refine (KA _).mono ?_; clear KA; rintro e w4 ⟨rfl, b4⟩))
    go_ret
    exact ⟨rfl, b1.trans (b4.mono b1.size)⟩
  case pos =>
    subst he
    obtain ⟨N, rfl, h1, h2, hf, hz, hc⟩ := G.good rfl
    have HF : Hid (fit (N : Int) xs = true) := hf
    have HZ : Hid (∀ v, v < N → (partsL N xs).getD v 0 = 0) := hz
    have HC : Hid (Cnt s N xs.length) := hc
    have HN : Hid (1 ≤ N ∧ N ≤ 16) := ⟨h1, h2⟩
    clear G hf hz hc h1 h2
    go_enter Try.func6, Try.ntmps6
    go_wp2_with (first
      | (go_at_call 8; refine (K8 _).mono ?_; clear K8; rintro e w1 ⟨a1, m1, c1, rfl, R1, b1⟩; have HM : Hid (xs.length = m1) := R1.size; have K14 := fit_any (N : Int) a1 m1 c1 xs w1 R1; rw [HF.out] at K14)
      | (go_at_call 14; refine K14.mono ?_; clear K14; rintro e w2 ⟨rfl, b2⟩; have B2 := b1.trans (b2.mono b1.size); have K21 := parts_any N a1 m1 c1 xs w2 (R1.below b2) HF.out; clear R1)
      | (go_at_call 21; refine K21.mono ?_; clear K21; rintro e w3 ⟨a3, c3, rfl, R3, b3⟩; have B3 := B2.trans (b3.mono B2.size)))
    go_loopg [35] N (fun gk v35 wr => ∃ i : Nat, v35 = .int .i64 (i : Int) ∧ i + gk = N ∧ Below w3.heap.size w3 wr)
    case atStart => exact ⟨0, by first | rfl | go_num, by omega, Below.refl _ _⟩
    case round =>
      obtain ⟨i, rfl, hg, Br⟩ := hrel
      by_cases hi : i < N
      case pos =>
        have hiI : (i : Int) < (N : Int) := by omega
        have HG : Hid (i < N ∧ i + gk = N) := ⟨hi, hg⟩
        have hin : IntKind.i64.wrap ((i : Int) + 1) = (i : Int) + 1 := by rw [IntKind.wrap_i64]; have := HG.out; have := HN.out; omega
        obtain ⟨g, off, rfl, hb, hc⟩ := R3.mem.resolve_left (by omega)
        have d0 := hc i hi
        rw [HZ.out i hi] at d0
        have d1 : wr.cell? ⟨g, off + i, none⟩ = some (.int .i64 0) := (Br.cell (p := ⟨g, off + i, none⟩) hb).trans d0
        clear hc d0 hi hg KA
        go_wp2
        go_roundg (gk - 1)
        case measure => have := HG.out; omega
        case rel => exact ⟨i + 1, by first | rfl | go_num, by have := HG.out; omega, Br⟩
      case neg =>
        have hiI : ¬ (i : Int) < (N : Int) := by omega
        have B := B3.trans (Br.mono B3.size)
        have hsub : IntKind.i64.wrap ((N : Int) - 1) = ((N - 1 : Nat) : Int) := by rw [IntKind.wrap_i64]; have := HN.out; omega
        obtain ⟨M, hM⟩ : ∃ M, N - 1 = M := ⟨_, rfl⟩
        rw [hM] at hsub
        have HMM : Hid (N - 1 = M) := hM
        clear hi hg R3 Br B3 B2 b1 b2 b3 hM
        have hcl := HC.out
        rw [HM.out] at hcl
        rcases hcl with ⟨rfl | rfl | rfl, hm⟩ | ⟨rfl, h3, hm⟩ | ⟨rfl, h3, hm⟩ | ⟨rfl, hm⟩ | ⟨rfl | rfl, hm⟩
        · obtain rfl : m1 = M := by have := HMM.out; omega
          clear hm
          go_wp2_with (go_at_call 13; refine (KA _).mono ?_; clear KA; rintro e w4 ⟨rfl, b4⟩)
          go_ret
          exact ⟨rfl, B.trans (b4.mono B.size)⟩
        · obtain rfl : m1 = M := by have := HMM.out; omega
          clear hm
          go_wp2_with (go_at_call 13; refine (KA _).mono ?_; clear KA; rintro e w4 ⟨rfl, b4⟩)
          go_ret
          exact ⟨rfl, B.trans (b4.mono B.size)⟩
        · obtain rfl : m1 = M := by have := HMM.out; omega
          clear hm
          go_wp2_with (go_at_call 13; refine (KA _).mono ?_; clear KA; rintro e w4 ⟨rfl, b4⟩)
          go_ret
          exact ⟨rfl, B.trans (b4.mono B.size)⟩
        · subst hm
          have h3I : (3 : Int) ≤ (m1 : Int) := by omega
          clear h3
          go_wp2_with (go_at_call 13; refine (KA _).mono ?_; clear KA; rintro e w4 ⟨rfl, b4⟩)
          go_ret
          exact ⟨rfl, B.trans (b4.mono B.size)⟩
        · obtain rfl : m1 = M := by have := HMM.out; omega
          have h3I : ¬ (3 : Int) ≤ (N : Int) := by omega
          clear h3 hm
          go_wp2_with (go_at_call 13; refine (KA _).mono ?_; clear KA; rintro e w4 ⟨rfl, b4⟩)
          go_ret
          exact ⟨rfl, B.trans (b4.mono B.size)⟩
        · have hmul : IntKind.i64.wrap ((N : Int) * (M : Int)) = (N : Int) * (M : Int) := by
            have h16 := HN.out
            have e := HMM.out
            have h0 : (N : Int) * (M : Int) ≤ 16 * 16 := Int.mul_le_mul (by omega) (by omega) (by omega) (by omega)
            have h00 : 0 ≤ (N : Int) * (M : Int) := Int.mul_nonneg (by omega) (by omega)
            rw [IntKind.wrap_i64]
            omega
          have hdiv : Int.tdiv ((N : Int) * (M : Int)) 2 = (m1 : Int) := by
            rw [HMM.out] at hm
            have e : (N : Int) * (M : Int) = 2 * (m1 : Int) := by rw [← Int.natCast_mul, ← hm]; push_cast; rfl
            rw [e, Int.mul_tdiv_cancel_left _ (by decide)]
          have hw2 : IntKind.i64.wrap (m1 : Int) = (m1 : Int) := by
            rw [HMM.out] at hm
            have h16 := HN.out
            have e := HMM.out
            have : N * M ≤ 16 * 16 := Nat.mul_le_mul (by omega) (by omega)
            rw [IntKind.wrap_i64]
            omega
          clear hm
          go_wp2_with (go_at_call 13; refine (KA _).mono ?_; clear KA; rintro e w4 ⟨rfl, b4⟩)
          go_ret
          exact ⟨rfl, B.trans (b4.mono B.size)⟩
        · have hge : (M : Int) ≤ (m1 : Int) := by have := HMM.out; omega
          clear hm
          go_wp2_with (go_at_call 13; refine (KA _).mono ?_; clear KA; rintro e w4 ⟨rfl, b4⟩)
          go_ret
          exact ⟨rfl, B.trans (b4.mono B.size)⟩
        · have hge : (M : Int) ≤ (m1 : Int) := by have := HMM.out; omega
          clear hm
          go_wp2_with (go_at_call 13; refine (KA _).mono ?_; clear KA; rintro e w4 ⟨rfl, b4⟩)
          go_ret
          exact ⟨rfl, B.trans (b4.mono B.size)⟩
end Go.Proofs.Ytpdmpekkmblgmaa

namespace Go.Proofs.Ytpdmpekkmblgmaa.planShapes
open Go.ChangeShapes Go.WideShapes Go.ChangeAt Go.RowKit Go.Deep
open Go.ChangeMaps (open_string shut_string)
set_option linter.unusedVariables false
set_option linter.unusedSimpArgs false

theorem own : ownKnob Try.prog.godebug = none := by kernel_rfl
theorem laidOut : laidOutB Try.prog = true := by kernel_rfl

set_option maxRecDepth 100000 in
theorem lifted (os : Os) (started : os.Started) (H : Type) (enc : TypeId × Value → H) :
    ReturnsInHanded {} Try.checked os 6 .any (Rows.planShapesSpec.pre6 enc Try.prog Try.f6 Rows.planShapesRow.domain false) (Rows.planShapesSpec.post enc Try.prog Try.f6 false true false false) := by
  refine returnsInHanded_of_change_sized (C := Try.checked) own started (by kernel_rfl) Try.func6
    (ChangeSpec.witness6 (enc := enc) (C := Try.checked) false ⟨#[], #[.int .i64 0, .int .i64 0, .int .i64 0], []⟩ 8 (by kernel_rfl) (by kernel_rfl) (by kernel_rfl) (by kernel_rfl)) ?_
  intro W base args ds gs before hval0 hW hcnd hsz0 _
  have hsz : (DataW.weightsEach Try.prog (Try.f6.params.toList ++ Rows.planShapesSpec.plain.varTypes Try.prog) (ds ++ gs)).all (· ≤ reachBytes) = true := hsz0
  clear hsz0
  have hval : ∀ (j : Nat) t v, Try.f6.params[j]? = some t → args[j]? = some v → Value.okWide Try.prog W .any base t v := hval0
  have hW' := hW
  obtain ⟨p, q, hA0, hV, rfl, hfz, hnd⟩ := hW
  have hA : DataW.TrodAll enc Try.prog W 0 (fun _ => true) true Try.f6.params.toList args.toList ds p := hA0
  rw [Try.params6] at hA hval hsz
  obtain ⟨v0, vs0, d0, ds0, p0, q0, hargs, rfl, rfl, h0, r0⟩ := trodAll_cons hA
  obtain ⟨v1, vs1, d1, ds1, p1, q1, rfl, rfl, rfl, h1, r1⟩ := trodAll_cons r0
  obtain ⟨v2, vs2, d2, ds2, p2, q2, rfl, rfl, rfl, h2, r2⟩ := trodAll_cons r1
  obtain ⟨rfl, rfl, rfl⟩ := trodAll_nil r2
  obtain rfl : args = #[v0, v1, v2] := by cases args; simp_all
  obtain ⟨rfl, rfl⟩ := trodVars_none hV
  obtain ⟨a0, rfl, rfl, rfl, w0⟩ := open_int Try.underlying3 (hval 0 3 v0 rfl rfl) h0
  obtain ⟨a1, rfl, rfl, rfl, w1⟩ := open_int Try.underlying3 (hval 1 3 v1 rfl rfl) h1
  obtain ⟨a2, rfl, rfl, rfl, w2⟩ := open_int Try.underlying3 (hval 2 3 v2 rfl rfl) h2
  clear hA0 hval0
  refine (shapes_walk a0 a1 a2 W (sh_le w2)).mono fun e W' ⟨he, bel⟩ => ?_
  subst he
  exact ⟨_, rfl, _, _, _, [], _, [], hW', trodAll_mk1 (shut_bool Try.underlying4 _), (trodAll_cons_mk (shut_int Try.underlying3 w0) (trodAll_cons_mk (shut_int Try.underlying3 w1) (trodAll_cons_mk (shut_int Try.underlying3 w2) trodAll_mk0))), rfl, bel.frame _, fun h => by cases h⟩

theorem over : Rows.planShapesRow.holds Try.pinned (OpenSpec.ofChange Rows.planShapesSpec) :=
  OpenClaim.holds_of_wide 6 Try.f6 rfl rfl rfl rfl rfl rfl rfl ⟨rfl, rfl, rfl, rfl, rfl⟩ rfl rfl rfl rfl rfl (by kernel_rfl) Try.func6 (by kernel_rfl)
    (of_decide_eq_true (by kernel_rfl)) (by unfold Func.isWrapper; first | (rw [if_pos (by decide +kernel)]; kernel_rfl) | (rw [if_neg (by decide +kernel)]; exact ⟨rfl, rfl⟩))
    (fun os started H enc _ => lifted os started H enc)

/-- The statement. -/
theorem proved : Rows.PlanShapesSaid := over
#print axioms proved
end Go.Proofs.Ytpdmpekkmblgmaa.planShapes
