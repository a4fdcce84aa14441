/-
  slices.SortFunc at no element; slices.SortedFunc over the keys of the map of severed pairs.
-/
import Derived.Test.YtoppecppmjpgiaaBiE
namespace Go.Proofs.Ytoppecppmjpgiaa
open Go.ChangeShapes Go.WideShapes Go.ChangeAt Go.RowKit Go.Maps Go.Shelf Go.Sort
set_option linter.unusedVariables false
set_option linter.unusedSimpArgs false

theorem ins_none (fv : Value) (w : World) : Calls Try.prog 63 #[.slice none 0 0, .int .i64 0, .int .i64 0, fv] w fun e w' => e = .returned (.tuple #[]) ∧ w' = w := by
  go_enter Try.func63, Try.ntmps63
  go_wp2
  refine wp_loop_rounds 1 ?_
  rw [rounds_succ]
  go_wp2
  go_end0
  exact ⟨rfl, rfl⟩
theorem pdq_none (lim : Int) (fv : Value) (w : World) : Calls Try.prog 59 #[.slice none 0 0, .int .i64 0, .int .i64 0, .int .i64 lim, fv] w fun e w' => e = .returned (.tuple #[]) ∧ w' = w := by
  go_enter Try.func59, Try.ntmps59
  go_wp2
  refine wp_loop_rounds 1 ?_
  rw [rounds_succ]
  go_wp2_with (go_at_call 63; refine (ins_none fv _).mono ?_; rintro e w' ⟨rfl, rfl⟩)
  (try simp only [Exit.inBlock, Exit.then])
  refine bodyPost_ret (results_none rfl _ _ _) rfl ?_
  exact ⟨rfl, rfl⟩
theorem len_zero (w : World) : Calls Try.prog 60 #[.int .u64 0] w fun e w' => (∃ l : Int, e = .returned (.int .i64 l)) ∧ w' = w := by
  have h := Any.bits_Len (SlLaysF0.n15.bits (P := Try.prog) (ρ := Try.sortLnk_ren) { Try.sortLnk with }) 0 w (by omega) (by omega)
  have h' : Calls Try.prog 60 #[.int .u64 0] w _ := h
  exact h'.mono fun _ _ ⟨he, hw⟩ => ⟨⟨_, he⟩, hw⟩
theorem sort_none (fv : Value) (w : World) : Calls Try.prog 51 #[.slice none 0 0, fv] w fun e w' => e = .returned (.tuple #[]) ∧ w' = w := by
  go_enter Try.func51, Try.ntmps51
  go_wp2_with (first
    | (go_at_call 60; refine (len_zero _).mono ?_; rintro e w' ⟨⟨lim, rfl⟩, rfl⟩)
    | (go_at_call 59; refine (pdq_none _ fv _).mono ?_; rintro e w' ⟨rfl, rfl⟩))
  go_end0
  exact ⟨rfl, rfl⟩
theorem sort_any (base : Nat) (v : Value) (ss : List (Int × Int)) (w : World) (hown : w.ownsRow base 65 2 v ss.length (pcs ss)) (hn : ss.Nodup) (hbase : base ≤ w.heap.size) (hsz : ss.length < 4611686018427387904) :
    Calls Try.prog 51 #[v, .func (.func 37) #[] #[]] w fun e w' => e = .returned (.tuple #[]) ∧ Below base w w' ∧ ∃ a m c ts, v = .slice a m c ∧ (∀ g off, a = some ⟨g, off, none⟩ → base ≤ g) ∧ ts.Perm ss ∧ Rise ts ∧ Lks w' a m c (ts.map toLK) := by
  rcases id hown.2 with ⟨rfl, h0⟩ | ⟨g, cap, cur, rfl, hg, _⟩
  · have e := List.eq_nil_of_length_eq_zero h0
    subst e
    refine (sort_none _ w).mono ?_
    rintro e w' ⟨rfl, rfl⟩
    exact ⟨rfl, Below.refl _ _, none, 0, 0, [], rfl, fun g off e => (by cases e), List.Perm.refl _, List.Pairwise.nil, ⟨rfl, Nat.le_refl _, by omega, .inl ⟨rfl, rfl⟩⟩⟩
  · refine (sort_some base g cap ss w hown hn hbase hsz).mono ?_
    rintro e w' ⟨rfl, hb, ts, hp, hr, hl⟩
    exact ⟨rfl, hb, _, _, _, ts, rfl, fun g' off e => (by cases e; exact hg), hp, hr, hl⟩
theorem Keys.perm {D : DataW Unit} {ss ts : List (Int × Int)} (h : Keys D ss) (p : ts.Perm ss) : Keys D ts := ⟨p.nodup_iff.2 h.1, fun x => by rw [p.mem_iff, h.2 x]⟩
theorem Keys.one {D : DataW Unit} {ss ts : List (Int × Int)} (h : Keys D ss) (k : Keys D ts) : ss.Perm ts := (List.perm_ext_iff_of_nodup h.1 k.1).2 fun x => by rw [h.2 x, k.2 x]
set_option maxHeartbeats 1000000 in
theorem sorted_any (Bm M kk : Nat) (D : DataW Unit) (w : World) (hown : w.ownsMap Try.prog 65 (unitElem (H := Unit)) M kk D) (hB : One w Bm (.map (some M))) (hsz : Maps.size D * 16 ≤ 140737488355328) :
    Calls Try.prog 35 #[.func (.func 52) #[] #[.pointer (some ⟨Bm, 0, none⟩)], .func (.func 37) #[] #[]] w fun e w' => ∃ a m c, e = .returned (.slice a m c) ∧ Below w.heap.size w w' ∧ (∀ g off, a = some ⟨g, off, none⟩ → w.heap.size ≤ g) ∧ ∃ ts, Keys D ts ∧ Rise ts ∧ Lks w' a m c (ts.map toLK) := by
  have K := collect_any Bm M kk D w hown hB hsz
  go_enter Try.func35, Try.ntmps35
  go_wp2_with (first
    | (go_at_call 50; refine K.mono ?_; clear K; rintro e w1 ⟨v, rfl, b1, ss, ⟨hk, hl⟩, r1⟩)
    | (go_at_call 51; refine (sort_any w.heap.size v ss w1 r1 hk.1 b1.size (by omega)).mono ?_; rintro e w2 ⟨rfl, b2, hR⟩))
  go_ret
  obtain ⟨a, m, c, ts, rfl, hf, hp, hr, hl2⟩ := hR
  exact ⟨a, m, c, rfl, b1.trans b2, hf, ts, hk.perm hp, hr, hl2⟩
end Go.Proofs.Ytoppecppmjpgiaa
