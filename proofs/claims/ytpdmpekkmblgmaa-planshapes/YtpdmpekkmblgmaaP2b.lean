/-
  Package plan: how many pairs a node is in.
-/
import Derived.Test.YtpdmpekkmblgmaaP2
namespace Go.Proofs.Ytpdmpekkmblgmaa
open Go.ChangeShapes Go.WideShapes Go.ChangeAt Go.RowKit Go.Maps Go.Shelf
set_option linter.unusedVariables false
set_option linter.unusedSimpArgs false
attribute [local go_sem] Oper.semAt_some

/-- How many pairs a node is in. -/
def dg (l : List LK) (v : Int) : Nat := (nbs l v).length
theorem dg_le (l : List LK) (v : Int) : dg l v ≤ l.length := List.length_filterMap_le _ _
set_option maxRecDepth 100000 in
set_option maxHeartbeats 1000000 in
theorem degree_any (a : Option Addr) (n cap : Nat) (l : List LK) (v : Int) (w : World) (hr : RdL w a n cap l) (h2 : Apart l) : Calls Try.prog 16 #[.slice a n cap, .int .i64 v] w fun e w' => e = .returned (.int .i64 (dg l v : Nat)) ∧ Below w.heap.size w w' := by
  have KN := fun W => neighbours_any a n cap v W
  have HN : Hid (n ≤ 140737488355328) := hr.small
  have HL : Hid (l.length = n) := hr.size
  refine (callsIn_wide (n := 2)).1 ?_
  refine callsIn_of_wp_marks Try.func16 rfl trivial ?_
  simp only [Try.ntmps16, List.size_toArray, List.length_cons, List.length_nil, Nat.reduceAdd, Nat.reduceSub, Array.replicate_succ, Array.replicate_zero, List.push_toArray, List.append_toArray, List.nil_append, List.cons_append]
  gi_wp2_with (refine ⟨trivial, ?_⟩; gi_at_call 37; refine (callsIn_wide.2 (KN _)).mono ?_; clear KN; rintro e w4 ⟨rfl, hw4⟩)
  rw [← hw4]
  have Z4 : w4.heap.size = w.heap.size + 3 := by rw [hw4]; simp
  have OD : One w4 w.heap.size (.int .i64 0) := by rw [hw4]; exact ((One.new _ _ _).alloc _).alloc _
  have OL : One w4 (w.heap.size + 1) (.slice a n cap) := by rw [hw4]; exact ((One.new _ _ _).at (by simp)).alloc _
  have OV : One w4 (w.heap.size + 2) (.int .i64 v) := by rw [hw4]; exact (One.new _ _ _).at (by simp)
  have B4 : Below w.heap.size w w4 := by rw [hw4]; exact (((Below.refl _ w).alloc (Nat.le_refl _) _).alloc (by simp) _).alloc (by simp; omega) _
  clear hw4
  refine range_turns (gf := 58) (lb := #[.pointer (some ⟨w.heap.size + 1, 0, none⟩), .pointer (some ⟨w.heap.size + 2, 0, none⟩)]) (by first | rfl | simp) (enters_of Try.func58 (by kernel_rfl) rfl)
    (neighbours_gives w (w.heap.size + 1) (w.heap.size + 2) a n cap l v w4 hr h2) (Below.refl _ _) (fun _ => rfl)
    (fun k C W => k ≤ (nbs l v).length ∧ One W w.heap.size (.int .i64 (k : Int)) ∧ KeepN w (w.heap.size + 1) (w.heap.size + 2) (.slice a n cap) (.int .i64 v) W)
    (fun c C W => False)
    (fun k C A h => h.2.2)
    (fun k C A B h s => ⟨h.1, h.2.1.same s (by omega), h.2.2.ptr.same s (by omega), h.2.2.num.same s (by omega), Below.same h.2.2.below s (by omega) (Nat.le_refl _)⟩)
    (fun c C A B h s => h)
    ⟨Nat.zero_le _, OD, OL, OV, B4⟩
    (fun x a' W => a' = { tmps := #[.slice a n cap, .int .i64 v, undef, undef, .int .i64 0, .pointer (some ⟨w.heap.size, 0, none⟩), .slice a n cap, .int .i64 v, .func (.func 58) #[] #[.pointer (some ⟨w.heap.size + 1, 0, none⟩), .pointer (some ⟨w.heap.size + 2, 0, none⟩)], .int .i64 x, undef, undef, undef], defers := [] })
    (fun x a' A o h => h)
    ?assign ?body ?done ?stop
  case assign =>
    rintro k x W C K hi hs' hK
    dsimp only [encI]
    gi_wp2
    exact hK _ _ (by first | rfl | simp) (Below.refl _ _)
  case body =>
    rintro k x C a' W ⟨hk, O1, K2⟩ rfl hx hs' hC
    obtain ⟨o0, o1, oz⟩ := id O1
    have hk1 : k < (nbs l v).length := (List.getElem?_eq_some_iff.1 hx).1
    have hle := dg_le l v
    have hin : IntKind.i64.wrap ((k : Int) + 1) = (k : Int) + 1 := by rw [IntKind.wrap_i64]; unfold dg at hle; have := HN.out; have := HL.out; omega
    have HK : Hid (k < (nbs l v).length) := hk1
    clear hx hk hk1 hle
    gi_wp2
    refine ⟨C, ⟨HK.out, O1.set _, ?_, ?_, ?_⟩, Turn.setOld (fun b hb => ⟨by have := (hC b hb).1; omega, (hC b hb).2⟩) (by omega) _ _⟩
    · exact K2.ptr.of_block (Below.heap_setCell _ _ _ _ (by show w.heap.size + 1 ≠ w.heap.size; omega)) (by simp [World.setCell])
    · exact K2.num.of_block (Below.heap_setCell _ _ _ _ (by show w.heap.size + 2 ≠ w.heap.size; omega)) (by simp [World.setCell])
    · exact K2.below.setCell (p := ⟨w.heap.size, 0, none⟩) (Nat.le_refl _) _
  case done =>
    rintro C W ⟨hk, O1, K2⟩ hK hC
    obtain ⟨o0, o1, oz⟩ := id O1
    gi_wp2
    refine ⟨by simp, .inl ⟨_, _, rfl, run_takeDeferred hK, ?_⟩⟩
    exact ⟨_, results_tmp rfl _ _ _, rfl, below_putObj K2.below (by omega) _⟩
  case stop =>
    rintro c C W h
    exact h.elim
end Go.Proofs.Ytpdmpekkmblgmaa
