/-
  Package topo: a scope that is left by a goto ahead; Wait.
-/
import Derived.Test.YthpdaiaakpimkaaM6
namespace Go.Proofs.Ythpdaiaakpimkaa
open Go.ChangeShapes Go.WideShapes Go.ChangeAt Go.RowKit Go.Maps Go.Shelf
set_option linter.unusedVariables false
set_option linter.unusedSimpArgs false
attribute [local go_sem] Oper.semAt_some

/-- A scope, jumped through once: what holds at the jump (J), and what stands behind the label. -/
theorem wide_jump {n : Nat} {P : Program} {c : Code} (rest : Code) (l : Nat) (J : Act → World → Prop) {Q : Exit → Act → World → Prop} {a : Act} {w : World} (hf : findLabel c l = some rest)
    (first : c.wpIn Fence.wide n P (Exit.jump l J Q) a w) (pass : ∀ a w, J a w → rest.wpIn Fence.wide n P (Exit.noGoto Q) a w) : (Code.scope c).wpIn Fence.wide n P Q a w :=
  wpIn_wide.2 (wp_scope_jumps l J (fun _ _ => 0) hf (wpIn_wide.1 first) (fun a w h => (wpIn_wide (n := n)).1 (wpIn_mono (pass a w h) (by
    intro e a' w' h'
    cases e <;> first | exact h' | exact h'.elim))))
theorem jump_goto {l : Nat} {J : Act → World → Prop} {Q : Exit → Act → World → Prop} {a : Act} {w : World} : Exit.jump l J Q (.goto l) a w = J a w := by
  show (l = l ∧ J a w) = J a w
  simp
theorem md {y L : Nat} (h : y < 2 * L) : y % L = if y < L then y else y - L := by
  split
  · rename_i h1; exact Nat.mod_eq_of_lt h1
  · rename_i h1
    rw [Nat.mod_eq_sub_mod (by omega), Nat.mod_eq_of_lt (by omega)]
/-- Which of the turns is that of the neighbour at place x. -/
def ds (x L t : Nat) : Nat := (x + L - t) % L
theorem ds_lt {x L t : Nat} (ht : t < L) : ds x L t < L := Nat.mod_lt _ (by omega)
theorem ds_at {x L t : Nat} (hx : x < L) (ht : t < L) : (t + ds x L t) % L = x := by
  unfold ds
  rw [md (show x + L - t < 2 * L by omega)]
  split
  · rename_i h; rw [md (by omega)]; split <;> omega
  · rename_i h; rw [md (by omega)]; split <;> omega
theorem ds_ne {x L t j : Nat} (hx : x < L) (ht : t < L) (hj : j < L) (h : (t + j) % L = x) : j = ds x L t := by
  unfold ds
  rw [md (show x + L - t < 2 * L by omega)]
  rw [md (show t + j < 2 * L by omega)] at h
  split at h <;> split <;> omega
/-- None stands twice. -/
def Nd (l : List Int) : Prop := ∀ i, i < l.length → ix (l.getD i 0) l = i
theorem Nd.turn {l : List Int} (h : Nd l) {v : Int} (hv : ix v l < l.length) {t j : Nat} (ht : t < l.length) (hj : j < l.length) : l.getD ((t + j) % l.length) 0 = v ↔ j = ds (ix v l) l.length t := by
  constructor
  · intro e
    have h1 := h ((t + j) % l.length) (Nat.mod_lt _ (by omega))
    rw [e] at h1
    exact ds_ne hv ht hj h1.symm
  · rintro rfl
    rw [ds_at hv ht]
    exact ix_get hv
/-- How many Nexts it takes. -/
def wt (l : List Int) (t : Nat) (v : Int) : Int := if ix v l < l.length then (ds (ix v l) l.length t : Int) + 1 else 0
set_option maxRecDepth 100000 in
set_option maxHeartbeats 8000000 in
theorem wait_any (a : Option Addr) (len cap : Nat) (zs : List Int) (t : Nat) (v : Int) (w : World) (R : Row w a len cap zs) (hl : len ≤ 10000) (ht : t < len ∨ t = 0) (hn : Nd zs) : Calls Try.prog 20 #[.slice a len cap, .int .i64 (t : Int), .int .i64 v] w fun e w' => e = .returned (.int .i64 (wt zs t v)) ∧ Below w.heap.size w w' := by
  have HS : Hid (zs.length = len) := R.size
  have K1 : ∀ W, Below w.heap.size w W → Calls Try.prog 14 #[.slice a len cap, .int .i64 v] W fun e w' => e = .returned (.bool (hs v zs)) ∧ w' = W := fun W b => has_any a len cap zs v W (R.below b)
  by_cases h : ix v zs < zs.length
  · have htl : t < len := by rcases ht with h1 | h1 <;> have := HS.out <;> omega
    obtain ⟨d, hd⟩ : ∃ d, ds (ix v zs) zs.length t = d := ⟨_, rfl⟩
    rw [show wt zs t v = (d : Int) + 1 from by unfold wt; rw [if_pos h, hd]]
    have HD : Hid (∀ j, j < len → (zs.getD ((t + j) % zs.length) 0 = v ↔ j = d)) := by
      show ∀ j, j < len → _
      intro j hj
      rw [hn.turn h (by rw [HS.out]; exact htl) (by rw [HS.out]; exact hj), hd]
    have HDL : Hid (d < len) := by show d < len; rw [← hd, HS.out]; exact ds_lt htl
    have HL : Hid (len ≤ 10000) := hl
    rw [show hs v zs = true from by unfold hs; simpa using h] at K1
    have KN := fun W => turns_any a len cap (t : Int) W
    clear h hd hn ht hl
    refine (callsIn_wide (n := 2)).1 ?_
    refine callsIn_of_wp_marks Try.func20 rfl trivial ?_
    simp only [Try.ntmps20, List.size_toArray, List.length_cons, List.length_nil, Nat.reduceAdd, Nat.reduceSub, Array.replicate_succ, Array.replicate_zero, List.push_toArray, List.append_toArray, List.nil_append, List.cons_append]
    gi_wp2_with (fail)
    refine wide_jump _ 0 (fun a' W' => a' = { tmps := #[.slice a len cap, .int .i64 (t : Int), .int .i64 v, undef, undef, .pointer (some ⟨w.heap.size, 0, none⟩), .int .i64 0, .pointer (some ⟨w.heap.size + 1, 0, none⟩), undef, undef, .slice a len cap, .int .i64 v, .bool true, .bool false, .slice a len cap, .int .i64 (t : Int), .func (.func 34) #[] #[.pointer (some ⟨w.heap.size + 3, 0, none⟩), .pointer (some ⟨w.heap.size + 2, 0, none⟩)], undef, undef, undef, undef, undef, undef, undef], defers := [{ target := .collected (w.heap.size + 4), args := #[] }] } ∧ One W' (w.heap.size + 1) (.int .i64 ((d : Int) + 1)) ∧ Below w.heap.size w W' ∧ W'.heap[w.heap.size + 4]? = some (.deferred (some []))) rfl ?first ?pass
    case pass =>
      rintro a' W' ⟨rfl, O1, B1, hK⟩
      obtain ⟨o0, o1, oz⟩ := id O1
      gi_wp2
      refine ⟨by simp, .inl ⟨_, _, rfl, run_takeDeferred hK, ?_⟩⟩
      exact ⟨_, results_tmp rfl _ _ _, rfl, below_putObj B1 (by omega) _⟩
    case first =>
      gi_wp2_with (first
        | (refine ⟨trivial, ?_⟩; gi_at_call 14; refine (callsIn_wide.2 (K1 _ ((Below.refl _ _).alloc (Nat.le_refl _) _))).mono ?_; clear K1; rintro e w1 ⟨rfl, hw⟩; rw [hw]; clear hw w1)
        | (refine ⟨trivial, ?_⟩; gi_at_call 33; refine (callsIn_wide.2 (KN _)).mono ?_; clear KN; rintro e w4 ⟨rfl, hw4⟩))
      rw [← hw4]
      have Z4 : w4.heap.size = w.heap.size + 4 := by rw [hw4]; simp
      have OV : One w4 w.heap.size (.int .i64 v) := by rw [hw4]; exact (((One.new _ _ _).alloc _).alloc _).alloc _
      have OW : One w4 (w.heap.size + 1) (.int .i64 0) := by rw [hw4]; exact (((One.new _ _ _).at (by simp)).alloc _).alloc _
      have OL : One w4 (w.heap.size + 2) (.slice a len cap) := by rw [hw4]; exact ((One.new _ _ _).at (by simp)).alloc _
      have OT : One w4 (w.heap.size + 3) (.int .i64 (t : Int)) := by rw [hw4]; exact (One.new _ _ _).at (by simp)
      have B4 : Below w.heap.size w w4 := by rw [hw4]; exact ((((Below.refl _ w).alloc (Nat.le_refl _) _).alloc (by simp) _).alloc (by simp; omega) _).alloc (by simp; omega) _
      clear hw4
      refine range_turns (gf := 34) (lb := #[.pointer (some ⟨w.heap.size + 3, 0, none⟩), .pointer (some ⟨w.heap.size + 2, 0, none⟩)]) (by first | rfl | simp) (enters_of Try.func34 (by kernel_rfl) rfl)
        (turns_gives w (w.heap.size + 3) (w.heap.size + 2) a len cap zs t (d + 1) w4 R htl (by omega) (by have := HDL.out; have := HL.out; omega) OT) (Below.refl _ _) (fun _ => rfl)
        (fun k C W => k < d + 1 ∧ One W w.heap.size (.int .i64 v) ∧ One W (w.heap.size + 1) (.int .i64 0) ∧ KeepI w (w.heap.size + 2) (.slice a len cap) W)
        (fun c C W => c = .goto 0 ∧ One W (w.heap.size + 1) (.int .i64 ((d : Int) + 1)) ∧ Below w.heap.size w W)
        (fun k C A h => h.2.2.2)
        (fun k C A B h s => ⟨h.1, h.2.1.same s (by omega), h.2.2.1.same s (by omega), h.2.2.2.ptr.same s (by omega), Below.same h.2.2.2.below s (by omega) (Nat.le_refl _)⟩)
        (fun c C A B h s => ⟨h.1, h.2.1.same s (by omega), Below.same h.2.2 s (by omega) (Nat.le_refl _)⟩)
        ⟨by omega, OV, OW, OL, B4⟩ (.inr (fun C A h => by have := h.1; rw [trl_len] at this; omega))
        (fun x a' W => a' = { tmps := #[.slice a len cap, .int .i64 (t : Int), .int .i64 v, undef, undef, .pointer (some ⟨w.heap.size, 0, none⟩), .int .i64 0, .pointer (some ⟨w.heap.size + 1, 0, none⟩), .int .i64 x.1, .int .i64 x.2, .slice a len cap, .int .i64 v, .bool true, .bool false, .slice a len cap, .int .i64 (t : Int), .func (.func 34) #[] #[.pointer (some ⟨w.heap.size + 3, 0, none⟩), .pointer (some ⟨w.heap.size + 2, 0, none⟩)], .int .i64 x.1, .int .i64 x.2, undef, undef, undef, undef, undef], defers := [] })
        (fun x a' A o h => h)
        ?assign ?body ?done ?stop
      case assign =>
        rintro k ⟨x1, x2⟩ W C K hi hs' hK
        dsimp only [encP]
        gi_wp2
        exact hK _ _ rfl (Below.refl _ _)
      case body =>
        rintro k x C a' W ⟨hk, O1, O2, K2⟩ rfl hx hs' hC
        have hk' : k < d + 1 := hk
        rw [trl_at hk'] at hx
        have hxe : x = ((k : Int) + 1, zs.getD ((t + k) % zs.length) 0) := (Option.some.inj hx).symm
        have hdk := HD.out k (by have := HDL.out; omega)
        obtain ⟨u, hu⟩ : ∃ u, zs.getD ((t + k) % zs.length) 0 = u := ⟨_, rfl⟩
        rw [hu] at hxe hdk
        subst hxe
        obtain ⟨o0, o1, oz⟩ := id O1
        obtain ⟨p0, p1, pz⟩ := id O2
        have HK : Hid (k < d + 1) := hk
        have HC : Hid (∀ b, C b → w4.heap.size ≤ b ∧ b < W.heap.size) := fun b hb => ⟨by have := (hC b hb).1; omega, (hC b hb).2⟩
        clear hx hu hk hk' hC
        by_cases huv : u = v
        · have hkd : k = d := hdk.1 huv
          have huv' : (u == v) = true := by simpa using huv
          have HKD : Hid (k = d) := hkd
          clear hdk hkd huv
          gi_wp2
          refine wpIn_goto ?_
          try gi_wp2
          refine ⟨C, ⟨rfl, ?_, K2.below.setCell (p := ⟨w.heap.size + 1, 0, none⟩) (by show w.heap.size ≤ w.heap.size + 1; omega) _⟩, Turn.setOld (n := w4.heap.size) HC.out (by omega) _ _⟩
          rw [← HKD.out]
          exact O2.set _
        · have hkd : k ≠ d := fun e => huv (hdk.2 e)
          have huv' : (u == v) = false := by simpa using huv
          have HKD : Hid (k ≠ d) := hkd
          clear hdk hkd huv
          gi_wp2
          exact ⟨C, ⟨by have := HK.out; have := HKD.out; omega, O1, O2, K2⟩, Turn.of_below (Below.refl _ _) HC.out⟩
      case done =>
        rintro C W ⟨hk, _⟩
        rw [trl_len] at hk
        omega
      case stop =>
        rintro c C W ⟨rfl, O1, B1⟩ hK hC
        refine wpIn_goto ?_
        try gi_wp2
        rw [jump_goto]
        exact ⟨by rw [Z4], O1, B1, by rw [← Z4]; exact hK⟩
  · rw [show wt zs t v = 0 from by unfold wt; rw [if_neg h]]
    rw [show hs v zs = false from by unfold hs; simpa using h] at K1
    clear h hn ht hl R HS
    refine (callsIn_wide (n := 2)).1 ?_
    refine callsIn_of_wp_marks Try.func20 rfl trivial ?_
    simp only [Try.ntmps20, List.size_toArray, List.length_cons, List.length_nil, Nat.reduceAdd, Nat.reduceSub, Array.replicate_succ, Array.replicate_zero, List.push_toArray, List.append_toArray, List.nil_append, List.cons_append]
    gi_wp2_with (fail)
    refine wide_scope ?_
    gi_wp2_with (refine ⟨trivial, ?_⟩; gi_at_call 14; refine (callsIn_wide.2 (K1 _ ((Below.refl _ _).alloc (Nat.le_refl _) _))).mono ?_; clear K1; rintro e w1 ⟨rfl, hw⟩; rw [hw]; clear hw w1)
    rw [Exit.noGoto_ret]
    exact ⟨_, results_tmp rfl _ _ _, rfl, (Below.refl _ w).alloc (Nat.le_refl _) _⟩
end Go.Proofs.Ythpdaiaakpimkaa
