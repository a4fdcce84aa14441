/-
  Package plan: the search ring by ring.
-/
import Derived.Test.YtpdmpekkmblgmaaP4b
import Derived.Test.YtpdmpekkmblgmaaP2
namespace Go.Proofs.Ytpdmpekkmblgmaa
open Go.ChangeShapes Go.WideShapes Go.ChangeAt Go.RowKit Go.Maps Go.Shelf
set_option linter.unusedVariables false
set_option linter.unusedSimpArgs false
attribute [local go_sem] Oper.semAt_some

theorem wide_scope {n : Nat} {P : Program} {c : Code} {Q : Exit → Act → World → Prop} {a : Act} {w : World} (h : c.wpIn Fence.wide n P (Exit.noGoto Q) a w) : (Code.scope c).wpIn Fence.wide n P Q a w :=
  wpIn_wide.2 (wp_scope_straight (wpIn_wide.1 h))
/-- Where the search stands ahead of a ring. -/
def ahead (l : List LK) (F0 : List Int) (n r gk : Nat) (fu : Bool) : Prop := if fu = true then r + neg (lev l F0 r) + 1 ≤ n ∧ gk = neg (lev l F0 r) + 1 else gk = 0 ∧ ∃ R, r = R + 1 ∧ R + 1 ≤ n ∧ lev l F0 (R + 1) = lev l F0 R
theorem ahead_end {l : List LK} {F0 : List Int} {n r gk : Nat} (hF : ∀ v, F0.getD v 0 ≤ 0) (h : ahead l F0 n r gk false) : lev l F0 r = lev l F0 n := by
  unfold ahead at h
  rw [if_neg (by decide)] at h
  obtain ⟨_, R, rfl, hn, hR⟩ := h
  rw [hR, show n = R + (n - R) by omega, lev_stays hF hR]
theorem ahead_next {l : List LK} {F0 : List Int} {n r gk : Nat} (h : ahead l F0 n r gk true) : ∃ gk', gk' < gk ∧ ahead l F0 n (r + 1) gk' (fur l (r : Int) (lev l F0 r) (lev l F0 r).length) := by
  unfold ahead at h
  rw [if_pos rfl] at h
  cases hf : fur l (r : Int) (lev l F0 r) (lev l F0 r).length with
  | true =>
    have := neg_sweep (l := l) (r := (r : Int)) (by omega) hf
    refine ⟨neg (lev l F0 (r + 1)) + 1, ?_, ?_⟩
    · rw [lev]; omega
    · unfold ahead
      rw [if_pos rfl, lev]
      omega
  | false =>
    refine ⟨0, by omega, ?_⟩
    unfold ahead
    rw [if_neg (by decide)]
    exact ⟨rfl, r, rfl, by omega, by rw [lev]; exact sweep_still hf⟩
theorem ahead_le {l : List LK} {F0 : List Int} {n r gk : Nat} (h : ahead l F0 n r gk true) : r + 1 ≤ n := by
  unfold ahead at h
  rw [if_pos rfl] at h
  omega
theorem RS.fresh {w0 : World} {N M g n : Nat} {F : List Int} {r0 : Int} {k3 k4 k5 : Nat} {fu0 : Bool} {ds : List Deferred} {W : World} (h : RS w0 N M g n F r0 k3 k4 k5 fu0 ds W) (r : Int) (fu : Bool) : RS w0 N (W.heap.size + 2) g n F r k3 W.heap.size (W.heap.size + 1) fu ds ((W.alloc (.cells #[.int .i64 r] 3)).alloc (.cells #[.bool fu] 4)) := by
  have h1 := (h.alloc (.cells #[.int .i64 r] 3)).alloc (.cells #[.bool fu] 4)
  have hg := h.ge
  refine ⟨h1.below, h1.far, h1.c3, (One.new _ _ _).alloc _, (One.new _ _ _).at (by simp), h1.mrk.wide (by omega), ?_⟩
  simp only [World.size_alloc]
  omega
set_option maxRecDepth 100000 in
set_option maxHeartbeats 2000000 in
theorem reach_any (w0 : World) (a : Option Addr) (k cap : Nat) (l : List LK) (g n : Nat) (F0 : List Int) (w : World) (hr : RdL w0 a k cap l) (hb : Below w0.heap.size w0 w) (hg : w0.heap.size ≤ g) (H : w.heap[g]? = some (.cells (F0.map iv).toArray 3 (0, 0))) (hn : F0.length = n) (hn2 : n ≤ 16) (h2 : Apart l) (hin : ∀ v u, u ∈ nbs l v → 0 ≤ u ∧ u < (n : Int)) (hF : ∀ v, F0.getD v 0 ≤ 0) (hneg : neg F0 + 1 ≤ n) :
    Calls Try.prog 39 #[.slice a k cap, .slice (some ⟨g, 0, none⟩) n n] w fun e w' => e = .returned (.tuple #[]) ∧ w'.heap[g]? = some (.cells ((lev l F0 n).map iv).toArray 3 (0, 0)) ∧ Below w0.heap.size w0 w' := by
  have HN : Hid (n ≤ 16) := hn2
  have KN := fun v W => neighbours_any a k cap v W
  have KR := fun x W => reached_any x W
  refine (callsIn_wide (n := 2)).1 ?_
  refine callsIn_of_wp_marks Try.func39 rfl trivial ?_
  simp only [Try.ntmps39, List.size_toArray, List.length_cons, List.length_nil, Nat.reduceAdd, Nat.reduceSub, Array.replicate_succ, Array.replicate_zero, List.push_toArray, List.append_toArray, List.nil_append, List.cons_append]
  gi_wp2
  obtain ⟨w4, hw4⟩ : ∃ X, ((w.alloc (.cells #[.slice (some ⟨g, 0, none⟩) n n] 36)).alloc (.cells #[.int .i64 0] 3)).alloc (.cells #[.bool true] 4) = X := ⟨_, rfl⟩
  rw [hw4]
  have R4 : RS w0 w.heap.size (w.heap.size + 3) g n (lev l F0 0) ((0 : Nat) : Int) w.heap.size (w.heap.size + 1) (w.heap.size + 2) true [] w4 := by
    have hg2 := row_lt H
    refine ⟨?_, ?_, ?_, ?_, ?_, Mk.nil _ _ _, ?_⟩
    · rw [← hw4]; exact (((hb.alloc hb.size _).alloc (by have := hb.size; simp; omega) _).alloc (by have := hb.size; simp; omega) _)
    · rw [← hw4]; exact ((Below.heap_alloc _ _ _ (by simp; omega)).trans ((Below.heap_alloc _ _ _ (by simp; omega)).trans (Below.heap_alloc _ _ _ hg2))).trans H
    · rw [← hw4]; exact ((One.new _ _ _).alloc _).alloc _
    · rw [← hw4]; exact ((One.new _ _ _).at (by simp)).alloc _
    · rw [← hw4]; exact (One.new _ _ _).at (by simp)
    · have := hb.size; rw [← hw4]; simp; omega
  clear hw4 H
  refine wpIn_loop_ghost_k (fun gk A W => ∃ u4 u5 u6 u7 u8 u9 u10 u11 u12 u13 u14 u15 u16 u17 u18 u19 u20 u21 u22 u23 u24 u25 u26 u27 u28 u29 u30 u31 u32 u33 u34 u35 u36 u37 u38 : Value, ∃ ds : List Deferred, (∃ (r k4 k5 M : Nat) (fu : Bool), u4 = .pointer (some ⟨k4, 0, none⟩) ∧ u5 = .pointer (some ⟨k5, 0, none⟩) ∧ RS w0 w.heap.size M g n (lev l F0 r) (r : Int) w.heap.size k4 k5 fu ds W ∧ Hid (ahead l F0 n r gk fu)) ∧ A = { tmps := #[.slice a k cap, .slice (some ⟨g, 0, none⟩) n n, undef, .pointer (some ⟨w.heap.size, 0, none⟩), u4, u5, u6, u7, u8, u9, u10, u11, u12, u13, u14, u15, u16, u17, u18, u19, u20, u21, u22, u23, u24, u25, u26, u27, u28, u29, u30, u31, u32, u33, u34, u35, u36, u37, u38], defers := ds }) (neg F0 + 1) ?_ ?_
  · (repeat apply Exists.intro)
    refine ⟨⟨0, _, _, _, true, rfl, rfl, R4, ?_⟩, rfl⟩
    show ahead l F0 n 0 _ true
    unfold ahead
    rw [if_pos rfl]
    exact ⟨by show 0 + neg F0 + 1 ≤ n; omega, rfl⟩
  · rintro gk A wr ⟨u4, u5, u6, u7, u8, u9, u10, u11, u12, u13, u14, u15, u16, u17, u18, u19, u20, u21, u22, u23, u24, u25, u26, u27, u28, u29, u30, u31, u32, u33, u34, u35, u36, u37, u38, ds, ⟨r, k4, k5, M, fu, rfl, rfl, R, ha⟩, rfl⟩ J K hJ hK
    clear R4
    obtain ⟨o5, o5f, o5z⟩ := id R.c5
    cases fu with
    | false =>
      have HE : Hid (lev l F0 r = lev l F0 n) := ahead_end hF ha.out
      gi_wp2
      refine marks_leave rfl ds wr R.mrk (fun W' hB hk a1 a2 a3 a4 => ⟨rfl, ?_, ?_⟩)
      · rw [hk g (.inl R.ge.2.1), R.far, HE.out]
      · exact ⟨a1.trans R.below.os, a2.trans R.below.tape, a3.trans R.below.output, by rw [a4]; exact R.below.size, fun b hb' => (hk b (.inl (by have := R.ge; omega))).trans (R.below.block b hb')⟩
    | true =>
      have R5 := R.set5 false
      obtain ⟨c3, c3f, c3z⟩ := id R5.c3
      gi_wp2
      refine wide_scope ?_
      gi_wp2
      try (refine wpIn_label ?_)
      try gi_wp2
      obtain ⟨w5, hw5⟩ : ∃ X, wr.setCell ⟨k5, 0, none⟩ (.bool false) = X := ⟨_, rfl⟩
      rw [hw5] at R5 ⊢
      obtain ⟨F, hFe⟩ : ∃ F, lev l F0 r = F := ⟨_, rfl⟩
      have HF : Hid (F.length = n) := by show _ = _; rw [← hFe, lev_len, hn]
      rw [hFe] at R5
      have HA : Hid (ahead l F0 n r gk true) := ha.out
      have HLE : Hid (lev l F0 r = F) := hFe
      clear hw5 R o5 o5f o5z c3 c3f c3z hFe ha hneg
      refine wpIn_loop_ghost_k (fun g2 A W => ∃ u6 u7 u13 u14 u15 u16 u17 u18 u19 u20 u21 u22 u23 u24 u25 u26 u27 u28 u29 u30 u31 u32 u33 u34 u35 u36 : Value, ∃ ds : List Deferred, (∃ (v M : Nat), u13 = .int .i64 (v : Int) ∧ v + g2 = n ∧ RS w0 w.heap.size M g n (mix l (r : Int) F v) (r : Int) w.heap.size k4 k5 (fur l (r : Int) F v) ds W) ∧ A = { tmps := #[.slice a k cap, .slice (some ⟨g, 0, none⟩) n n, undef, .pointer (some ⟨w.heap.size, 0, none⟩), .pointer (some ⟨k4, 0, none⟩), .pointer (some ⟨k5, 0, none⟩), u6, u7, .bool true, u9, u10, .slice (some ⟨g, 0, none⟩) n n, .int .i64 (n : Int), u13, u14, u15, u16, u17, u18, u19, u20, u21, u22, u23, u24, u25, u26, u27, u28, u29, u30, u31, u32, u33, u34, u35, u36, u37, u38], defers := ds }) n ?_ ?_
      · (repeat apply Exists.intro)
        refine ⟨⟨0, M, rfl, by omega, ?_⟩, rfl⟩
        rw [mix_zero]
        exact R5
      · clear R5
        rintro g2 A wr ⟨u6, u7, u13, u14, u15, u16, u17, u18, u19, u20, u21, u22, u23, u24, u25, u26, u27, u28, u29, u30, u31, u32, u33, u34, u35, u36, ds, ⟨v, M, rfl, hg2, R⟩, rfl⟩ J2 K2 hJ2 hK2
        by_cases hv : v < n
        case neg =>
          have hvn : v = F.length := by rw [HF.out]; omega
          have hvI : ¬ (v : Int) < (n : Int) := by omega
          rw [hvn, mix_all] at R
          obtain ⟨gk', hgk, hA'⟩ := ahead_next HA.out
          rw [HLE.out] at hA'
          obtain ⟨fu2, hfu2⟩ : ∃ b, fur l (r : Int) F F.length = b := ⟨_, rfl⟩
          rw [hfu2] at R hA'
          have HR2 : Hid (lev l F0 (r + 1) = sweep l (r : Int) F) := by show _ = _; rw [lev, HLE.out]
          have HA2 : Hid (ahead l F0 n (r + 1) gk' fu2) := hA'
          have hrn := ahead_le HA.out
          have hwr : IntKind.i64.wrap ((r : Int) + 1) = (r : Int) + 1 := by rw [IntKind.wrap_i64]; have := HN.out; omega
          have RF := R.fresh ((r : Int) + 1) fu2
          obtain ⟨q4, q4f, q4z⟩ := id R.c4
          obtain ⟨q5, q5f, q5z⟩ := id R.c5
          clear hA' hvn hfu2 R hJ2 hK2
          gi_wp2
          gi_roundg gk'
          case measure => exact hgk
          case rel => exact ⟨r + 1, _, _, _, fu2, rfl, rfl, by rw [HR2.out]; exact RF, HA2⟩
        case pos =>
          have hvI : (v : Int) < (n : Int) := by omega
          have hvF : v < F.length := by rw [HF.out]; exact hv
          have HV : Hid (v < F.length) := hvF
          have hml : (mix l (r : Int) F v).length = F.length := mix_len (by omega)
          have hinv : IntKind.i64.wrap ((v : Int) + 1) = (v : Int) + 1 := by rw [IntKind.wrap_i64]; have := HN.out; omega
          have RA := R.alloc (.cells #[.int .i64 (v : Int)] 3)
          have hMw : M ≤ wr.heap.size := by have := R.ge; omega
          obtain ⟨f7, f7f⟩ := RA.at (v := v) (by rw [hml]; exact hvF)
          rw [mix_ge (by omega) (Nat.le_refl _)] at f7
          obtain ⟨x, hx⟩ : ∃ x, F.getD v 0 = x := ⟨_, rfl⟩
          rw [hx] at f7
          obtain ⟨c3, c3f, c3z⟩ := id RA.c3
          have KX := KR x
          clear R hml
          by_cases h0 : 0 ≤ x
          case pos =>
            have hrc : rch x = true := by simp [rch, h0]
            rw [hrc] at KX
            have HS : Hid (stp l (r : Int) F v = F.getD v 0) := by show _ = _; unfold stp; rw [if_pos (by rw [hx]; exact h0)]
            have HU : Hid (fur l (r : Int) F (v + 1) = fur l (r : Int) F v) := by show _ = _; rw [fur_succ, hx, show decide (x < 0) = false from by simp; omega]; simp
            clear hx h0 hrc
            gi_wp2_with (refine ⟨trivial, ?_⟩; gi_at_call 41; refine (callsIn_wide.2 (KX _)).mono ?_; rintro e wx ⟨rfl, hwx⟩; rw [hwx]; clear hwx wx)
            gi_roundg (g2 - 1)
            case measure => omega
            case rel => exact ⟨v + 1, M, by first | rfl | go_num, by omega, by rw [mix_stay HV.out HS.out, HU.out]; exact RA⟩
          case neg =>
            have hrc : rch x = false := by simp [rch]; omega
            rw [hrc] at KX
            have HX : Hid (F.getD v 0 = x ∧ x < 0) := ⟨hx, by omega⟩
            have KV := fun W => KN (v : Int) W
            clear hx h0 hrc
            gi_wp2_with (first
              | (refine ⟨trivial, ?_⟩; gi_at_call 41; refine (callsIn_wide.2 (KX _)).mono ?_; rintro e wx ⟨rfl, hwx⟩; rw [hwx]; clear hwx wx)
              | (refine ⟨trivial, ?_⟩; gi_at_call 37; refine (callsIn_wide.2 (KV _)).mono ?_; rintro e wx ⟨rfl, hwx⟩; rw [hwx]; clear hwx wx))
            obtain ⟨w6, hw6⟩ : ∃ X, wr.alloc (.cells #[.int .i64 (v : Int)] 3) = X := ⟨_, rfl⟩
            have O6 : One w6 wr.heap.size (.int .i64 (v : Int)) := by rw [← hw6]; exact One.new _ _ _
            have Z6 : w6.heap.size = wr.heap.size + 1 := by rw [← hw6]; simp
            rw [hw6] at RA ⊢
            obtain ⟨w7, hw7⟩ : ∃ X, (w6.alloc (.cells #[.slice a k cap] 23)).alloc (.cells #[.int .i64 (v : Int)] 3) = X := ⟨_, rfl⟩
            have Z7 : w7.heap.size = w6.heap.size + 2 := by rw [← hw7]; simp
            have R7 : RS w0 w.heap.size M g n (mix l (r : Int) F v) (r : Int) w.heap.size k4 k5 (fur l (r : Int) F v) ds w7 := by rw [← hw7]; exact (RA.alloc _).alloc _
            have O7 : One w7 wr.heap.size (.int .i64 (v : Int)) := by rw [← hw7]; exact (O6.alloc _).alloc _
            have P7 : One w7 w6.heap.size (.slice a k cap) := by rw [← hw7]; exact (One.new _ _ _).alloc _
            have Q7 : One w7 (w6.heap.size + 1) (.int .i64 (v : Int)) := by rw [← hw7]; exact (One.new _ _ _).at (by simp)
            try rw [hw6]
            rw [hw7]
            clear hw6 hw7 f7 f7f c3 c3f c3z O6 RA KX KV
            rw [Z6] at P7 Q7
            have HM : Hid (M ≤ wr.heap.size) := by have := R7.ge; have := hMw; show M ≤ _; omega
            have N7 : KeepN w0 (wr.heap.size + 1) (wr.heap.size + 1 + 1) (.slice a k cap) (.int .i64 (v : Int)) w7 := ⟨P7, Q7, R7.below⟩
            refine range_turns (gf := 58) (lb := #[.pointer (some ⟨wr.heap.size + 1, 0, none⟩), .pointer (some ⟨wr.heap.size + 1 + 1, 0, none⟩)]) (by first | rfl | simp) (enters_of Try.func58 (by kernel_rfl) rfl)
              (neighbours_gives w0 (wr.heap.size + 1) (wr.heap.size + 1 + 1) a k cap l (v : Int) w7 hr h2) (Below.refl _ _) (fun _ => rfl)
              (fun kk C A => RS w0 w.heap.size M g n (mix l (r : Int) F v) (r : Int) w.heap.size k4 k5 (fur l (r : Int) F v) ds A ∧ One A wr.heap.size (.int .i64 (v : Int)) ∧ KeepN w0 (wr.heap.size + 1) (wr.heap.size + 1 + 1) (.slice a k cap) (.int .i64 (v : Int)) A ∧ Hid (∀ j, j < kk → F.getD ((nbs l (v : Int)).getD j 0).toNat 0 ≠ (r : Int)))
              (fun c C A => c = .exit 3 ∧ RS w0 w.heap.size M g n (mix l (r : Int) F (v + 1)) (r : Int) w.heap.size k4 k5 (fur l (r : Int) F (v + 1)) ds A)
              (fun kk C A h => h.2.2.1)
              (fun kk C A B h s => ⟨h.1.same s (by have := HM.out; omega), h.2.1.same s (by omega), ⟨h.2.2.1.ptr.same s (by omega), h.2.2.1.num.same s (by omega), Below.same h.2.2.1.below s (by have := h.1.ge; have := HM.out; omega) (Nat.le_refl _)⟩, h.2.2.2⟩)
              (fun c C A B h s => ⟨h.1, h.2.same s (by have := HM.out; omega)⟩)
              ⟨R7, O7, N7, fun j hj => by omega⟩
              (fun y a' A => a' = { tmps := #[.slice a k cap, .slice (some ⟨g, 0, none⟩) n n, undef, .pointer (some ⟨w.heap.size, 0, none⟩), .pointer (some ⟨k4, 0, none⟩), .pointer (some ⟨k5, 0, none⟩), .pointer (some ⟨wr.heap.size, 0, none⟩), .int .i64 y, .bool true, u9, u10, .slice (some ⟨g, 0, none⟩) n n, .int .i64 (n : Int), .int .i64 (v : Int), .bool true, .int .i64 (v : Int), .slice (some ⟨g, 0, none⟩) n n, .int .i64 (v : Int), .pointer (some ⟨g, v, none⟩), .int .i64 x, .bool false, .slice a k cap, .int .i64 (v : Int), .func (.func 58) #[] #[.pointer (some ⟨wr.heap.size + 1, 0, none⟩), .pointer (some ⟨wr.heap.size + 1 + 1, 0, none⟩)], .int .i64 y, u25, u26, u27, u28, u29, u30, u31, u32, u33, u34, u35, u36, u37, u38], defers := [] })
              (fun y a' A o h => h)
              ?assign ?body ?done ?stop
            case assign =>
              rintro kk y A C K hi hs' hK
              dsimp only [encI]
              gi_wp2
              exact hK _ _ (by first | rfl | simp) (Below.refl _ _)
            case body =>
              rintro kk y C a' A ⟨R, O6, KN', hno⟩ rfl hy hs' hC
              have hym : y ∈ nbs l (v : Int) := List.mem_of_getElem? hy
              obtain ⟨hy0, hyn⟩ := hin _ _ hym
              obtain ⟨u, rfl⟩ : ∃ u : Nat, y = (u : Int) := ⟨y.toNat, by omega⟩
              have huF : u < F.length := by rw [HF.out]; omega
              have hml : (mix l (r : Int) F v).length = F.length := mix_len (by have := HV.out; omega)
              have hmr := mix_r (l := l) (F := F) (v := v) (by have := HV.out; omega) (show (0 : Int) ≤ (r : Int) by omega) u
              have RD := R.drew
              have BD : Below A.heap.size A A.drew := (Below.refl _ _).drew
              have OD := O6.below BD
              have ND : KeepN w0 (wr.heap.size + 1) (wr.heap.size + 1 + 1) (.slice a k cap) (.int .i64 (v : Int)) A.drew := ⟨KN'.ptr.below BD, KN'.num.below BD, KN'.below.drew⟩
              have TD := Turn.of_below (C := C) BD (fun b hb => ⟨by have := (hC b hb).1; show w7.heap.size ≤ b; omega, (hC b hb).2⟩)
              obtain ⟨AD, hAD⟩ : ∃ X, A.drew = X := ⟨_, rfl⟩
              rw [hAD] at RD OD ND TD BD
              have HCD : Hid (∀ b, C b → w7.heap.size ≤ b ∧ b < AD.heap.size) := fun b hb => ⟨by have := (hC b hb).1; omega, Nat.lt_of_lt_of_le (hC b hb).2 BD.size⟩
              obtain ⟨z, hz⟩ : ∃ z, (mix l (r : Int) F v).getD u 0 = z := ⟨_, rfl⟩
              rw [hz] at hmr
              have d1 := RD.c3.1
              have d2 : AD.cell? ⟨g, u, none⟩ = some (.int .i64 z) := by rw [← hz]; exact (RD.at (by rw [hml]; exact huF)).1
              have d3 := RD.c4.1
              have HY : Hid ((nbs l (v : Int)).getD kk 0 = (u : Int)) := by show _ = _; rw [List.getD_eq_getElem?_getD, hy]; rfl
              have HI : Hid ((u : Int) ∈ nbs l (v : Int) ∧ (F.getD u 0 = (r : Int) ↔ z = (r : Int))) := ⟨hym, hmr.symm⟩
              clear hy hym hin hmr hz hml huF R O6 KN' BD hC
              dsimp only
              by_cases hzr : z = (r : Int)
              case pos =>
                have HIu : Hid (F.getD u 0 = (r : Int)) := HI.out.2.2 hzr
                subst hzr
                gi_wp2_with (fail)
                refine region_heldIn (fun W' => W'.cell? ⟨w.heap.size, 0, none⟩ = some (.slice (some ⟨g, 0, none⟩) n n) ∧ W'.cell? ⟨g, u, none⟩ = some (.int .i64 (r : Int)) ∧ W'.cell? ⟨k4, 0, none⟩ = some (.int .i64 (r : Int))) (by kernel_rfl) ?_
                rw [hAD]
                refine anyInH_take 0 25 (.slice (some ⟨g, 0, none⟩) n n) (by kernel_rfl) rfl rfl (by kernel_rfl) (by kernel_rfl) (by kernel_rfl) (fun _ _ _ h => h) (Or.inl ⟨by rfl, by intro w hSw; have s1 := hSw.1; go_simp⟩) (fun w => by simp [Oper.about]) (⟨d1, d2, d3⟩) ?_
                try simp only [Act.put, List.setIfInBounds_toArray, List.set_cons_zero, List.set_cons_succ]
                refine anyInH_take 1 26 (.int .i64 (u : Int)) (by kernel_rfl) rfl rfl (by kernel_rfl) (by kernel_rfl) (by kernel_rfl) (fun _ _ _ h => h) (Or.inl ⟨by rfl, by intro w hSw; go_simp⟩) (fun w => by simp [Oper.about]) (⟨d1, d2, d3⟩) ?_
                try simp only [Act.put, List.setIfInBounds_toArray, List.set_cons_zero, List.set_cons_succ]
                refine anyInH_take 2 27 (.pointer (some ⟨g, u, none⟩)) (by kernel_rfl) rfl rfl (by kernel_rfl) (by kernel_rfl) (by kernel_rfl) (fun _ _ _ h => h) (Or.inl ⟨by rfl, by intro w hSw; have s1 := hyn; have s2 := hy0; go_simp⟩) (fun w => by simp [Oper.about]) (⟨d1, d2, d3⟩) ?_
                try simp only [Act.put, List.setIfInBounds_toArray, List.set_cons_zero, List.set_cons_succ]
                refine anyInH_take 3 28 (.int .i64 (r : Int)) (by kernel_rfl) rfl rfl (by kernel_rfl) (by kernel_rfl) (by kernel_rfl) (fun _ _ _ h => h) (Or.inl ⟨by rfl, by intro w hSw; have s1 := hSw.2.1; go_simp⟩) (fun w => by simp [Oper.about]) (⟨d1, d2, d3⟩) ?_
                try simp only [Act.put, List.setIfInBounds_toArray, List.set_cons_zero, List.set_cons_succ]
                refine anyInH_take 4 29 (.int .i64 (r : Int)) (by kernel_rfl) rfl rfl (by kernel_rfl) (by kernel_rfl) (by kernel_rfl) (fun _ _ _ h => h) (Or.inl ⟨by rfl, by intro w hSw; have s1 := hSw.2.2; go_simp⟩) (fun w => by simp [Oper.about]) (⟨d1, d2, d3⟩) ?_
                try simp only [Act.put, List.setIfInBounds_toArray, List.set_cons_zero, List.set_cons_succ]
                refine anyInH_take 5 30 (.bool true) (by kernel_rfl) rfl rfl (by kernel_rfl) (by kernel_rfl) (by kernel_rfl) (fun _ _ _ h => h) (Or.inl ⟨by rfl, by intro w hSw; go_simp⟩) (fun w => by simp [Oper.about]) (⟨d1, d2, d3⟩) ?_
                try simp only [Act.put, List.setIfInBounds_toArray, List.set_cons_zero, List.set_cons_succ]
                refine anyInH_done (by kernel_rfl) ?_ _
                have hwr : IntKind.i64.wrap ((r : Int) + 1) = (r : Int) + 1 := by rw [IntKind.wrap_i64]; have := ahead_le HA.out; have := HN.out; omega
                have hml : (mix l (r : Int) F v).length = F.length := mix_len (by have := HV.out; omega)
                obtain ⟨m1, m2⟩ := RD.at (v := v) (by rw [hml]; exact HV.out)
                obtain ⟨e1, e2, e3⟩ := id (RD.setF v ((r : Int) + 1)).c5
                obtain ⟨x1, x2, x3⟩ := id OD
                have hSt : stp l (r : Int) F v = (r : Int) + 1 := by
                  unfold stp
                  rw [if_neg (by have := HX.out; omega), if_pos (hit_yes HI.out.1 (by rw [Int.toNat_natCast]; exact HIu.out))]
                have hFu : fur l (r : Int) F (v + 1) = true := by
                  rw [fur_succ, hit_yes HI.out.1 (by rw [Int.toNat_natCast]; exact HIu.out), show decide (F.getD v 0 < 0) = true from by have := HX.out; simp only [decide_eq_true_eq]; omega]
                  simp
                have RZ := (RD.setF v ((r : Int) + 1)).set5 true
                rw [← hSt, ← mix_succ HV.out, ← hFu, hSt] at RZ
                have RZ' : Hid (RS w0 w.heap.size M g n (mix l (r : Int) F (v + 1)) (r : Int) w.heap.size k4 k5 (fur l (r : Int) F (v + 1)) ds ((AD.setCell ⟨g, v, none⟩ (.int .i64 ((r : Int) + 1))).setCell ⟨k5, 0, none⟩ (.bool true))) := by
                  show RS _ _ _ _ _ _ _ _ _ _ _ _ _
                  rw [hFu] at RZ ⊢
                  exact RZ
                have T1 := Turn.setOld HCD.out (show g < w7.heap.size by have := RD.ge; have := HM.out; omega) v (.int .i64 ((r : Int) + 1))
                have T2 := Turn.setOld (C := C) (A := AD.setCell ⟨g, v, none⟩ (.int .i64 ((r : Int) + 1))) (fun b hb => ⟨(HCD.out b hb).1, by simpa [World.setCell] using (HCD.out b hb).2⟩) (show k5 < w7.heap.size by have := RD.ge; have := HM.out; omega) 0 (.bool true)
                have TT := TD.trans (T1.trans T2)
                clear hSt hFu RZ T1 T2 hml TD
                gi_wp2
                exact ⟨C, ⟨rfl, RZ'.out⟩, TT⟩
              case neg =>
                have hzr' : (z == (r : Int)) = false := by simpa using hzr
                gi_wp2_with (fail)
                refine region_heldIn (fun W' => W'.cell? ⟨w.heap.size, 0, none⟩ = some (.slice (some ⟨g, 0, none⟩) n n) ∧ W'.cell? ⟨g, u, none⟩ = some (.int .i64 (z)) ∧ W'.cell? ⟨k4, 0, none⟩ = some (.int .i64 (r : Int))) (by kernel_rfl) ?_
                rw [hAD]
                refine anyInH_take 0 25 (.slice (some ⟨g, 0, none⟩) n n) (by kernel_rfl) rfl rfl (by kernel_rfl) (by kernel_rfl) (by kernel_rfl) (fun _ _ _ h => h) (Or.inl ⟨by rfl, by intro w hSw; have s1 := hSw.1; go_simp⟩) (fun w => by simp [Oper.about]) (⟨d1, d2, d3⟩) ?_
                try simp only [Act.put, List.setIfInBounds_toArray, List.set_cons_zero, List.set_cons_succ]
                refine anyInH_take 1 26 (.int .i64 (u : Int)) (by kernel_rfl) rfl rfl (by kernel_rfl) (by kernel_rfl) (by kernel_rfl) (fun _ _ _ h => h) (Or.inl ⟨by rfl, by intro w hSw; go_simp⟩) (fun w => by simp [Oper.about]) (⟨d1, d2, d3⟩) ?_
                try simp only [Act.put, List.setIfInBounds_toArray, List.set_cons_zero, List.set_cons_succ]
                refine anyInH_take 2 27 (.pointer (some ⟨g, u, none⟩)) (by kernel_rfl) rfl rfl (by kernel_rfl) (by kernel_rfl) (by kernel_rfl) (fun _ _ _ h => h) (Or.inl ⟨by rfl, by intro w hSw; have s1 := hyn; have s2 := hy0; go_simp⟩) (fun w => by simp [Oper.about]) (⟨d1, d2, d3⟩) ?_
                try simp only [Act.put, List.setIfInBounds_toArray, List.set_cons_zero, List.set_cons_succ]
                refine anyInH_take 3 28 (.int .i64 (z)) (by kernel_rfl) rfl rfl (by kernel_rfl) (by kernel_rfl) (by kernel_rfl) (fun _ _ _ h => h) (Or.inl ⟨by rfl, by intro w hSw; have s1 := hSw.2.1; go_simp⟩) (fun w => by simp [Oper.about]) (⟨d1, d2, d3⟩) ?_
                try simp only [Act.put, List.setIfInBounds_toArray, List.set_cons_zero, List.set_cons_succ]
                refine anyInH_take 4 29 (.int .i64 (r : Int)) (by kernel_rfl) rfl rfl (by kernel_rfl) (by kernel_rfl) (by kernel_rfl) (fun _ _ _ h => h) (Or.inl ⟨by rfl, by intro w hSw; have s1 := hSw.2.2; go_simp⟩) (fun w => by simp [Oper.about]) (⟨d1, d2, d3⟩) ?_
                try simp only [Act.put, List.setIfInBounds_toArray, List.set_cons_zero, List.set_cons_succ]
                refine anyInH_take 5 30 (.bool false) (by kernel_rfl) rfl rfl (by kernel_rfl) (by kernel_rfl) (by kernel_rfl) (fun _ _ _ h => h) (Or.inl ⟨by rfl, by intro w hSw; have s1 := hzr'; go_simp⟩) (fun w => by simp [Oper.about]) (⟨d1, d2, d3⟩) ?_
                try simp only [Act.put, List.setIfInBounds_toArray, List.set_cons_zero, List.set_cons_succ]
                refine anyInH_done (by kernel_rfl) ?_ _
                gi_wp2
                exact ⟨C, ⟨RD, OD, ND, fun j hj => (Nat.lt_succ_iff_lt_or_eq.1 hj).elim (hno.out j) (fun e => by rw [e, HY.out]; exact fun e => hzr (HI.out.2.1 (by simpa using e)))⟩, TD⟩
            case done =>
              rintro C A ⟨R, O6, KN', hno⟩ hK hC
              have hS : stp l (r : Int) F v = F.getD v 0 := by
                unfold stp
                rw [if_neg (by have := HX.out; omega), if_neg]
                intro hh
                obtain ⟨u, hu, he⟩ := hit_iff.1 hh
                obtain ⟨j, hj⟩ := List.getElem?_of_mem hu
                exact hno.out j (List.getElem?_eq_some_iff.1 hj).1 (by rw [show (nbs l (v : Int)).getD j 0 = u from by rw [List.getD_eq_getElem?_getD, hj]; rfl]; exact he)
              have hU : fur l (r : Int) F (v + 1) = fur l (r : Int) F v := by
                rw [fur_succ, hit_no]
                · simp
                · intro u hu he
                  obtain ⟨j, hj⟩ := List.getElem?_of_mem hu
                  exact hno.out j (List.getElem?_eq_some_iff.1 hj).1 (by rw [show (nbs l (v : Int)).getD j 0 = u from by rw [List.getD_eq_getElem?_getD, hj]; rfl]; exact he)
              have hAs := row_lt hK
              have RM := (R.wide (M' := w7.heap.size) (by have := HM.out; omega) (by omega)).mark (M' := w7.heap.size + 1) (by omega) (by omega) hK
              rw [← mix_stay HV.out hS, ← hU] at RM
              have RM' : Hid (RS w0 w.heap.size (w7.heap.size + 1) g n (mix l (r : Int) F (v + 1)) (r : Int) w.heap.size k4 k5 (fur l (r : Int) F (v + 1)) ({ target := .collected w7.heap.size, args := #[] } :: ds) A) := RM
              clear RM hS hU R O6 KN' hno
              gi_wp2
              gi_roundg (g2 - 1)
              case measure => omega
              case rel => exact ⟨v + 1, _, by first | rfl | go_num, by omega, RM'.out⟩
            case stop =>
              rintro c C A ⟨rfl, R⟩ hK hC
              have hAs := row_lt hK
              have RM := (R.wide (M' := w7.heap.size) (by have := HM.out; omega) (by omega)).mark (M' := w7.heap.size + 1) (by omega) (by omega) hK
              clear R
              gi_wp2
              gi_roundg (g2 - 1)
              case measure => omega
              case rel => exact ⟨v + 1, _, by first | rfl | go_num, by omega, RM⟩
end Go.Proofs.Ytpdmpekkmblgmaa
