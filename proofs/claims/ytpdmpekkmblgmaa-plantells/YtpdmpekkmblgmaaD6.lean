/-
  The document: Parts.
-/
import Derived.Test.YtpdmpekkmblgmaaD5
namespace Go.Proofs.Ytpdmpekkmblgmaa
open Go.ChangeShapes Go.WideShapes Go.ChangeAt Go.RowKit Go.Maps Go.Shelf
set_option linter.unusedVariables false
set_option linter.unusedSimpArgs false
attribute [local go_sem] Oper.semAt_some

theorem lev_keep {l : List LK} {F : List Int} {v : Nat} (hv : v < F.length) (h : 0 ≤ F.getD v 0) (r : Nat) : (lev l F r).getD v 0 = F.getD v 0 := by
  induction r with
  | zero => rfl
  | succ r ih =>
    rw [lev, sweep_at (by rw [lev_len]; exact hv)]
    unfold stp
    rw [ih, if_pos h]
theorem dst_self {N v : Nat} {l : List LK} (h : v < N) : (dst N l (v : Int)).getD v 0 = 0 := by
  unfold dst
  rw [if_pos (by omega)]
  have h0 : (out0 N (v : Int)).getD v 0 = 0 := by
    unfold out0
    rw [List.getD_eq_getElem?_getD, Int.toNat_natCast, List.getElem?_set_self (by simpa using h)]
    rfl
  rw [lev_keep (by rw [out0_len]; exact h) (by rw [h0]; exact Int.le_refl _), h0]
/-- The least of the last j that is reached, or v. -/
def lstc (D : List Int) (N v : Nat) : Nat → Int
  | 0 => v
  | j + 1 => if rch (D.getD (N - 1 - j) 0) = true then ((N - 1 - j : Nat) : Int) else lstc D N v j
theorem lstc_all {D : List Int} {N v : Nat} (hD : D.length = N) (hv : v < N) (h : rch (D.getD v 0) = true) : lstc D N v N = fst0 D := by
  have key : ∀ j, j ≤ N → ((∀ i, N - j ≤ i → i < N → rch (D.getD i 0) = false) ∧ lstc D N v j = v) ∨ ∃ t, N - j ≤ t ∧ t < N ∧ rch (D.getD t 0) = true ∧ (∀ i, N - j ≤ i → i < t → rch (D.getD i 0) = false) ∧ lstc D N v j = (t : Int) := by
    intro j
    induction j with
    | zero => intro _; exact .inl ⟨fun i h1 h2 => by omega, rfl⟩
    | succ j ih =>
      intro hj
      by_cases hr : rch (D.getD (N - 1 - j) 0) = true
      · exact .inr ⟨N - 1 - j, by omega, by omega, hr, fun i h1 h2 => by omega, by rw [lstc, if_pos hr]⟩
      · have hr' : rch (D.getD (N - 1 - j) 0) = false := by simpa using hr
        rcases ih (by omega) with ⟨h1, h2⟩ | ⟨t, h1, h2, h3, h4, h5⟩
        · refine .inl ⟨fun i h3 h4 => ?_, by rw [lstc, if_neg hr]; exact h2⟩
          by_cases e : i = N - 1 - j
          · rw [e]; exact hr'
          · exact h1 i (by omega) h4
        · refine .inr ⟨t, by omega, h2, h3, fun i h6 h7 => ?_, by rw [lstc, if_neg hr]; exact h5⟩
          by_cases e : i = N - 1 - j
          · rw [e]; exact hr'
          · exact h4 i (by omega) h7
  rcases key N (Nat.le_refl _) with ⟨h1, _⟩ | ⟨t, h1, h2, h3, h4, h5⟩
  · rw [h1 v (by omega) hv] at h; cases h
  · rw [h5]
    unfold fst0
    rw [fr0_at (by omega) h3 (fun j hj => h4 j (by omega) hj), if_pos (by omega)]
set_option maxRecDepth 100000 in
set_option maxHeartbeats 1000000 in
theorem rparts_any (N : Nat) (a : Option Addr) (k cap : Nat) (l : List LK) (w : World) (hr : RdL w a k cap l) (hf : fit (N : Int) l = true) : Calls Try.prog 22 #[.int .i64 (N : Int), .slice a k cap] w fun e w' => ∃ a' c', e = .returned (.slice a' N c') ∧ Row w' a' N c' (partsL N l) ∧ Below w.heap.size w w' := by
  have HN : Hid (1 ≤ N ∧ N ≤ 16) := by
    obtain ⟨M, h1, h2, h3⟩ := few_nat (fit_few hf)
    show _ ∧ _
    omega
  have KD := fun v W (hb : Below w.heap.size w W) => rdistances_any N a k cap l v W (hr.below hb) hf
  clear hr hf
  go_enter Try.func22, Try.ntmps22
  go_wp2
  go_loopg [5, 6] N (fun gk v5 v6 wr => ∃ v : Nat, v6 = .int .i64 (v : Int) ∧ v + gk = N ∧ wr.ownsRow w.heap.size 3 1 v5 v (((partsL N l).take v).map iv) ∧ Below w.heap.size w wr)
  case atStart => exact ⟨0, by first | rfl | go_num, by omega, World.ownsRow_nil _ _ 3 1, Below.refl _ _⟩
  case round =>
    obtain ⟨v, rfl, hg, O, B⟩ := hrel
    obtain ⟨av, cv, rfl⟩ := owns_slice O
    by_cases hv : v < N
    case neg =>
      have hvI : ¬ (v : Int) < (N : Int) := by omega
      have hvn : v = N := by omega
      subst hvn
      have HT : Hid ((partsL v l).take v = partsL v l) := by show _ = _; rw [List.take_of_length_le (by rw [partsL_len]; exact Nat.le_refl _)]
      rw [HT.out] at O
      go_wp2
      go_ret
      exact ⟨_, _, rfl, owns_row O, B⟩
    case pos =>
      have hvI : (v : Int) < (N : Int) := by omega
      have HV : Hid (v < N) := hv
      have hin : IntKind.i64.wrap ((v : Int) + 1) = (v : Int) + 1 := by rw [IntKind.wrap_i64]; have := HN.out; omega
      have hsub : IntKind.i64.wrap ((N : Int) - 1) = (N : Int) - 1 := by rw [IntKind.wrap_i64]; have := HN.out; omega
      have K1 := KD (v : Int) wr B
      have HT : Hid (((partsL N l).take (v + 1)).map iv = ((partsL N l).take v).map iv ++ [iv (fst0 (dst N l (v : Int)))]) := by show _ = _; rw [partsL_take hv, List.map_append]; rfl
      have HL : Hid ((dst N l (v : Int)).length = N) := dst_len N l (v : Int)
      have HLS : Hid (lstc (dst N l (v : Int)) N v N = fst0 (dst N l (v : Int))) := lstc_all HL.out hv (by rw [dst_self hv]; rfl)
      obtain ⟨D, hD⟩ : ∃ D, dst N l (v : Int) = D := ⟨_, rfl⟩
      rw [hD] at K1 HT HL HLS
      obtain ⟨ys, hys⟩ : ∃ ys, ((partsL N l).take v).map iv = ys := ⟨_, rfl⟩
      rw [hys] at HT O
      obtain ⟨y, hy⟩ : ∃ y, fst0 D = y := ⟨_, rfl⟩
      rw [hy] at HT HLS
      have HB : Hid (Below w.heap.size w wr) := B
      obtain ⟨g1, hg1e⟩ : ∃ g1, g1 = gk := ⟨_, rfl⟩
      clear hD hys hy KD
      go_wp2_with (go_at_call 20; refine K1.mono ?_; clear K1; rintro e w2 ⟨g, rfl, hg9, h2, b2⟩)
      have HM : Hid (∀ k, k < N → w2.cell? ⟨g, k, none⟩ = some (.int .i64 (D.getD k 0))) := by
        show ∀ k, k < N → _
        intro k hk
        exact row_cell h2 k _ (by simp [List.getD_eq_getElem?_getD, show k < D.length by have := HL.out; omega])
      go_loopg [8, 9] N (fun gk v8 v9 wr => ∃ j : Nat, v8 = .int .i64 (lstc D N v j) ∧ v9 = .int .i64 ((N : Int) - 1 - (j : Int)) ∧ j + gk = N ∧ wr = w2)
      case atStart => exact ⟨0, rfl, by first | rfl | go_num, by omega, rfl⟩
      case round =>
        obtain ⟨j, rfl, rfl, hg2, rfl⟩ := hrel
        by_cases hj : j < N
        case neg =>
          have hjn : j = N := by omega
          subst hjn
          rw [HLS.out]
          have hjI : (j : Int) - 1 - (j : Int) = -1 := by omega
          rw [hjI]
          go_wp2_with ((with_reducible show wpList _ _ _ (Oper.mk _ (Op.call { callee := Callee.builtin Builtin.append, args := _, argTypes := _ }) _ _ _ _ :: _) _ _); refine wpList_app_int rfl _ _ rfl w.heap.size (.slice av v cv) v ys rfl (owns_of_block O (fun g' hg' => (Below.heap_alloc _ _ _ (Nat.lt_of_lt_of_le (O.lt g' hg').2 b2.size)).trans (b2.block g' (O.lt g' hg').2))) ⟨_, 0, none⟩ y rfl (by intro j u hu; rw [add_plain, Nat.zero_add]; exact row_cell (World.alloc_heap_new _ _) j u (by simpa using hu)) (by have := HN.out; have := HV.out; omega) (by have := HB.out.size; have := b2.size; simp; omega) ?_; intro g3 c3 w4 r1 r2 r3)
          go_roundg (g1 - 1)
          case measure => have := HV.out; omega
          case rel => exact ⟨v + 1, by first | rfl | go_num, by have := HV.out; omega, by rw [HT.out]; exact r1, ((HB.out.trans (b2.mono HB.out.size)).alloc (by have := HB.out.size; have := b2.size; omega) _).grown r2 (by have := HB.out.size; have := b2.size; simp; omega) (fun j e => (O.lt j e).1)⟩
        case pos =>
          obtain ⟨t, ht⟩ : ∃ t : Nat, N - 1 - j = t := ⟨_, rfl⟩
          have htI : (N : Int) - 1 - (j : Int) = (t : Int) := by omega
          have htN : (t : Int) < (N : Int) := by omega
          have h0 := HM.out t (by omega)
          have HS : Hid (lstc D N v (j + 1) = if rch (D.getD t 0) = true then (t : Int) else lstc D N v j) := by show _ = _; rw [lstc, ht]
          have HX : Hid ((N : Int) - 1 - ((j + 1 : Nat) : Int) = (t : Int) - 1) := by show _ = _; omega
          have hin2 : IntKind.i64.wrap ((t : Int) - 1) = (t : Int) - 1 := by rw [IntKind.wrap_i64]; have := HN.out; omega
          obtain ⟨x, hx⟩ : ∃ x, D.getD t 0 = x := ⟨_, rfl⟩
          rw [hx] at h0 HS
          rw [htI]
          have ht0 : ¬ (t : Int) < 0 := by omega
          clear hx ht htI
          by_cases hx0 : x ≥ 0
          case pos =>
            have HR : Hid (rch x = true) := by show _ = _; unfold rch; rw [decide_eq_true_eq]; exact hx0
            go_wp2
            go_roundg (gk - 1)
            case measure => omega
            case rel => exact ⟨j + 1, by rw [HS.out, HR.out]; rfl, by rw [HX.out], by omega, rfl⟩
          case neg =>
            have HR : Hid (rch x = false) := by show _ = _; unfold rch; rw [decide_eq_false_iff_not]; omega
            go_wp2
            go_roundg (gk - 1)
            case measure => omega
            case rel => exact ⟨j + 1, by rw [HS.out, HR.out]; rfl, by rw [HX.out], by omega, rfl⟩
end Go.Proofs.Ytpdmpekkmblgmaa
