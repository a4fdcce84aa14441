/-
  For any list, which is left as it is, num.Sum and num.Squares answer as the document says (P1.4, P1.5): the law NumSums returns true for every input.
-/
import Derived.Test.YtkhinpapiommiaaRows
import Derived.Test.YtkhinpapiommiaaAwake
import Derived.Test.YtkhinpapiommiaaSum
import Derived.Test.YtkhinpapiommiaaRefSq
import Derived.Test.YtkhinpapiommiaaRowIn
import Derived.Laws.AppendOwnNone
import Derived.Deep.QuietTactic
import Derived.BigQuiet
import Derived.WalkSmall
import Derived.WalkKit
import Derived.ProofKit
import Derived.OpenShut
import Derived.ShutString
import Derived.ChangeOld
import Derived.Below
import Derived.SizedLaws
namespace Go.Proofs.Ytkhinpapiommiaa.numSums
open Go.ChangeShapes Go.WideShapes Go.ChangeAt Go.RowKit
open Go.ChangeMaps (open_string shut_string)
set_option linter.unusedVariables false

theorem own : ownKnob Try.prog.godebug = none := by kernel_rfl
theorem laidOut : laidOutB Try.prog = true := by kernel_rfl

theorem bytes2 : Try.prog.bytesOf 2 = 8 := by kernel_rfl


theorem info2 : (Try.prog.info? 2).map (fun i => (i.zero, i.size, i.bytes)) = some (some (.int .i64 0), 1, 8) := by kernel_rfl

set_option maxHeartbeats 1000000 in
theorem walk (a : Option Addr) (len cap : Nat) (zs : List Int) (w : World) (R : Row w a len zs) (hr : len * 8 ≤ 140737488351232) (hn : a = none → cap = 0) :
    Calls Try.prog 4 #[.slice a len cap] w fun e w' => e = .returned (.bool true) ∧ Below w.heap.size w w' := by
  obtain ⟨i0, hi, hz0, hz1, hz2⟩ := info_parts info2
  have hL := R.size
  rcases a with _ | ad
  · have h0 : len = 0 := by
      rcases R.mem with h | ⟨_, _, h, _⟩
      · exact h
      · cases h
    obtain rfl := h0
    obtain rfl := hn rfl
    have RO := R
    have RA := R
    have hB1 := Below.refl w.heap.size w
    clear R hn hL
    go_enter Try.func4, Try.ntmps4
    go_wp2_with (at_builtin; refine wpList_append_own_none rfl _ _ 30 rfl w.heap.size 2 i0 1 Try.underlying30 hi _ _ _ rfl (World.ownsRow_nil _ _ _ _) rfl ?_)
    go_wp2_with fail
    refine (sum_any _ _ _ zs _ RO).mono ?_
    rintro e wx ⟨rfl, hw⟩
    rw [hw]
    clear hw wx
    go_wp2_with fail
    refine (rsum_any _ _ _ zs _ RA).mono ?_
    rintro e wx ⟨rfl, hw⟩
    rw [hw]
    clear hw wx
    go_wp2_with fail
    refine (squares_any _ _ _ zs _ RO).mono ?_
    rintro e w2 ⟨rfl, hb2⟩
    go_wp2_with fail
    refine (rsquares_any _ _ _ zs _ (RA.below hb2)).mono ?_
    rintro e w3 ⟨rfl, hb3⟩
    have RO3 := (RO.below hb2).below hb3
    have RA3 := (RA.below hb2).below hb3
    have hB3 : Below w.heap.size w w3 := hB1.trans ((hb2.mono hB1.size).trans (hb3.mono (by have := hB1.size; have := hb2.size; omega)))
    clear hb2 hb3 RO RA hB1
    clear hi hz0 hz1 hz2
    go_wp2
    go_loopw [8] (fun i wr => ∃ k : Nat, k ≤ 0 ∧ i = .int .i64 k ∧ Below w3.heap.size w3 wr) (fun i _ => 0 - (intOf i).toNat)
    case atStart => exact ⟨0, Nat.zero_le _, rfl, Below.refl _ _⟩
    case round =>
      obtain ⟨k, hk, rfl, hBr⟩ := hrel
      by_cases hlt : k < 0
      · omega
      · go_wp2_with (go_at_call 19; refine (awake_any _).mono ?_; rintro e w5 ⟨rfl, hb5⟩)
        go_ret
        exact ⟨rfl, hB3.trans ((hBr.mono hB3.size).trans (hb5.mono (by have := hB3.size; have := hBr.size; omega)))⟩
  · have hnews : ∀ j u, (zs.map (Value.int .i64))[j]? = some u → w.cell? (ad.add j) = some u := by
      intro j u hj
      rw [List.getElem?_map] at hj
      cases e : zs[j]? with
      | none => simp [e] at hj
      | some x =>
        have hjl : j < len := by have := (List.getElem?_eq_some_iff.1 e).1; omega
        obtain ⟨b, off, hab, hb, hc⟩ := R.mem.resolve_left (by omega)
        obtain rfl := Option.some.inj hab
        have := hc j hjl
        simp only [e, Option.map_some, Option.some.injEq] at hj
        subst hj
        rw [add_plain, this, List.getD_eq_getElem?_getD, e]
        rfl
    have HN : Hid _ := hnews
    have HR : Hid _ := R
    have HL : Hid _ := hL
    clear hnews R hn hL
    go_enter Try.func4, Try.ntmps4
    go_wp2_with (at_builtin; refine wpList_append_own _ rfl _ _ 30 rfl w.heap.size 2 i0 (.int .i64 0) 1 8 Try.underlying30 hi hz0 hz1 hz2 rfl (by decide) _ _ _ rfl (World.ownsRow_nil _ _ _ _) ad len cap (zs.map (Value.int .i64)) rfl ?h1 HN.out ?h2 ?h3 ?h4 ?h5 ?_)
    case h1 => simp [HL.out]
    case h2 => intro u hu; obtain ⟨x, _, rfl⟩ := List.mem_map.1 hu; rfl
    case h3 => unfold maxLen; omega
    case h4 => omega
    case h5 => exact Nat.le_refl _
    intro v w1 hown hg _
    obtain ⟨a', c', hv, RO⟩ := row_own hown (by unfold maxLen; omega) HR.out.bd
    rw [hv]
    clear hv hown
    have hB1 : Below w.heap.size w w1 := (Below.refl _ _).grown hg (Nat.le_refl _) (by simp [Value.ownBlock])
    have RA := HR.out.below hB1
    clear hg HN HR HL hi hz0 hz1 hz2
    go_wp2_with fail
    refine (sum_any _ _ _ zs _ RO).mono ?_
    rintro e wx ⟨rfl, hw⟩
    rw [hw]
    clear hw wx
    go_wp2_with fail
    refine (rsum_any _ _ _ zs _ RA).mono ?_
    rintro e wx ⟨rfl, hw⟩
    rw [hw]
    clear hw wx
    go_wp2_with fail
    refine (squares_any _ _ _ zs _ RO).mono ?_
    rintro e w2 ⟨rfl, hb2⟩
    go_wp2_with fail
    refine (rsquares_any _ _ _ zs _ (RA.below hb2)).mono ?_
    rintro e w3 ⟨rfl, hb3⟩
    have RO3 := (RO.below hb2).below hb3
    have RA3 := (RA.below hb2).below hb3
    have hB3 : Below w.heap.size w w3 := hB1.trans ((hb2.mono hB1.size).trans (hb3.mono (by have := hB1.size; have := hb2.size; omega)))
    clear hb2 hb3 RO RA hB1
    go_wp2
    go_loopw [8] (fun i wr => ∃ k : Nat, k ≤ len ∧ i = .int .i64 k ∧ Below w3.heap.size w3 wr) (fun i _ => len - (intOf i).toNat)
    case atStart => exact ⟨0, Nat.zero_le _, rfl, Below.refl _ _⟩
    case round =>
      obtain ⟨k, hk, rfl, hBr⟩ := hrel
      by_cases hlt : k < len
      · obtain ⟨b, off, eb, hb, hc⟩ := RO3.mem.resolve_left (by omega)
        obtain ⟨b', off', eb', hb', hc'⟩ := RA3.mem.resolve_left (by omega)
        obtain rfl := eb; obtain rfl := Option.some.inj eb'
        have c0 := (hBr.cell (p := ⟨b, off + k, none⟩) hb).trans (hc k hlt)
        have c1 := (hBr.cell (p := ⟨b', off' + k, none⟩) hb').trans (hc' k hlt)
        obtain ⟨x, hx⟩ : ∃ x, zs.getD k 0 = x := ⟨_, rfl⟩
        rw [hx] at c0 c1
        have hI : (k : Int) < (len : Int) := by omega
        clear hc hc' hx
        go_wp2
        go_quiet (fail)
        go_wp2
        go_roundw
        case rel => exact ⟨k + 1, by omega, by go_num, below_drewN hBr _⟩
        case measure => simp [intOf]; omega
      · go_wp2_with (go_at_call 19; refine (awake_any _).mono ?_; rintro e w5 ⟨rfl, hb5⟩)
        go_ret
        exact ⟨rfl, hB3.trans ((hBr.mono hB3.size).trans (hb5.mono (by have := hB3.size; have := hBr.size; omega)))⟩

set_option maxRecDepth 100000 in
theorem lifted (os : Os) (started : os.Started) (H : Type) (enc : TypeId × Value → H) :
    ReturnsInHanded {} Try.checked os 4 .any (Rows.numSumsSpec.pre6 enc Try.prog Try.f4 Rows.numSumsRow.domain false) (Rows.numSumsSpec.post enc Try.prog Try.f4 false true false false) := by
  refine returnsInHanded_of_change_sized (C := Try.checked) own started (by kernel_rfl) Try.func4
    (ChangeSpec.witness6 (enc := enc) (C := Try.checked) false ⟨#[], #[.slice none 0 0], []⟩ 8 (by kernel_rfl) (by kernel_rfl) (by kernel_rfl) (by kernel_rfl)) ?_
  intro W base args ds gs before hval0 hW hcnd hsz0 _
  have hval : ∀ (j : Nat) t v, Try.f4.params[j]? = some t → args[j]? = some v → Value.okWide Try.prog W .any base t v := hval0
  have hsz : (DataW.weightsEach Try.prog (Try.f4.params.toList ++ Rows.numSumsSpec.plain.varTypes Try.prog) (ds ++ gs)).all (· ≤ reachBytes) = true := hsz0
  clear hsz0
  have hW' := hW
  obtain ⟨p, q, hA0, hV, rfl, hfz, hnd⟩ := hW
  have hA : DataW.TrodAll enc Try.prog W 0 (fun _ => true) true Try.f4.params.toList args.toList ds p := hA0
  rw [Try.params4] at hA hval hsz
  obtain ⟨v0, vs0, d0, ds0, p0, q0, hargs, rfl, rfl, h0, r0⟩ := trodAll_cons hA
  obtain ⟨rfl, rfl, rfl⟩ := trodAll_nil r0
  obtain rfl : args = #[v0] := by cases args; simp_all
  obtain ⟨rfl, rfl⟩ := trodVars_none hV
  obtain ⟨a0, len0, cap0, rfl⟩ := okWide_slice Try.underlying30 (hval 0 30 v0 rfl rfl)
  have k0 := h0
  have lt0 : ∀ x ∈ p0, x.block < W.heap.size := by obtain ⟨m, hm⟩ := k0; exact DataW.trod_lt m _ _ _ hm
  obtain ⟨z0, w0, u0, n0⟩ : ∃ zs, Row W a0 len0 zs ∧ len0 * 8 ≤ 140737488351232 ∧ (a0 = none → cap0 = 0) := by
    obtain ⟨fuel, hf⟩ := h0
    rcases open_ints Try.underlying30 Try.underlying2 (by kernel_rfl) hf with ⟨hcs, _⟩ | ⟨x, l, c, zs, hcs, _, hl, hm, hz, hx, hcell, hwz⟩
    · simp [Value.cells] at hcs
      obtain ⟨rfl, rfl, rfl⟩ := hcs
      exact ⟨[], row_nil W, by omega, fun _ => rfl⟩
    · simp [Value.cells] at hcs
      obtain ⟨rfl, rfl, rfl⟩ := hcs
      simp only [Prod.mk.injEq] at hx
      obtain ⟨hd, _⟩ := hx
      subst hd
      have hz' : zs.length = cap0 := by simpa using hz
      have hs := sized_slice hsz (j := 0) (t := 30) (e := 2) rfl rfl Try.underlying30
      rw [bytes2] at hs
      simp only [lits, List.length_map, List.length_take, List.length_drop, reachBytes] at hs
      exact ⟨zs.take len0, row_mk hl hm hz' hcell hwz, by omega, fun h => by cases h⟩
  clear hA0 hval0
  refine (walk a0 len0 cap0 z0 W w0 u0 n0).mono fun e W' ⟨he, bel⟩ => ?_
  subst he
  exact ⟨_, rfl, _, _, _, [], _, [], hW', trodAll_mk1 (shut_bool Try.underlying4 _), (trodAll_cons_mk (Below.trod laidOut (by kernel_rfl) (of_decide_eq_true (by kernel_rfl)) k0 bel lt0) trodAll_mk0), rfl, bel.frame _, fun h => by cases h⟩

theorem over : Rows.numSumsRow.holds Try.pinned (OpenSpec.ofChange Rows.numSumsSpec) :=
  OpenClaim.holds_of_wide 4 Try.f4 rfl rfl rfl rfl rfl rfl rfl ⟨rfl, rfl, rfl, rfl, rfl⟩ rfl rfl rfl rfl rfl (by kernel_rfl) Try.func4 (by kernel_rfl)
    (of_decide_eq_true (by kernel_rfl)) (by unfold Func.isWrapper; first | (rw [if_pos (by decide +kernel)]; kernel_rfl) | (rw [if_neg (by decide +kernel)]; exact ⟨rfl, rfl⟩))
    (fun os started H enc _ => lifted os started H enc)

/-- The statement. -/
theorem proved : Rows.NumSumsSaid := over
#print axioms proved
end Go.Proofs.Ytkhinpapiommiaa.numSums
