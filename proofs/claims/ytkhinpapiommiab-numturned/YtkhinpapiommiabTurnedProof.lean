/-
  A list and it turned round have one sum of squares, which is that of its two parts (P1.11): the law NumTurned returns true for every input.
-/
import Derived.Test.YtkhinpapiommiabRows
import Derived.Test.YtkhinpapiommiabAwake
import Derived.Test.YtkhinpapiommiabRowIn
import Derived.Deep.LoopGhost
import Derived.Deep.DeepCutAuto
import Derived.Deep.RegionWith
import Derived.Deep.RegionHeld3
import Derived.WalkSpells
import Derived.WalkKit
import Derived.ProofKit
import Derived.OpenShut
import Derived.ShutString
import Derived.ChangeOld
import Derived.Below
import Derived.SizedLaws
namespace Go.Proofs.Ytkhinpapiommiab.numTurned
open Go.ChangeShapes Go.WideShapes Go.ChangeAt Go.RowKit
open Go.ChangeMaps (open_string shut_string)
set_option linter.unusedVariables false

theorem own : ownKnob Try.prog.godebug = none := by kernel_rfl
theorem laidOut : laidOutB Try.prog = true := by kernel_rfl

theorem bytes2 : Try.prog.bytesOf 2 = 8 := by kernel_rfl


theorem info2 : (Try.prog.info? 2).map (fun i => (i.zero, i.size, i.bytes)) = some (some (.int .i64 0), 1, 8) := by kernel_rfl

/-! ### Plain -/
theorem sqs_append (a b : List Int) : sqs (a ++ b) = sqs a + sqs b := by
  induction a with
  | nil => simp [sqs]
  | cons x a ih => simp [sqs, ih, Int.add_assoc]
theorem sqs_reverse (a : List Int) : sqs a.reverse = sqs a := by
  induction a with
  | nil => rfl
  | cons x a ih => rw [List.reverse_cons, sqs_snoc, ih, sqs, Int.add_comm]
theorem rev_snoc (zs : List Int) (j : Nat) (h : j < zs.length) : zs.reverse.take (j + 1) = zs.reverse.take j ++ [zs.getD (zs.length - 1 - j) 0] := by
  rw [take_snoc zs.reverse j (by simpa using h)]
  congr 2
  rw [List.getD_eq_getElem?_getD, List.getD_eq_getElem?_getD, List.getElem?_reverse (by omega)]

theorem parts_sum (zs : List Int) (K : Nat) :
    (ovW (val (hiW (sqs (zs.take K))) (lo64 (sqs (zs.take K))) + val (hiW (sqs (zs.drop K))) (lo64 (sqs (zs.drop K)))) = false → plH (val (hiW (sqs (zs.take K))) (lo64 (sqs (zs.take K))) + val (hiW (sqs (zs.drop K))) (lo64 (sqs (zs.drop K)))) = hiW (sqs zs)) ∧
    (ovW (val (hiW (sqs (zs.take K))) (lo64 (sqs (zs.take K))) + val (hiW (sqs (zs.drop K))) (lo64 (sqs (zs.drop K)))) = false → plL (val (hiW (sqs (zs.take K))) (lo64 (sqs (zs.take K))) + val (hiW (sqs (zs.drop K))) (lo64 (sqs (zs.drop K)))) = lo64 (sqs zs)) := by
  have e : sqs (zs.take K) + sqs (zs.drop K) = sqs zs := by rw [← sqs_append, List.take_append_drop]
  constructor
  · intro h; unfold plH; rw [h, hiW_add, e]; rfl
  · intro h; unfold plL; rw [h, lo64_add, e]; rfl
theorem rem_k (at_ : Int) (n : Nat) (h0 : 0 < n) (hn : (n : Int) ≤ 9223372036854775807) : ∃ K : Nat, wrap64 ((IntKind.u64.wrap at_).tmod (n : Int)) = (K : Int) ∧ K < n := by
  have h1 : 0 ≤ IntKind.u64.wrap at_ := by rw [IntKind.wrap_u64]; omega
  rw [Int.tmod_eq_emod_of_nonneg h1]
  have h2 := Int.emod_nonneg (IntKind.u64.wrap at_) (b := (n : Int)) (by omega)
  have h3 := Int.emod_lt_of_pos (IntKind.u64.wrap at_) (b := (n : Int)) (by omega)
  generalize IntKind.u64.wrap at_ % (n : Int) = m at *
  refine ⟨m.toNat, ?_, by omega⟩
  unfold wrap64
  omega

theorem Row.take {w : World} {b off len : Nat} {zs : List Int} (R : Row w (some ⟨b, off, none⟩) len zs) (K : Nat) (hK : K ≤ len) : Row w (some ⟨b, off, none⟩) K (zs.take K) where
  size := by have := R.size; simp; omega
  max := by have := R.max; omega
  bd := fun k => by
    rw [List.getD_eq_getElem?_getD, List.getElem?_take]
    split
    · have := R.bd k; rwa [List.getD_eq_getElem?_getD] at this
    · simp
  mem := by
    by_cases h0 : K = 0
    · exact .inl h0
    · obtain ⟨b', off', e, hb, hc⟩ := R.mem.resolve_left (by omega)
      refine .inr ⟨b', off', e, hb, fun k hk => ?_⟩
      rw [hc k (by omega), List.getD_eq_getElem?_getD, List.getD_eq_getElem?_getD, List.getElem?_take, if_pos hk]
theorem Row.drop {w : World} {b off len : Nat} {zs : List Int} (R : Row w (some ⟨b, off, none⟩) len zs) (K : Nat) (hK : K ≤ len) : Row w (some ⟨b, off + K, none⟩) (len - K) (zs.drop K) where
  size := by have := R.size; simp; omega
  max := by have := R.max; omega
  bd := fun k => by
    rw [List.getD_eq_getElem?_getD, List.getElem?_drop]
    have := R.bd (K + k); rwa [List.getD_eq_getElem?_getD] at this
  mem := by
    by_cases h0 : len - K = 0
    · exact .inl h0
    · obtain ⟨b', off', e, hb, hc⟩ := R.mem.resolve_left (by omega)
      have e := Option.some.inj e
      injection e with e1 e2
      subst e1 e2
      refine .inr ⟨b, off + K, rfl, hb, fun k hk => ?_⟩
      rw [show off + K + k = off + (K + k) by omega, hc (K + k) (by omega), List.getD_eq_getElem?_getD, List.getD_eq_getElem?_getD, List.getElem?_drop]
theorem Row.drew {w : World} {a : Option Addr} {len : Nat} {zs : List Int} (R : Row w a len zs) : Row w.drew a len zs := ⟨R.size, R.max, R.bd, R.mem⟩
theorem Row.alloc {w : World} {a : Option Addr} {len : Nat} {zs : List Int} (R : Row w a len zs) (o : Obj) : Row (w.alloc o) a len zs := R.below ((Below.refl _ _).alloc (Nat.le_refl _) o)

/-- What stays through the last statements: the sum of the squares, old memory. -/
structure Inv (w0 : World) (zs : List Int) (B8 : Nat) (W : World) : Prop where
  two : Two W B8 (.int .u64 (hiW (sqs zs))) (.int .u64 (lo64 (sqs zs)))
  old : Below w0.heap.size w0 W
theorem Inv.drew {w0 : World} {zs : List Int} {B8 : Nat} {W : World} (h : Inv w0 zs B8 W) : Inv w0 zs B8 W.drew := ⟨h.two, h.old.drew⟩
theorem Inv.alloc {w0 : World} {zs : List Int} {B8 : Nat} {W : World} (h : Inv w0 zs B8 W) (o : Obj) : Inv w0 zs B8 (W.alloc o) := ⟨h.two.alloc o, h.old.alloc h.old.size o⟩
theorem Inv.below {w0 : World} {zs : List Int} {B8 : Nat} {W w' : World} (h : Inv w0 zs B8 W) (hb : Below W.heap.size W w') : Inv w0 zs B8 w' := ⟨h.two.below hb, h.old.trans (hb.mono h.old.size)⟩
theorem Inv.far2 {w0 : World} {zs : List Int} {B8 : Nat} {W : World} (h : Inv w0 zs B8 W) (k : Nat) (a b : Value) (h1 : w0.heap.size ≤ k) (h2 : k ≠ B8) : Inv w0 zs B8 ((W.setCell ⟨k, 0, none⟩ a).setCell ⟨k, 1, none⟩ b) :=
  ⟨Two.far (Two.far h.two _ _ _ h2) _ _ _ h2, (h.old.setCell h1 _).setCell h1 _⟩

set_option maxHeartbeats 1000000 in
theorem walk_0 (a : Option Addr) (cap : Nat) (at_ : Int) (w : World) (R : Row w a 0 []) :
    Calls Try.prog 3 #[.slice a 0 cap, .int .i64 at_] w fun e w' => e = .returned (.bool true) ∧ Below w.heap.size w w' := by
  go_enter Try.func3, Try.ntmps3
  go_wp2_with fail
  refine (squares_any _ _ _ [] _ R).mono ?_
  rintro e w1 ⟨rfl, hb1⟩
  rw [show hiW (sqs []) = 0 from rfl, show lo64 (sqs []) = 0 from rfl]
  go_wp2_with (go_at_call 5; refine (awake_any _).mono ?_; rintro e w2 ⟨rfl, hb2⟩)
  go_ret
  exact ⟨rfl, hb1.trans (hb2.mono hb1.size)⟩

set_option maxHeartbeats 2000000 in
theorem walk_1 (b off len cap : Nat) (zs : List Int) (at_ : Int) (w : World) (R : Row w (some ⟨b, off, none⟩) len zs) (hr : len * 8 ≤ 140737488351232) (h0 : 0 < len) (hcap : len ≤ cap) (hcm : cap ≤ 9223372036854775807)
    (a1 : -9223372036854775808 ≤ at_) (a2 : at_ ≤ 9223372036854775807) :
    Calls Try.prog 3 #[.slice (some ⟨b, off, none⟩) len cap, .int .i64 at_] w fun e w' => e = .returned (.bool true) ∧ Below w.heap.size w w' := by
  obtain ⟨i0, hi, hz0, hz1, hz2⟩ := info_parts info2
  have hne : ((len : Int) == 0) = false := by simp; omega
  have HL : Hid (zs.length = len) := R.size
  have HR : Hid _ := R
  clear R
  go_enter Try.func3, Try.ntmps3
  go_wp2
  go_loopg [5, 6] len (fun g v i wr => ∃ (j : Nat), j + g = len ∧ i = .int .i64 ((len : Int) - 1 - j) ∧ wr.ownsRow w.heap.size 2 1 v j ((zs.reverse.take j).map (Value.int .i64)) ∧ Below w.heap.size w wr)
  case atStart => exact ⟨0, by omega, by go_num, World.ownsRow_nil _ _ _ _, Below.refl _ _⟩
  case round =>
    obtain ⟨j, hjg, rfl, hown, hB⟩ := hrel
    have HJ : Hid (j + gk = len) := hjg
    have hj : j ≤ len := by omega
    clear hjg
    by_cases hlt : j < len
    · obtain ⟨b', off', e', hb, hc⟩ := HR.out.mem.resolve_left (by omega)
      have e' := Option.some.inj e'
      injection e' with e1 e2
      subst e1 e2
      have c0 := (hB.cell (p := ⟨b, off + (len - 1 - j), none⟩) hb).trans (hc (len - 1 - j) (by omega))
      obtain ⟨x, hx⟩ : ∃ x, zs.getD (len - 1 - j) 0 = x := ⟨_, rfl⟩
      rw [hx] at c0
      have HX : Hid _ := hx
      clear hx hc
      have ei : ((len : Int) - 1 - j) = ((len - 1 - j : Nat) : Int) := by omega
      rw [ei]
      have hk : len - 1 - j < len := by omega
      obtain ⟨k, ek⟩ : ∃ k, len - 1 - j = k := ⟨_, rfl⟩
      rw [ek] at c0 hk
      rw [ek]
      have EK : Hid _ := ek
      clear ek ei
      have hI : (k : Int) < (len : Int) := by omega
      obtain ⟨xs, hxs⟩ : ∃ xs, (zs.reverse.take j).map (Value.int .i64) = xs := ⟨_, rfl⟩
      rw [hxs] at hown
      have HXS : Hid _ := hxs
      clear hxs
      go_wp2_with (at_builtin; refine wpList_append_own _ rfl _ _ 22 rfl w.heap.size 2 i0 (.int .i64 0) 1 8 Try.underlying22 hi hz0 hz1 hz2 rfl (by decide) _ _ _ rfl (hown.alloc _) ⟨wr.heap.size, 0, none⟩ 1 1 [.int .i64 x] rfl rfl ?c1 ?c2 ?c3 ?c4 ?c5 ?_)
      case c2 => rfl
      case c3 => unfold maxLen; omega
      case c4 => omega
      case c5 => have := hB.size; simp; omega
      intro v' w1 hown1 hg1 _
      have hB1 : Below w.heap.size w w1 := (hB.alloc hB.size _).grown hg1 (by have := hB.size; simp; omega) (by
        intro q hq
        rcases hown.2 with ⟨rfl, _⟩ | ⟨g, c, cur, rfl, hg, _⟩
        · simp [Value.ownBlock] at hq
        · simp [Value.ownBlock] at hq; omega)
      clear hg1 hown hB c0
      go_wp2
      go_roundg (gk - 1)
      case measure => have := HJ.out; omega
      case rel =>
        refine ⟨j + 1, by have := HJ.out; omega, ?_, ?_, hB1⟩
        · have := EK.out
          have e : ((k : Int) - 1) = (len : Int) - 1 - ((j + 1 : Nat) : Int) := by omega
          rw [e]
        · rw [rev_snoc zs j (by have := HL.out; omega), HL.out, HX.out, List.map_append, HXS.out]
          exact hown1
    · have hj' : j = len := by omega
      subst hj'
      obtain ⟨a', c', hv, RO⟩ := row_own hown (by unfold maxLen; omega) (bd_all fun n hn => by
        have hn' : n ∈ zs := by simpa using List.mem_of_mem_take hn
        obtain ⟨q, hq, rfl⟩ := List.getElem_of_mem hn'
        have := HR.out.bd q
        rwa [List.getD_eq_getElem?_getD, List.getElem?_eq_getElem hq] at this)
      rw [List.take_of_length_le (by have := HL.out; simp; omega)] at RO
      rw [hv]
      clear hv hown
      obtain ⟨K, hK, hKl⟩ := rem_k at_ j h0 (by omega)
      have RA := HR.out.below hB
      have SR : Hid (sqs zs.reverse = sqs zs) := sqs_reverse zs
      have h0 : (0 : Int) < (j : Int) := by omega
      go_wp2_with fail
      refine (squares_any _ _ _ zs _ RA).mono ?_
      rintro e w1 ⟨rfl, hb1⟩
      have I : Inv w zs w1.heap.size (w1.alloc (.cells #[.int .u64 (hiW (sqs zs)), .int .u64 (lo64 (sqs zs))] 25)) := ⟨Two.new _ _ _ _, (hB.trans (hb1.mono hB.size)).alloc (by have := hB.size; have := hb1.size; omega) _⟩
      have RO1 : Row (w1.alloc (.cells #[.int .u64 (hiW (sqs zs)), .int .u64 (lo64 (sqs zs))] 25)) a' j zs.reverse := Row.alloc (RO.below hb1) _
      clear RO RA hb1
      go_upto_region 10 with fail
      go_cut [47] (fun c wx => c = .bool false ∧ Inv w zs w1.heap.size wx)
      case first =>
        go_region_with (go_at_call 4; refine (squares_any _ _ _ zs.reverse _ (by first | exact Row.drew RO1 | exact RO1)).mono ?_; rintro e w2 ⟨rfl, hb2⟩; rw [SR.out]; have I2 : Inv w zs w1.heap.size w2 := Inv.below (by first | exact Inv.drew I | exact I) hb2; obtain ⟨p0, p1, _, _, _⟩ := id I2.two)
        all_goals go_wp2_with fail
        all_goals go_meet
        all_goals exact ⟨rfl, I2⟩
      case rest =>
        obtain ⟨rfl, I2⟩ := hcut
        clear I RO1
        have Z := I2.two.2.2.2.2
        have Y := I2.old.size
        have hKi : (K : Int) < (j : Int) := by omega
        have hKc : ¬ cap - K = 0 := by omega
        have b0 : (0 : Int) ≤ (K : Int) := by omega
        have b1 : (K : Int) ≤ (j : Int) := by omega
        have b2 : (j : Int) ≤ (cap : Int) := by omega
        have b3 : (K : Int) ≤ (cap : Int) := by omega
        have hKd : ¬ cap = K := by omega
        obtain ⟨s11, s12⟩ := hiW_bd (sqs (zs.take K))
        obtain ⟨s13, s14⟩ := lo64_bd (sqs (zs.take K))
        obtain ⟨s21, s22⟩ := hiW_bd (sqs (zs.drop K))
        obtain ⟨s23, s24⟩ := lo64_bd (sqs (zs.drop K))
        go_upto_region 12 with fail
        go_cut [9, 10] (fun p o wx => ∃ blk, p = .pointer (some ⟨blk, 0, none⟩) ∧ o = .bool (!ovW (val (hiW (sqs (zs.take K))) (lo64 (sqs (zs.take K))) + val (hiW (sqs (zs.drop K))) (lo64 (sqs (zs.drop K))))) ∧ Two wx blk (.int .u64 (plH (val (hiW (sqs (zs.take K))) (lo64 (sqs (zs.take K))) + val (hiW (sqs (zs.drop K))) (lo64 (sqs (zs.drop K)))))) (.int .u64 (plL (val (hiW (sqs (zs.take K))) (lo64 (sqs (zs.take K))) + val (hiW (sqs (zs.drop K))) (lo64 (sqs (zs.drop K)))))) ∧ Inv w zs w1.heap.size wx)
        case first =>
          go_region_held3 (fun w' => Inv w zs w1.heap.size w') (first | exact Inv.drew (by assumption) | assumption | exact Inv.alloc (by assumption) _ | exact Inv.far2 (by assumption) _ _ _ (by omega) (by omega)) (first
            | (go_at_call_of 4 (Value.slice (some ⟨b, off, none⟩) K cap); refine (squares_any _ _ _ (zs.take K) _ (by first | exact Row.take (HR.out.below (Inv.drew I2).old) K (by omega) | exact Row.take (HR.out.below (Inv.drew (Inv.alloc I2 _)).old) K (by omega) | exact Row.take (HR.out.below I2.old) K (by omega) | exact Row.take (HR.out.below (Inv.alloc I2 _).old) K (by omega))).mono ?_; rintro e w2 ⟨rfl, hb2⟩; have I2 : Inv w zs w1.heap.size w2 := Inv.below (by first | exact Inv.drew I2 | exact Inv.drew (Inv.alloc I2 _) | exact I2 | exact Inv.alloc I2 _) hb2; have Z := I2.two.2.2.2.2; have Y := I2.old.size; (first | (have U9 := Two.below U9 hb2) | (have U9 := Two.below (Two.drew (Two.new _ _ _ _)) hb2) | (have U9 := Two.below (Two.new _ _ _ _) hb2) | skip))
            | (go_at_call_of 4 (j - K); refine (squares_any _ _ _ (zs.drop K) _ (by first | exact Row.drop (HR.out.below (Inv.drew I2).old) K (by omega) | exact Row.drop (HR.out.below (Inv.drew (Inv.alloc I2 _)).old) K (by omega) | exact Row.drop (HR.out.below I2.old) K (by omega) | exact Row.drop (HR.out.below (Inv.alloc I2 _).old) K (by omega))).mono ?_; rintro e w2 ⟨rfl, hb2⟩; have I2 : Inv w zs w1.heap.size w2 := Inv.below (by first | exact Inv.drew I2 | exact Inv.drew (Inv.alloc I2 _) | exact I2 | exact Inv.alloc I2 _) hb2; have Z := I2.two.2.2.2.2; have Y := I2.old.size; (first | (have U9 := Two.below U9 hb2) | (have U9 := Two.below (Two.drew (Two.new _ _ _ _)) hb2) | (have U9 := Two.below (Two.new _ _ _ _) hb2) | skip))
            | (go_at_call 6; refine (plus_any _ _ _ _ _ (by assumption) (by assumption) (by assumption) (by assumption) (by assumption) (by assumption) (by assumption) (by assumption)).mono ?_; rintro e w2 ⟨rfl, hb2⟩; have I2 : Inv w zs w1.heap.size w2 := Inv.below (by first | exact Inv.drew I2 | exact Inv.drew (Inv.alloc I2 _) | exact I2 | exact Inv.alloc I2 _) hb2; have Z := I2.two.2.2.2.2; have Y := I2.old.size; (first | (have U9 := Two.below U9 hb2) | (have U9 := Two.below (Two.drew (Two.new _ _ _ _)) hb2) | (have U9 := Two.below (Two.new _ _ _ _) hb2) | skip); (first | (obtain ⟨p4, p5, r4, r5, y4⟩ := id U9) | skip)))
          all_goals go_wp2_with fail
          all_goals go_meet
          all_goals
            first
              | (refine ⟨_, rfl, rfl, Two.new _ _ _ _, ?_⟩
                 with_reducible exact Inv.alloc I2 _)
              | (refine ⟨_, rfl, rfl, Two.set U9 _ _, ?_⟩
                 with_reducible exact Inv.far2 I2 _ _ _ (by omega) (by omega))
        case rest =>
          obtain ⟨blk, rfl, rfl, U9, I3⟩ := hcut
          obtain ⟨p4, p5, r4, r5, y4⟩ := id U9
          obtain ⟨p0, p1, r0, r1, y0⟩ := id I3.two
          have PS : Hid _ := parts_sum zs K
          by_cases ho : ovW (val (hiW (sqs (zs.take K))) (lo64 (sqs (zs.take K))) + val (hiW (sqs (zs.drop K))) (lo64 (sqs (zs.drop K)))) = true
          · go_wp2_with (go_at_call 5; refine (awake_any _).mono ?_; rintro e w5 ⟨rfl, hb5⟩)
            go_ret
            exact ⟨rfl, I3.old.trans (hb5.mono I3.old.size)⟩
          · have ho : ovW (val (hiW (sqs (zs.take K))) (lo64 (sqs (zs.take K))) + val (hiW (sqs (zs.drop K))) (lo64 (sqs (zs.drop K)))) = false := by simpa using ho
            have e1 := PS.out.1 ho
            have e2 := PS.out.2 ho
            rw [e1] at p4
            rw [e2] at p5
            clear e1 e2
            go_wp2_with (go_at_call 5; refine (awake_any _).mono ?_; rintro e w5 ⟨rfl, hb5⟩)
            go_ret
            exact ⟨rfl, I3.old.trans (hb5.mono I3.old.size)⟩

theorem walk (a : Option Addr) (len cap : Nat) (zs : List Int) (at_ : Int) (w : World) (R : Row w a len zs) (hr : len * 8 ≤ 140737488351232) (hn : a = none → cap = 0) (hc : len ≤ cap ∧ cap ≤ 9223372036854775807) (wa : (Lit.int .i64 at_).wf = true) :
    Calls Try.prog 3 #[.slice a len cap, .int .i64 at_] w fun e w' => e = .returned (.bool true) ∧ Below w.heap.size w w' := by
  by_cases h0 : len = 0
  · subst h0
    have : zs = [] := List.eq_nil_of_length_eq_zero R.size
    subst this
    exact walk_0 a cap at_ w R
  · obtain ⟨b, off, rfl, _, _⟩ := R.mem.resolve_left h0
    exact walk_1 b off len cap zs at_ w R hr (by omega) hc.1 hc.2 (wf_bd wa).1 (wf_bd wa).2

set_option maxRecDepth 100000 in
theorem lifted (os : Os) (started : os.Started) (H : Type) (enc : TypeId × Value → H) :
    ReturnsInHanded {} Try.checked os 3 .any (Rows.numTurnedSpec.pre6 enc Try.prog Try.f3 Rows.numTurnedRow.domain false) (Rows.numTurnedSpec.post enc Try.prog Try.f3 false true false false) := by
  refine returnsInHanded_of_change_sized (C := Try.checked) own started (by kernel_rfl) Try.func3
    (ChangeSpec.witness6 (enc := enc) (C := Try.checked) false ⟨#[], #[.slice none 0 0, .int .i64 0], []⟩ 8 (by kernel_rfl) (by kernel_rfl) (by kernel_rfl) (by kernel_rfl)) ?_
  intro W base args ds gs before hval0 hW hcnd hsz0 _
  have hval : ∀ (j : Nat) t v, Try.f3.params[j]? = some t → args[j]? = some v → Value.okWide Try.prog W .any base t v := hval0
  have hsz : (DataW.weightsEach Try.prog (Try.f3.params.toList ++ Rows.numTurnedSpec.plain.varTypes Try.prog) (ds ++ gs)).all (· ≤ reachBytes) = true := hsz0
  clear hsz0
  have hW' := hW
  obtain ⟨p, q, hA0, hV, rfl, hfz, hnd⟩ := hW
  have hA : DataW.TrodAll enc Try.prog W 0 (fun _ => true) true Try.f3.params.toList args.toList ds p := hA0
  rw [Try.params3] at hA hval hsz
  obtain ⟨v0, vs0, d0, ds0, p0, q0, hargs, rfl, rfl, h0, r0⟩ := trodAll_cons hA
  obtain ⟨v1, vs1, d1, ds1, p1, q1, rfl, rfl, rfl, h1, r1⟩ := trodAll_cons r0
  obtain ⟨rfl, rfl, rfl⟩ := trodAll_nil r1
  obtain rfl : args = #[v0, v1] := by cases args; simp_all
  obtain ⟨rfl, rfl⟩ := trodVars_none hV
  obtain ⟨a0, len0, cap0, rfl⟩ := okWide_slice Try.underlying22 (hval 0 22 v0 rfl rfl)
  have k0 := h0
  have lt0 : ∀ x ∈ p0, x.block < W.heap.size := by obtain ⟨m, hm⟩ := k0; exact DataW.trod_lt m _ _ _ hm
  obtain ⟨z0, w0, u0, n0, cc0⟩ : ∃ zs, Row W a0 len0 zs ∧ len0 * 8 ≤ 140737488351232 ∧ (a0 = none → cap0 = 0) ∧ len0 ≤ cap0 ∧ cap0 ≤ 9223372036854775807 := by
    obtain ⟨fuel, hf⟩ := h0
    rcases open_ints Try.underlying22 Try.underlying2 (by kernel_rfl) hf with ⟨hcs, _⟩ | ⟨x, l, c, zs, hcs, _, hl, hm, hz, hx, hcell, hwz⟩
    · simp [Value.cells] at hcs
      obtain ⟨rfl, rfl, rfl⟩ := hcs
      exact ⟨[], row_nil W, by omega, (fun _ => rfl), by omega, by omega⟩
    · simp [Value.cells] at hcs
      obtain ⟨rfl, rfl, rfl⟩ := hcs
      simp only [Prod.mk.injEq] at hx
      obtain ⟨hd, _⟩ := hx
      subst hd
      have hz' : zs.length = cap0 := by simpa using hz
      have hs := sized_slice hsz (j := 0) (t := 22) (e := 2) rfl rfl Try.underlying22
      rw [bytes2] at hs
      simp only [lits, List.length_map, List.length_take, List.length_drop, reachBytes] at hs
      exact ⟨zs.take len0, row_mk hl hm hz' hcell hwz, by omega, (fun h => by cases h), hl, by unfold maxLen at hm; omega⟩
  obtain ⟨a1, rfl, rfl, rfl, w1⟩ := open_int Try.underlying3 (hval 1 3 v1 rfl rfl) h1
  clear hA0 hval0
  refine (walk a0 len0 cap0 z0 a1 W w0 u0 n0 cc0 w1).mono fun e W' ⟨he, bel⟩ => ?_
  subst he
  exact ⟨_, rfl, _, _, _, [], _, [], hW', trodAll_mk1 (shut_bool Try.underlying4 _), (trodAll_cons_mk (Below.trod laidOut (by kernel_rfl) (of_decide_eq_true (by kernel_rfl)) k0 bel lt0) (trodAll_cons_mk (shut_int Try.underlying3 w1) trodAll_mk0)), rfl, bel.frame _, fun h => by cases h⟩

theorem over : Rows.numTurnedRow.holds Try.pinned (OpenSpec.ofChange Rows.numTurnedSpec) :=
  OpenClaim.holds_of_wide 3 Try.f3 rfl rfl rfl rfl rfl rfl rfl ⟨rfl, rfl, rfl, rfl, rfl⟩ rfl rfl rfl rfl rfl (by kernel_rfl) Try.func3 (by kernel_rfl)
    (of_decide_eq_true (by kernel_rfl)) (by unfold Func.isWrapper; first | (rw [if_pos (by decide +kernel)]; kernel_rfl) | (rw [if_neg (by decide +kernel)]; exact ⟨rfl, rfl⟩))
    (fun os started H enc _ => lifted os started H enc)

/-- The statement. -/
theorem proved : Rows.NumTurnedSaid := over
#print axioms proved
end Go.Proofs.Ytkhinpapiommiab.numTurned
