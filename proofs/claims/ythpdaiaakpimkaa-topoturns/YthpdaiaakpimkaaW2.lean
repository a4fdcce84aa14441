/-
  Package topo: the walk through the law TopoTurns.
-/
import Derived.Test.YthpdaiaakpimkaaW1
namespace Go.Proofs.Ythpdaiaakpimkaa
open Go.ChangeShapes Go.WideShapes Go.ChangeAt Go.RowKit
set_option linter.unusedVariables false
set_option linter.unusedSimpArgs false

theorem tr_get {l : List Int} {t N j : Nat} (h : j < N) : (tr l t N).getD j 0 = l.getD ((t + j) % l.length) 0 := by
  unfold tr
  rw [List.getD_eq_getElem?_getD, List.getElem?_map, List.getElem?_range h]
  rfl
theorem tn_len (l : List Int) (h : l.length ≤ 100000) : tn l (l.length : Int) = l.length := by
  unfold tn
  split <;> omega
/-- How often it was met among the first j, and where. -/
def cn (d j : Nat) : Int := if d < j then 1 else 0
def pl (d j : Nat) : Int := if d < j then (d : Int) + 1 else 0
set_option maxRecDepth 100000 in
set_option maxHeartbeats 8000000 in
theorem turns_walk (id : Int) (a : Option Addr) (len cap : Nat) (zs : List Int) (tI : Int) (w : World) (R : Row w a len cap zs) : Calls Try.prog 5 #[.int .i64 id, .slice a len cap, .int .i64 tI] w fun e w' => e = .returned (.bool true) ∧ Below w.heap.size w w' := by
  have K8 := rfit_any id a len cap zs tI w R
  by_cases hf : Ft id zs tI
  case neg =>
    rw [ft_false hf] at K8
    clear R hf
    go_enter Try.func5, Try.ntmps5
    go_wp2_with (first
      | (go_at_call 8; refine K8.mono ?_; clear K8; rintro e w1 ⟨rfl, hw⟩; rw [hw]; clear hw w1)
      | (go_at_call 9; refine (awake_any _).mono ?_; rintro e w1 ⟨rfl, B1⟩))
    go_ret
    exact ⟨rfl, B1⟩
  rw [ft_true hf] at K8
  have HS : Hid (zs.length = len) := R.size
  have hl6 : len ≤ 6 := by have := hf.2.1; rw [R.size] at this; exact this
  have hnd := hf.nd
  obtain ⟨t, rfl, ht⟩ := hf.turn
  rw [R.size] at ht
  have K18 : ∀ W i, Below w.heap.size w W → i < len → Calls Try.prog 18 #[.slice a len cap, .int .i64 (((t + i) % len : Nat) : Int)] W fun e w' => e = .returned (.tuple #[.int .i64 (zs.getD ((t + i) % len) 0), .int .i64 (((t + (i + 1)) % len : Nat) : Int), .bool true]) ∧ Below W.heap.size W w' := fun W i b hi => by
    have h := next_some a len cap zs ((t + i) % len) W (R.below b) (Nat.mod_lt _ (by omega))
    rw [show ((t + i) % len + 1) % len = (t + (i + 1)) % len from by rw [Nat.mod_add_mod]; rfl] at h
    exact h
  have K20 : ∀ W p, Below w.heap.size w W → p < len → Calls Try.prog 20 #[.slice a len cap, .int .i64 (t : Int), .int .i64 (zs.getD p 0)] W fun e w' => e = .returned (.int .i64 ((ds p len t : Int) + 1)) ∧ Below W.heap.size W w' := fun W p b hp => by
    have h := wait_any a len cap zs t (zs.getD p 0) W (R.below b) (by omega) ht hnd
    have hi : ix (zs.getD p 0) zs = p := hnd p (by rw [HS.out]; exact hp)
    rw [show wt zs t (zs.getD p 0) = (ds p len t : Int) + 1 from by unfold wt; rw [hi, HS.out, if_pos hp]] at h
    exact h
  have K22 : ∀ W, Below w.heap.size w W → Calls Try.prog 22 #[.slice a len cap, .int .i64 (t : Int), .int .i64 (len : Int)] W fun e w' => ∃ a' c', e = .returned (.slice a' len c') ∧ Row w' a' len c' (tr zs t len) ∧ Below W.heap.size W w' := fun W b => by
    have h := turns_all a len cap zs t (len : Int) W (R.below b) ht
    rw [show tn zs (len : Int) = len from by have := tn_len zs (by rw [HS.out]; omega); rw [HS.out] at this; exact this] at h
    exact h
  have HC : Hid (∀ p j, p < len → j < len → (zs.getD ((t + j) % len) 0 = zs.getD p 0 ↔ j = ds p len t)) := by
    show ∀ p j, p < len → j < len → _
    intro p j hp hj
    have hi : ix (zs.getD p 0) zs = p := hnd p (by rw [HS.out]; exact hp)
    have := hnd.turn (v := zs.getD p 0) (by rw [hi, HS.out]; exact hp) (t := t) (j := j) (by rw [HS.out]; omega) (by rw [HS.out]; exact hj)
    rw [hi, HS.out] at this
    exact this
  have HT : Hid (t < len ∨ t = 0) := ht
  have HL : Hid (len ≤ 6) := hl6
  have HR : Hid (Row w a len cap zs) := R
  clear R hf hnd ht hl6
  go_enter Try.func5, Try.ntmps5
  go_wp2_with (first
    | (go_at_call 8; refine K8.mono ?_; clear K8; rintro e w1 ⟨rfl, hw⟩; rw [hw]; clear hw w1))
  go_loopg [7, 8, 27] len (fun gk v7 v8 v27 wr => ∃ (i : Nat) (vv : Value), vv = v7 ∧ v8 = .int .i64 (((t + i) % len : Nat) : Int) ∧ v27 = .int .i64 (i : Int) ∧ i + gk = len ∧ wr.ownsRow w.heap.size 3 1 vv i ((tr zs t i).map iv) ∧ Below w.heap.size w wr)
  case atStart => exact ⟨0, _, rfl, by rw [Nat.add_zero, show t % len = t from by rcases HT.out with h | h; exact Nat.mod_eq_of_lt h; subst h; exact Nat.zero_mod _], by first | rfl | go_num, by omega, World.ownsRow_nil _ _ 3 1, Below.refl _ _⟩
  case round =>
    obtain ⟨i, vv, rfl, rfl, rfl, hgk, O, B⟩ := hrel
    have HG : Hid (i + gk = len) := hgk
    by_cases hi : i < len
    case pos =>
      have HI : Hid (i < len) := hi
      have hiI : (i : Int) < (len : Int) := by omega
      have KN := K18 wr i B hi
      have hT1 : (tr zs t (i + 1)).map iv = (tr zs t i).map iv ++ [iv (zs.getD ((t + i) % len) 0)] := by rw [tr_succ, List.map_append, HS.out]; rfl
      obtain ⟨u, hu⟩ : ∃ u, zs.getD ((t + i) % len) 0 = u := ⟨_, rfl⟩
      rw [hu] at hT1 KN
      obtain ⟨ys, hys⟩ : ∃ ys, (tr zs t i).map iv = ys := ⟨_, rfl⟩
      rw [hys] at O hT1
      have HY : Hid ((tr zs t (i + 1)).map iv = ys ++ [iv u]) := hT1
      obtain ⟨m, hme⟩ : ∃ m, (t + i) % len = m := ⟨_, rfl⟩
      obtain ⟨m', hme'⟩ : ∃ m', (t + (i + 1)) % len = m' := ⟨_, rfl⟩
      rw [hme] at KN ⊢
      rw [hme'] at KN
      have HM' : Hid ((t + (i + 1)) % len = m') := hme'
      have hwr : IntKind.i64.wrap ((i : Int) + 1) = (i : Int) + 1 := by rw [IntKind.wrap_i64]; have := HL.out; omega
      obtain ⟨av, cv, rfl⟩ := owns_slice O
      clear hT1 hys hu hme hme' hgk hi K18 K20 K22
      go_wp2_with (first
        | (go_at_call 18; refine KN.mono ?_; clear KN; rintro e w1 ⟨rfl, b1⟩; replace O := owns_later O b1; replace B := B.trans (b1.mono B.size); clear b1)
        | ((with_reducible show wpList _ _ _ (Oper.mk _ (Op.call { callee := Callee.builtin Builtin.append, args := _, argTypes := #[22, 22] }) _ _ _ _ :: _) _ _); go_must (refine wpList_append_int rfl _ _ rfl w.heap.size _ _ _ rfl (O.alloc _) ⟨w1.heap.size, 0, none⟩ u rfl (cell_one_new _ _ _) (by have := HL.out; have := HI.out; omega) (by have := B.size; simp; omega) ?_; intro g3 cap3 w3 O3 r3)))
      have B3 : Below w.heap.size w w3 := (B.alloc B.size _).grown r3 (by have := B.size; simp; omega) (fun j e => (O.lt j e).1)
      go_roundg (gk - 1)
      case measure => have := HG.out; have := HI.out; omega
      case rel => exact ⟨i + 1, _, rfl, by rw [HM'.out], by first | rfl | go_num, by have := HG.out; have := HI.out; omega, by rw [HY.out]; exact O3, B3⟩
    case neg =>
      have hin : i = len := by omega
      subst hin
      have hat : (t + i) % i = t := by
        rcases HT.out with h | h
        · rw [Nat.add_mod_right, Nat.mod_eq_of_lt h]
        · subst h; rw [Nat.zero_add, Nat.mod_self]
      rw [hat]
      obtain ⟨av, cv, rfl⟩ := owns_slice O
      have RG := owns_row O
      clear hgk hi HG O hat K18
      go_wp2
      go_loopg [46] i (fun gk v46 wr => ∃ (p : Nat) (Wo : World), Wo = wr ∧ v46 = .int .i64 (p : Int) ∧ p + gk = i ∧ Row Wo av i cv (tr zs t i) ∧ Below w.heap.size w Wo)
      case atStart => exact ⟨0, _, rfl, by first | rfl | go_num, by omega, RG, B⟩
      case round =>
        clear RG B
        obtain ⟨p, Wo, rfl, rfl, hgk, RG, B⟩ := hrel
        have HG : Hid (p + gk = i) := hgk
        by_cases hp : p < i
        case pos =>
          have HP : Hid (p < i) := hp
          have hpI : (p : Int) < (i : Int) := by omega
          have KW := K20
          have HC2 : Hid (∀ j, j < i → (zs.getD ((t + j) % i) 0 = zs.getD p 0 ↔ j = ds p i t)) := fun j hj => HC.out p j hp hj
          have KP := fun W b => K20 W p b hp
          obtain ⟨b0, off0, rfl, hb0, hc0⟩ := (HR.out.below B).mem.resolve_left (by omega)
          have c0 := hc0 p hp
          obtain ⟨x, hx⟩ : ∃ x, zs.getD p 0 = x := ⟨_, rfl⟩
          obtain ⟨d, hd⟩ : ∃ d, ds p i t = d := ⟨_, rfl⟩
          have HDL : Hid (d < i) := by show d < i; rw [← hd]; exact ds_lt (by have := HT.out; omega)
          rw [hx, hd] at HC2
          simp only [hx, hd] at KP
          rw [hx] at c0
          have hwp : IntKind.i64.wrap ((p : Int) + 1) = (p : Int) + 1 := by rw [IntKind.wrap_i64]; have := HL.out; omega
          obtain ⟨bg, og, rfl, hbg, hcg⟩ := RG.mem.resolve_left (by omega)
          have HCG : Hid (∀ k, k < i → Wo.cell? ⟨bg, og + k, none⟩ = some (.int .i64 ((tr zs t i).getD k 0))) := hcg
          clear hx hd hc0 hgk hp KW K20 K22 hb0 hbg hcg
          go_wp2
          go_loopg [14, 15, 52] i (fun gk v14 v15 v52 wr => ∃ (j : Nat), v14 = .int .i64 (cn d j) ∧ v15 = .int .i64 (pl d j) ∧ v52 = .int .i64 (j : Int) ∧ j + gk = i ∧ wr = Wo)
          case atStart => exact ⟨0, by first | rfl | (unfold cn; rw [if_neg (by omega)]), by first | rfl | (unfold pl; rw [if_neg (by omega)]), by first | rfl | go_num, by omega, rfl⟩
          case round =>
            obtain ⟨j, rfl, rfl, rfl, hgj, hwe⟩ := hrel
            subst hwe
            have HJ : Hid (j + gk = i) := hgj
            by_cases hj : j < i
            case pos =>
              have HJI : Hid (j < i) := hj
              have hjI : (j : Int) < (i : Int) := by omega
              have cg := HCG.out j hj
              rw [tr_get hj, HS.out] at cg
              have hjd := HC2.out j hj
              obtain ⟨y, hy⟩ : ∃ y, zs.getD ((t + j) % i) 0 = y := ⟨_, rfl⟩
              rw [hy] at cg hjd
              have hwj : IntKind.i64.wrap ((j : Int) + 1) = (j : Int) + 1 := by rw [IntKind.wrap_i64]; have := HL.out; omega
              clear hy hgj hj
              by_cases hyx : y = x
              · have hjd' : j = d := hjd.1 hyx
                have hyx' : (y == x) = true := by simpa using hyx
                have HD : Hid (j = d) := hjd'
                have e1 : cn d j = 0 := by unfold cn; rw [if_neg (by omega)]
                have hw1 : IntKind.i64.wrap (0 + 1) = 1 := by decide
                rw [e1]
                clear hjd hjd' hyx e1
                go_wp2
                go_roundg (i - j - 1)
                case measure => have := HJ.out; have := HJI.out; omega
                case rel => exact ⟨j + 1, by unfold cn; rw [if_pos (by have := HD.out; omega)]; first | done | rfl, by unfold pl; rw [if_pos (by have := HD.out; omega), ← HD.out]; first | done | rfl, by first | rfl | go_num, by have := HJ.out; have := HJI.out; omega, rfl⟩
              · have hjd' : j ≠ d := fun e => hyx (hjd.2 e)
                have hyx' : (y == x) = false := by simpa using hyx
                have e1 : cn d (j + 1) = cn d j := by unfold cn; split <;> split <;> omega
                have e2 : pl d (j + 1) = pl d j := by unfold pl; split <;> split <;> omega
                obtain ⟨c1, hc1⟩ : ∃ c, cn d j = c := ⟨_, rfl⟩
                obtain ⟨c2, hc2⟩ : ∃ c, pl d j = c := ⟨_, rfl⟩
                rw [hc1, hc2]
                rw [hc1] at e1
                rw [hc2] at e2
                have E1 : Hid (cn d (j + 1) = c1) := e1
                have E2 : Hid (pl d (j + 1) = c2) := e2
                clear hjd hjd' hyx e1 e2 hc1 hc2
                go_wp2
                go_roundg (i - j - 1)
                case measure => have := HJ.out; have := HJI.out; omega
                case rel => exact ⟨j + 1, by rw [E1.out], by rw [E2.out], by first | rfl | go_num, by have := HJ.out; have := HJI.out; omega, rfl⟩
            case neg =>
              have hji : j = i := by omega
              have hjI : ¬ (j : Int) < (i : Int) := by omega
              rw [show cn d j = 1 from by unfold cn; rw [if_pos (by have := HDL.out; omega)], show pl d j = (d : Int) + 1 from by unfold pl; rw [if_pos (by have := HDL.out; omega)]]
              clear hgj hj hji HJ
              go_wp2_with (go_at_call 20; refine (KP _ B).mono ?_; clear KP; rintro e w2 ⟨rfl, b2⟩; replace RG := RG.below b2; replace B := B.trans (b2.mono B.size); clear b2)
              go_roundg (i - p - 1)
              case measure => have := HG.out; have := HP.out; omega
              case rel => exact ⟨p + 1, _, rfl, by first | rfl | go_num, by have := HG.out; have := HP.out; omega, RG, B⟩
        case neg =>
          have hpI : ¬ (p : Int) < (i : Int) := by omega
          clear hgk hp
          go_wp2_with (first
            | (go_at_call 22; refine (K22 _ B).mono ?_; clear K22; rintro e w2 ⟨a2, c2, rfl, R2, b2⟩; replace RG := RG.below b2; replace B := B.trans (b2.mono B.size); clear b2)
            | (go_at_call 13; refine (same_any a2 i c2 av cv (tr zs t i) _ R2 RG).mono ?_; clear R2 RG; rintro e w3 ⟨rfl, b3⟩; replace B := B.trans (b3.mono B.size); clear b3)
            | (go_at_call 9; refine (awake_any _).mono ?_; rintro e w4 ⟨rfl, b4⟩; replace B := B.trans (b4.mono B.size); clear b4))
          go_ret
          exact ⟨rfl, B⟩
end Go.Proofs.Ythpdaiaakpimkaa
