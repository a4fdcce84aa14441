/-
  Whether a packet may have the items that it has (package wire).
-/
import Derived.Test.YticmjlnpjopfbaaDoorRowI
import Derived.Laws.Cover1
namespace Go.Proofs.YticmjlnpjopfbaaDoor
open Go.ChangeShapes Go.WideShapes Go.ChangeAt Go.RowKit
open C (ret_bool)
set_option linter.unusedVariables false

theorem less_tot : ∀ a b : List UInt8, (Op.bytesLess a b || a == b) = !Op.bytesLess b a
  | [], [] => rfl
  | [], _ :: _ => rfl
  | _ :: _, [] => rfl
  | a :: x, b :: y => by
    have ih := less_tot x y
    simp only [Op.bytesLess]
    rw [Bool.eq_iff_iff] at ih ⊢
    simp only [Bool.or_eq_true, beq_iff_eq, Bool.not_eq_true', Bool.and_eq_true, decide_eq_true_eq, List.cons.injEq, Bool.or_eq_false_iff, decide_eq_false_iff_not, Bool.and_eq_false_iff, beq_eq_false_iff_ne] at ih ⊢
    by_cases h1 : a = b
    · subst h1
      have : ¬ a < a := UInt8.lt_irrefl a
      simp [this]
      exact ih
    · have h2 : b ≠ a := fun h => h1 h.symm
      simp only [h1, h2, false_and, or_false, ne_eq, not_false_eq_true, true_or, and_true]
      constructor
      · intro h; exact UInt8.not_lt.2 (UInt8.le_of_lt h)
      · intro h; rcases UInt8.lt_or_eq_of_le (UInt8.not_lt.1 h) with k | k; exact k; exact absurd k h1

/-- The name ahead of the item at j. -/
def nmAt (l : List Itm) (j : Nat) : ByteArray := if j = 0 then ⟨#[]⟩ else (l.getD (j - 1) itZ).name
theorem place_of (l : List Itm) (j : Nat) : placeB l j = (itemB (l.getD j itZ) && !(Op.bytesLess (l.getD j itZ).name.toList (nmAt l j).toList || (l.getD j itZ).name.toList == (nmAt l j).toList)) := by
  unfold placeB nmAt
  by_cases h : j = 0
  · subst h
    simp only [beq_self_eq_true, Bool.true_or, Bool.and_true, if_true]
    generalize l.getD 0 itZ = x
    cases hi : itemB x with
    | false => rfl
    | true =>
      have h1 : 1 ≤ x.name.size := by
        simp [itemB, chanB, nameB, inB] at hi
        omega
      have h2 : x.name.toList.length = x.name.size := by rw [ByteArray.toList_eq]; rfl
      have e0 : (⟨#[]⟩ : ByteArray).toList = [] := by simp [ByteArray.toList_eq]
      rw [e0, less_tot]
      cases hq : x.name.toList with
      | nil => rw [hq] at h2; simp at h2; omega
      | cons c r => simp [Op.bytesLess]
  · have hb : (j == 0) = false := by simpa using h
    rw [hb, if_neg h, less_tot]
    simp
theorem items_bad {l : List Itm} {j : Nat} (hj : j < l.length) (h : placeB l j = false) : itemsB l = false := by
  unfold itemsB
  rw [List.all_eq_false]
  exact ⟨j, by simpa using hj, by simp [h]⟩
theorem items_all {l : List Itm} (h : ∀ i, i < l.length → placeB l i = true) : itemsB l = true := by
  unfold itemsB
  rw [List.all_eq_true]
  intro i hi
  exact h i (by simpa using hi)


set_option maxRecDepth 100000 in
set_option maxHeartbeats 4000000 in
theorem items_ask (k0 s d b l e el : Int) (its : List Itm) (hx : (k0 != 3) = false) (a : Option Addr) (len cap : Nat) (w : World) (R : RowI w a len cap its) (h8 : len ≤ 8) :
    Calls Tryd.prog 30 #[pkv ⟨k0, s, d, b, l, e, el, its⟩ a len cap] w fun e w' => e = .returned (.bool (itemsB its)) ∧ Below w.heap.size w w' := by
  have HR : Hid (RowI w a len cap its) := R
  have HL : Hid (its.length = len) := R.size
  clear R
  go_enter Tryd.func30, Tryd.ntmps30
  go_wp2
  go_loopg [3, 25] len (fun g la ix wr => ∃ (j : Nat), ix = .int .i64 j ∧ la = .string (nmAt its j) ∧ j + g = len ∧ Hid (∀ i, i < j → placeB its i = true) ∧ Below w.heap.size w wr)
  case atStart => exact ⟨0, rfl, rfl, by omega, fun i hi => by omega, (Below.refl _ _).alloc (Nat.le_refl _) _⟩
  case round =>
    obtain ⟨j, rfl, rfl, hg, HP, hB⟩ := hrel
    have HG : Hid (j + gk = len) := hg
    have hj : j ≤ len := by omega
    clear hg
    have hbs := hB.size
    by_cases hlt : j < len
    · obtain ⟨b, off, rfl, hb, hc⟩ := HR.out.mem.resolve_left (by omega)
      have hI : (j : Int) < (len : Int) := by omega
      have I0 := (hc j hlt).below hB
      clear hc
      have HPl := place_of its j
      have HN : nmAt its (j + 1) = (its.getD j itZ).name := by simp [nmAt]
      obtain ⟨x, hx⟩ : ∃ x, its.getD j itZ = x := ⟨_, rfl⟩
      rw [hx] at I0 HPl HN
      have HPl : Hid (placeB its j = (itemB x && !(Op.bytesLess x.name.toList (nmAt its j).toList || x.name.toList == (nmAt its j).toList))) := HPl
      have HN : Hid (nmAt its (j + 1) = x.name) := HN
      clear hx
      obtain ⟨la, hla⟩ : ∃ la, nmAt its j = la := ⟨_, rfl⟩
      rw [hla] at HPl ⊢
      clear hla
      cases hle : (Op.bytesLess x.name.toList la.toList || x.name.toList == la.toList) with
      | true =>
        have HE : Hid (itemsB its = false) := by
          show _ = _
          exact items_bad (j := j) (by have := HL.out; omega) (by rw [HPl.out, hle]; simp)
        clear HPl HN
        go_wp2_with (first
          | ((with_reducible show wpList _ _ _ (Oper.mk _ (Op.load 38 _) _ _ _ _ :: _) _ _); refine wpList_load38 _ rfl ?_ b (off + j * 19) x ?_ ?_ ?_; rfl; rfl; exact I0)
          | ((with_reducible show wpList _ _ _ (Oper.mk _ (Op.store 38 _ _) _ _ _ _ :: _) _ _); refine wpList_store38 _ _ rfl rfl x _ ?_ ?_ ?_ ?_; rfl; rfl; rfl))
        all_goals go_ret
        all_goals rw [HE.out]
        all_goals exact ⟨rfl, hB.alloc hbs _⟩
      | false =>
        cases hit : itemB x with
        | false =>
          have HE : Hid (itemsB its = false) := by
            show _ = _
            exact items_bad (j := j) (by have := HL.out; omega) (by rw [HPl.out, hit]; simp)
          clear HPl HN
          go_wp2_with (first
            | (go_at_call 16; refine (item_any x _).mono ?_; rintro e w1 ⟨rfl, hb1⟩; rw [hit]; have cN := (itAt_new wr x).below hb1 0 _ rfl)
            | ((with_reducible show wpList _ _ _ (Oper.mk _ (Op.store 38 _ _) _ _ _ _ :: _) _ _); refine wpList_store38 _ _ rfl rfl x _ ?_ ?_ ?_ ?_; rfl; rfl; rfl)
            | ((with_reducible show wpList _ _ _ (Oper.mk _ (Op.load 38 _) _ _ _ _ :: _) _ _); refine wpList_load38 _ rfl ?_ b (off + j * 19) x ?_ ?_ ?_; rfl; rfl; exact I0)
            | ((with_reducible show wpList _ _ _ (Oper.mk _ (Op.load 38 _) _ _ _ _ :: _) _ _); refine wpList_load38 _ rfl ?_ wr.heap.size 0 x ?_ ?_ ?_; rfl; rfl; exact itAt_new wr x))
          all_goals go_ret
          all_goals rw [HE.out]
          all_goals exact ⟨rfl, (hB.alloc hbs _).trans (hb1.mono (by simp; omega))⟩
        | true =>
          have HQ : Hid (placeB its j = true) := by show _ = _; rw [HPl.out, hit, hle]; rfl
          clear HPl
          go_wp2_with (first
            | (go_at_call 16; refine (item_any x _).mono ?_; rintro e w1 ⟨rfl, hb1⟩; rw [hit]; have cN := (itAt_new wr x).below hb1 0 _ rfl)
            | ((with_reducible show wpList _ _ _ (Oper.mk _ (Op.store 38 _ _) _ _ _ _ :: _) _ _); refine wpList_store38 _ _ rfl rfl x _ ?_ ?_ ?_ ?_; rfl; rfl; rfl)
            | ((with_reducible show wpList _ _ _ (Oper.mk _ (Op.load 38 _) _ _ _ _ :: _) _ _); refine wpList_load38 _ rfl ?_ b (off + j * 19) x ?_ ?_ ?_; rfl; rfl; exact I0)
            | ((with_reducible show wpList _ _ _ (Oper.mk _ (Op.load 38 _) _ _ _ _ :: _) _ _); refine wpList_load38 _ rfl ?_ wr.heap.size 0 x ?_ ?_ ?_; rfl; rfl; exact itAt_new wr x))
          go_roundg (gk - 1)
          case measure => have := HG.out; omega
          case rel => exact ⟨j + 1, by go_num, by rw [HN.out], by have := HG.out; omega, fun i hi => by rcases Nat.lt_or_ge i j with h | h; exact HP.out i h; rw [show i = j by omega]; exact HQ.out, (hB.alloc hbs _).trans (hb1.mono (by simp; omega))⟩
    · have HE : Hid (itemsB its = true) := by
        show _ = _
        exact items_all (fun i hi => HP.out i (by have := HL.out; omega))
      go_wp2
      go_ret
      rw [HE.out]
      exact ⟨rfl, hB⟩

set_option maxRecDepth 100000 in
set_option maxHeartbeats 4000000 in
theorem items_answer (k0 s d b l e el : Int) (its : List Itm) (hx : (k0 != 3) = true) (hy : (k0 != 4) = false) (a : Option Addr) (len cap : Nat) (w : World) (R : RowI w a len cap its) (h8 : len ≤ 8) :
    Calls Tryd.prog 30 #[pkv ⟨k0, s, d, b, l, e, el, its⟩ a len cap] w fun e w' => e = .returned (.bool (itemsB its)) ∧ Below w.heap.size w w' := by
  have HR : Hid (RowI w a len cap its) := R
  have HL : Hid (its.length = len) := R.size
  clear R
  go_enter Tryd.func30, Tryd.ntmps30
  go_wp2
  go_loopg [3, 25] len (fun g la ix wr => ∃ (j : Nat), ix = .int .i64 j ∧ la = .string (nmAt its j) ∧ j + g = len ∧ Hid (∀ i, i < j → placeB its i = true) ∧ Below w.heap.size w wr)
  case atStart => exact ⟨0, rfl, rfl, by omega, fun i hi => by omega, (Below.refl _ _).alloc (Nat.le_refl _) _⟩
  case round =>
    obtain ⟨j, rfl, rfl, hg, HP, hB⟩ := hrel
    have HG : Hid (j + gk = len) := hg
    have hj : j ≤ len := by omega
    clear hg
    have hbs := hB.size
    by_cases hlt : j < len
    · obtain ⟨b, off, rfl, hb, hc⟩ := HR.out.mem.resolve_left (by omega)
      have hI : (j : Int) < (len : Int) := by omega
      have I0 := (hc j hlt).below hB
      clear hc
      have HPl := place_of its j
      have HN : nmAt its (j + 1) = (its.getD j itZ).name := by simp [nmAt]
      obtain ⟨x, hx⟩ : ∃ x, its.getD j itZ = x := ⟨_, rfl⟩
      rw [hx] at I0 HPl HN
      have HPl : Hid (placeB its j = (itemB x && !(Op.bytesLess x.name.toList (nmAt its j).toList || x.name.toList == (nmAt its j).toList))) := HPl
      have HN : Hid (nmAt its (j + 1) = x.name) := HN
      clear hx
      obtain ⟨la, hla⟩ : ∃ la, nmAt its j = la := ⟨_, rfl⟩
      rw [hla] at HPl ⊢
      clear hla
      cases hle : (Op.bytesLess x.name.toList la.toList || x.name.toList == la.toList) with
      | true =>
        have HE : Hid (itemsB its = false) := by
          show _ = _
          exact items_bad (j := j) (by have := HL.out; omega) (by rw [HPl.out, hle]; simp)
        clear HPl HN
        go_wp2_with (first
          | ((with_reducible show wpList _ _ _ (Oper.mk _ (Op.load 38 _) _ _ _ _ :: _) _ _); refine wpList_load38 _ rfl ?_ b (off + j * 19) x ?_ ?_ ?_; rfl; rfl; exact I0)
          | ((with_reducible show wpList _ _ _ (Oper.mk _ (Op.store 38 _ _) _ _ _ _ :: _) _ _); refine wpList_store38 _ _ rfl rfl x _ ?_ ?_ ?_ ?_; rfl; rfl; rfl))
        all_goals go_ret
        all_goals rw [HE.out]
        all_goals exact ⟨rfl, hB.alloc hbs _⟩
      | false =>
        cases hit : itemB x with
        | false =>
          have HE : Hid (itemsB its = false) := by
            show _ = _
            exact items_bad (j := j) (by have := HL.out; omega) (by rw [HPl.out, hit]; simp)
          clear HPl HN
          go_wp2_with (first
            | (go_at_call 16; refine (item_any x _).mono ?_; rintro e w1 ⟨rfl, hb1⟩; rw [hit]; have cN := (itAt_new wr x).below hb1 0 _ rfl)
            | ((with_reducible show wpList _ _ _ (Oper.mk _ (Op.store 38 _ _) _ _ _ _ :: _) _ _); refine wpList_store38 _ _ rfl rfl x _ ?_ ?_ ?_ ?_; rfl; rfl; rfl)
            | ((with_reducible show wpList _ _ _ (Oper.mk _ (Op.load 38 _) _ _ _ _ :: _) _ _); refine wpList_load38 _ rfl ?_ b (off + j * 19) x ?_ ?_ ?_; rfl; rfl; exact I0)
            | ((with_reducible show wpList _ _ _ (Oper.mk _ (Op.load 38 _) _ _ _ _ :: _) _ _); refine wpList_load38 _ rfl ?_ wr.heap.size 0 x ?_ ?_ ?_; rfl; rfl; exact itAt_new wr x))
          all_goals go_ret
          all_goals rw [HE.out]
          all_goals exact ⟨rfl, (hB.alloc hbs _).trans (hb1.mono (by simp; omega))⟩
        | true =>
          have HQ : Hid (placeB its j = true) := by show _ = _; rw [HPl.out, hit, hle]; rfl
          clear HPl
          go_wp2_with (first
            | (go_at_call 16; refine (item_any x _).mono ?_; rintro e w1 ⟨rfl, hb1⟩; rw [hit]; have cN := (itAt_new wr x).below hb1 0 _ rfl)
            | ((with_reducible show wpList _ _ _ (Oper.mk _ (Op.store 38 _ _) _ _ _ _ :: _) _ _); refine wpList_store38 _ _ rfl rfl x _ ?_ ?_ ?_ ?_; rfl; rfl; rfl)
            | ((with_reducible show wpList _ _ _ (Oper.mk _ (Op.load 38 _) _ _ _ _ :: _) _ _); refine wpList_load38 _ rfl ?_ b (off + j * 19) x ?_ ?_ ?_; rfl; rfl; exact I0)
            | ((with_reducible show wpList _ _ _ (Oper.mk _ (Op.load 38 _) _ _ _ _ :: _) _ _); refine wpList_load38 _ rfl ?_ wr.heap.size 0 x ?_ ?_ ?_; rfl; rfl; exact itAt_new wr x))
          go_roundg (gk - 1)
          case measure => have := HG.out; omega
          case rel => exact ⟨j + 1, by go_num, by rw [HN.out], by have := HG.out; omega, fun i hi => by rcases Nat.lt_or_ge i j with h | h; exact HP.out i h; rw [show i = j by omega]; exact HQ.out, (hB.alloc hbs _).trans (hb1.mono (by simp; omega))⟩
    · have HE : Hid (itemsB its = true) := by
        show _ = _
        exact items_all (fun i hi => HP.out i (by have := HL.out; omega))
      go_wp2
      go_ret
      rw [HE.out]
      exact ⟨rfl, hB⟩

set_option maxRecDepth 100000 in
set_option maxHeartbeats 4000000 in
theorem items_any (p : Pkt) (a : Option Addr) (len cap : Nat) (w : World) (R : RowI w a len cap p.items) :
    Calls Tryd.prog 30 #[pkv p a len cap] w fun e w' => e = .returned (.bool (listB p)) ∧ Below w.heap.size w w' := by
  have hs := R.size
  have hm := R.max
  have hle := R.le
  obtain ⟨k, s, d, b, l, e, el, its⟩ := p
  simp only at hs
  unfold listB
  simp only
  by_cases h3 : k = 3
  · have hx : (k != 3) = false := by simpa using h3
    simp only [hx, Bool.false_and, Bool.false_eq_true, if_false]
    by_cases h8 : len ≤ 8
    · rw [show decide (its.length ≤ 8) = true by simp; omega, Bool.true_and]
      exact items_ask k s d b l e el its hx a len cap w R h8
    · rw [show decide (its.length ≤ 8) = false by simp; omega, Bool.false_and]
      have h8' : 8 < (len : Int) := by omega
      clear hs R h3
      go_enter Tryd.func30, Tryd.ntmps30
      go_wp2
      all_goals go_ret
      all_goals exact ⟨rfl, (Below.refl _ _).alloc (Nat.le_refl _) _⟩
  · have hx : (k != 3) = true := by simpa using h3
    by_cases h4 : k = 4
    · have hy : (k != 4) = false := by simpa using h4
      simp only [hx, hy, Bool.and_false, Bool.false_eq_true, if_false]
      by_cases h8 : len ≤ 8
      · rw [show decide (its.length ≤ 8) = true by simp; omega, Bool.true_and]
        exact items_answer k s d b l e el its hx hy a len cap w R h8
      · rw [show decide (its.length ≤ 8) = false by simp; omega, Bool.false_and]
        have h8' : 8 < (len : Int) := by omega
        clear hs R h3 h4
        go_enter Tryd.func30, Tryd.ntmps30
        go_wp2
        all_goals go_ret
        all_goals exact ⟨rfl, (Below.refl _ _).alloc (Nat.le_refl _) _⟩
    · have hy : (k != 4) = true := by simpa using h4
      simp only [hx, hy, Bool.and_true, if_true]
      rw [hs]
      clear hs R h3 h4
      go_enter Tryd.func30, Tryd.ntmps30
      go_wp2
      all_goals go_ret
      all_goals exact ⟨ret_bool (by first | rfl | (rw [Bool.eq_iff_iff]; simp)), (Below.refl _ _).alloc (Nat.le_refl _) _⟩

end Go.Proofs.YticmjlnpjopfbaaDoor
