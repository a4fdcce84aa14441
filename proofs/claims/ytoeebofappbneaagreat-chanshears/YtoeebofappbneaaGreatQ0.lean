/-
  Rising lists of records: how two are merged, with room or without.
-/
import Derived.Test.YtoeebofappbneaaGreatD1
namespace Go.Proofs.YtoeebofappbneaaGreat
open Go.ChangeShapes Go.WideShapes Go.ChangeAt Go.RowKit
set_option linter.unusedVariables false
set_option linter.unusedSimpArgs false

theorem less_total : ∀ a b : List UInt8, (Op.bytesLess a b || a == b) = !Op.bytesLess b a
  | [], [] => rfl
  | [], b :: y => rfl
  | a :: x, [] => rfl
  | a :: x, b :: y => by
    have ih := less_total x y
    simp only [Op.bytesLess, List.cons_beq_cons]
    rcases Nat.lt_trichotomy a.toNat b.toNat with h | h | h
    · have h1 : a < b := UInt8.lt_iff_toNat_lt.2 h
      have h2 : ¬ b < a := fun k => by have := UInt8.lt_iff_toNat_lt.1 k; omega
      have h3 : (b == a) = false := by simp; intro e; subst e; omega
      simp [h1, h2, h3]
    · have e : a = b := UInt8.toNat_inj.1 h
      subst e
      have h2 : ¬ a < a := fun k => by have := UInt8.lt_iff_toNat_lt.1 k; omega
      simp only [h2, decide_false, Bool.false_or, beq_self_eq_true, Bool.true_and]
      exact ih
    · have h1 : ¬ a < b := fun k => by have := UInt8.lt_iff_toNat_lt.1 k; omega
      have h2 : b < a := UInt8.lt_iff_toNat_lt.2 h
      have h3 : (a == b) = false := by simp; intro e; subst e; omega
      simp [h1, h2, h3]
theorem less_irrefl : ∀ a : List UInt8, Op.bytesLess a a = false
  | [] => rfl
  | a :: x => by
    have h2 : ¬ a < a := fun k => by have := UInt8.lt_iff_toNat_lt.1 k; omega
    simp [Op.bytesLess, h2, less_irrefl x]
theorem less_trans : ∀ a b c : List UInt8, Op.bytesLess a b = true → Op.bytesLess b c = true → Op.bytesLess a c = true
  | [], [], _, h, _ => by cases h
  | [], b :: y, [], _, h => by cases h
  | [], b :: y, c :: z, _, _ => rfl
  | a :: x, [], _, h, _ => by cases h
  | a :: x, b :: y, [], _, h => by cases h
  | a :: x, b :: y, c :: z, h, k => by
    have ih := less_trans x y z
    simp only [Op.bytesLess, Bool.or_eq_true, Bool.and_eq_true, decide_eq_true_eq, beq_iff_eq] at h k ⊢
    rcases h with h | ⟨rfl, h⟩
    · rcases k with k | ⟨rfl, k⟩
      · left; have h1 := UInt8.lt_iff_toNat_lt.1 h; have h2 := UInt8.lt_iff_toNat_lt.1 k; exact UInt8.lt_iff_toNat_lt.2 (by omega)
      · exact .inl h
    · rcases k with k | ⟨rfl, k⟩
      · exact .inl k
      · exact .inr ⟨rfl, ih h k⟩
theorem lt_irr (a : ByteArray) : ltN a a = false := less_irrefl _
theorem lt_trans' {a b c : ByteArray} (h : ltN a b = true) (k : ltN b c = true) : ltN a c = true := less_trans _ _ _ h k
theorem toList_inj {a b : ByteArray} (h : a.toList = b.toList) : a = b := by
  rw [ByteArray.toList_eq, ByteArray.toList_eq] at h
  obtain ⟨⟨x⟩⟩ := a
  obtain ⟨⟨y⟩⟩ := b
  simpa using h
theorem eqN_iff {a b : ByteArray} : eqN a b = true ↔ a = b := by
  unfold eqN
  rw [beq_iff_eq]
  exact ⟨toList_inj, fun h => by rw [h]⟩
theorem lt_asym {a b : ByteArray} (h : ltN a b = true) : ltN b a = false := by
  cases k : ltN b a with
  | false => rfl
  | true => have := lt_trans' h k; rw [lt_irr] at this; cases this
/-- One of three. -/
theorem three (a b : ByteArray) : (ltN a b = true ∧ ltN b a = false ∧ a ≠ b) ∨ (ltN b a = true ∧ ltN a b = false ∧ a ≠ b) ∨ (a = b ∧ ltN a b = false ∧ ltN b a = false) := by
  have h := less_total a.toList b.toList
  cases h1 : ltN a b with
  | true =>
    left
    exact ⟨rfl, lt_asym h1, fun e => by subst e; rw [lt_irr] at h1; cases h1⟩
  | false =>
    unfold ltN at h1
    rw [h1, Bool.false_or] at h
    right
    cases h2 : ltN b a with
    | true => left; exact ⟨rfl, rfl, fun e => by subst e; rw [lt_irr] at h2; cases h2⟩
    | false =>
      right
      unfold ltN at h2
      rw [h2] at h
      exact ⟨eqN_iff.1 h, rfl, rfl⟩
theorem lt_nil (s : ByteArray) (h : 1 ≤ s.size) : ltN ⟨#[]⟩ s = true := by
  unfold ltN
  have e : s.toList.length = s.size := by rw [ByteArray.toList_eq]; simp
  cases hs : s.toList with
  | nil => rw [hs] at e; simp at e; omega
  | cons x r =>
    have e0 : (⟨#[]⟩ : ByteArray).toList = [] := by rw [ByteArray.toList_eq]
    rw [e0]
    rfl
abbrev Rise (l : List CH) : Prop := l.Pairwise (fun x y => ltN x.nm y.nm = true)
abbrev FO := Option CH
/-- What two rising lists have of each name. -/
def zp : Nat → List CH → List CH → List (FO × FO)
  | 0, _, _ => []
  | _ + 1, [], [] => []
  | f + 1, a :: at9, [] => (some a, none) :: zp f at9 []
  | f + 1, [], b :: bs => (none, some b) :: zp f [] bs
  | f + 1, a :: at9, b :: bs => if ltN a.nm b.nm = true then (some a, none) :: zp f at9 (b :: bs) else if ltN b.nm a.nm = true then (none, some b) :: zp f (a :: at9) bs else (some a, some b) :: zp f at9 bs
theorem zp_fuel : ∀ (f g : Nat) (l m : List CH), l.length + m.length ≤ f → l.length + m.length ≤ g → zp f l m = zp g l m
  | 0, g, l, m, h, k => by
    have e1 := List.eq_nil_of_length_eq_zero (l := l) (by omega)
    have e2 := List.eq_nil_of_length_eq_zero (l := m) (by omega)
    subst e1 e2
    cases g <;> rfl
  | f + 1, 0, l, m, h, k => by
    have e1 := List.eq_nil_of_length_eq_zero (l := l) (by omega)
    have e2 := List.eq_nil_of_length_eq_zero (l := m) (by omega)
    subst e1 e2
    rfl
  | f + 1, g + 1, [], [], h, k => rfl
  | f + 1, g + 1, a :: at9, [], h, k => by simp only [zp, zp_fuel f g at9 [] (by simp at *; omega) (by simp at *; omega)]
  | f + 1, g + 1, [], b :: bs, h, k => by simp only [zp, zp_fuel f g [] bs (by simp at *; omega) (by simp at *; omega)]
  | f + 1, g + 1, a :: at9, b :: bs, h, k => by
    simp only [zp, zp_fuel f g at9 (b :: bs) (by simp at *; omega) (by simp at *; omega), zp_fuel f g (a :: at9) bs (by simp at *; omega) (by simp at *; omega), zp_fuel f g at9 bs (by simp at *; omega) (by simp at *; omega)]
def Z (l m : List CH) : List (FO × FO) := zp (l.length + m.length) l m
theorem Z_f {f : Nat} {l m : List CH} (h : l.length + m.length ≤ f) : zp f l m = Z l m := zp_fuel _ _ _ _ h (Nat.le_refl _)
theorem Z_nn : Z [] [] = [] := rfl
theorem Z_l (a : CH) (at9 : List CH) : Z (a :: at9) [] = (some a, none) :: Z at9 [] := by unfold Z; simp only [List.length_cons, List.length_nil, Nat.add_zero]; rfl
theorem Z_r (b : CH) (bs : List CH) : Z [] (b :: bs) = (none, some b) :: Z [] bs := by unfold Z; simp only [List.length_cons, List.length_nil, Nat.zero_add]; rfl
theorem Z_c (a : CH) (at9 : List CH) (b : CH) (bs : List CH) : Z (a :: at9) (b :: bs) = if ltN a.nm b.nm = true then (some a, none) :: Z at9 (b :: bs) else if ltN b.nm a.nm = true then (none, some b) :: Z (a :: at9) bs else (some a, some b) :: Z at9 bs := by
  rw [← Z_f (f := at9.length + bs.length + 1 + 1) (by simp; omega)]
  simp only [zp]
  rw [Z_f (by simp; omega), Z_f (by simp; omega), Z_f (by omega)]
theorem Z_lt {a : CH} {at9 : List CH} {m : List CH} (h : ∀ y ∈ m, ltN a.nm y.nm = true) : Z (a :: at9) m = (some a, none) :: Z at9 m := by
  cases m with
  | nil => exact Z_l a at9
  | cons b bs => rw [Z_c, if_pos (h b (.head _))]
/-- Which one of two of a name stands: the first, but where the second is newer. -/
def pk (a b : CH) : CH := if b.nw a = true then b else a
/-- What comes of it, with room for so many names more. -/
def GL : Int → List (FO × FO) → List CH
  | _, [] => []
  | r, (some a, none) :: z => a :: GL r z
  | r, (none, some b) :: z => if 0 < r then b :: GL (r - 1) z else GL r z
  | r, (some a, some b) :: z => pk a b :: GL r z
  | r, (none, none) :: z => GL r z
/-- What becomes of the last one that was told. -/
def vd (a b : FO) (r : Int) : Int := match a, b with
  | none, some _ => if 0 < r then 4 else 5
  | some a, some b => if b.nw a = true then 3 else if a.nw b = true then 1 else 2
  | _, none => 0
def rm (a b : FO) (r : Int) : Int := match a, b with
  | none, some _ => if 0 < r then r - 1 else r
  | _, _ => r
def GW : Int → Int → List (FO × FO) → Int
  | _, w, [] => w
  | r, _, (a, some b) :: z => GW (rm a (some b) r) (vd a (some b) r) z
  | r, w, (_, none) :: z => GW r w z
/-- One record, put in its place. -/
def ins : List CH → CH → List CH
  | [], c => [c]
  | a :: at9, c => if ltN a.nm c.nm = true then a :: ins at9 c else if ltN c.nm a.nm = true then c :: a :: at9 else c :: at9
def lk (k : ByteArray) : List CH → Option CH
  | [] => none
  | a :: at9 => if a.nm = k then some a else lk k at9
/-- What Learn makes of a rising list, and what it tells. -/
def lrnL (l : List CH) (c : CH) : List CH := match lk c.nm l with
  | none => if 8 ≤ l.length then l else ins l c
  | some o => if c.nw o = true then ins l c else l
def lrnW (l : List CH) (c : CH) : Int := match lk c.nm l with
  | none => if 8 ≤ l.length then 5 else 4
  | some o => if c.nw o = true then 3 else if o.nw c = true then 1 else 2
/-- The same with room counted on its own. -/
def insR (r : Int) (l : List CH) (c : CH) : List CH := match lk c.nm l with
  | none => if 0 < r then ins l c else l
  | some o => if c.nw o = true then ins l c else l
def insM (r : Int) (l : List CH) (c : CH) : Int := match lk c.nm l with
  | none => if 0 < r then r - 1 else r
  | some _ => r
theorem lk_lt {k : ByteArray} {l : List CH} (h : ∀ y ∈ l, ltN k y.nm = true) : lk k l = none := by
  induction l with
  | nil => rfl
  | cons a at9 ih =>
    have h1 := h a (.head _)
    rw [lk, if_neg (fun e => by rw [e, lt_irr] at h1; cases h1)]
    exact ih fun y hy => h y (.tail _ hy)
theorem lrn_ins (l : List CH) (c : CH) : lrnL l c = insR (8 - l.length) l c := by
  unfold lrnL insR
  split
  · by_cases h : 8 ≤ l.length
    · rw [if_pos h, if_neg (by omega)]
    · rw [if_neg h, if_pos (by omega)]
  · rfl
theorem ins_lt {a c : CH} {at9 : List CH} (h : ltN a.nm c.nm = true) : ins (a :: at9) c = a :: ins at9 c := by rw [ins, if_pos h]
theorem insR_lt {a c : CH} {at9 : List CH} {r : Int} (h : ltN a.nm c.nm = true) : insR r (a :: at9) c = a :: insR r at9 c := by
  have hn : a.nm ≠ c.nm := fun e => by rw [e, lt_irr] at h; cases h
  unfold insR
  rw [lk, if_neg hn, ins_lt h]
  split <;> split <;> rfl
theorem insM_lt {a c : CH} {at9 : List CH} {r : Int} (h : ltN a.nm c.nm = true) : insM r (a :: at9) c = insM r at9 c := by
  have hn : a.nm ≠ c.nm := fun e => by rw [e, lt_irr] at h; cases h
  unfold insM
  rw [lk, if_neg hn]
/-- The first of more is taken in by itself. -/
theorem GL_step (r : Int) (l : List CH) (c : CH) (m : List CH) (hl : Rise l) (hm : ∀ y ∈ m, ltN c.nm y.nm = true) : GL r (Z l (c :: m)) = GL (insM r l c) (Z (insR r l c) m) := by
  induction l with
  | nil =>
    rw [Z_r]
    unfold insM insR
    simp only [lk]
    show (if 0 < r then c :: GL (r - 1) (Z [] m) else GL r (Z [] m)) = _
    by_cases h : 0 < r
    · rw [if_pos h, if_pos h, if_pos h]
      show _ = GL _ (Z [c] m)
      rw [Z_lt hm]
      rfl
    · rw [if_neg h, if_neg h, if_neg h]
  | cons a at9 ih =>
    have hr := List.pairwise_cons.1 hl
    rw [Z_c]
    rcases three a.nm c.nm with ⟨h1, h2, h3⟩ | ⟨h1, h2, h3⟩ | ⟨h1, h2, h3⟩
    · rw [if_pos h1, insR_lt h1, insM_lt h1, Z_lt (fun y hy => lt_trans' h1 (hm y hy))]
      show a :: _ = a :: _
      rw [ih hr.2]
    · rw [if_neg (by rw [h2]; decide), if_pos h1]
      have hn : lk c.nm (a :: at9) = none := lk_lt fun y hy => by
        rcases List.mem_cons.1 hy with rfl | hy
        · exact h1
        · exact lt_trans' h1 (hr.1 y hy)
      unfold insM insR
      rw [hn]
      show (if 0 < r then _ else _) = _
      by_cases h : 0 < r
      · rw [if_pos h]
        show _ = GL (if 0 < r then _ else _) (Z (if 0 < r then _ else _) m)
        rw [if_pos h, if_pos h, ins, if_neg (by rw [h2]; decide), if_pos h1, Z_lt hm]
        rfl
      · rw [if_neg h]
        show _ = GL (if 0 < r then _ else _) (Z (if 0 < r then _ else _) m)
        rw [if_neg h, if_neg h]
    · rw [if_neg (by rw [h2]; decide), if_neg (by rw [h3]; decide)]
      unfold insM insR
      rw [lk, if_pos h1]
      show pk a c :: GL r (Z at9 m) = GL r (Z (if c.nw a = true then _ else _) m)
      unfold pk
      by_cases h : c.nw a = true
      · rw [if_pos h, if_pos h, ins, if_neg (by rw [h2]; decide), if_neg (by rw [h3]; decide), Z_lt hm]
        rfl
      · rw [if_neg h, if_neg h, Z_lt (fun y hy => by rw [h1]; exact hm y hy)]
        rfl
theorem GL_none (r : Int) (l : List CH) : GL r (Z l []) = l := by
  induction l with
  | nil => rfl
  | cons a at9 ih => rw [Z_l]; show a :: _ = _; rw [ih]
/-- Learn is a merge with one. -/
theorem GL_one (l : List CH) (c : CH) (hl : Rise l) : GL (8 - l.length) (Z l [c]) = lrnL l c := by
  rw [GL_step _ _ _ _ hl (fun y hy => by cases hy), GL_none, lrn_ins]
theorem GW_none (r w : Int) (l : List CH) : GW r w (Z l []) = w := by
  induction l with
  | nil => rfl
  | cons a at9 ih => rw [Z_l]; exact ih
theorem GW_one (w : Int) (l : List CH) (c : CH) (hl : Rise l) (n : Nat) : GW (8 - (n : Int)) w (Z l [c]) = match lk c.nm l with
    | none => if 8 ≤ n then 5 else 4
    | some o => if c.nw o = true then 3 else if o.nw c = true then 1 else 2 := by
  induction l with
  | nil =>
    show GW (rm none (some c) (8 - (n : Int))) (vd none (some c) (8 - (n : Int))) (Z [] []) = _
    rw [GW_none]
    show (if (0 : Int) < 8 - (n : Int) then (4 : Int) else 5) = if 8 ≤ n then 5 else 4
    by_cases h : 8 ≤ n
    · rw [if_neg (by omega), if_pos h]
    · rw [if_pos (by omega), if_neg h]
  | cons a at9 ih =>
    have hr := List.pairwise_cons.1 hl
    rw [Z_c]
    rcases three a.nm c.nm with ⟨h1, h2, h3⟩ | ⟨h1, h2, h3⟩ | ⟨h1, h2, h3⟩
    · rw [if_pos h1, lk, if_neg h3]
      exact ih hr.2
    · rw [if_neg (by rw [h2]; decide), if_pos h1]
      have hn : lk c.nm (a :: at9) = none := lk_lt fun y hy => by
        rcases List.mem_cons.1 hy with rfl | hy
        · exact h1
        · exact lt_trans' h1 (hr.1 y hy)
      rw [hn]
      show GW (rm none (some c) (8 - (n : Int))) (vd none (some c) (8 - (n : Int))) (Z (a :: at9) []) = _
      rw [GW_none]
      show (if (0 : Int) < 8 - (n : Int) then (4 : Int) else 5) = if 8 ≤ n then 5 else 4
      by_cases h : 8 ≤ n
      · rw [if_neg (by omega), if_pos h]
      · rw [if_pos (by omega), if_neg h]
    · rw [if_neg (by rw [h2]; decide), if_neg (by rw [h3]; decide), lk, if_pos h1]
      show GW (rm (some a) (some c) (8 - (n : Int))) (vd (some a) (some c) (8 - (n : Int))) (Z at9 []) = _
      rw [GW_none]
      rfl
theorem GW_lrn (w : Int) (l : List CH) (c : CH) (hl : Rise l) : GW (8 - l.length) w (Z l [c]) = lrnW l c := GW_one w l c hl l.length
end Go.Proofs.YtoeebofappbneaaGreat
