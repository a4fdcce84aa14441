/-
  Pairs put in one after another are pairs sorted.
-/
import Derived.Test.YtpdmpekkmblgmaaF2b
import Derived.Test.YtpdmpekkmblgmaaPB1
namespace Go.Proofs.Ytpdmpekkmblgmaa
open Go.ChangeShapes Go.WideShapes Go.ChangeAt Go.RowKit Go.Maps Go.Shelf
set_option linter.unusedVariables false
set_option linter.unusedSimpArgs false
attribute [local go_sem] Oper.semAt_some

theorem insL_mem {x p : LK} : ∀ {l : List LK}, p ∈ insL x l ↔ p = x ∨ p ∈ l
  | [] => by simp [insL]
  | y :: ys => by
    unfold insL
    split
    · simp
    · rw [List.mem_cons, insL_mem (l := ys), List.mem_cons]
      constructor
      · rintro (h | h | h)
        · exact .inr (.inl h)
        · exact .inl h
        · exact .inr (.inr h)
      · rintro (h | h | h)
        · exact .inr (.inl h)
        · exact .inl h
        · exact .inr (.inr h)
theorem insL_up {x : LK} : ∀ {l : List LK}, Up l → x ∉ l → Up (insL x l)
  | [], _, _ => List.pairwise_singleton _ _
  | y :: ys, h, hx => by
    have h1 := List.pairwise_cons.1 h
    unfold insL
    split
    · rename_i hc
      refine List.pairwise_cons.2 ⟨fun q hq => ?_, h⟩
      rcases List.mem_cons.1 hq with rfl | hq
      · exact hc
      · have h2 := (ltL_iff _ _).1 hc
        have h3 := (ltL_iff _ _).1 (h1.1 q hq)
        exact (ltL_iff _ _).2 (by omega)
    · rename_i hc
      refine List.pairwise_cons.2 ⟨fun q hq => ?_, insL_up h1.2 (fun h => hx (List.mem_cons_of_mem _ h))⟩
      rcases insL_mem.1 hq with rfl | hq
      · have h2 : ltL q y = false := by simpa using hc
        have h3 := (ltL_no _ _).1 h2
        have h4 : q ≠ y := fun e => hx (by rw [e]; exact List.mem_cons_self)
        refine (ltL_iff _ _).2 ?_
        by_cases h5 : y.1 < q.1
        · exact .inl h5
        · refine .inr ⟨by omega, ?_⟩
          by_cases h6 : y.2 < q.2
          · exact h6
          · exact absurd (Prod.ext (by omega) (by omega)) h4
      · exact h1.1 q hq
theorem srt_same {xs ys : List LK} (hx : xs.Nodup) (hy : ys.Nodup) (h : ∀ p, p ∈ xs ↔ p ∈ ys) : srt xs = srt ys :=
  up_unique (srt_up hx) (srt_up hy) fun p => by rw [srt_mem, srt_mem]; exact h p
theorem snoc_nodup {xs : List LK} {p : LK} (hx : xs.Nodup) (hp : p ∉ xs) : (xs ++ [p]).Nodup :=
  List.nodup_append.2 ⟨hx, by simp, fun a ha b hb => by rw [List.mem_singleton.1 hb]; exact fun e => hp (e ▸ ha)⟩
theorem insL_srt {xs : List LK} {p : LK} (hx : xs.Nodup) (hp : p ∉ xs) : insL p (srt xs) = srt (xs ++ [p]) :=
  up_unique (insL_up (srt_up hx) (fun h => hp (srt_mem.1 h))) (srt_up (snoc_nodup hx hp)) fun q => by
    rw [insL_mem, srt_mem, srt_mem, List.mem_append, List.mem_singleton]
    exact Or.comm
/-- Pairs, one of them more. -/
def putX (xs : List LK) (a b : Int) : List LK := if a = b ∨ (min a b, max a b) ∈ xs then xs else xs ++ [(min a b, max a b)]
theorem putX_nodup {xs : List LK} (hx : xs.Nodup) (a b : Int) : (putX xs a b).Nodup := by
  unfold putX
  split
  · exact hx
  · rename_i h
    exact snoc_nodup hx (fun h2 => h (.inr h2))
theorem putD_srt {xs : List LK} (hx : xs.Nodup) (a b : Int) : putD (srt xs) a b = srt (putX xs a b) := by
  unfold putD putX
  by_cases h : a = b ∨ (min a b, max a b) ∈ xs
  · rw [if_pos h, if_pos (h.imp id srt_mem.2)]
  · rw [if_neg h, if_neg (fun h2 => h (h2.imp id srt_mem.1)), insL_srt hx (fun h2 => h (.inr h2))]
theorem putD_at {L : List LK} (hL : L.Nodup) {j : Nat} {a b : Int} (hj : L[j]? = some (a, b)) (hab : a < b) : putD (srt (L.take j)) a b = srt (L.take (j + 1)) := by
  have h1 : min a b = a := by omega
  have h2 : max a b = b := by omega
  have hsub : (L.take j).Nodup := hL.sublist (List.take_sublist _ _)
  have hn : (a, b) ∉ L.take j := by
    intro h
    have h3 : (L.take (j + 1)).Nodup := hL.sublist (List.take_sublist _ _)
    rw [List.take_add_one, hj] at h3
    exact (List.nodup_append.1 h3).2.2 _ h _ (by simp) rfl
  rw [putD_srt hsub, putX, h1, h2, if_neg (by rintro (h | h); omega; exact hn h), List.take_add_one, hj]
  rfl
theorem nodup_of_snd {α : Type} {l : List Nat} (f : Nat → LK) (hl : l.Pairwise (· < ·)) (h : ∀ i j, i < j → f i ≠ f j) : (l.map f).Nodup := by
  unfold List.Nodup
  rw [List.pairwise_map]
  exact hl.imp fun h1 => h _ _ h1
theorem lineL_nodup (n : Nat) : (lineL n).Nodup := nodup_of_snd (α := Nat) _ List.pairwise_lt_range fun i j h e => by have := congrArg Prod.fst e; simp at this; omega
theorem treeL_nodup (n : Nat) (k : Int) : (treeL n k).Nodup := nodup_of_snd (α := Nat) _ List.pairwise_lt_range fun i j h e => by have := congrArg Prod.snd e; simp at this; omega
theorem ringL_nodup (n : Nat) : (ringL n).Nodup := by
  unfold ringL
  split
  · refine snoc_nodup (lineL_nodup n) fun h => ?_
    obtain ⟨i, _, e⟩ := List.mem_map.1 h
    have e1 := congrArg Prod.fst e
    have e2 := congrArg Prod.snd e
    simp at e1 e2
    omega
  · rw [List.append_nil]; exact lineL_nodup n
theorem app_nodup {xs ys : List LK} (hx : xs.Nodup) (hy : ys.Nodup) (h : ∀ p, p ∈ xs → p ∈ ys → False) : (xs ++ ys).Nodup :=
  List.nodup_append.2 ⟨hx, hy, fun a ha b hb e => h a ha (e ▸ hb)⟩
theorem fullR_nodup (b : Nat) : (fullR b).Nodup := nodup_of_snd (α := Nat) _ List.pairwise_lt_range fun i j h e => by have := congrArg Prod.fst e; simp at this; omega
theorem fullL_nodup (n : Nat) : (fullL n).Nodup := by
  induction n with
  | zero => exact List.nodup_nil
  | succ n ih =>
    rw [fullL]
    refine app_nodup ih (fullR_nodup n) fun p h1 h2 => ?_
    obtain ⟨a, b, _, hb, rfl⟩ := fullL_mem.1 h1
    obtain ⟨c, _, e⟩ := List.mem_map.1 h2
    have := congrArg Prod.snd e
    simp at this
    omega
theorem gridR_nodup {n : Nat} {k : Int} {i : Nat} : (gridR n k i).Nodup := by
  unfold gridR
  split
  · rename_i h1
    split
    · refine app_nodup (by simp) (by simp) fun p h2 h3 => ?_
      rw [List.mem_singleton] at h2 h3
      have e := congrArg Prod.snd (h2.symm.trans h3)
      have e1 : (i : Int) + 1 = (i : Int) + k := e
      have ek : k = 1 := by omega
      exact h1.2 (by rw [ek]; simp)
    · simp
  · split <;> simp
theorem gridL_nodup (n : Nat) (k : Int) (m : Nat) : (gridL n k m).Nodup := by
  induction m with
  | zero => exact List.nodup_nil
  | succ m ih =>
    rw [gridL]
    refine app_nodup ih gridR_nodup fun p h1 h2 => ?_
    obtain ⟨i, hi, h3⟩ := gridL_mem.1 h1
    have e1 : p.1 = (i : Int) := by rcases gridR_mem.1 h3 with ⟨_, _, rfl⟩ | ⟨_, rfl⟩ <;> rfl
    have e2 : p.1 = (m : Int) := by rcases gridR_mem.1 h2 with ⟨_, _, rfl⟩ | ⟨_, rfl⟩ <;> rfl
    omega
/-- Every two, as the document goes through them. -/
def fullE (n a : Nat) : List LK := (List.range (n - (a + 1))).map fun j : Nat => ((a : Int), (a : Int) + 1 + (j : Int))
def fullD (n : Nat) : Nat → List LK
  | 0 => []
  | a + 1 => fullD n a ++ fullE n a
theorem fullE_len (n a : Nat) : (fullE n a).length = n - (a + 1) := by simp [fullE]
theorem fullE_at {n a j : Nat} (h : j < n - (a + 1)) : (fullE n a)[j]? = some ((a : Int), (a : Int) + 1 + (j : Int)) := by simp [fullE, h]
theorem fullD_take {n a m : Nat} (h : a ≤ m) : ∃ r, fullD n m = fullD n a ++ r := by
  induction m with
  | zero => exact ⟨[], by rw [show a = 0 by omega]; rfl⟩
  | succ m ih =>
    by_cases hb : a = m + 1
    · subst hb; exact ⟨[], by simp⟩
    · obtain ⟨r, hr⟩ := ih (by omega)
      exact ⟨r ++ fullE n m, by rw [fullD, hr, List.append_assoc]⟩
theorem fullD_at {n a j : Nat} (ha : a < n) (h : j < n - (a + 1)) : (fullD n n)[(fullD n a).length + j]? = some ((a : Int), (a : Int) + 1 + (j : Int)) := by
  obtain ⟨r, hr⟩ := fullD_take (n := n) (show a + 1 ≤ n by omega)
  rw [hr, fullD, List.append_assoc, List.getElem?_append_right (by omega), Nat.add_sub_cancel_left, List.getElem?_append_left (by rw [fullE_len]; exact h), fullE_at h]
theorem fullE_mem {n a : Nat} {p : LK} : p ∈ fullE n a ↔ ∃ b : Nat, a < b ∧ b < n ∧ p = ((a : Int), (b : Int)) := by
  unfold fullE
  rw [List.mem_map]
  constructor
  · rintro ⟨j, hj, rfl⟩
    exact ⟨a + 1 + j, by omega, by have := List.mem_range.1 hj; omega, by congr 1⟩
  · rintro ⟨b, h1, h2, rfl⟩
    exact ⟨b - (a + 1), List.mem_range.2 (by omega), by congr 1; omega⟩
theorem fullD_mem {n m : Nat} {p : LK} : p ∈ fullD n m ↔ ∃ a b : Nat, a < m ∧ a < b ∧ b < n ∧ p = ((a : Int), (b : Int)) := by
  induction m with
  | zero => exact ⟨fun h => (by cases h), fun ⟨a, b, h2, _⟩ => by omega⟩
  | succ m ih =>
    rw [fullD, List.mem_append, ih, fullE_mem]
    constructor
    · rintro (⟨a, b, h1, h2, h3, e⟩ | ⟨b, h1, h2, e⟩)
      · exact ⟨a, b, by omega, h2, h3, e⟩
      · exact ⟨m, b, by omega, h1, h2, e⟩
    · rintro ⟨a, b, h1, h2, h3, e⟩
      by_cases h : a = m
      · subst h; exact .inr ⟨b, h2, h3, e⟩
      · exact .inl ⟨a, b, by omega, h2, h3, e⟩
theorem fullD_nodup (n m : Nat) : (fullD n m).Nodup := by
  induction m with
  | zero => exact List.nodup_nil
  | succ m ih =>
    rw [fullD]
    refine app_nodup ih (nodup_of_snd (α := Nat) _ List.pairwise_lt_range fun i j h e => by have := congrArg Prod.snd e; simp at this; omega) fun p h1 h2 => ?_
    obtain ⟨a, b, ha, _, _, rfl⟩ := fullD_mem.1 h1
    obtain ⟨c, _, _, e⟩ := fullE_mem.1 h2
    have := congrArg Prod.fst e
    simp at this
    omega
theorem fullD_srt (n : Nat) : srt (fullD n n) = srt (fullL n) := srt_same (fullD_nodup n n) (fullL_nodup n) fun p => by
  rw [fullD_mem, fullL_mem]
  exact ⟨fun ⟨a, b, _, h2, h3, e⟩ => ⟨a, b, h2, h3, e⟩, fun ⟨a, b, h2, h3, e⟩ => ⟨a, b, by omega, h2, h3, e⟩⟩
theorem fullD_len (n m : Nat) : (fullD n m).length ≤ n * m := by
  induction m with
  | zero => simp [fullD]
  | succ m ih =>
    rw [fullD, List.length_append, fullE_len, Nat.mul_succ]
    omega
end Go.Proofs.Ytpdmpekkmblgmaa
