/-
  The document: random; what the numbers of a seed put between nodes.
-/
import Derived.Test.YtpdmpekkmblgmaaF2b
import Derived.Test.YtpdmpekkmblgmaaPB1
import Derived.Test.YtpdmpekkmblgmaaPB
import Derived.Test.YtpdmpekkmblgmaaP6
namespace Go.Proofs.Ytpdmpekkmblgmaa
open Go.ChangeShapes Go.WideShapes Go.ChangeAt Go.RowKit Go.Maps Go.Shelf
set_option linter.unusedVariables false
set_option linter.unusedSimpArgs false
attribute [local go_sem] Oper.semAt_some

theorem insL_mem {x p : LK} : ∀ {l : List LK}, p ∈ insL x l ↔ p = x ∨ p ∈ l
  | [] => by simp [insL]
  | y :: ys => by
    unfold insL
    split
    · simp
    · rw [List.mem_cons, insL_mem (l := ys), List.mem_cons]
      constructor
      · rintro (h | h | h)
        · exact .inr (.inl h)
        · exact .inl h
        · exact .inr (.inr h)
      · rintro (h | h | h)
        · exact .inr (.inl h)
        · exact .inl h
        · exact .inr (.inr h)
theorem insL_up {x : LK} : ∀ {l : List LK}, Up l → x ∉ l → Up (insL x l)
  | [], _, _ => List.pairwise_singleton _ _
  | y :: ys, h, hx => by
    have h1 := List.pairwise_cons.1 h
    unfold insL
    split
    · rename_i hc
      refine List.pairwise_cons.2 ⟨fun q hq => ?_, h⟩
      rcases List.mem_cons.1 hq with rfl | hq
      · exact hc
      · have h2 := (ltL_iff _ _).1 hc
        have h3 := (ltL_iff _ _).1 (h1.1 q hq)
        exact (ltL_iff _ _).2 (by omega)
    · rename_i hc
      refine List.pairwise_cons.2 ⟨fun q hq => ?_, insL_up h1.2 (fun h => hx (List.mem_cons_of_mem _ h))⟩
      rcases insL_mem.1 hq with rfl | hq
      · have h2 : ltL q y = false := by simpa using hc
        have h3 := (ltL_no _ _).1 h2
        have h4 : q ≠ y := fun e => hx (by rw [e]; exact List.mem_cons_self)
        refine (ltL_iff _ _).2 ?_
        by_cases h5 : y.1 < q.1
        · exact .inl h5
        · refine .inr ⟨by omega, ?_⟩
          by_cases h6 : y.2 < q.2
          · exact h6
          · exact absurd (Prod.ext (by omega) (by omega)) h4
      · exact h1.1 q hq
theorem srt_same {xs ys : List LK} (hx : xs.Nodup) (hy : ys.Nodup) (h : ∀ p, p ∈ xs ↔ p ∈ ys) : srt xs = srt ys :=
  up_unique (srt_up hx) (srt_up hy) fun p => by rw [srt_mem, srt_mem]; exact h p
theorem snoc_nodup {xs : List LK} {p : LK} (hx : xs.Nodup) (hp : p ∉ xs) : (xs ++ [p]).Nodup :=
  List.nodup_append.2 ⟨hx, by simp, fun a ha b hb => by rw [List.mem_singleton.1 hb]; exact fun e => hp (e ▸ ha)⟩
theorem insL_srt {xs : List LK} {p : LK} (hx : xs.Nodup) (hp : p ∉ xs) : insL p (srt xs) = srt (xs ++ [p]) :=
  up_unique (insL_up (srt_up hx) (fun h => hp (srt_mem.1 h))) (srt_up (snoc_nodup hx hp)) fun q => by
    rw [insL_mem, srt_mem, srt_mem, List.mem_append, List.mem_singleton]
    exact Or.comm
/-- Pairs, one of them more. -/
def putX (xs : List LK) (a b : Int) : List LK := if a = b ∨ (min a b, max a b) ∈ xs then xs else xs ++ [(min a b, max a b)]
theorem putX_nodup {xs : List LK} (hx : xs.Nodup) (a b : Int) : (putX xs a b).Nodup := by
  unfold putX
  split
  · exact hx
  · rename_i h
    exact snoc_nodup hx (fun h2 => h (.inr h2))
theorem putD_srt {xs : List LK} (hx : xs.Nodup) (a b : Int) : putD (srt xs) a b = srt (putX xs a b) := by
  unfold putD putX
  by_cases h : a = b ∨ (min a b, max a b) ∈ xs
  · rw [if_pos h, if_pos (h.imp id srt_mem.2)]
  · rw [if_neg h, if_neg (fun h2 => h (h2.imp id srt_mem.1)), insL_srt hx (fun h2 => h (.inr h2))]
theorem putD_at {L : List LK} (hL : L.Nodup) {j : Nat} {a b : Int} (hj : L[j]? = some (a, b)) (hab : a < b) : putD (srt (L.take j)) a b = srt (L.take (j + 1)) := by
  have h1 : min a b = a := by omega
  have h2 : max a b = b := by omega
  have hsub : (L.take j).Nodup := hL.sublist (List.take_sublist _ _)
  have hn : (a, b) ∉ L.take j := by
    intro h
    have h3 : (L.take (j + 1)).Nodup := hL.sublist (List.take_sublist _ _)
    rw [List.take_add_one, hj] at h3
    exact (List.nodup_append.1 h3).2.2 _ h _ (by simp) rfl
  rw [putD_srt hsub, putX, h1, h2, if_neg (by rintro (h | h); omega; exact hn h), List.take_add_one, hj]
  rfl
theorem nodup_of_snd {α : Type} {l : List Nat} (f : Nat → LK) (hl : l.Pairwise (· < ·)) (h : ∀ i j, i < j → f i ≠ f j) : (l.map f).Nodup := by
  unfold List.Nodup
  rw [List.pairwise_map]
  exact hl.imp fun h1 => h _ _ h1
theorem lineL_nodup (n : Nat) : (lineL n).Nodup := nodup_of_snd (α := Nat) _ List.pairwise_lt_range fun i j h e => by have := congrArg Prod.fst e; simp at this; omega
theorem treeL_nodup (n : Nat) (k : Int) : (treeL n k).Nodup := nodup_of_snd (α := Nat) _ List.pairwise_lt_range fun i j h e => by have := congrArg Prod.snd e; simp at this; omega
theorem ringL_nodup (n : Nat) : (ringL n).Nodup := by
  unfold ringL
  split
  · refine snoc_nodup (lineL_nodup n) fun h => ?_
    obtain ⟨i, _, e⟩ := List.mem_map.1 h
    have e1 := congrArg Prod.fst e
    have e2 := congrArg Prod.snd e
    simp at e1 e2
    omega
  · rw [List.append_nil]; exact lineL_nodup n
theorem app_nodup {xs ys : List LK} (hx : xs.Nodup) (hy : ys.Nodup) (h : ∀ p, p ∈ xs → p ∈ ys → False) : (xs ++ ys).Nodup :=
  List.nodup_append.2 ⟨hx, hy, fun a ha b hb e => h a ha (e ▸ hb)⟩
theorem fullR_nodup (b : Nat) : (fullR b).Nodup := nodup_of_snd (α := Nat) _ List.pairwise_lt_range fun i j h e => by have := congrArg Prod.fst e; simp at this; omega
theorem fullL_nodup (n : Nat) : (fullL n).Nodup := by
  induction n with
  | zero => exact List.nodup_nil
  | succ n ih =>
    rw [fullL]
    refine app_nodup ih (fullR_nodup n) fun p h1 h2 => ?_
    obtain ⟨a, b, _, hb, rfl⟩ := fullL_mem.1 h1
    obtain ⟨c, _, e⟩ := List.mem_map.1 h2
    have := congrArg Prod.snd e
    simp at this
    omega
theorem gridR_nodup {n : Nat} {k : Int} {i : Nat} : (gridR n k i).Nodup := by
  unfold gridR
  split
  · rename_i h1
    split
    · refine app_nodup (by simp) (by simp) fun p h2 h3 => ?_
      rw [List.mem_singleton] at h2 h3
      have e := congrArg Prod.snd (h2.symm.trans h3)
      have e1 : (i : Int) + 1 = (i : Int) + k := e
      have ek : k = 1 := by omega
      exact h1.2 (by rw [ek]; simp)
    · simp
  · split <;> simp
theorem gridL_nodup (n : Nat) (k : Int) (m : Nat) : (gridL n k m).Nodup := by
  induction m with
  | zero => exact List.nodup_nil
  | succ m ih =>
    rw [gridL]
    refine app_nodup ih gridR_nodup fun p h1 h2 => ?_
    obtain ⟨i, hi, h3⟩ := gridL_mem.1 h1
    have e1 : p.1 = (i : Int) := by rcases gridR_mem.1 h3 with ⟨_, _, rfl⟩ | ⟨_, rfl⟩ <;> rfl
    have e2 : p.1 = (m : Int) := by rcases gridR_mem.1 h2 with ⟨_, _, rfl⟩ | ⟨_, rfl⟩ <;> rfl
    omega
/-- Every two, as the document goes through them. -/
def fullE (n a : Nat) : List LK := (List.range (n - (a + 1))).map fun j : Nat => ((a : Int), (a : Int) + 1 + (j : Int))
def fullD (n : Nat) : Nat → List LK
  | 0 => []
  | a + 1 => fullD n a ++ fullE n a
theorem fullE_len (n a : Nat) : (fullE n a).length = n - (a + 1) := by simp [fullE]
theorem fullE_at {n a j : Nat} (h : j < n - (a + 1)) : (fullE n a)[j]? = some ((a : Int), (a : Int) + 1 + (j : Int)) := by simp [fullE, h]
theorem fullD_take {n a m : Nat} (h : a ≤ m) : ∃ r, fullD n m = fullD n a ++ r := by
  induction m with
  | zero => exact ⟨[], by rw [show a = 0 by omega]; rfl⟩
  | succ m ih =>
    by_cases hb : a = m + 1
    · subst hb; exact ⟨[], by simp⟩
    · obtain ⟨r, hr⟩ := ih (by omega)
      exact ⟨r ++ fullE n m, by rw [fullD, hr, List.append_assoc]⟩
theorem fullD_at {n a j : Nat} (ha : a < n) (h : j < n - (a + 1)) : (fullD n n)[(fullD n a).length + j]? = some ((a : Int), (a : Int) + 1 + (j : Int)) := by
  obtain ⟨r, hr⟩ := fullD_take (n := n) (show a + 1 ≤ n by omega)
  rw [hr, fullD, List.append_assoc, List.getElem?_append_right (by omega), Nat.add_sub_cancel_left, List.getElem?_append_left (by rw [fullE_len]; exact h), fullE_at h]
theorem fullE_mem {n a : Nat} {p : LK} : p ∈ fullE n a ↔ ∃ b : Nat, a < b ∧ b < n ∧ p = ((a : Int), (b : Int)) := by
  unfold fullE
  rw [List.mem_map]
  constructor
  · rintro ⟨j, hj, rfl⟩
    exact ⟨a + 1 + j, by omega, by have := List.mem_range.1 hj; omega, by congr 1⟩
  · rintro ⟨b, h1, h2, rfl⟩
    exact ⟨b - (a + 1), List.mem_range.2 (by omega), by congr 1; omega⟩
theorem fullD_mem {n m : Nat} {p : LK} : p ∈ fullD n m ↔ ∃ a b : Nat, a < m ∧ a < b ∧ b < n ∧ p = ((a : Int), (b : Int)) := by
  induction m with
  | zero => exact ⟨fun h => (by cases h), fun ⟨a, b, h2, _⟩ => by omega⟩
  | succ m ih =>
    rw [fullD, List.mem_append, ih, fullE_mem]
    constructor
    · rintro (⟨a, b, h1, h2, h3, e⟩ | ⟨b, h1, h2, e⟩)
      · exact ⟨a, b, by omega, h2, h3, e⟩
      · exact ⟨m, b, by omega, h1, h2, e⟩
    · rintro ⟨a, b, h1, h2, h3, e⟩
      by_cases h : a = m
      · subst h; exact .inr ⟨b, h2, h3, e⟩
      · exact .inl ⟨a, b, by omega, h2, h3, e⟩
theorem fullD_nodup (n m : Nat) : (fullD n m).Nodup := by
  induction m with
  | zero => exact List.nodup_nil
  | succ m ih =>
    rw [fullD]
    refine app_nodup ih (nodup_of_snd (α := Nat) _ List.pairwise_lt_range fun i j h e => by have := congrArg Prod.snd e; simp at this; omega) fun p h1 h2 => ?_
    obtain ⟨a, b, ha, _, _, rfl⟩ := fullD_mem.1 h1
    obtain ⟨c, _, _, e⟩ := fullE_mem.1 h2
    have := congrArg Prod.fst e
    simp at this
    omega
theorem fullD_srt (n : Nat) : srt (fullD n n) = srt (fullL n) := srt_same (fullD_nodup n n) (fullL_nodup n) fun p => by
  rw [fullD_mem, fullL_mem]
  exact ⟨fun ⟨a, b, _, h2, h3, e⟩ => ⟨a, b, h2, h3, e⟩, fun ⟨a, b, h2, h3, e⟩ => ⟨a, b, by omega, h2, h3, e⟩⟩
theorem fullD_len (n m : Nat) : (fullD n m).length ≤ n * m := by
  induction m with
  | zero => simp [fullD]
  | succ m ih =>
    rw [fullD, List.length_append, fullE_len, Nat.mul_succ]
    omega
end Go.Proofs.Ytpdmpekkmblgmaa

namespace Go.Proofs.Ytpdmpekkmblgmaa
open Go.ChangeShapes Go.WideShapes Go.ChangeAt Go.RowKit Go.Maps Go.Shelf
set_option linter.unusedVariables false
set_option linter.unusedSimpArgs false
attribute [local go_sem] Oper.semAt_some

theorem srt_nil : srt [] = [] := by simp [srt]
theorem rdL_srt0 (W : World) (L : List LK) : RdL W none 0 0 (srt (L.take 0)) := by rw [List.take_zero, srt_nil]; exact rdL_nil _
theorem rdL_all {W : World} {a : Option Addr} {m c : Nat} {L : List LK} {j : Nat} (h : RdL W a m c (srt (L.take j))) (hj : L.length ≤ j) : RdL W a m c (srt L) := by rw [List.take_of_length_le hj] at h; exact h
set_option maxRecDepth 100000 in
set_option maxHeartbeats 1000000 in
theorem rline_any (n : Nat) (w : World) (hn : n ≤ 1000) : Calls Try.prog 55 #[.int .i64 (n : Int)] w fun e w' => ∃ a m c, e = .returned (.slice a m c) ∧ RdL w' a m c (srt (lineL n)) ∧ Below w.heap.size w w' := by
  have HN : Hid (n ≤ 1000) := hn
  have HL : Hid ((lineL n).length ≤ 1000) := by show _ ≤ _; rw [lineL_len]; omega
  clear hn
  go_enter Try.func55, Try.ntmps55
  go_wp2
  go_loopg [3, 4] n (fun gk v3 v4 wr => ∃ (i : Nat) (a : Option Addr) (m c : Nat), v3 = .slice a m c ∧ v4 = .int .i64 (i : Int) ∧ i + gk = n ∧ i ≤ n - 1 ∧ RdL wr a m c (srt ((lineL n).take i)) ∧ Below w.heap.size w wr)
  case atStart => exact ⟨0, none, 0, 0, rfl, by first | rfl | go_num, by omega, by omega, rdL_srt0 _ _, Below.refl _ _⟩
  case round =>
    obtain ⟨i, a, m, c, rfl, rfl, hg, hle, R, B⟩ := hrel
    have hadd : IntKind.i64.wrap ((i : Int) + 1) = (i : Int) + 1 := by rw [IntKind.wrap_i64]; have := HN.out; omega
    by_cases hi : (i : Int) + 1 < (n : Int)
    case pos =>
      have hx := lineL_at (show i < n - 1 by omega)
      go_wp2_with (go_at_call 56; refine (put_any _ _ _ _ _ _ _ R (by rw [srt_len, List.length_take]; have := HL.out; omega)).mono ?_; rintro e w2 ⟨a2, m2, c2, rfl, R2, b2⟩; rw [putD_at (lineL_nodup n) hx (by omega)] at R2; have B2 := B.trans (b2.mono B.size))
      go_roundg (gk - 1)
      case measure => omega
      case rel => exact ⟨i + 1, a2, m2, c2, rfl, by first | rfl | go_num, by omega, by omega, R2, B2⟩
    case neg =>
      have R9 := rdL_all R (by rw [lineL_len]; omega)
      go_wp2
      go_ret
      exact ⟨a, m, c, rfl, R9, B⟩
end Go.Proofs.Ytpdmpekkmblgmaa

namespace Go.Proofs.Ytpdmpekkmblgmaa
open Go.ChangeShapes Go.WideShapes Go.ChangeAt Go.RowKit Go.Maps Go.Shelf
set_option linter.unusedVariables false
set_option linter.unusedSimpArgs false
attribute [local go_sem] Oper.semAt_some

set_option maxRecDepth 100000 in
set_option maxHeartbeats 1000000 in
theorem shaped_1 (n : Nat) (k : Int) (w : World) (hn : n ≤ 16) : Calls Try.prog 33 #[.int .i64 1, .int .i64 (n : Int), .int .i64 k] w fun e w' => ∃ a m c, e = .returned (.slice a m c) ∧ RdL w' a m c (srt (lineL n)) ∧ Below w.heap.size w w' := by
  have HN : Hid (n ≤ 16) := hn
  have KL := fun W => rline_any n W (by have := HN.out; omega)
  clear hn
  go_enter Try.func33, Try.ntmps33
  go_wp2_with (go_at_call 55; refine (KL _).mono ?_; clear KL; rintro e w1 ⟨a, m, c, rfl, R, B⟩)
  go_ret
  exact ⟨a, m, c, rfl, R, B⟩
set_option maxRecDepth 100000 in
set_option maxHeartbeats 1000000 in
theorem shaped_2 (n : Nat) (k : Int) (w : World) (hn : n ≤ 16) : Calls Try.prog 33 #[.int .i64 2, .int .i64 (n : Int), .int .i64 k] w fun e w' => ∃ a m c, e = .returned (.slice a m c) ∧ RdL w' a m c (srt (ringL n)) ∧ Below w.heap.size w w' := by
  have HN : Hid (n ≤ 16) := hn
  have KL := fun W => rline_any n W (by have := HN.out; omega)
  clear hn
  by_cases h3 : 3 ≤ n
  case pos =>
    have h3I : (3 : Int) ≤ (n : Int) := by omega
    have hsub : IntKind.i64.wrap ((n : Int) - 1) = (n : Int) - 1 := by rw [IntKind.wrap_i64]; have := HN.out; omega
    have HT : Hid ((ringL n).take (lineL n).length = lineL n ∧ (ringL n).take ((lineL n).length + 1) = ringL n) := by
      refine ⟨?_, ?_⟩
      · unfold ringL; rw [List.take_left]
      · rw [← ringL_len h3, List.take_length]
    have HL : Hid ((ringL n).length ≤ 1000) := by show _ ≤ _; rw [ringL_len h3, lineL_len]; have := HN.out; omega
    have hx := ringL_last h3
    go_enter Try.func33, Try.ntmps33
    go_wp2_with (first
      | (go_at_call 55; refine (KL _).mono ?_; clear KL; rintro e w1 ⟨a, m, c, rfl, R0, B⟩; have R := R0; rw [← HT.out.1] at R)
      | (go_at_call 56; refine (put_any _ _ _ _ _ _ _ R (by rw [srt_len, List.length_take]; have := HL.out; omega)).mono ?_; rintro e w2 ⟨a2, m2, c2, rfl, R2, b2⟩; rw [putD_at (ringL_nodup n) hx (by omega)] at R2; have B2 := B.trans (b2.mono B.size)))
    go_ret
    rw [HT.out.2] at R2
    exact ⟨a2, m2, c2, rfl, R2, B2⟩
  case neg =>
    have h3I : ¬ (3 : Int) ≤ (n : Int) := by omega
    have HE : Hid (ringL n = lineL n) := by show _ = _; unfold ringL; rw [if_neg h3, List.append_nil]
    go_enter Try.func33, Try.ntmps33
    go_wp2_with (go_at_call 55; refine (KL _).mono ?_; clear KL; rintro e w1 ⟨a, m, c, rfl, R, B⟩)
    go_ret
    exact ⟨a, m, c, rfl, by rw [HE.out]; exact R, B⟩
end Go.Proofs.Ytpdmpekkmblgmaa

namespace Go.Proofs.Ytpdmpekkmblgmaa
open Go.ChangeShapes Go.WideShapes Go.ChangeAt Go.RowKit Go.Maps Go.Shelf
set_option linter.unusedVariables false
set_option linter.unusedSimpArgs false
attribute [local go_sem] Oper.semAt_some

/-- The pair that two numbers of a seed make. -/
def rnp (n x : Int) : LK := (min (bl n x) (bl n (nx x)), max (bl n x) (bl n (nx x)))
/-- Whether a pair may come to others. -/
def roomB (l : List LK) (p : LK) : Bool := decide (p.1 ≠ p.2) && (decide (p ∉ l) && (decide (dg l p.1 < 6) && decide (dg l p.2 < 6)))
def rput (n : Int) (l : List LK) (x : Int) : List LK := if roomB l (rnp n x) = true then l ++ [rnp n x] else l
/-- The pairs behind so many draws, and the number that they leave. -/
def rpairs (n : Int) (l : List LK) (x : Int) : Nat → List LK × Int
  | 0 => (l, x)
  | m + 1 => (rput n (rpairs n l x m).1 (rpairs n l x m).2, nx (nx (rpairs n l x m).2))
def randL (n : Nat) (k : Int) : List LK := (rpairs (n : Int) (lineL n) (IntKind.u64.wrap k) (2 * n)).1
theorem rput_nodup {n : Int} {l : List LK} {x : Int} (h : l.Nodup) : (rput n l x).Nodup := by
  unfold rput
  split
  · rename_i hr
    unfold roomB at hr
    simp only [Bool.and_eq_true, decide_eq_true_eq] at hr
    exact snoc_nodup h hr.2.1
  · exact h
theorem rpairs_nodup {n : Int} {l : List LK} {x : Int} (h : l.Nodup) (m : Nat) : (rpairs n l x m).1.Nodup := by
  induction m with
  | zero => exact h
  | succ m ih => exact rput_nodup ih
theorem rput_len (n : Int) (l : List LK) (x : Int) : (rput n l x).length ≤ l.length + 1 := by
  unfold rput
  split <;> simp
theorem rpairs_len (n : Int) (l : List LK) (x : Int) (m : Nat) : (rpairs n l x m).1.length ≤ l.length + m := by
  induction m with
  | zero => exact Nat.le_refl _
  | succ m ih => have := rput_len n (rpairs n l x m).1 (rpairs n l x m).2; show (rput n _ _).length ≤ _; omega
theorem rput_yes {n : Int} {l : List LK} {x : Int} (hx : l.Nodup) (h1 : dg l (bl n x) < 6) (h2 : dg l (bl n (nx x)) < 6) : putD (srt l) (bl n x) (bl n (nx x)) = srt (rput n l x) := by
  rw [putD_srt hx]
  congr 1
  unfold putX rput roomB rnp
  by_cases h : bl n x = bl n (nx x)
  · rw [if_pos (.inl h), if_neg (by simp [h])]
  · by_cases hm : (min (bl n x) (bl n (nx x)), max (bl n x) (bl n (nx x))) ∈ l
    · rw [if_pos (.inr hm), if_neg (by simp [hm])]
    · rw [if_neg (by rintro (h9 | h9); exact h h9; exact hm h9), if_pos]
      simp only [Bool.and_eq_true, decide_eq_true_eq]
      refine ⟨by omega, hm, ?_, ?_⟩
      · rcases Int.le_total (bl n x) (bl n (nx x)) with h5 | h5
        · rw [show min (bl n x) (bl n (nx x)) = bl n x by omega]; exact h1
        · rw [show min (bl n x) (bl n (nx x)) = bl n (nx x) by omega]; exact h2
      · rcases Int.le_total (bl n x) (bl n (nx x)) with h5 | h5
        · rw [show max (bl n x) (bl n (nx x)) = bl n (nx x) by omega]; exact h2
        · rw [show max (bl n x) (bl n (nx x)) = bl n x by omega]; exact h1
theorem rput_no {n : Int} {l : List LK} {x : Int} (h : ¬ (dg l (bl n x) < 6 ∧ dg l (bl n (nx x)) < 6)) : rput n l x = l := by
  unfold rput roomB rnp
  rw [if_neg]
  intro h2
  simp only [Bool.and_eq_true, decide_eq_true_eq] at h2
  obtain ⟨_, _, h3, h4⟩ := h2
  rcases Int.le_total (bl n x) (bl n (nx x)) with h5 | h5
  · rw [show min (bl n x) (bl n (nx x)) = bl n x by omega] at h3
    rw [show max (bl n x) (bl n (nx x)) = bl n (nx x) by omega] at h4
    exact h ⟨h3, h4⟩
  · rw [show min (bl n x) (bl n (nx x)) = bl n (nx x) by omega] at h3
    rw [show max (bl n x) (bl n (nx x)) = bl n x by omega] at h4
    exact h ⟨h4, h3⟩
end Go.Proofs.Ytpdmpekkmblgmaa
