/-
  Merged either way round, and however it is grouped.
-/
import Derived.Test.YtmbchcpggbfkcaaQ2
namespace Go.Proofs.Ytmbchcpggbfkcaa
open Go.ChangeShapes Go.WideShapes Go.ChangeAt Go.RowKit
set_option linter.unusedVariables false
set_option linter.unusedSimpArgs false

def clash (P : List CH) (c : CH) : Bool := P.any (fun d => decide (d.nm = c.nm) && (decide (d.ep = c.ep) && (decide (d.mr = c.mr) && !eqC d c)))
def known (P : List CH) (c : CH) : Bool := P.any (fun d => decide (d.nm = c.nm))
def stR : List CH → List CH → Nat → Option Nat
  | [], _, k => some k
  | c :: r, P, k => if clash P c = true then none else stR r (P ++ [c]) (k + if known P c = true then 0 else 1)
def stmpB (F : List CH) : Bool := match stR F [] 0 with
  | none => false
  | some k => decide (k ≤ 8)
def Uq (P : List CH) : Prop := ∀ d, d ∈ P → ∀ c, c ∈ P → d.nm = c.nm → d.ep = c.ep → d.mr = c.mr → d = c
def Cov (P : List CH) (S : List ByteArray) : Prop := S.Nodup ∧ ∀ c, c ∈ P → c.nm ∈ S
theorem clash_no {P : List CH} {c : CH} (h : ¬ clash P c = true) {d : CH} (hd : d ∈ P) (h1 : d.nm = c.nm) (h2 : d.ep = c.ep) (h3 : d.mr = c.mr) : d = c := by
  cases he : eqC d c with
  | true => exact (eqC_iff _ _).1 he
  | false =>
    refine absurd ?_ h
    unfold clash
    rw [List.any_eq_true]
    refine ⟨d, hd, ?_⟩
    simp [h1, h2, h3, he]
theorem stR_ok : ∀ (r P : List CH) (k k' : Nat), stR r P k = some k' → Uq P → (∃ S, Cov P S ∧ S.length ≤ k) → Uq (P ++ r) ∧ ∃ S, Cov (P ++ r) S ∧ S.length ≤ k'
  | [], P, k, k', h, hU, hS => by
    cases h
    rw [List.append_nil]
    exact ⟨hU, hS⟩
  | c :: r, P, k, k', h, hU, hS => by
    rw [stR] at h
    split at h
    · cases h
    · rename_i hc
      have h1 : Uq (P ++ [c]) := by
        intro d hd e he n1 n2 n3
        rcases List.mem_append.1 hd with hd1 | hd1
        · rcases List.mem_append.1 he with he1 | he1
          · exact hU d hd1 e he1 n1 n2 n3
          · have q : e = c := by simpa using he1
            rw [q] at n1 n2 n3 ⊢
            exact clash_no hc hd1 n1 n2 n3
        · have q : d = c := by simpa using hd1
          rw [q] at n1 n2 n3 ⊢
          rcases List.mem_append.1 he with he1 | he1
          · exact (clash_no hc he1 n1.symm n2.symm n3.symm).symm
          · have q2 : e = c := by simpa using he1
            exact q2.symm
      obtain ⟨S, ⟨hnd, hcov⟩, hlen⟩ := hS
      have h2 : ∃ S, Cov (P ++ [c]) S ∧ S.length ≤ k + if known P c = true then 0 else 1 := by
        by_cases hk : c.nm ∈ S
        · refine ⟨S, ⟨hnd, fun d hd => ?_⟩, by split <;> omega⟩
          rcases List.mem_append.1 hd with hd | hd
          · exact hcov d hd
          · have : d = c := by simpa using hd
            subst this
            exact hk
        · have hkn : ¬ known P c = true := fun h9 => by
            unfold known at h9
            rw [List.any_eq_true] at h9
            obtain ⟨d, hd, h8⟩ := h9
            exact hk (by rw [← of_decide_eq_true h8]; exact hcov d hd)
          refine ⟨c.nm :: S, ⟨List.nodup_cons.2 ⟨hk, hnd⟩, fun d hd => ?_⟩, by rw [if_neg hkn]; simp only [List.length_cons]; omega⟩
          rcases List.mem_append.1 hd with hd | hd
          · exact .tail _ (hcov d hd)
          · have : d = c := by simpa using hd
            subst this
            exact .head _
      have h3 := stR_ok r (P ++ [c]) _ k' h h1 h2
      rw [List.append_assoc] at h3
      exact h3
theorem stmp_ok {F : List CH} (h : stmpB F = true) : Uq F ∧ ∃ S, Cov F S ∧ S.length ≤ 8 := by
  unfold stmpB at h
  split at h
  · cases h
  · rename_i k hk
    have h8 := of_decide_eq_true h
    have h1 := stR_ok F [] 0 k hk (fun d hd => by cases hd) ⟨[], ⟨List.nodup_nil, fun c hc => by cases hc⟩, Nat.le_refl _⟩
    rw [List.nil_append] at h1
    obtain ⟨hU, S, hC, hl⟩ := h1
    exact ⟨hU, S, hC, by omega⟩
/-- No more of them than there are. -/
theorem nodup_le : ∀ (l S : List ByteArray), l.Nodup → (∀ x, x ∈ l → x ∈ S) → l.length ≤ S.length
  | [], S, _, _ => Nat.zero_le _
  | a :: t, S, hn, hs => by
    have hp := List.nodup_cons.1 hn
    have ha := hs a (.head _)
    obtain ⟨p, q, rfl⟩ := List.append_of_mem ha
    have h1 := nodup_le t (p ++ q) hp.2 (fun x hx => by
      have h2 := hs x (.tail _ hx)
      have h3 : x ≠ a := fun e => hp.1 (by rw [← e]; exact hx)
      simp only [List.mem_append, List.mem_cons] at h2 ⊢
      rcases h2 with h | h | h
      · exact .inl h
      · exact absurd h h3
      · exact .inr h)
    simp only [List.length_append] at h1 ⊢
    simp only [List.length_cons]
    omega
theorem rise_nodup {l : List CH} (h : Rise l) : (l.map CH.nm).Nodup := by
  rw [List.Nodup, List.pairwise_map]
  exact List.Pairwise.imp (fun h e => by rw [e, lt_irr] at h; cases h) h
theorem lk_none {l : List CH} {k : ByteArray} (h : lk k l = none) : ∀ x, x ∈ l → x.nm ≠ k := by
  induction l with
  | nil => intro x hx; cases hx
  | cons a t ih =>
    rw [lk] at h
    split at h
    · cases h
    · rename_i hn
      intro x hx
      rcases List.mem_cons.1 hx with rfl | hx
      · exact hn
      · exact ih h x hx
theorem room {l : List CH} {c : CH} {S : List ByteArray} (hl : Rise l) (hS : Cov (l ++ [c]) S) (h8 : S.length ≤ 8) (hk : lk c.nm l = none) : l.length < 8 := by
  have h1 : (c.nm :: l.map CH.nm).Nodup := List.nodup_cons.2 ⟨fun h => by
    obtain ⟨x, hx, e⟩ := List.mem_map.1 h
    exact lk_none hk x hx e, rise_nodup hl⟩
  have h2 := nodup_le _ S h1 (fun x hx => by
    rcases List.mem_cons.1 hx with rfl | hx
    · exact hS.2 c (by simp)
    · obtain ⟨y, hy, rfl⟩ := List.mem_map.1 hx
      exact hS.2 y (by simp [hy]))
  simp only [List.length_cons, List.length_map] at h2
  omega
def mx (a b : Option CH) : Option CH := match a, b with
  | none, b => b
  | some a, none => some a
  | some a, some b => some (pk a b)
theorem lk_lrn {l : List CH} {c : CH} {S : List ByteArray} (hl : Rise l) (hS : Cov (l ++ [c]) S) (h8 : S.length ≤ 8) (k : ByteArray) : lk k (lrnL l c) = if c.nm = k then mx (lk k l) (some c) else lk k l := by
  unfold lrnL
  cases hk : lk c.nm l with
  | none =>
    dsimp only
    rw [if_neg (by have := room hl hS h8 hk; omega), lk_ins hl]
    by_cases e : c.nm = k
    · rw [if_pos e, if_pos e, ← e, hk]
      rfl
    · rw [if_neg e, if_neg e]
  | some o =>
    dsimp only
    by_cases hw : c.nw o = true
    · rw [if_pos hw, lk_ins hl]
      by_cases e : c.nm = k
      · rw [if_pos e, if_pos e, ← e, hk]
        show some c = some (pk o c)
        unfold pk
        rw [if_pos hw]
      · rw [if_neg e, if_neg e]
    · rw [if_neg hw]
      by_cases e : c.nm = k
      · rw [if_pos e, ← e, hk]
        show some o = some (pk o c)
        unfold pk
        rw [if_neg hw]
      · rw [if_neg e]
theorem lrn_mem {l : List CH} {c x : CH} (h : x ∈ lrnL l c) : x = c ∨ x ∈ l := by
  unfold lrnL at h
  split at h
  · split at h
    · exact .inr h
    · exact ins_mem h
  · split at h
    · exact ins_mem h
    · exact .inr h
theorem mg_mem : ∀ (m l : List CH) {x : CH}, x ∈ m.foldl lrnL l → x ∈ l ∨ x ∈ m
  | [], l, x, h => .inl h
  | c :: m, l, x, h => by
    rcases mg_mem m (lrnL l c) h with h | h
    · rcases lrn_mem h with rfl | h
      · exact .inr (.head _)
      · exact .inl h
    · exact .inr (.tail _ h)
theorem Cov.sub {P P' : List CH} {S : List ByteArray} (h : Cov P S) (hs : ∀ x, x ∈ P' → x ∈ P) : Cov P' S := ⟨h.1, fun c hc => h.2 c (hs c hc)⟩
theorem mg_cov {l m : List CH} {S : List ByteArray} (h : Cov (l ++ m) S) : Cov (m.foldl lrnL l) S := h.sub (fun x hx => List.mem_append.2 (mg_mem m l hx))
theorem lk_mg {S : List ByteArray} (h8 : S.length ≤ 8) : ∀ (m l : List CH), Rise l → Rise m → Cov (l ++ m) S → ∀ k, lk k (m.foldl lrnL l) = mx (lk k l) (lk k m)
  | [], l, hl, hm, hS, k => by
    show lk k l = mx (lk k l) none
    cases lk k l <;> rfl
  | c :: m, l, hl, hm, hS, k => by
    have hp := List.pairwise_cons.1 hm
    have h1 : Cov (l ++ [c]) S := hS.sub (fun x hx => by
      rcases List.mem_append.1 hx with h | h
      · exact List.mem_append.2 (.inl h)
      · exact List.mem_append.2 (.inr (by have e : x = c := (by simpa using h); rw [e]; exact .head _)))
    have h2 : Cov (lrnL l c ++ m) S := hS.sub (fun x hx => by
      rcases List.mem_append.1 hx with h | h
      · rcases lrn_mem h with rfl | h
        · exact List.mem_append.2 (.inr (.head _))
        · exact List.mem_append.2 (.inl h)
      · exact List.mem_append.2 (.inr (.tail _ h)))
    show lk k (m.foldl lrnL (lrnL l c)) = _
    rw [lk_mg h8 m _ (lrn_rise c hl) hp.2 h2, lk_lrn hl h1 h8, lk]
    by_cases e : c.nm = k
    · rw [if_pos e, if_pos e]
      have hn : lk k m = none := by rw [← e]; exact lk_lt hp.1
      rw [hn]
      cases lk k l <;> rfl
    · rw [if_neg e, if_neg e]
theorem lk_ext : ∀ (l m : List CH), Rise l → Rise m → (∀ k, lk k l = lk k m) → l = m
  | [], [], _, _, _ => rfl
  | [], b :: s, _, hm, h => by
    have := h b.nm
    rw [lk_self hm (.head _)] at this
    cases this
  | a :: t, [], hl, _, h => by
    have := h a.nm
    rw [lk_self hl (.head _)] at this
    cases this
  | a :: t, b :: s, hl, hm, h => by
    have hp := List.pairwise_cons.1 hl
    have hq := List.pairwise_cons.1 hm
    have h1 := h a.nm
    rw [lk_self hl (.head _)] at h1
    have ha : a ∈ b :: s := (lk_nm h1.symm).2
    have h2 := h b.nm
    rw [lk_self hm (.head _)] at h2
    have hb : b ∈ a :: t := (lk_nm h2).2
    have e : a = b := by
      rcases List.mem_cons.1 ha with e | ha
      · exact e
      · rcases List.mem_cons.1 hb with e | hb
        · exact e.symm
        · have g1 := hq.1 a ha
          have g2 := hp.1 b hb
          rw [lt_asym g1] at g2
          cases g2
    subst e
    rw [lk_ext t s hp.2 hq.2 (fun k => ?_)]
    by_cases e : a.nm = k
    · rw [← e, lk_lt hp.1, lk_lt hq.1]
    · have := h k
      rw [lk, lk, if_neg e, if_neg e] at this
      exact this
theorem nwZ_iff {e m e' m' : Int} : nwZ e m e' m' = true ↔ e' < e ∨ (e = e' ∧ m < m') := by
  unfold nwZ
  by_cases c : e = e'
  · rw [if_pos c, decide_eq_true_eq]; omega
  · rw [if_neg c, decide_eq_true_eq]; omega
theorem pk_comm {a b : CH} (hu : a.ep = b.ep → a.mr = b.mr → a = b) : pk a b = pk b a := by
  unfold pk
  by_cases h1 : b.nw a = true
  · rw [if_pos h1, if_neg (by unfold CH.nw at h1 ⊢; rw [nw_asym h1]; decide)]
  · rw [if_neg h1]
    by_cases h2 : a.nw b = true
    · rw [if_pos h2]
    · rw [if_neg h2]
      unfold CH.nw at h1 h2
      rw [nwZ_iff] at h1 h2
      exact hu (by omega) (by omega)
theorem pk_assoc (a b c : CH) : pk (pk a b) c = pk a (pk b c) := by
  unfold pk
  by_cases h1 : b.nw a = true
  · rw [if_pos h1]
    by_cases h2 : c.nw b = true
    · rw [if_pos h2, if_pos]
      unfold CH.nw at h1 h2 ⊢
      rw [nwZ_iff] at h1 h2 ⊢
      omega
    · rw [if_neg h2, if_pos h1]
  · rw [if_neg h1]
    by_cases h2 : c.nw b = true
    · rw [if_pos h2]
    · rw [if_neg h2, if_neg h1, if_neg]
      unfold CH.nw at h1 h2 ⊢
      rw [nwZ_iff] at h1 h2 ⊢
      omega
theorem mx_assoc (a b c : Option CH) : mx (mx a b) c = mx a (mx b c) := by
  cases a <;> cases b <;> cases c <;> simp only [mx, pk_assoc]
/-- Either way round. -/
theorem mg_comm {l m : List CH} {S : List ByteArray} (hl : Rise l) (hm : Rise m) (hU : Uq (l ++ m)) (hS : Cov (l ++ m) S) (h8 : S.length ≤ 8) : m.foldl lrnL l = l.foldl lrnL m := by
  refine lk_ext _ _ (mg_rise _ _ hl) (mg_rise _ _ hm) (fun k => ?_)
  rw [lk_mg h8 m l hl hm hS, lk_mg h8 l m hm hl (hS.sub (fun x hx => by rw [List.mem_append] at hx ⊢; exact hx.symm))]
  cases ha : lk k l with
  | none => cases lk k m <;> rfl
  | some a =>
    cases hb : lk k m with
    | none => rfl
    | some b =>
      have n1 := lk_nm ha
      have n2 := lk_nm hb
      show some (pk a b) = some (pk b a)
      rw [pk_comm (hU a (List.mem_append.2 (.inl n1.2)) b (List.mem_append.2 (.inr n2.2)) (n1.1.trans n2.1.symm))]
theorem mg_self {l : List CH} {S : List ByteArray} (hl : Rise l) (hS : Cov l S) (h8 : S.length ≤ 8) : l.foldl lrnL l = l := by
  refine lk_ext _ _ (mg_rise _ _ hl) hl (fun k => ?_)
  rw [lk_mg h8 l l hl hl (hS.sub (fun x hx => by rw [List.mem_append] at hx; exact hx.elim _root_.id _root_.id))]
  cases lk k l with
  | none => rfl
  | some a => show some (pk a a) = _; unfold pk; split <;> rfl
theorem mg_assoc {l m k : List CH} {S : List ByteArray} (hl : Rise l) (hm : Rise m) (hk : Rise k) (hS : Cov (l ++ m ++ k) S) (h8 : S.length ≤ 8) : k.foldl lrnL (m.foldl lrnL l) = (k.foldl lrnL m).foldl lrnL l := by
  have c1 : Cov (l ++ m) S := hS.sub (fun x hx => List.mem_append.2 (.inl hx))
  have c2 : Cov (m ++ k) S := hS.sub (fun x hx => by simp only [List.mem_append] at hx ⊢; rcases hx with h | h; exact .inl (.inr h); exact .inr h)
  have c3 : Cov (m.foldl lrnL l ++ k) S := hS.sub (fun x hx => by
    simp only [List.mem_append] at hx ⊢
    rcases hx with h | h
    · exact .inl (mg_mem m l h)
    · exact .inr h)
  have c4 : Cov (l ++ k.foldl lrnL m) S := hS.sub (fun x hx => by
    simp only [List.mem_append] at hx ⊢
    rcases hx with h | h
    · exact .inl (.inl h)
    · rcases mg_mem k m h with h | h
      · exact .inl (.inr h)
      · exact .inr h)
  refine lk_ext _ _ (mg_rise _ _ (mg_rise _ _ hl)) (mg_rise _ _ hl) (fun q => ?_)
  rw [lk_mg h8 k _ (mg_rise _ _ hl) hk c3, lk_mg h8 m l hl hm c1, lk_mg h8 _ l hl (mg_rise _ _ hm) c4, lk_mg h8 k m hm hk c2, mx_assoc]
end Go.Proofs.Ytmbchcpggbfkcaa
