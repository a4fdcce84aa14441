/-
  The document's own Learn and Merge.
-/
import Derived.Test.YtoeebofappbneaaR1
namespace Go.Proofs.Ytoeebofappbneaa
open Go.ChangeShapes Go.WideShapes Go.ChangeAt Go.RowKit Go.Maps Go.Shelf
set_option linter.unusedVariables false
set_option linter.unusedSimpArgs false

set_option maxRecDepth 100000 in
set_option maxHeartbeats 4000000 in
theorem rlearn_any (a : Option Addr) (cap : Nat) (l : List CH) (nm' : ByteArray) (ep' mr' : Int) (al' : Bool) (kd' sc' : Int) (w : World) (hr : RdC w a l.length cap l) (hn : l.length ≤ 1000) (hl : Rise l) : Calls Try.prog 42 #[.slice a l.length cap, chv nm' ep' mr' al' kd' sc'] w (AnsL w (lrnL l ⟨nm', ep', mr', al', kd', sc'⟩) (lrnW l ⟨nm', ep', mr', al', kd', sc'⟩)) := by
  have M := Mem.nil w
  have KC := fun W (b : Below w.heap.size w W) => rcopied_any a cap l W (hr.below b)
  have KP := fun W (b : Below w.heap.size w W) => put_any a l.length cap l nm' ep' mr' al' kd' sc' W (hr.below b) hn
  rw [ptL_ins hl] at KP
  have KF := fun W (b : Below w.heap.size w W) => rfind_any a l.length cap l nm' W (hr.below b)
  unfold lrnL lrnW
  clear hr hn hl
  cases hf : lk nm' l with
  | none =>
    rw [hf] at KF
    replace KF : ∀ W, Below w.heap.size w W → Calls Try.prog 61 #[.slice a l.length cap, .string nm'] W fun e w' => e = .returned (.tuple #[chv ⟨#[]⟩ 0 0 false 0 0, .bool false]) ∧ Below W.heap.size W w' := KF
    dsimp only
    clear hf
    by_cases h8 : 8 ≤ l.length
    · rw [if_pos h8, if_pos h8]
      have h8I : (8 : Int) ≤ (l.length : Int) := by omega
      clear h8 KP
      go_enter Try.func42, Try.ntmps42
      go_wp2_with (first
      | ((with_reducible show wpList _ _ _ (Oper.mk (some 3) (Op.box 30 _) _ _ _ _ :: _) _ _); refine wpList_box M rfl _ rfl _ rfl ?_; clear M; intro k3 W M)
      | ((with_reducible show wpList _ _ _ (Oper.mk _ (Op.load 9 _) _ _ _ _ :: _) _ _); refine wpList_cell9 M (by rfl) _ rfl _ rfl (by first | exact .head _ | exact .tail _ (.head _)) rfl ?_)
      | (go_at_call 61; refine (KF _ M.below).mono ?_; clear KF; rintro e W1 ⟨rfl, b1⟩; replace M := M.later b1; clear b1)
      | ((with_reducible show wpList _ _ _ (Oper.mk (some 6) (Op.alloc 30) _ _ _ _ :: _) _ _); refine wpList_alloc M rfl rfl rt23 ?_; clear M; intro k6 W M)
      | ((with_reducible show wpList _ _ _ (Oper.mk _ (Op.store 30 _ _) _ _ _ _ :: _) _ _); (first | (refine wpList_put M rfl _ _ rfl rt23 0 _ rfl rfl rfl rfl rfl (by simp [Value.oneCell']) ?_) | (refine wpList_put M rfl _ _ rfl rt23 1 _ rfl rfl rfl rfl rfl (by simp [Value.oneCell']) ?_)); clear M; intro W M; simp only [List.set_cons_zero, List.set_cons_succ] at M)
      | ((with_reducible show wpList _ _ _ (Oper.mk _ (Op.load 30 _) _ _ _ _ :: _) _ _); refine wpList_load M (by rfl) _ rfl rt23 rfl (by first | exact .head _ | exact .tail _ (.head _)) (by rfl) ?_)
      | (go_at_call 62; refine (KC _ M.below).mono ?_; clear KC; rintro e W2 ⟨a1, c1, rfl, L1, o1, b1⟩; have hsz := M.below.size; replace M := M.later b1; clear b1)
      | (go_at_call 63; refine (KP _ M.below).mono ?_; clear KP; rintro e W2 ⟨a1, c1, rfl, L1, o1, b1⟩; have hsz := M.below.size; replace M := M.later b1; clear b1)
      | (go_at_call 64; refine (K1 _).mono ?_; clear K1; rintro e W3 ⟨rfl, b1⟩; replace M := M.later b1; clear b1)
      | (go_at_call 64; refine (K2 _).mono ?_; clear K2; rintro e W3 ⟨rfl, b1⟩; replace M := M.later b1; clear b1))
      exact bodyPost_ret (results_tmp2 rfl _ _ _) rfl ⟨a1, c1, rfl, L1, fun g off e => by have := o1 g off e; omega, M.below⟩
    · rw [if_neg h8, if_neg h8]
      have h8I : ¬ (8 : Int) ≤ (l.length : Int) := by omega
      have h8J : (l.length : Int) < 8 := by omega
      clear h8 KC
      go_enter Try.func42, Try.ntmps42
      go_wp2_with (first
      | ((with_reducible show wpList _ _ _ (Oper.mk (some 3) (Op.box 30 _) _ _ _ _ :: _) _ _); refine wpList_box M rfl _ rfl _ rfl ?_; clear M; intro k3 W M)
      | ((with_reducible show wpList _ _ _ (Oper.mk _ (Op.load 9 _) _ _ _ _ :: _) _ _); refine wpList_cell9 M (by rfl) _ rfl _ rfl (by first | exact .head _ | exact .tail _ (.head _)) rfl ?_)
      | (go_at_call 61; refine (KF _ M.below).mono ?_; clear KF; rintro e W1 ⟨rfl, b1⟩; replace M := M.later b1; clear b1)
      | ((with_reducible show wpList _ _ _ (Oper.mk (some 6) (Op.alloc 30) _ _ _ _ :: _) _ _); refine wpList_alloc M rfl rfl rt23 ?_; clear M; intro k6 W M)
      | ((with_reducible show wpList _ _ _ (Oper.mk _ (Op.store 30 _ _) _ _ _ _ :: _) _ _); (first | (refine wpList_put M rfl _ _ rfl rt23 0 _ rfl rfl rfl rfl rfl (by simp [Value.oneCell']) ?_) | (refine wpList_put M rfl _ _ rfl rt23 1 _ rfl rfl rfl rfl rfl (by simp [Value.oneCell']) ?_)); clear M; intro W M; simp only [List.set_cons_zero, List.set_cons_succ] at M)
      | ((with_reducible show wpList _ _ _ (Oper.mk _ (Op.load 30 _) _ _ _ _ :: _) _ _); refine wpList_load M (by rfl) _ rfl rt23 rfl (by first | exact .head _ | exact .tail _ (.head _)) (by rfl) ?_)
      | (go_at_call 62; refine (KC _ M.below).mono ?_; clear KC; rintro e W2 ⟨a1, c1, rfl, L1, o1, b1⟩; have hsz := M.below.size; replace M := M.later b1; clear b1)
      | (go_at_call 63; refine (KP _ M.below).mono ?_; clear KP; rintro e W2 ⟨a1, c1, rfl, L1, o1, b1⟩; have hsz := M.below.size; replace M := M.later b1; clear b1)
      | (go_at_call 64; refine (K1 _).mono ?_; clear K1; rintro e W3 ⟨rfl, b1⟩; replace M := M.later b1; clear b1)
      | (go_at_call 64; refine (K2 _).mono ?_; clear K2; rintro e W3 ⟨rfl, b1⟩; replace M := M.later b1; clear b1))
      exact bodyPost_ret (results_tmp2 rfl _ _ _) rfl ⟨a1, c1, rfl, L1, fun g off e => by have := o1 g off e; omega, M.below⟩
  | some o =>
    obtain ⟨nm, ep, mr, al, kd, sc⟩ := o
    rw [hf] at KF
    replace KF : ∀ W, Below w.heap.size w W → Calls Try.prog 61 #[.slice a l.length cap, .string nm'] W fun e w' => e = .returned (.tuple #[chv nm ep mr al kd sc, .bool true]) ∧ Below W.heap.size W w' := KF
    have K1 := fun w => rnewer_any nm' ep' mr' al' kd' sc' nm ep mr al kd sc w
    have K2 := fun w => rnewer_any nm ep mr al kd sc nm' ep' mr' al' kd' sc' w
    unfold CH.nw
    dsimp only
    clear hf
    cases h1 : nwZ ep' mr' ep mr with
    | true =>
      rw [h1] at K1
      rw [if_pos rfl, if_pos rfl]
      clear h1 K2 KC
      go_enter Try.func42, Try.ntmps42
      go_wp2_with (first
      | ((with_reducible show wpList _ _ _ (Oper.mk (some 3) (Op.box 30 _) _ _ _ _ :: _) _ _); refine wpList_box M rfl _ rfl _ rfl ?_; clear M; intro k3 W M)
      | ((with_reducible show wpList _ _ _ (Oper.mk _ (Op.load 9 _) _ _ _ _ :: _) _ _); refine wpList_cell9 M (by rfl) _ rfl _ rfl (by first | exact .head _ | exact .tail _ (.head _)) rfl ?_)
      | (go_at_call 61; refine (KF _ M.below).mono ?_; clear KF; rintro e W1 ⟨rfl, b1⟩; replace M := M.later b1; clear b1)
      | ((with_reducible show wpList _ _ _ (Oper.mk (some 6) (Op.alloc 30) _ _ _ _ :: _) _ _); refine wpList_alloc M rfl rfl rt23 ?_; clear M; intro k6 W M)
      | ((with_reducible show wpList _ _ _ (Oper.mk _ (Op.store 30 _ _) _ _ _ _ :: _) _ _); (first | (refine wpList_put M rfl _ _ rfl rt23 0 _ rfl rfl rfl rfl rfl (by simp [Value.oneCell']) ?_) | (refine wpList_put M rfl _ _ rfl rt23 1 _ rfl rfl rfl rfl rfl (by simp [Value.oneCell']) ?_)); clear M; intro W M; simp only [List.set_cons_zero, List.set_cons_succ] at M)
      | ((with_reducible show wpList _ _ _ (Oper.mk _ (Op.load 30 _) _ _ _ _ :: _) _ _); refine wpList_load M (by rfl) _ rfl rt23 rfl (by first | exact .head _ | exact .tail _ (.head _)) (by rfl) ?_)
      | (go_at_call 62; refine (KC _ M.below).mono ?_; clear KC; rintro e W2 ⟨a1, c1, rfl, L1, o1, b1⟩; have hsz := M.below.size; replace M := M.later b1; clear b1)
      | (go_at_call 63; refine (KP _ M.below).mono ?_; clear KP; rintro e W2 ⟨a1, c1, rfl, L1, o1, b1⟩; have hsz := M.below.size; replace M := M.later b1; clear b1)
      | (go_at_call 64; refine (K1 _).mono ?_; clear K1; rintro e W3 ⟨rfl, b1⟩; replace M := M.later b1; clear b1)
      | (go_at_call 64; refine (K2 _).mono ?_; clear K2; rintro e W3 ⟨rfl, b1⟩; replace M := M.later b1; clear b1))
      exact bodyPost_ret (results_tmp2 rfl _ _ _) rfl ⟨a1, c1, rfl, L1, fun g off e => by have := o1 g off e; omega, M.below⟩
    | false =>
      rw [h1] at K1
      rw [if_neg (by decide), if_neg (by decide)]
      clear h1 KP
      cases h2 : nwZ ep mr ep' mr' with
      | true =>
        rw [h2] at K2
        rw [if_pos rfl]
        clear h2
        go_enter Try.func42, Try.ntmps42
        go_wp2_with (first
      | ((with_reducible show wpList _ _ _ (Oper.mk (some 3) (Op.box 30 _) _ _ _ _ :: _) _ _); refine wpList_box M rfl _ rfl _ rfl ?_; clear M; intro k3 W M)
      | ((with_reducible show wpList _ _ _ (Oper.mk _ (Op.load 9 _) _ _ _ _ :: _) _ _); refine wpList_cell9 M (by rfl) _ rfl _ rfl (by first | exact .head _ | exact .tail _ (.head _)) rfl ?_)
      | (go_at_call 61; refine (KF _ M.below).mono ?_; clear KF; rintro e W1 ⟨rfl, b1⟩; replace M := M.later b1; clear b1)
      | ((with_reducible show wpList _ _ _ (Oper.mk (some 6) (Op.alloc 30) _ _ _ _ :: _) _ _); refine wpList_alloc M rfl rfl rt23 ?_; clear M; intro k6 W M)
      | ((with_reducible show wpList _ _ _ (Oper.mk _ (Op.store 30 _ _) _ _ _ _ :: _) _ _); (first | (refine wpList_put M rfl _ _ rfl rt23 0 _ rfl rfl rfl rfl rfl (by simp [Value.oneCell']) ?_) | (refine wpList_put M rfl _ _ rfl rt23 1 _ rfl rfl rfl rfl rfl (by simp [Value.oneCell']) ?_)); clear M; intro W M; simp only [List.set_cons_zero, List.set_cons_succ] at M)
      | ((with_reducible show wpList _ _ _ (Oper.mk _ (Op.load 30 _) _ _ _ _ :: _) _ _); refine wpList_load M (by rfl) _ rfl rt23 rfl (by first | exact .head _ | exact .tail _ (.head _)) (by rfl) ?_)
      | (go_at_call 62; refine (KC _ M.below).mono ?_; clear KC; rintro e W2 ⟨a1, c1, rfl, L1, o1, b1⟩; have hsz := M.below.size; replace M := M.later b1; clear b1)
      | (go_at_call 63; refine (KP _ M.below).mono ?_; clear KP; rintro e W2 ⟨a1, c1, rfl, L1, o1, b1⟩; have hsz := M.below.size; replace M := M.later b1; clear b1)
      | (go_at_call 64; refine (K1 _).mono ?_; clear K1; rintro e W3 ⟨rfl, b1⟩; replace M := M.later b1; clear b1)
      | (go_at_call 64; refine (K2 _).mono ?_; clear K2; rintro e W3 ⟨rfl, b1⟩; replace M := M.later b1; clear b1))
        exact bodyPost_ret (results_tmp2 rfl _ _ _) rfl ⟨a1, c1, rfl, L1, fun g off e => by have := o1 g off e; omega, M.below⟩
      | false =>
        rw [h2] at K2
        rw [if_neg (by decide)]
        clear h2
        go_enter Try.func42, Try.ntmps42
        go_wp2_with (first
      | ((with_reducible show wpList _ _ _ (Oper.mk (some 3) (Op.box 30 _) _ _ _ _ :: _) _ _); refine wpList_box M rfl _ rfl _ rfl ?_; clear M; intro k3 W M)
      | ((with_reducible show wpList _ _ _ (Oper.mk _ (Op.load 9 _) _ _ _ _ :: _) _ _); refine wpList_cell9 M (by rfl) _ rfl _ rfl (by first | exact .head _ | exact .tail _ (.head _)) rfl ?_)
      | (go_at_call 61; refine (KF _ M.below).mono ?_; clear KF; rintro e W1 ⟨rfl, b1⟩; replace M := M.later b1; clear b1)
      | ((with_reducible show wpList _ _ _ (Oper.mk (some 6) (Op.alloc 30) _ _ _ _ :: _) _ _); refine wpList_alloc M rfl rfl rt23 ?_; clear M; intro k6 W M)
      | ((with_reducible show wpList _ _ _ (Oper.mk _ (Op.store 30 _ _) _ _ _ _ :: _) _ _); (first | (refine wpList_put M rfl _ _ rfl rt23 0 _ rfl rfl rfl rfl rfl (by simp [Value.oneCell']) ?_) | (refine wpList_put M rfl _ _ rfl rt23 1 _ rfl rfl rfl rfl rfl (by simp [Value.oneCell']) ?_)); clear M; intro W M; simp only [List.set_cons_zero, List.set_cons_succ] at M)
      | ((with_reducible show wpList _ _ _ (Oper.mk _ (Op.load 30 _) _ _ _ _ :: _) _ _); refine wpList_load M (by rfl) _ rfl rt23 rfl (by first | exact .head _ | exact .tail _ (.head _)) (by rfl) ?_)
      | (go_at_call 62; refine (KC _ M.below).mono ?_; clear KC; rintro e W2 ⟨a1, c1, rfl, L1, o1, b1⟩; have hsz := M.below.size; replace M := M.later b1; clear b1)
      | (go_at_call 63; refine (KP _ M.below).mono ?_; clear KP; rintro e W2 ⟨a1, c1, rfl, L1, o1, b1⟩; have hsz := M.below.size; replace M := M.later b1; clear b1)
      | (go_at_call 64; refine (K1 _).mono ?_; clear K1; rintro e W3 ⟨rfl, b1⟩; replace M := M.later b1; clear b1)
      | (go_at_call 64; refine (K2 _).mono ?_; clear K2; rintro e W3 ⟨rfl, b1⟩; replace M := M.later b1; clear b1))
        exact bodyPost_ret (results_tmp2 rfl _ _ _) rfl ⟨a1, c1, rfl, L1, fun g off e => by have := o1 g off e; omega, M.below⟩
theorem ins_mem {l : List CH} {c x : CH} (h : x ∈ ins l c) : x = c ∨ x ∈ l := by
  induction l with
  | nil => left; simpa [ins] using h
  | cons a t ih =>
    rw [ins] at h
    split at h
    · rcases List.mem_cons.1 h with rfl | h
      · exact .inr (.head _)
      · exact (ih h).imp _root_.id (.tail _)
    · split at h
      · rcases List.mem_cons.1 h with rfl | h
        · exact .inl rfl
        · exact .inr h
      · rcases List.mem_cons.1 h with rfl | h
        · exact .inl rfl
        · exact .inr (.tail _ h)
theorem ins_rise {l : List CH} (c : CH) (h : Rise l) : Rise (ins l c) := by
  induction l with
  | nil => exact List.pairwise_cons.2 ⟨fun y hy => (by cases hy), List.Pairwise.nil⟩
  | cons a t ih =>
    have hp := List.pairwise_cons.1 h
    rw [ins]
    rcases three a.nm c.nm with ⟨h1, h2, h3⟩ | ⟨h1, h2, h3⟩ | ⟨h1, h2, h3⟩
    · rw [if_pos h1]
      refine List.pairwise_cons.2 ⟨fun y hy => ?_, ih hp.2⟩
      rcases ins_mem hy with rfl | hy
      · exact h1
      · exact hp.1 y hy
    · rw [if_neg (by rw [h2]; decide), if_pos h1]
      refine List.pairwise_cons.2 ⟨fun y hy => ?_, h⟩
      rcases List.mem_cons.1 hy with rfl | hy
      · exact h1
      · exact lt_trans' h1 (hp.1 y hy)
    · rw [if_neg (by rw [h2]; decide), if_neg (by rw [h3]; decide)]
      exact List.pairwise_cons.2 ⟨fun y hy => by rw [← h1]; exact hp.1 y hy, hp.2⟩
theorem lrn_rise {l : List CH} (c : CH) (h : Rise l) : Rise (lrnL l c) := by
  unfold lrnL
  split
  · split
    · exact h
    · exact ins_rise c h
  · split
    · exact ins_rise c h
    · exact h
theorem ins_len (l : List CH) (c : CH) : (ins l c).length ≤ l.length + 1 := by
  induction l with
  | nil => simp [ins]
  | cons a t ih =>
    rw [ins]
    split
    · simp only [List.length_cons]; omega
    · split <;> simp only [List.length_cons] <;> omega
theorem lrn_len (l : List CH) (c : CH) : (lrnL l c).length ≤ l.length + 1 := by
  have := ins_len l c
  unfold lrnL
  split <;> split <;> omega
def mgT (l m : List CH) (i : Nat) : List CH := (m.take i).foldl lrnL l
theorem mgT_step {l m : List CH} {i : Nat} {x : CH} (h : m[i]? = some x) : mgT l m (i + 1) = lrnL (mgT l m i) x := by
  unfold mgT
  rw [List.take_add_one, h, List.foldl_append]
  rfl
theorem mg_rise : ∀ (m l : List CH), Rise l → Rise (m.foldl lrnL l)
  | [], l, h => h
  | c :: m, l, h => mg_rise m _ (lrn_rise c h)
theorem mg_len : ∀ (m l : List CH), (m.foldl lrnL l).length ≤ l.length + m.length
  | [], l => Nat.le_refl _
  | c :: m, l => by
    have h1 := mg_len m (lrnL l c)
    have h2 := lrn_len l c
    simp only [List.foldl_cons, List.length_cons]
    omega
theorem mgT_all {l m : List CH} {n : Nat} (h : m.length = n) : mgT l m n = m.foldl lrnL l := by unfold mgT; rw [List.take_of_length_le (by omega)]
end Go.Proofs.Ytoeebofappbneaa
