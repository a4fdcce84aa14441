/-
  Package dir: channels made and taken away.
-/
import Derived.Test.YtoeebofappbneaaGreatR2
namespace Go.Proofs.YtoeebofappbneaaGreat
open Go.ChangeShapes Go.WideShapes Go.ChangeAt Go.RowKit Go.Maps Go.Shelf
set_option linter.unusedVariables false
set_option linter.unusedSimpArgs false
attribute [local go_sem] field57

def crE (l : List CH) (name : ByteArray) (kind scale : Int) : Int :=
  if nameB name = false then 45 else if kindB kind = false then 46 else if scaleB kind scale = false then 47 else if (fdc (lk name l)).al = true then 42 else if (lk name l).isSome = false ∧ 8 ≤ l.length then 48 else if 1099511627776 ≤ (fdc (lk name l)).ep then 33 else 0
def crM (l : List CH) (maker : Int) (name : ByteArray) (kind scale : Int) : CH := ⟨name, (fdc (lk name l)).ep + 1, maker, true, kind, scale⟩
def dlE (l : List CH) (name : ByteArray) : Int := if (fdc (lk name l)).al = false then 44 else if 1099511627776 ≤ (fdc (lk name l)).ep then 33 else 0
def dlM (l : List CH) (maker : Int) (name : ByteArray) : CH := ⟨(fdc (lk name l)).nm, (fdc (lk name l)).ep + 1, maker, false, (fdc (lk name l)).kd, (fdc (lk name l)).sc⟩
section
variable {ops : Array Oper} {rest : List Oper} {o : Oper} {A : Act} {w W : World} {l : List Blk} {Q : Exit → Act → World → Prop} {N : Nat} {C : Nat → Prop}
theorem wpList_put2 (M : MemG N C w W l) (hgd : o.guard = none) (x y : Operand) (ho : o.op = .store 80 x y) (j : Nat) {k : Nat} {a b c d e f : Value} {T : TypeId} (p q : Int) (hi : l[j]? = some (k, #[a, b, c, d, e, f], T)) (hx : A.eval x = .pointer (some ⟨k, 0, none⟩)) (hy : A.eval y = stv p q)
    (H : ∀ W', MemG N C w W' (l.set j (k, #[.int .i64 p, .int .i64 q, c, d, e, f], T)) → wpList Tryz.prog ops Q rest (A.put o.dst undef) W') : wpList Tryz.prog ops Q (o :: rest) A W := by
  have ha : W.heap[k]? = some (.cells #[a, b, c, d, e, f] T (0, 0)) := M.get (List.mem_of_getElem? hi)
  refine wpList_plain hgd fun K hK => ?_
  have h0 := row_cell ha 0 _ rfl
  have h1 := row_cell ha 1 _ rfl
  have f0 := row_free ha 0
  have f1 := row_free ha 1
  unfold Oper.wp execOp
  simp only [ho, hx, hy]
  go_simp
  refine hK _ _ (H _ (M.put j _ hi rfl rfl rfl (by simp [World.setCell]) ?_ (fun q hq => (Below.heap_setCell _ _ _ _ hq).trans (Below.heap_setCell _ _ _ _ hq))))
  exact set_row (set_row ha 0 _) 1 _
end
set_option maxRecDepth 100000 in
set_option maxHeartbeats 4000000 in
theorem create_any (a : Option Addr) (cap : Nat) (l : List CH) (maker : Int) (name : ByteArray) (kind scale : Int) (w : World) (hr : RdC w a l.length cap l) (hn : l.length ≤ 1000) (hep : 0 ≤ (fdc (lk name l)).ep) : Calls Tryz.prog 26 #[.slice a l.length cap, .int .i64 maker, .string name, .int .i64 kind, .int .i64 scale] w (AnsL w (if crE l name kind scale = 0 then GL (8 - (l.length : Int)) (Z l [crM l maker name kind scale]) else l) (crE l name kind scale)) := by
  have M := Mem.nil w
  have KC := fun W (b : Below w.heap.size w W) => own_any a cap l W (hr.below b)
  have KF := fun W (b : Below w.heap.size w W) => find_any a l.length cap l name W (hr.below b)
  have KN := fun w => name_any name w
  have KK := fun w => kind_any kind w
  have KS := fun w => scale_any kind scale w
  have HCM : Hid (crM l maker name kind scale = ⟨name, (fdc (lk name l)).ep + 1, maker, true, kind, scale⟩) := rfl
  have KM : ∀ (W : World) (q : Nat), Below w.heap.size w W → W.heap[q]? = some (.cells (chc name ((fdc (lk name l)).ep + 1) maker true kind scale) 47 (0, 0)) → Calls Tryz.prog 54 #[.slice a l.length cap, .slice (some ⟨q, 0, none⟩) 1 1] W (Ans W (GL (8 - (l.length : Int)) (Z l [crM l maker name kind scale]))) := fun W q b h => merge_any a l.length cap l _ 1 1 _ W (hr.below b) (rd_one h) hn (by decide)
  have KX := fun w => next_any (fdc (lk name l)).ep (fdc (lk name l)).mr maker w
  have KL := fun w => plain_any name ((fdc (lk name l)).ep + 1) maker true kind scale w
  have HC0 : Hid (crE l name kind scale = if nameB name = false then 45 else if kindB kind = false then 46 else if scaleB kind scale = false then 47 else if (fdc (lk name l)).al = true then 42 else if (lk name l).isSome = false ∧ 8 ≤ l.length then 48 else if 1099511627776 ≤ (fdc (lk name l)).ep then 33 else 0) := rfl
  obtain ⟨E, hEE⟩ : ∃ E, crE l name kind scale = E := ⟨_, rfl⟩
  obtain ⟨LC, hLC⟩ : ∃ LC, GL (8 - (l.length : Int)) (Z l [crM l maker name kind scale]) = LC := ⟨_, rfl⟩
  rw [hEE] at HC0 ⊢
  rw [hLC] at KM ⊢
  clear hEE hLC HCM hr hn
  obtain ⟨o0, ho0⟩ : ∃ o0, lk name l = o0 := ⟨_, rfl⟩
  rw [ho0] at KF HC0 hep KM KX KL
  clear ho0
  obtain ⟨b0, hb0⟩ : ∃ b0, o0.isSome = b0 := ⟨_, rfl⟩
  obtain ⟨c0, hc0⟩ : ∃ c0, fdc o0 = c0 := ⟨_, rfl⟩
  unfold fnd at KF
  rw [hb0, hc0] at KF HC0
  rw [hc0] at hep KM KX KL
  clear hb0 hc0
  obtain ⟨nm0, ep0, mr0, al0, kd0, sc0⟩ := c0
  replace KF : ∀ W, Below w.heap.size w W → Calls Tryz.prog 29 #[.slice a l.length cap, .string name] W fun e w' => e = .returned (.tuple #[chv nm0 ep0 mr0 al0 kd0 sc0, .bool b0]) ∧ Below W.heap.size W w' := KF
  dsimp only at HC0 hep KM KX KL
  have KO := fun w => of_any nm0 ep0 mr0 al0 kd0 sc0 w
  cases hnm : nameB name with
  | false =>
    rw [hnm] at KN
    have hE : E = 45 := by rw [HC0.out]; simp [hnm]
    subst hE
    rw [if_neg (by decide)]
    clear HC0
    clear hnm
    clear KM KX KL KO
    go_enter Tryz.func26, Tryz.ntmps26
    go_wp2_with (first
      | (go_at_call 29; refine (KF _ M.below).mono ?_; clear KF; rintro e W1 ⟨rfl, b1⟩; replace M := M.later b1; clear b1)
      | ((with_reducible show wpList _ _ _ (Oper.mk (some 12) (Op.alloc 47) _ _ _ _ :: _) _ _); refine wpList_alloc M rfl rfl rt23 ?_; clear M; intro k12 W M)
      | ((with_reducible show wpList _ _ _ (Oper.mk _ (Op.store 47 _ _) _ _ _ _ :: _) _ _); (first | (refine wpList_put M rfl _ _ rfl rt23 0 _ rfl rfl rfl rfl rfl (by simp [Value.oneCell']) ?_)); clear M; intro W M; simp only [List.set_cons_zero, List.set_cons_succ] at M)
      | ((with_reducible show wpList _ _ _ (Oper.mk _ (Op.load 4 _) _ _ _ _ :: _) _ _); refine wpList_cell4 M (by rfl) _ rfl _ rfl (by first | exact .head _) (by rfl) ?_)
      | ((with_reducible show wpList _ _ _ (Oper.mk _ (Op.load 2 _) _ _ _ _ :: _) _ _); refine wpList_cell2 M (by rfl) _ rfl _ rfl (by first | exact .head _) (by rfl) ?_)
      | ((with_reducible show wpList _ _ _ (Oper.mk _ (Op.load 47 _) _ _ _ _ :: _) _ _); refine wpList_load M (by rfl) _ rfl rt23 rfl (by first | exact .head _) (by rfl) ?_)
      | (go_at_call 48; refine (KN _).mono ?_; clear KN; rintro e W3 ⟨rfl, rfl⟩)
      | (go_at_call 50; refine (KK _).mono ?_; clear KK; rintro e W3 ⟨rfl, rfl⟩)
      | (go_at_call 51; refine (KS _).mono ?_; clear KS; rintro e W3 ⟨rfl, rfl⟩)
      | (go_at_call 49; refine (KC _ M.below).mono ?_; clear KC; rintro e W2 ⟨a1, c1, rfl, L1, o1, b1⟩; have hsz := M.below.size; replace M := M.later b1; clear b1))
    exact bodyPost_ret (results_tmp2 rfl _ _ _) rfl ⟨a1, c1, rfl, L1, fun g off e => by have := o1 g off e; omega, M.below⟩
  | true =>
  rw [hnm] at KN
  cases hkd : kindB kind with
  | false =>
    rw [hkd] at KK
    have hE : E = 46 := by rw [HC0.out]; simp [hnm, hkd]
    subst hE
    rw [if_neg (by decide)]
    clear HC0
    clear hnm hkd
    clear KM KX KL KO
    go_enter Tryz.func26, Tryz.ntmps26
    go_wp2_with (first
      | (go_at_call 29; refine (KF _ M.below).mono ?_; clear KF; rintro e W1 ⟨rfl, b1⟩; replace M := M.later b1; clear b1)
      | ((with_reducible show wpList _ _ _ (Oper.mk (some 12) (Op.alloc 47) _ _ _ _ :: _) _ _); refine wpList_alloc M rfl rfl rt23 ?_; clear M; intro k12 W M)
      | ((with_reducible show wpList _ _ _ (Oper.mk _ (Op.store 47 _ _) _ _ _ _ :: _) _ _); (first | (refine wpList_put M rfl _ _ rfl rt23 0 _ rfl rfl rfl rfl rfl (by simp [Value.oneCell']) ?_)); clear M; intro W M; simp only [List.set_cons_zero, List.set_cons_succ] at M)
      | ((with_reducible show wpList _ _ _ (Oper.mk _ (Op.load 4 _) _ _ _ _ :: _) _ _); refine wpList_cell4 M (by rfl) _ rfl _ rfl (by first | exact .head _) (by rfl) ?_)
      | ((with_reducible show wpList _ _ _ (Oper.mk _ (Op.load 2 _) _ _ _ _ :: _) _ _); refine wpList_cell2 M (by rfl) _ rfl _ rfl (by first | exact .head _) (by rfl) ?_)
      | ((with_reducible show wpList _ _ _ (Oper.mk _ (Op.load 47 _) _ _ _ _ :: _) _ _); refine wpList_load M (by rfl) _ rfl rt23 rfl (by first | exact .head _) (by rfl) ?_)
      | (go_at_call 48; refine (KN _).mono ?_; clear KN; rintro e W3 ⟨rfl, rfl⟩)
      | (go_at_call 50; refine (KK _).mono ?_; clear KK; rintro e W3 ⟨rfl, rfl⟩)
      | (go_at_call 51; refine (KS _).mono ?_; clear KS; rintro e W3 ⟨rfl, rfl⟩)
      | (go_at_call 49; refine (KC _ M.below).mono ?_; clear KC; rintro e W2 ⟨a1, c1, rfl, L1, o1, b1⟩; have hsz := M.below.size; replace M := M.later b1; clear b1))
    exact bodyPost_ret (results_tmp2 rfl _ _ _) rfl ⟨a1, c1, rfl, L1, fun g off e => by have := o1 g off e; omega, M.below⟩
  | true =>
  rw [hkd] at KK
  skip
  cases hsc : scaleB kind scale with
  | false =>
    rw [hsc] at KS
    have hE : E = 47 := by rw [HC0.out]; simp [hnm, hkd, hsc]
    subst hE
    rw [if_neg (by decide)]
    clear HC0
    clear hnm hkd hsc
    clear KM KX KL KO
    go_enter Tryz.func26, Tryz.ntmps26
    go_wp2_with (first
      | (go_at_call 29; refine (KF _ M.below).mono ?_; clear KF; rintro e W1 ⟨rfl, b1⟩; replace M := M.later b1; clear b1)
      | ((with_reducible show wpList _ _ _ (Oper.mk (some 12) (Op.alloc 47) _ _ _ _ :: _) _ _); refine wpList_alloc M rfl rfl rt23 ?_; clear M; intro k12 W M)
      | ((with_reducible show wpList _ _ _ (Oper.mk _ (Op.store 47 _ _) _ _ _ _ :: _) _ _); (first | (refine wpList_put M rfl _ _ rfl rt23 0 _ rfl rfl rfl rfl rfl (by simp [Value.oneCell']) ?_)); clear M; intro W M; simp only [List.set_cons_zero, List.set_cons_succ] at M)
      | ((with_reducible show wpList _ _ _ (Oper.mk _ (Op.load 4 _) _ _ _ _ :: _) _ _); refine wpList_cell4 M (by rfl) _ rfl _ rfl (by first | exact .head _) (by rfl) ?_)
      | ((with_reducible show wpList _ _ _ (Oper.mk _ (Op.load 2 _) _ _ _ _ :: _) _ _); refine wpList_cell2 M (by rfl) _ rfl _ rfl (by first | exact .head _) (by rfl) ?_)
      | ((with_reducible show wpList _ _ _ (Oper.mk _ (Op.load 47 _) _ _ _ _ :: _) _ _); refine wpList_load M (by rfl) _ rfl rt23 rfl (by first | exact .head _) (by rfl) ?_)
      | (go_at_call 48; refine (KN _).mono ?_; clear KN; rintro e W3 ⟨rfl, rfl⟩)
      | (go_at_call 50; refine (KK _).mono ?_; clear KK; rintro e W3 ⟨rfl, rfl⟩)
      | (go_at_call 51; refine (KS _).mono ?_; clear KS; rintro e W3 ⟨rfl, rfl⟩)
      | (go_at_call 49; refine (KC _ M.below).mono ?_; clear KC; rintro e W2 ⟨a1, c1, rfl, L1, o1, b1⟩; have hsz := M.below.size; replace M := M.later b1; clear b1))
    exact bodyPost_ret (results_tmp2 rfl _ _ _) rfl ⟨a1, c1, rfl, L1, fun g off e => by have := o1 g off e; omega, M.below⟩
  | true =>
  rw [hsc] at KS
  cases al0 with
  | true =>
    have hE : E = 42 := by rw [HC0.out]; simp [hnm, hkd, hsc]
    subst hE
    rw [if_neg (by decide)]
    clear HC0
    clear hnm hkd hsc
    clear KM KX KL KO
    go_enter Tryz.func26, Tryz.ntmps26
    go_wp2_with (first
      | (go_at_call 29; refine (KF _ M.below).mono ?_; clear KF; rintro e W1 ⟨rfl, b1⟩; replace M := M.later b1; clear b1)
      | ((with_reducible show wpList _ _ _ (Oper.mk (some 12) (Op.alloc 47) _ _ _ _ :: _) _ _); refine wpList_alloc M rfl rfl rt23 ?_; clear M; intro k12 W M)
      | ((with_reducible show wpList _ _ _ (Oper.mk _ (Op.store 47 _ _) _ _ _ _ :: _) _ _); (first | (refine wpList_put M rfl _ _ rfl rt23 0 _ rfl rfl rfl rfl rfl (by simp [Value.oneCell']) ?_)); clear M; intro W M; simp only [List.set_cons_zero, List.set_cons_succ] at M)
      | ((with_reducible show wpList _ _ _ (Oper.mk _ (Op.load 4 _) _ _ _ _ :: _) _ _); refine wpList_cell4 M (by rfl) _ rfl _ rfl (by first | exact .head _) (by rfl) ?_)
      | ((with_reducible show wpList _ _ _ (Oper.mk _ (Op.load 2 _) _ _ _ _ :: _) _ _); refine wpList_cell2 M (by rfl) _ rfl _ rfl (by first | exact .head _) (by rfl) ?_)
      | ((with_reducible show wpList _ _ _ (Oper.mk _ (Op.load 47 _) _ _ _ _ :: _) _ _); refine wpList_load M (by rfl) _ rfl rt23 rfl (by first | exact .head _) (by rfl) ?_)
      | (go_at_call 48; refine (KN _).mono ?_; clear KN; rintro e W3 ⟨rfl, rfl⟩)
      | (go_at_call 50; refine (KK _).mono ?_; clear KK; rintro e W3 ⟨rfl, rfl⟩)
      | (go_at_call 51; refine (KS _).mono ?_; clear KS; rintro e W3 ⟨rfl, rfl⟩)
      | (go_at_call 49; refine (KC _ M.below).mono ?_; clear KC; rintro e W2 ⟨a1, c1, rfl, L1, o1, b1⟩; have hsz := M.below.size; replace M := M.later b1; clear b1))
    exact bodyPost_ret (results_tmp2 rfl _ _ _) rfl ⟨a1, c1, rfl, L1, fun g off e => by have := o1 g off e; omega, M.below⟩
  | false =>
  cases b0 with
  | true =>
    by_cases hmx : 1099511627776 ≤ ep0
    · skip
      have hE : E = 33 := by rw [HC0.out]; simp [hnm, hkd, hsc, hmx]
      subst hE
      rw [if_neg (by decide)]
      clear HC0
      clear hnm hkd hsc
      clear KM KX KL KO
      go_enter Tryz.func26, Tryz.ntmps26
      go_wp2_with (first
      | (go_at_call 29; refine (KF _ M.below).mono ?_; clear KF; rintro e W1 ⟨rfl, b1⟩; replace M := M.later b1; clear b1)
      | ((with_reducible show wpList _ _ _ (Oper.mk (some 12) (Op.alloc 47) _ _ _ _ :: _) _ _); refine wpList_alloc M rfl rfl rt23 ?_; clear M; intro k12 W M)
      | ((with_reducible show wpList _ _ _ (Oper.mk _ (Op.store 47 _ _) _ _ _ _ :: _) _ _); (first | (refine wpList_put M rfl _ _ rfl rt23 0 _ rfl rfl rfl rfl rfl (by simp [Value.oneCell']) ?_)); clear M; intro W M; simp only [List.set_cons_zero, List.set_cons_succ] at M)
      | ((with_reducible show wpList _ _ _ (Oper.mk _ (Op.load 4 _) _ _ _ _ :: _) _ _); refine wpList_cell4 M (by rfl) _ rfl _ rfl (by first | exact .head _) (by rfl) ?_)
      | ((with_reducible show wpList _ _ _ (Oper.mk _ (Op.load 2 _) _ _ _ _ :: _) _ _); refine wpList_cell2 M (by rfl) _ rfl _ rfl (by first | exact .head _) (by rfl) ?_)
      | ((with_reducible show wpList _ _ _ (Oper.mk _ (Op.load 47 _) _ _ _ _ :: _) _ _); refine wpList_load M (by rfl) _ rfl rt23 rfl (by first | exact .head _) (by rfl) ?_)
      | (go_at_call 48; refine (KN _).mono ?_; clear KN; rintro e W3 ⟨rfl, rfl⟩)
      | (go_at_call 50; refine (KK _).mono ?_; clear KK; rintro e W3 ⟨rfl, rfl⟩)
      | (go_at_call 51; refine (KS _).mono ?_; clear KS; rintro e W3 ⟨rfl, rfl⟩)
      | (go_at_call 49; refine (KC _ M.below).mono ?_; clear KC; rintro e W2 ⟨a1, c1, rfl, L1, o1, b1⟩; have hsz := M.below.size; replace M := M.later b1; clear b1))
      exact bodyPost_ret (results_tmp2 rfl _ _ _) rfl ⟨a1, c1, rfl, L1, fun g off e => by have := o1 g off e; omega, M.below⟩
    · have hwx : IntKind.i64.wrap (ep0 + 1) = ep0 + 1 := by rw [IntKind.wrap_i64]; omega
      have hE : E = 0 := by rw [HC0.out]; simp [hnm, hkd, hsc, hmx]
      subst hE
      rw [if_pos rfl]
      clear HC0
      clear hnm hkd hsc KC
      replace KX := fun w => KX w hwx
      go_enter Tryz.func26, Tryz.ntmps26
      go_wp2_with (first
      | (go_at_call 29; refine (KF _ M.below).mono ?_; clear KF; rintro e W1 ⟨rfl, b1⟩; replace M := M.later b1; clear b1)
      | ((with_reducible show wpList _ _ _ (Oper.mk (some 12) (Op.alloc 47) _ _ _ _ :: _) _ _); refine wpList_alloc M rfl rfl rt23 ?_; clear M; intro k12 W M)
      | ((with_reducible show wpList _ _ _ (Oper.mk _ (Op.store 47 _ _) _ _ _ _ :: _) _ _); (first | (refine wpList_put M rfl _ _ rfl rt23 0 _ rfl rfl rfl rfl rfl (by simp [Value.oneCell']) ?_)); clear M; intro W M; simp only [List.set_cons_zero, List.set_cons_succ] at M)
      | ((with_reducible show wpList _ _ _ (Oper.mk _ (Op.load 4 _) _ _ _ _ :: _) _ _); refine wpList_cell4 M (by rfl) _ rfl _ rfl (by first | exact .head _) (by rfl) ?_)
      | ((with_reducible show wpList _ _ _ (Oper.mk _ (Op.load 2 _) _ _ _ _ :: _) _ _); refine wpList_cell2 M (by rfl) _ rfl _ rfl (by first | exact .head _) (by rfl) ?_)
      | ((with_reducible show wpList _ _ _ (Oper.mk _ (Op.load 47 _) _ _ _ _ :: _) _ _); refine wpList_load M (by rfl) _ rfl rt23 rfl (by first | exact .head _) (by rfl) ?_)
      | (go_at_call 48; refine (KN _).mono ?_; clear KN; rintro e W3 ⟨rfl, rfl⟩)
      | (go_at_call 50; refine (KK _).mono ?_; clear KK; rintro e W3 ⟨rfl, rfl⟩)
      | (go_at_call 51; refine (KS _).mono ?_; clear KS; rintro e W3 ⟨rfl, rfl⟩)
      | (go_at_call 49; refine (KC _ M.below).mono ?_; clear KC; rintro e W2 ⟨a1, c1, rfl, L1, o1, b1⟩; have hsz := M.below.size; replace M := M.later b1; clear b1)
      | (go_at_call 52; refine (KO _).mono ?_; clear KO; rintro e W3 ⟨rfl, b1⟩; replace M := M.later b1; clear b1)
      | (go_at_call 53; refine (KX _).mono ?_; clear KX; rintro e W3 ⟨rfl, b1⟩; replace M := M.later b1; clear b1)
      | ((with_reducible show wpList _ _ _ (Oper.mk (some 14) (Op.alloc 82) _ _ _ _ :: _) _ _); refine wpList_alloc M rfl rfl rt57 ?_; clear M; intro k14 W M)
      | ((with_reducible show wpList _ _ _ (Oper.mk _ (Op.store 82 _ _) _ _ _ _ :: _) _ _); (first | (refine wpList_put M rfl _ _ rfl rt57 0 _ rfl rfl rfl rfl rfl (by simp [Value.oneCell']) ?_) | (refine wpList_put M rfl _ _ rfl rt57 1 _ rfl rfl rfl rfl rfl (by simp [Value.oneCell']) ?_)); clear M; intro W M; simp only [List.set_cons_zero, List.set_cons_succ] at M)
      | ((with_reducible show wpList _ _ _ (Oper.mk _ (Op.load 82 _) _ _ _ _ :: _) _ _); refine wpList_load M (by rfl) _ rfl rt57 rfl (by first | exact .head _ | exact .tail _ (.head _)) (by rfl) ?_)
      | (go_at_call 55; refine (KL _).mono ?_; clear KL; rintro e W3 ⟨rfl, b1⟩; replace M := M.later b1; clear b1)
      | ((with_reducible show wpList _ _ _ (Oper.mk _ (Op.buildSlice 44 1 _) _ _ _ _ :: _) _ _); refine wpList_mk1 M rfl _ rfl name (ep0 + 1) maker true kind scale rfl ?_; clear M; intro q W M)
      | (go_at_call 54; refine (KM _ _ M.below (M.get (.head _))).mono ?_; clear KM; rintro e W2 ⟨a1, c1, rfl, L1, o1, b1⟩; have hsz := M.below.size; replace M := M.later b1; clear b1))
      exact bodyPost_ret (results_tmp2 rfl _ _ _) rfl ⟨a1, c1, rfl, L1, fun g off e => by have := o1 g off e; omega, M.below⟩
  | false =>
    by_cases h8 : 8 ≤ l.length
    · have h8I : (8 : Int) ≤ (l.length : Int) := by omega
      have hE : E = 48 := by rw [HC0.out]; simp [hnm, hkd, hsc, h8]
      subst hE
      rw [if_neg (by decide)]
      clear HC0
      clear hnm hkd hsc h8
      clear KM KX KL KO
      go_enter Tryz.func26, Tryz.ntmps26
      go_wp2_with (first
      | (go_at_call 29; refine (KF _ M.below).mono ?_; clear KF; rintro e W1 ⟨rfl, b1⟩; replace M := M.later b1; clear b1)
      | ((with_reducible show wpList _ _ _ (Oper.mk (some 12) (Op.alloc 47) _ _ _ _ :: _) _ _); refine wpList_alloc M rfl rfl rt23 ?_; clear M; intro k12 W M)
      | ((with_reducible show wpList _ _ _ (Oper.mk _ (Op.store 47 _ _) _ _ _ _ :: _) _ _); (first | (refine wpList_put M rfl _ _ rfl rt23 0 _ rfl rfl rfl rfl rfl (by simp [Value.oneCell']) ?_)); clear M; intro W M; simp only [List.set_cons_zero, List.set_cons_succ] at M)
      | ((with_reducible show wpList _ _ _ (Oper.mk _ (Op.load 4 _) _ _ _ _ :: _) _ _); refine wpList_cell4 M (by rfl) _ rfl _ rfl (by first | exact .head _) (by rfl) ?_)
      | ((with_reducible show wpList _ _ _ (Oper.mk _ (Op.load 2 _) _ _ _ _ :: _) _ _); refine wpList_cell2 M (by rfl) _ rfl _ rfl (by first | exact .head _) (by rfl) ?_)
      | ((with_reducible show wpList _ _ _ (Oper.mk _ (Op.load 47 _) _ _ _ _ :: _) _ _); refine wpList_load M (by rfl) _ rfl rt23 rfl (by first | exact .head _) (by rfl) ?_)
      | (go_at_call 48; refine (KN _).mono ?_; clear KN; rintro e W3 ⟨rfl, rfl⟩)
      | (go_at_call 50; refine (KK _).mono ?_; clear KK; rintro e W3 ⟨rfl, rfl⟩)
      | (go_at_call 51; refine (KS _).mono ?_; clear KS; rintro e W3 ⟨rfl, rfl⟩)
      | (go_at_call 49; refine (KC _ M.below).mono ?_; clear KC; rintro e W2 ⟨a1, c1, rfl, L1, o1, b1⟩; have hsz := M.below.size; replace M := M.later b1; clear b1))
      exact bodyPost_ret (results_tmp2 rfl _ _ _) rfl ⟨a1, c1, rfl, L1, fun g off e => by have := o1 g off e; omega, M.below⟩
    · have h8I : ¬ (8 : Int) ≤ (l.length : Int) := by omega
      by_cases hmx : 1099511627776 ≤ ep0
      · skip
        have hE : E = 33 := by rw [HC0.out]; simp [hnm, hkd, hsc, hmx, h8]
        subst hE
        rw [if_neg (by decide)]
        clear HC0
        clear hnm hkd hsc
        clear KM KX KL KO
        go_enter Tryz.func26, Tryz.ntmps26
        go_wp2_with (first
      | (go_at_call 29; refine (KF _ M.below).mono ?_; clear KF; rintro e W1 ⟨rfl, b1⟩; replace M := M.later b1; clear b1)
      | ((with_reducible show wpList _ _ _ (Oper.mk (some 12) (Op.alloc 47) _ _ _ _ :: _) _ _); refine wpList_alloc M rfl rfl rt23 ?_; clear M; intro k12 W M)
      | ((with_reducible show wpList _ _ _ (Oper.mk _ (Op.store 47 _ _) _ _ _ _ :: _) _ _); (first | (refine wpList_put M rfl _ _ rfl rt23 0 _ rfl rfl rfl rfl rfl (by simp [Value.oneCell']) ?_)); clear M; intro W M; simp only [List.set_cons_zero, List.set_cons_succ] at M)
      | ((with_reducible show wpList _ _ _ (Oper.mk _ (Op.load 4 _) _ _ _ _ :: _) _ _); refine wpList_cell4 M (by rfl) _ rfl _ rfl (by first | exact .head _) (by rfl) ?_)
      | ((with_reducible show wpList _ _ _ (Oper.mk _ (Op.load 2 _) _ _ _ _ :: _) _ _); refine wpList_cell2 M (by rfl) _ rfl _ rfl (by first | exact .head _) (by rfl) ?_)
      | ((with_reducible show wpList _ _ _ (Oper.mk _ (Op.load 47 _) _ _ _ _ :: _) _ _); refine wpList_load M (by rfl) _ rfl rt23 rfl (by first | exact .head _) (by rfl) ?_)
      | (go_at_call 48; refine (KN _).mono ?_; clear KN; rintro e W3 ⟨rfl, rfl⟩)
      | (go_at_call 50; refine (KK _).mono ?_; clear KK; rintro e W3 ⟨rfl, rfl⟩)
      | (go_at_call 51; refine (KS _).mono ?_; clear KS; rintro e W3 ⟨rfl, rfl⟩)
      | (go_at_call 49; refine (KC _ M.below).mono ?_; clear KC; rintro e W2 ⟨a1, c1, rfl, L1, o1, b1⟩; have hsz := M.below.size; replace M := M.later b1; clear b1))
        exact bodyPost_ret (results_tmp2 rfl _ _ _) rfl ⟨a1, c1, rfl, L1, fun g off e => by have := o1 g off e; omega, M.below⟩
      · have hwx : IntKind.i64.wrap (ep0 + 1) = ep0 + 1 := by rw [IntKind.wrap_i64]; omega
        have hE : E = 0 := by rw [HC0.out]; simp [hnm, hkd, hsc, hmx, h8]
        subst hE
        rw [if_pos rfl]
        clear HC0
        clear hnm hkd hsc KC
        replace KX := fun w => KX w hwx
        go_enter Tryz.func26, Tryz.ntmps26
        go_wp2_with (first
      | (go_at_call 29; refine (KF _ M.below).mono ?_; clear KF; rintro e W1 ⟨rfl, b1⟩; replace M := M.later b1; clear b1)
      | ((with_reducible show wpList _ _ _ (Oper.mk (some 12) (Op.alloc 47) _ _ _ _ :: _) _ _); refine wpList_alloc M rfl rfl rt23 ?_; clear M; intro k12 W M)
      | ((with_reducible show wpList _ _ _ (Oper.mk _ (Op.store 47 _ _) _ _ _ _ :: _) _ _); (first | (refine wpList_put M rfl _ _ rfl rt23 0 _ rfl rfl rfl rfl rfl (by simp [Value.oneCell']) ?_)); clear M; intro W M; simp only [List.set_cons_zero, List.set_cons_succ] at M)
      | ((with_reducible show wpList _ _ _ (Oper.mk _ (Op.load 4 _) _ _ _ _ :: _) _ _); refine wpList_cell4 M (by rfl) _ rfl _ rfl (by first | exact .head _) (by rfl) ?_)
      | ((with_reducible show wpList _ _ _ (Oper.mk _ (Op.load 2 _) _ _ _ _ :: _) _ _); refine wpList_cell2 M (by rfl) _ rfl _ rfl (by first | exact .head _) (by rfl) ?_)
      | ((with_reducible show wpList _ _ _ (Oper.mk _ (Op.load 47 _) _ _ _ _ :: _) _ _); refine wpList_load M (by rfl) _ rfl rt23 rfl (by first | exact .head _) (by rfl) ?_)
      | (go_at_call 48; refine (KN _).mono ?_; clear KN; rintro e W3 ⟨rfl, rfl⟩)
      | (go_at_call 50; refine (KK _).mono ?_; clear KK; rintro e W3 ⟨rfl, rfl⟩)
      | (go_at_call 51; refine (KS _).mono ?_; clear KS; rintro e W3 ⟨rfl, rfl⟩)
      | (go_at_call 49; refine (KC _ M.below).mono ?_; clear KC; rintro e W2 ⟨a1, c1, rfl, L1, o1, b1⟩; have hsz := M.below.size; replace M := M.later b1; clear b1)
      | (go_at_call 52; refine (KO _).mono ?_; clear KO; rintro e W3 ⟨rfl, b1⟩; replace M := M.later b1; clear b1)
      | (go_at_call 53; refine (KX _).mono ?_; clear KX; rintro e W3 ⟨rfl, b1⟩; replace M := M.later b1; clear b1)
      | ((with_reducible show wpList _ _ _ (Oper.mk (some 14) (Op.alloc 82) _ _ _ _ :: _) _ _); refine wpList_alloc M rfl rfl rt57 ?_; clear M; intro k14 W M)
      | ((with_reducible show wpList _ _ _ (Oper.mk _ (Op.store 82 _ _) _ _ _ _ :: _) _ _); (first | (refine wpList_put M rfl _ _ rfl rt57 0 _ rfl rfl rfl rfl rfl (by simp [Value.oneCell']) ?_) | (refine wpList_put M rfl _ _ rfl rt57 1 _ rfl rfl rfl rfl rfl (by simp [Value.oneCell']) ?_)); clear M; intro W M; simp only [List.set_cons_zero, List.set_cons_succ] at M)
      | ((with_reducible show wpList _ _ _ (Oper.mk _ (Op.load 82 _) _ _ _ _ :: _) _ _); refine wpList_load M (by rfl) _ rfl rt57 rfl (by first | exact .head _ | exact .tail _ (.head _)) (by rfl) ?_)
      | (go_at_call 55; refine (KL _).mono ?_; clear KL; rintro e W3 ⟨rfl, b1⟩; replace M := M.later b1; clear b1)
      | ((with_reducible show wpList _ _ _ (Oper.mk _ (Op.buildSlice 44 1 _) _ _ _ _ :: _) _ _); refine wpList_mk1 M rfl _ rfl name (ep0 + 1) maker true kind scale rfl ?_; clear M; intro q W M)
      | (go_at_call 54; refine (KM _ _ M.below (M.get (.head _))).mono ?_; clear KM; rintro e W2 ⟨a1, c1, rfl, L1, o1, b1⟩; have hsz := M.below.size; replace M := M.later b1; clear b1))
        exact bodyPost_ret (results_tmp2 rfl _ _ _) rfl ⟨a1, c1, rfl, L1, fun g off e => by have := o1 g off e; omega, M.below⟩
set_option maxRecDepth 100000 in
set_option maxHeartbeats 4000000 in
theorem rcreate_any (a : Option Addr) (cap : Nat) (l : List CH) (maker : Int) (name : ByteArray) (kind scale : Int) (w : World) (hr : RdC w a l.length cap l) (hn : l.length ≤ 1000) (hep : 0 ≤ (fdc (lk name l)).ep) (hs : (name.size : Int) ≤ 9223372036854775807) : Calls Tryz.prog 31 #[.slice a l.length cap, .int .i64 maker, .string name, .int .i64 kind, .int .i64 scale] w (AnsL w (if crE l name kind scale = 0 then ptL l (crM l maker name kind scale) else l) (crE l name kind scale)) := by
  have M := Mem.nil w
  have KC := fun W (b : Below w.heap.size w W) => rcopied_any a cap l W (hr.below b)
  have KF := fun W (b : Below w.heap.size w W) => rfind_any a l.length cap l name W (hr.below b)
  have KN := fun w => rname_any name w hs
  skip
  have KS := fun w => rscale_any kind scale w
  have HCM : Hid (crM l maker name kind scale = ⟨name, (fdc (lk name l)).ep + 1, maker, true, kind, scale⟩) := rfl
  have KP := fun W (b : Below w.heap.size w W) => put_any a l.length cap l name ((fdc (lk name l)).ep + 1) maker true kind scale W (hr.below b) hn
  rw [← HCM.out] at KP
  have HC0 : Hid (crE l name kind scale = if nameB name = false then 45 else if kindB kind = false then 46 else if scaleB kind scale = false then 47 else if (fdc (lk name l)).al = true then 42 else if (lk name l).isSome = false ∧ 8 ≤ l.length then 48 else if 1099511627776 ≤ (fdc (lk name l)).ep then 33 else 0) := rfl
  obtain ⟨E, hEE⟩ : ∃ E, crE l name kind scale = E := ⟨_, rfl⟩
  obtain ⟨LC, hLC⟩ : ∃ LC, ptL l (crM l maker name kind scale) = LC := ⟨_, rfl⟩
  rw [hEE] at HC0 ⊢
  rw [hLC] at KP ⊢
  clear hEE hLC HCM hr hn
  obtain ⟨o0, ho0⟩ : ∃ o0, lk name l = o0 := ⟨_, rfl⟩
  rw [ho0] at KF HC0 hep KP
  clear ho0
  obtain ⟨b0, hb0⟩ : ∃ b0, o0.isSome = b0 := ⟨_, rfl⟩
  obtain ⟨c0, hc0⟩ : ∃ c0, fdc o0 = c0 := ⟨_, rfl⟩
  unfold fnd at KF
  have hz : (fdc o0).al = true → o0.isSome = true := fun h => by cases o0 with
    | none => cases h
    | some c => rfl
  rw [hb0, hc0] at KF HC0 hz
  rw [hc0] at hep KP
  clear hb0 hc0
  obtain ⟨nm0, ep0, mr0, al0, kd0, sc0⟩ := c0
  replace KF : ∀ W, Below w.heap.size w W → Calls Tryz.prog 61 #[.slice a l.length cap, .string name] W fun e w' => e = .returned (.tuple #[chv nm0 ep0 mr0 al0 kd0 sc0, .bool b0]) ∧ Below W.heap.size W w' := KF
  dsimp only at HC0 hep hz KP
  cases hnm : nameB name with
  | false =>
    rw [hnm] at KN
    have hE : E = 45 := by rw [HC0.out]; simp [hnm]
    subst hE
    rw [if_neg (by decide)]
    clear HC0
    clear hnm
    clear KP
    go_enter Tryz.func31, Tryz.ntmps31
    go_wp2_with (first
      | (go_at_call 61; refine (KF _ M.below).mono ?_; clear KF; rintro e W1 ⟨rfl, b1⟩; replace M := M.later b1; clear b1)
      | ((with_reducible show wpList _ _ _ (Oper.mk (some 12) (Op.alloc 47) _ _ _ _ :: _) _ _); refine wpList_alloc M rfl rfl rt23 ?_; clear M; intro k12 W M)
      | ((with_reducible show wpList _ _ _ (Oper.mk _ (Op.store 47 _ _) _ _ _ _ :: _) _ _); (first | (refine wpList_put M rfl _ _ rfl rt23 0 _ rfl rfl rfl rfl rfl (by simp [Value.oneCell']) ?_)); clear M; intro W M; simp only [List.set_cons_zero, List.set_cons_succ] at M)
      | ((with_reducible show wpList _ _ _ (Oper.mk _ (Op.load 4 _) _ _ _ _ :: _) _ _); refine wpList_cell4 M (by rfl) _ rfl _ rfl (by first | exact .head _) (by rfl) ?_)
      | ((with_reducible show wpList _ _ _ (Oper.mk _ (Op.load 2 _) _ _ _ _ :: _) _ _); refine wpList_cell2 M (by rfl) _ rfl _ rfl (by first | exact .head _) (by rfl) ?_)
      | ((with_reducible show wpList _ _ _ (Oper.mk _ (Op.load 47 _) _ _ _ _ :: _) _ _); refine wpList_load M (by rfl) _ rfl rt23 rfl (by first | exact .head _) (by rfl) ?_)
      | (go_at_call 62; refine (KN _).mono ?_; clear KN; rintro e W3 ⟨rfl, rfl⟩)
      | (go_at_call 64; refine (KS _).mono ?_; clear KS; rintro e W3 ⟨rfl, rfl⟩)
      | (go_at_call 63; refine (KC _ M.below).mono ?_; clear KC; rintro e W2 ⟨a1, c1, rfl, L1, o1, b1⟩; have hsz := M.below.size; replace M := M.later b1; clear b1))
    exact bodyPost_ret (results_tmp2 rfl _ _ _) rfl ⟨a1, c1, rfl, L1, fun g off e => by have := o1 g off e; omega, M.below⟩
  | true =>
  rw [hnm] at KN
  cases hkd : kindB kind with
  | false =>
    have hkk : kind < 1 ∨ 4 < kind := by simp [kindB, inB] at hkd; omega
    rcases hkk with hkk | hkk
    · skip
      have hE : E = 46 := by rw [HC0.out]; simp [hnm, hkd]
      subst hE
      rw [if_neg (by decide)]
      clear HC0
      clear hnm hkd
      clear KP
      go_enter Tryz.func31, Tryz.ntmps31
      go_wp2_with (first
      | (go_at_call 61; refine (KF _ M.below).mono ?_; clear KF; rintro e W1 ⟨rfl, b1⟩; replace M := M.later b1; clear b1)
      | ((with_reducible show wpList _ _ _ (Oper.mk (some 12) (Op.alloc 47) _ _ _ _ :: _) _ _); refine wpList_alloc M rfl rfl rt23 ?_; clear M; intro k12 W M)
      | ((with_reducible show wpList _ _ _ (Oper.mk _ (Op.store 47 _ _) _ _ _ _ :: _) _ _); (first | (refine wpList_put M rfl _ _ rfl rt23 0 _ rfl rfl rfl rfl rfl (by simp [Value.oneCell']) ?_)); clear M; intro W M; simp only [List.set_cons_zero, List.set_cons_succ] at M)
      | ((with_reducible show wpList _ _ _ (Oper.mk _ (Op.load 4 _) _ _ _ _ :: _) _ _); refine wpList_cell4 M (by rfl) _ rfl _ rfl (by first | exact .head _) (by rfl) ?_)
      | ((with_reducible show wpList _ _ _ (Oper.mk _ (Op.load 2 _) _ _ _ _ :: _) _ _); refine wpList_cell2 M (by rfl) _ rfl _ rfl (by first | exact .head _) (by rfl) ?_)
      | ((with_reducible show wpList _ _ _ (Oper.mk _ (Op.load 47 _) _ _ _ _ :: _) _ _); refine wpList_load M (by rfl) _ rfl rt23 rfl (by first | exact .head _) (by rfl) ?_)
      | (go_at_call 62; refine (KN _).mono ?_; clear KN; rintro e W3 ⟨rfl, rfl⟩)
      | (go_at_call 64; refine (KS _).mono ?_; clear KS; rintro e W3 ⟨rfl, rfl⟩)
      | (go_at_call 63; refine (KC _ M.below).mono ?_; clear KC; rintro e W2 ⟨a1, c1, rfl, L1, o1, b1⟩; have hsz := M.below.size; replace M := M.later b1; clear b1))
      exact bodyPost_ret (results_tmp2 rfl _ _ _) rfl ⟨a1, c1, rfl, L1, fun g off e => by have := o1 g off e; omega, M.below⟩
    · have hkj : ¬ kind < 1 := by omega
      have hE : E = 46 := by rw [HC0.out]; simp [hnm, hkd]
      subst hE
      rw [if_neg (by decide)]
      clear HC0
      clear hnm hkd
      clear KP
      go_enter Tryz.func31, Tryz.ntmps31
      go_wp2_with (first
      | (go_at_call 61; refine (KF _ M.below).mono ?_; clear KF; rintro e W1 ⟨rfl, b1⟩; replace M := M.later b1; clear b1)
      | ((with_reducible show wpList _ _ _ (Oper.mk (some 12) (Op.alloc 47) _ _ _ _ :: _) _ _); refine wpList_alloc M rfl rfl rt23 ?_; clear M; intro k12 W M)
      | ((with_reducible show wpList _ _ _ (Oper.mk _ (Op.store 47 _ _) _ _ _ _ :: _) _ _); (first | (refine wpList_put M rfl _ _ rfl rt23 0 _ rfl rfl rfl rfl rfl (by simp [Value.oneCell']) ?_)); clear M; intro W M; simp only [List.set_cons_zero, List.set_cons_succ] at M)
      | ((with_reducible show wpList _ _ _ (Oper.mk _ (Op.load 4 _) _ _ _ _ :: _) _ _); refine wpList_cell4 M (by rfl) _ rfl _ rfl (by first | exact .head _) (by rfl) ?_)
      | ((with_reducible show wpList _ _ _ (Oper.mk _ (Op.load 2 _) _ _ _ _ :: _) _ _); refine wpList_cell2 M (by rfl) _ rfl _ rfl (by first | exact .head _) (by rfl) ?_)
      | ((with_reducible show wpList _ _ _ (Oper.mk _ (Op.load 47 _) _ _ _ _ :: _) _ _); refine wpList_load M (by rfl) _ rfl rt23 rfl (by first | exact .head _) (by rfl) ?_)
      | (go_at_call 62; refine (KN _).mono ?_; clear KN; rintro e W3 ⟨rfl, rfl⟩)
      | (go_at_call 64; refine (KS _).mono ?_; clear KS; rintro e W3 ⟨rfl, rfl⟩)
      | (go_at_call 63; refine (KC _ M.below).mono ?_; clear KC; rintro e W2 ⟨a1, c1, rfl, L1, o1, b1⟩; have hsz := M.below.size; replace M := M.later b1; clear b1))
      exact bodyPost_ret (results_tmp2 rfl _ _ _) rfl ⟨a1, c1, rfl, L1, fun g off e => by have := o1 g off e; omega, M.below⟩
  | true =>
  have hk1 : ¬ kind < 1 := by simp [kindB, inB] at hkd; omega
  have hk2 : ¬ 4 < kind := by simp [kindB, inB] at hkd; omega
  cases hsc : scaleB kind scale with
  | false =>
    rw [hsc] at KS
    have hE : E = 47 := by rw [HC0.out]; simp [hnm, hkd, hsc]
    subst hE
    rw [if_neg (by decide)]
    clear HC0
    clear hnm hkd hsc
    clear KP
    go_enter Tryz.func31, Tryz.ntmps31
    go_wp2_with (first
      | (go_at_call 61; refine (KF _ M.below).mono ?_; clear KF; rintro e W1 ⟨rfl, b1⟩; replace M := M.later b1; clear b1)
      | ((with_reducible show wpList _ _ _ (Oper.mk (some 12) (Op.alloc 47) _ _ _ _ :: _) _ _); refine wpList_alloc M rfl rfl rt23 ?_; clear M; intro k12 W M)
      | ((with_reducible show wpList _ _ _ (Oper.mk _ (Op.store 47 _ _) _ _ _ _ :: _) _ _); (first | (refine wpList_put M rfl _ _ rfl rt23 0 _ rfl rfl rfl rfl rfl (by simp [Value.oneCell']) ?_)); clear M; intro W M; simp only [List.set_cons_zero, List.set_cons_succ] at M)
      | ((with_reducible show wpList _ _ _ (Oper.mk _ (Op.load 4 _) _ _ _ _ :: _) _ _); refine wpList_cell4 M (by rfl) _ rfl _ rfl (by first | exact .head _) (by rfl) ?_)
      | ((with_reducible show wpList _ _ _ (Oper.mk _ (Op.load 2 _) _ _ _ _ :: _) _ _); refine wpList_cell2 M (by rfl) _ rfl _ rfl (by first | exact .head _) (by rfl) ?_)
      | ((with_reducible show wpList _ _ _ (Oper.mk _ (Op.load 47 _) _ _ _ _ :: _) _ _); refine wpList_load M (by rfl) _ rfl rt23 rfl (by first | exact .head _) (by rfl) ?_)
      | (go_at_call 62; refine (KN _).mono ?_; clear KN; rintro e W3 ⟨rfl, rfl⟩)
      | (go_at_call 64; refine (KS _).mono ?_; clear KS; rintro e W3 ⟨rfl, rfl⟩)
      | (go_at_call 63; refine (KC _ M.below).mono ?_; clear KC; rintro e W2 ⟨a1, c1, rfl, L1, o1, b1⟩; have hsz := M.below.size; replace M := M.later b1; clear b1))
    exact bodyPost_ret (results_tmp2 rfl _ _ _) rfl ⟨a1, c1, rfl, L1, fun g off e => by have := o1 g off e; omega, M.below⟩
  | true =>
  rw [hsc] at KS
  cases al0 with
  | true =>
    cases b0 with
    | true =>
      have hE : E = 42 := by rw [HC0.out]; simp [hnm, hkd, hsc]
      subst hE
      rw [if_neg (by decide)]
      clear HC0
      clear hnm hkd hsc
      clear KP
      go_enter Tryz.func31, Tryz.ntmps31
      go_wp2_with (first
      | (go_at_call 61; refine (KF _ M.below).mono ?_; clear KF; rintro e W1 ⟨rfl, b1⟩; replace M := M.later b1; clear b1)
      | ((with_reducible show wpList _ _ _ (Oper.mk (some 12) (Op.alloc 47) _ _ _ _ :: _) _ _); refine wpList_alloc M rfl rfl rt23 ?_; clear M; intro k12 W M)
      | ((with_reducible show wpList _ _ _ (Oper.mk _ (Op.store 47 _ _) _ _ _ _ :: _) _ _); (first | (refine wpList_put M rfl _ _ rfl rt23 0 _ rfl rfl rfl rfl rfl (by simp [Value.oneCell']) ?_)); clear M; intro W M; simp only [List.set_cons_zero, List.set_cons_succ] at M)
      | ((with_reducible show wpList _ _ _ (Oper.mk _ (Op.load 4 _) _ _ _ _ :: _) _ _); refine wpList_cell4 M (by rfl) _ rfl _ rfl (by first | exact .head _) (by rfl) ?_)
      | ((with_reducible show wpList _ _ _ (Oper.mk _ (Op.load 2 _) _ _ _ _ :: _) _ _); refine wpList_cell2 M (by rfl) _ rfl _ rfl (by first | exact .head _) (by rfl) ?_)
      | ((with_reducible show wpList _ _ _ (Oper.mk _ (Op.load 47 _) _ _ _ _ :: _) _ _); refine wpList_load M (by rfl) _ rfl rt23 rfl (by first | exact .head _) (by rfl) ?_)
      | (go_at_call 62; refine (KN _).mono ?_; clear KN; rintro e W3 ⟨rfl, rfl⟩)
      | (go_at_call 64; refine (KS _).mono ?_; clear KS; rintro e W3 ⟨rfl, rfl⟩)
      | (go_at_call 63; refine (KC _ M.below).mono ?_; clear KC; rintro e W2 ⟨a1, c1, rfl, L1, o1, b1⟩; have hsz := M.below.size; replace M := M.later b1; clear b1))
      exact bodyPost_ret (results_tmp2 rfl _ _ _) rfl ⟨a1, c1, rfl, L1, fun g off e => by have := o1 g off e; omega, M.below⟩
    | false => exact absurd (hz rfl) (by decide)
  | false =>
  cases b0 with
  | true =>
    by_cases hmx : 1099511627776 ≤ ep0
    · skip
      have hE : E = 33 := by rw [HC0.out]; simp [hnm, hkd, hsc, hmx]
      subst hE
      rw [if_neg (by decide)]
      clear HC0
      clear hnm hkd hsc
      clear KP
      go_enter Tryz.func31, Tryz.ntmps31
      go_wp2_with (first
      | (go_at_call 61; refine (KF _ M.below).mono ?_; clear KF; rintro e W1 ⟨rfl, b1⟩; replace M := M.later b1; clear b1)
      | ((with_reducible show wpList _ _ _ (Oper.mk (some 12) (Op.alloc 47) _ _ _ _ :: _) _ _); refine wpList_alloc M rfl rfl rt23 ?_; clear M; intro k12 W M)
      | ((with_reducible show wpList _ _ _ (Oper.mk _ (Op.store 47 _ _) _ _ _ _ :: _) _ _); (first | (refine wpList_put M rfl _ _ rfl rt23 0 _ rfl rfl rfl rfl rfl (by simp [Value.oneCell']) ?_)); clear M; intro W M; simp only [List.set_cons_zero, List.set_cons_succ] at M)
      | ((with_reducible show wpList _ _ _ (Oper.mk _ (Op.load 4 _) _ _ _ _ :: _) _ _); refine wpList_cell4 M (by rfl) _ rfl _ rfl (by first | exact .head _) (by rfl) ?_)
      | ((with_reducible show wpList _ _ _ (Oper.mk _ (Op.load 2 _) _ _ _ _ :: _) _ _); refine wpList_cell2 M (by rfl) _ rfl _ rfl (by first | exact .head _) (by rfl) ?_)
      | ((with_reducible show wpList _ _ _ (Oper.mk _ (Op.load 47 _) _ _ _ _ :: _) _ _); refine wpList_load M (by rfl) _ rfl rt23 rfl (by first | exact .head _) (by rfl) ?_)
      | (go_at_call 62; refine (KN _).mono ?_; clear KN; rintro e W3 ⟨rfl, rfl⟩)
      | (go_at_call 64; refine (KS _).mono ?_; clear KS; rintro e W3 ⟨rfl, rfl⟩)
      | (go_at_call 63; refine (KC _ M.below).mono ?_; clear KC; rintro e W2 ⟨a1, c1, rfl, L1, o1, b1⟩; have hsz := M.below.size; replace M := M.later b1; clear b1))
      exact bodyPost_ret (results_tmp2 rfl _ _ _) rfl ⟨a1, c1, rfl, L1, fun g off e => by have := o1 g off e; omega, M.below⟩
    · have hwx : IntKind.i64.wrap (ep0 + 1) = ep0 + 1 := by rw [IntKind.wrap_i64]; omega
      have hE : E = 0 := by rw [HC0.out]; simp [hnm, hkd, hsc, hmx]
      subst hE
      rw [if_pos rfl]
      clear HC0
      clear hnm hkd hsc KC
      go_enter Tryz.func31, Tryz.ntmps31
      go_wp2_with (first
      | (go_at_call 61; refine (KF _ M.below).mono ?_; clear KF; rintro e W1 ⟨rfl, b1⟩; replace M := M.later b1; clear b1)
      | ((with_reducible show wpList _ _ _ (Oper.mk (some 12) (Op.alloc 47) _ _ _ _ :: _) _ _); refine wpList_alloc M rfl rfl rt23 ?_; clear M; intro k12 W M)
      | ((with_reducible show wpList _ _ _ (Oper.mk _ (Op.store 47 _ _) _ _ _ _ :: _) _ _); (first | (refine wpList_put M rfl _ _ rfl rt23 0 _ rfl rfl rfl rfl rfl (by simp [Value.oneCell']) ?_)); clear M; intro W M; simp only [List.set_cons_zero, List.set_cons_succ] at M)
      | ((with_reducible show wpList _ _ _ (Oper.mk _ (Op.load 4 _) _ _ _ _ :: _) _ _); refine wpList_cell4 M (by rfl) _ rfl _ rfl (by first | exact .head _) (by rfl) ?_)
      | ((with_reducible show wpList _ _ _ (Oper.mk _ (Op.load 2 _) _ _ _ _ :: _) _ _); refine wpList_cell2 M (by rfl) _ rfl _ rfl (by first | exact .head _) (by rfl) ?_)
      | ((with_reducible show wpList _ _ _ (Oper.mk _ (Op.load 47 _) _ _ _ _ :: _) _ _); refine wpList_load M (by rfl) _ rfl rt23 rfl (by first | exact .head _) (by rfl) ?_)
      | (go_at_call 62; refine (KN _).mono ?_; clear KN; rintro e W3 ⟨rfl, rfl⟩)
      | (go_at_call 64; refine (KS _).mono ?_; clear KS; rintro e W3 ⟨rfl, rfl⟩)
      | (go_at_call 63; refine (KC _ M.below).mono ?_; clear KC; rintro e W2 ⟨a1, c1, rfl, L1, o1, b1⟩; have hsz := M.below.size; replace M := M.later b1; clear b1)
      | (go_at_call 65; refine (KP _ M.below).mono ?_; clear KP; rintro e W2 ⟨a1, c1, rfl, L1, o1, b1⟩; have hsz := M.below.size; replace M := M.later b1; clear b1))
      exact bodyPost_ret (results_tmp2 rfl _ _ _) rfl ⟨a1, c1, rfl, L1, fun g off e => by have := o1 g off e; omega, M.below⟩
  | false =>
    by_cases h8 : 8 ≤ l.length
    · have h8I : (8 : Int) ≤ (l.length : Int) := by omega
      have hE : E = 48 := by rw [HC0.out]; simp [hnm, hkd, hsc, h8]
      subst hE
      rw [if_neg (by decide)]
      clear HC0
      clear hnm hkd hsc h8
      clear KP
      go_enter Tryz.func31, Tryz.ntmps31
      go_wp2_with (first
      | (go_at_call 61; refine (KF _ M.below).mono ?_; clear KF; rintro e W1 ⟨rfl, b1⟩; replace M := M.later b1; clear b1)
      | ((with_reducible show wpList _ _ _ (Oper.mk (some 12) (Op.alloc 47) _ _ _ _ :: _) _ _); refine wpList_alloc M rfl rfl rt23 ?_; clear M; intro k12 W M)
      | ((with_reducible show wpList _ _ _ (Oper.mk _ (Op.store 47 _ _) _ _ _ _ :: _) _ _); (first | (refine wpList_put M rfl _ _ rfl rt23 0 _ rfl rfl rfl rfl rfl (by simp [Value.oneCell']) ?_)); clear M; intro W M; simp only [List.set_cons_zero, List.set_cons_succ] at M)
      | ((with_reducible show wpList _ _ _ (Oper.mk _ (Op.load 4 _) _ _ _ _ :: _) _ _); refine wpList_cell4 M (by rfl) _ rfl _ rfl (by first | exact .head _) (by rfl) ?_)
      | ((with_reducible show wpList _ _ _ (Oper.mk _ (Op.load 2 _) _ _ _ _ :: _) _ _); refine wpList_cell2 M (by rfl) _ rfl _ rfl (by first | exact .head _) (by rfl) ?_)
      | ((with_reducible show wpList _ _ _ (Oper.mk _ (Op.load 47 _) _ _ _ _ :: _) _ _); refine wpList_load M (by rfl) _ rfl rt23 rfl (by first | exact .head _) (by rfl) ?_)
      | (go_at_call 62; refine (KN _).mono ?_; clear KN; rintro e W3 ⟨rfl, rfl⟩)
      | (go_at_call 64; refine (KS _).mono ?_; clear KS; rintro e W3 ⟨rfl, rfl⟩)
      | (go_at_call 63; refine (KC _ M.below).mono ?_; clear KC; rintro e W2 ⟨a1, c1, rfl, L1, o1, b1⟩; have hsz := M.below.size; replace M := M.later b1; clear b1))
      exact bodyPost_ret (results_tmp2 rfl _ _ _) rfl ⟨a1, c1, rfl, L1, fun g off e => by have := o1 g off e; omega, M.below⟩
    · have h8I : ¬ (8 : Int) ≤ (l.length : Int) := by omega
      by_cases hmx : 1099511627776 ≤ ep0
      · skip
        have hE : E = 33 := by rw [HC0.out]; simp [hnm, hkd, hsc, hmx, h8]
        subst hE
        rw [if_neg (by decide)]
        clear HC0
        clear hnm hkd hsc
        clear KP
        go_enter Tryz.func31, Tryz.ntmps31
        go_wp2_with (first
      | (go_at_call 61; refine (KF _ M.below).mono ?_; clear KF; rintro e W1 ⟨rfl, b1⟩; replace M := M.later b1; clear b1)
      | ((with_reducible show wpList _ _ _ (Oper.mk (some 12) (Op.alloc 47) _ _ _ _ :: _) _ _); refine wpList_alloc M rfl rfl rt23 ?_; clear M; intro k12 W M)
      | ((with_reducible show wpList _ _ _ (Oper.mk _ (Op.store 47 _ _) _ _ _ _ :: _) _ _); (first | (refine wpList_put M rfl _ _ rfl rt23 0 _ rfl rfl rfl rfl rfl (by simp [Value.oneCell']) ?_)); clear M; intro W M; simp only [List.set_cons_zero, List.set_cons_succ] at M)
      | ((with_reducible show wpList _ _ _ (Oper.mk _ (Op.load 4 _) _ _ _ _ :: _) _ _); refine wpList_cell4 M (by rfl) _ rfl _ rfl (by first | exact .head _) (by rfl) ?_)
      | ((with_reducible show wpList _ _ _ (Oper.mk _ (Op.load 2 _) _ _ _ _ :: _) _ _); refine wpList_cell2 M (by rfl) _ rfl _ rfl (by first | exact .head _) (by rfl) ?_)
      | ((with_reducible show wpList _ _ _ (Oper.mk _ (Op.load 47 _) _ _ _ _ :: _) _ _); refine wpList_load M (by rfl) _ rfl rt23 rfl (by first | exact .head _) (by rfl) ?_)
      | (go_at_call 62; refine (KN _).mono ?_; clear KN; rintro e W3 ⟨rfl, rfl⟩)
      | (go_at_call 64; refine (KS _).mono ?_; clear KS; rintro e W3 ⟨rfl, rfl⟩)
      | (go_at_call 63; refine (KC _ M.below).mono ?_; clear KC; rintro e W2 ⟨a1, c1, rfl, L1, o1, b1⟩; have hsz := M.below.size; replace M := M.later b1; clear b1))
        exact bodyPost_ret (results_tmp2 rfl _ _ _) rfl ⟨a1, c1, rfl, L1, fun g off e => by have := o1 g off e; omega, M.below⟩
      · have hwx : IntKind.i64.wrap (ep0 + 1) = ep0 + 1 := by rw [IntKind.wrap_i64]; omega
        have hE : E = 0 := by rw [HC0.out]; simp [hnm, hkd, hsc, hmx, h8]
        subst hE
        rw [if_pos rfl]
        clear HC0
        clear hnm hkd hsc KC
        go_enter Tryz.func31, Tryz.ntmps31
        go_wp2_with (first
      | (go_at_call 61; refine (KF _ M.below).mono ?_; clear KF; rintro e W1 ⟨rfl, b1⟩; replace M := M.later b1; clear b1)
      | ((with_reducible show wpList _ _ _ (Oper.mk (some 12) (Op.alloc 47) _ _ _ _ :: _) _ _); refine wpList_alloc M rfl rfl rt23 ?_; clear M; intro k12 W M)
      | ((with_reducible show wpList _ _ _ (Oper.mk _ (Op.store 47 _ _) _ _ _ _ :: _) _ _); (first | (refine wpList_put M rfl _ _ rfl rt23 0 _ rfl rfl rfl rfl rfl (by simp [Value.oneCell']) ?_)); clear M; intro W M; simp only [List.set_cons_zero, List.set_cons_succ] at M)
      | ((with_reducible show wpList _ _ _ (Oper.mk _ (Op.load 4 _) _ _ _ _ :: _) _ _); refine wpList_cell4 M (by rfl) _ rfl _ rfl (by first | exact .head _) (by rfl) ?_)
      | ((with_reducible show wpList _ _ _ (Oper.mk _ (Op.load 2 _) _ _ _ _ :: _) _ _); refine wpList_cell2 M (by rfl) _ rfl _ rfl (by first | exact .head _) (by rfl) ?_)
      | ((with_reducible show wpList _ _ _ (Oper.mk _ (Op.load 47 _) _ _ _ _ :: _) _ _); refine wpList_load M (by rfl) _ rfl rt23 rfl (by first | exact .head _) (by rfl) ?_)
      | (go_at_call 62; refine (KN _).mono ?_; clear KN; rintro e W3 ⟨rfl, rfl⟩)
      | (go_at_call 64; refine (KS _).mono ?_; clear KS; rintro e W3 ⟨rfl, rfl⟩)
      | (go_at_call 63; refine (KC _ M.below).mono ?_; clear KC; rintro e W2 ⟨a1, c1, rfl, L1, o1, b1⟩; have hsz := M.below.size; replace M := M.later b1; clear b1)
      | (go_at_call 65; refine (KP _ M.below).mono ?_; clear KP; rintro e W2 ⟨a1, c1, rfl, L1, o1, b1⟩; have hsz := M.below.size; replace M := M.later b1; clear b1))
        exact bodyPost_ret (results_tmp2 rfl _ _ _) rfl ⟨a1, c1, rfl, L1, fun g off e => by have := o1 g off e; omega, M.below⟩
set_option maxRecDepth 100000 in
set_option maxHeartbeats 4000000 in
theorem delete_any (a : Option Addr) (cap : Nat) (l : List CH) (maker : Int) (name : ByteArray) (w : World) (hr : RdC w a l.length cap l) (hn : l.length ≤ 1000) (hep : 0 ≤ (fdc (lk name l)).ep) : Calls Tryz.prog 33 #[.slice a l.length cap, .int .i64 maker, .string name] w (AnsL w (if dlE l name = 0 then GL (8 - (l.length : Int)) (Z l [dlM l maker name]) else l) (dlE l name)) := by
  have M := Mem.nil w
  have KC := fun W (b : Below w.heap.size w W) => own_any a cap l W (hr.below b)
  have KF := fun W (b : Below w.heap.size w W) => find_any a l.length cap l name W (hr.below b)
  have KM : ∀ (W : World) (q : Nat), Below w.heap.size w W → W.heap[q]? = some (.cells (chc (fdc (lk name l)).nm ((fdc (lk name l)).ep + 1) maker false (fdc (lk name l)).kd (fdc (lk name l)).sc) 47 (0, 0)) → Calls Tryz.prog 54 #[.slice a l.length cap, .slice (some ⟨q, 0, none⟩) 1 1] W (Ans W (GL (8 - (l.length : Int)) (Z l [dlM l maker name]))) := fun W q b h => merge_any a l.length cap l _ 1 1 _ W (hr.below b) (rd_one h) hn (by decide)
  have KX := fun w => next_any (fdc (lk name l)).ep (fdc (lk name l)).mr maker w
  have KL := fun w => plain_any (fdc (lk name l)).nm ((fdc (lk name l)).ep + 1) maker false (fdc (lk name l)).kd (fdc (lk name l)).sc w
  have HC0 : Hid (dlE l name = if (fdc (lk name l)).al = false then 44 else if 1099511627776 ≤ (fdc (lk name l)).ep then 33 else 0) := rfl
  obtain ⟨E, hEE⟩ : ∃ E, dlE l name = E := ⟨_, rfl⟩
  obtain ⟨LC, hLC⟩ : ∃ LC, GL (8 - (l.length : Int)) (Z l [dlM l maker name]) = LC := ⟨_, rfl⟩
  rw [hEE] at HC0 ⊢
  rw [hLC] at KM ⊢
  clear hEE hLC hr hn
  obtain ⟨o0, ho0⟩ : ∃ o0, lk name l = o0 := ⟨_, rfl⟩
  rw [ho0] at KF HC0 hep KM KX KL
  clear ho0
  have hz : (fdc o0).al = true → o0.isSome = true := fun h => by cases o0 with
    | none => cases h
    | some c => rfl
  obtain ⟨b0, hb0⟩ : ∃ b0, o0.isSome = b0 := ⟨_, rfl⟩
  obtain ⟨c0, hc0⟩ : ∃ c0, fdc o0 = c0 := ⟨_, rfl⟩
  unfold fnd at KF
  rw [hb0, hc0] at KF hz
  rw [hc0] at hep HC0 KM KX KL
  clear hb0 hc0
  obtain ⟨nm0, ep0, mr0, al0, kd0, sc0⟩ := c0
  replace KF : ∀ W, Below w.heap.size w W → Calls Tryz.prog 29 #[.slice a l.length cap, .string name] W fun e w' => e = .returned (.tuple #[chv nm0 ep0 mr0 al0 kd0 sc0, .bool b0]) ∧ Below W.heap.size W w' := KF
  dsimp only at HC0 hep hz KM KX KL
  have KO := fun w => of_any nm0 ep0 mr0 al0 kd0 sc0 w
  cases al0 with
  | false =>
    have hE : E = 44 := by rw [HC0.out]; simp
    subst hE
    rw [if_neg (by decide)]
    clear HC0
    clear hz
    clear KM KX KL KO
    go_enter Tryz.func33, Tryz.ntmps33
    go_wp2_with (first
      | (go_at_call 29; refine (KF _ M.below).mono ?_; clear KF; rintro e W1 ⟨rfl, b1⟩; replace M := M.later b1; clear b1)
      | ((with_reducible show wpList _ _ _ (Oper.mk (some 8) (Op.alloc 47) _ _ _ _ :: _) _ _); refine wpList_alloc M rfl rfl rt23 ?_; clear M; intro k8 W M)
      | ((with_reducible show wpList _ _ _ (Oper.mk _ (Op.store 47 _ _) _ _ _ _ :: _) _ _); (first | (refine wpList_put M rfl _ _ rfl rt23 0 _ rfl rfl rfl rfl rfl (by simp [Value.oneCell']) ?_)); clear M; intro W M; simp only [List.set_cons_zero, List.set_cons_succ] at M)
      | ((with_reducible show wpList _ _ _ (Oper.mk _ (Op.load 4 _) _ _ _ _ :: _) _ _); refine wpList_cell4 M (by rfl) _ rfl _ rfl (by first | exact .head _) (by rfl) ?_)
      | ((with_reducible show wpList _ _ _ (Oper.mk _ (Op.load 2 _) _ _ _ _ :: _) _ _); refine wpList_cell2 M (by rfl) _ rfl _ rfl (by first | exact .head _) (by rfl) ?_)
      | ((with_reducible show wpList _ _ _ (Oper.mk _ (Op.load 47 _) _ _ _ _ :: _) _ _); refine wpList_load M (by rfl) _ rfl rt23 rfl (by first | exact .head _) (by rfl) ?_)
      | (go_at_call 49; refine (KC _ M.below).mono ?_; clear KC; rintro e W2 ⟨a1, c1, rfl, L1, o1, b1⟩; have hsz := M.below.size; replace M := M.later b1; clear b1))
    exact bodyPost_ret (results_tmp2 rfl _ _ _) rfl ⟨a1, c1, rfl, L1, fun g off e => by have := o1 g off e; omega, M.below⟩
  | true =>
    have hb : b0 = true := hz rfl
    subst hb
    clear hz
    by_cases hmx : 1099511627776 ≤ ep0
    · skip
      have hE : E = 33 := by rw [HC0.out]; simp [hmx]
      subst hE
      rw [if_neg (by decide)]
      clear HC0
      clear KM KX KL KO
      go_enter Tryz.func33, Tryz.ntmps33
      go_wp2_with (first
      | (go_at_call 29; refine (KF _ M.below).mono ?_; clear KF; rintro e W1 ⟨rfl, b1⟩; replace M := M.later b1; clear b1)
      | ((with_reducible show wpList _ _ _ (Oper.mk (some 8) (Op.alloc 47) _ _ _ _ :: _) _ _); refine wpList_alloc M rfl rfl rt23 ?_; clear M; intro k8 W M)
      | ((with_reducible show wpList _ _ _ (Oper.mk _ (Op.store 47 _ _) _ _ _ _ :: _) _ _); (first | (refine wpList_put M rfl _ _ rfl rt23 0 _ rfl rfl rfl rfl rfl (by simp [Value.oneCell']) ?_)); clear M; intro W M; simp only [List.set_cons_zero, List.set_cons_succ] at M)
      | ((with_reducible show wpList _ _ _ (Oper.mk _ (Op.load 4 _) _ _ _ _ :: _) _ _); refine wpList_cell4 M (by rfl) _ rfl _ rfl (by first | exact .head _) (by rfl) ?_)
      | ((with_reducible show wpList _ _ _ (Oper.mk _ (Op.load 2 _) _ _ _ _ :: _) _ _); refine wpList_cell2 M (by rfl) _ rfl _ rfl (by first | exact .head _) (by rfl) ?_)
      | ((with_reducible show wpList _ _ _ (Oper.mk _ (Op.load 47 _) _ _ _ _ :: _) _ _); refine wpList_load M (by rfl) _ rfl rt23 rfl (by first | exact .head _) (by rfl) ?_)
      | (go_at_call 49; refine (KC _ M.below).mono ?_; clear KC; rintro e W2 ⟨a1, c1, rfl, L1, o1, b1⟩; have hsz := M.below.size; replace M := M.later b1; clear b1))
      exact bodyPost_ret (results_tmp2 rfl _ _ _) rfl ⟨a1, c1, rfl, L1, fun g off e => by have := o1 g off e; omega, M.below⟩
    · have hwx : IntKind.i64.wrap (ep0 + 1) = ep0 + 1 := by rw [IntKind.wrap_i64]; omega
      have hE : E = 0 := by rw [HC0.out]; simp [hmx]
      subst hE
      rw [if_pos rfl]
      clear HC0
      clear KC
      replace KX := fun w => KX w hwx
      go_enter Tryz.func33, Tryz.ntmps33
      go_wp2_with (first
      | (go_at_call 29; refine (KF _ M.below).mono ?_; clear KF; rintro e W1 ⟨rfl, b1⟩; replace M := M.later b1; clear b1)
      | ((with_reducible show wpList _ _ _ (Oper.mk (some 8) (Op.alloc 47) _ _ _ _ :: _) _ _); refine wpList_alloc M rfl rfl rt23 ?_; clear M; intro k8 W M)
      | ((with_reducible show wpList _ _ _ (Oper.mk _ (Op.store 47 _ _) _ _ _ _ :: _) _ _); (first | (refine wpList_put M rfl _ _ rfl rt23 0 _ rfl rfl rfl rfl rfl (by simp [Value.oneCell']) ?_)); clear M; intro W M; simp only [List.set_cons_zero, List.set_cons_succ] at M)
      | ((with_reducible show wpList _ _ _ (Oper.mk _ (Op.load 4 _) _ _ _ _ :: _) _ _); refine wpList_cell4 M (by rfl) _ rfl _ rfl (by first | exact .head _) (by rfl) ?_)
      | ((with_reducible show wpList _ _ _ (Oper.mk _ (Op.load 2 _) _ _ _ _ :: _) _ _); refine wpList_cell2 M (by rfl) _ rfl _ rfl (by first | exact .head _) (by rfl) ?_)
      | ((with_reducible show wpList _ _ _ (Oper.mk _ (Op.load 47 _) _ _ _ _ :: _) _ _); refine wpList_load M (by rfl) _ rfl rt23 rfl (by first | exact .head _) (by rfl) ?_)
      | (go_at_call 49; refine (KC _ M.below).mono ?_; clear KC; rintro e W2 ⟨a1, c1, rfl, L1, o1, b1⟩; have hsz := M.below.size; replace M := M.later b1; clear b1)
      | (go_at_call 52; refine (KO _).mono ?_; clear KO; rintro e W3 ⟨rfl, b1⟩; replace M := M.later b1; clear b1)
      | (go_at_call 53; refine (KX _).mono ?_; clear KX; rintro e W3 ⟨rfl, b1⟩; replace M := M.later b1; clear b1)
      | ((with_reducible show wpList _ _ _ (Oper.mk (some 10) (Op.alloc 82) _ _ _ _ :: _) _ _); refine wpList_alloc M rfl rfl rt57 ?_; clear M; intro k10 W M)
      | ((with_reducible show wpList _ _ _ (Oper.mk _ (Op.store 82 _ _) _ _ _ _ :: _) _ _); (first | (refine wpList_put M rfl _ _ rfl rt57 0 _ rfl rfl rfl rfl rfl (by simp [Value.oneCell']) ?_) | (refine wpList_put M rfl _ _ rfl rt57 1 _ rfl rfl rfl rfl rfl (by simp [Value.oneCell']) ?_)); clear M; intro W M; simp only [List.set_cons_zero, List.set_cons_succ] at M)
      | ((with_reducible show wpList _ _ _ (Oper.mk _ (Op.load 82 _) _ _ _ _ :: _) _ _); refine wpList_load M (by rfl) _ rfl rt57 rfl (by first | exact .head _ | exact .tail _ (.head _)) (by rfl) ?_)
      | (go_at_call 55; refine (KL _).mono ?_; clear KL; rintro e W3 ⟨rfl, b1⟩; replace M := M.later b1; clear b1)
      | ((with_reducible show wpList _ _ _ (Oper.mk _ (Op.buildSlice 44 1 _) _ _ _ _ :: _) _ _); refine wpList_mk1 M rfl _ rfl nm0 (ep0 + 1) maker false kd0 sc0 rfl ?_; clear M; intro q W M)
      | (go_at_call 54; refine (KM _ _ M.below (M.get (.head _))).mono ?_; clear KM; rintro e W2 ⟨a1, c1, rfl, L1, o1, b1⟩; have hsz := M.below.size; replace M := M.later b1; clear b1)
      | ((with_reducible show wpList _ _ _ (Oper.mk _ (Op.load 80 _) _ _ _ _ :: _) _ _); refine wpList_loadp M (by rfl) _ rfl rt55 [.int .i64 ep0, .int .i64 mr0] rfl (.head _) (by rfl) (by rfl) ?_)
      | ((with_reducible show wpList _ _ _ (Oper.mk _ (Op.store 80 _ _) _ _ _ _ :: _) _ _); refine wpList_put2 M rfl _ _ rfl 0 _ _ rfl rfl rfl ?_; clear M; intro W M; simp only [List.set_cons_zero, List.set_cons_succ] at M)
      | ((with_reducible show wpList _ _ _ (Oper.mk _ (Op.store 4 _ _) _ _ _ _ :: _) _ _); (first | (refine wpList_set4 M rfl _ _ rfl 0 _ _ rfl rfl rfl rfl ?_) | (refine wpList_set4 M rfl _ _ rfl 1 _ _ rfl rfl rfl rfl ?_)); clear M; intro W M; simp only [List.set_cons_zero, List.set_cons_succ, List.setIfInBounds_toArray] at M))
      exact bodyPost_ret (results_tmp2 rfl _ _ _) rfl ⟨a1, c1, rfl, L1, fun g off e => by have := o1 g off e; omega, M.below⟩
set_option maxRecDepth 100000 in
set_option maxHeartbeats 4000000 in
theorem rdelete_any (a : Option Addr) (cap : Nat) (l : List CH) (maker : Int) (name : ByteArray) (w : World) (hr : RdC w a l.length cap l) (hn : l.length ≤ 1000) (hep : 0 ≤ (fdc (lk name l)).ep) : Calls Tryz.prog 34 #[.slice a l.length cap, .int .i64 maker, .string name] w (AnsL w (if dlE l name = 0 then ptL l (dlM l maker name) else l) (dlE l name)) := by
  have M := Mem.nil w
  have KC := fun W (b : Below w.heap.size w W) => rcopied_any a cap l W (hr.below b)
  have KF := fun W (b : Below w.heap.size w W) => rfind_any a l.length cap l name W (hr.below b)
  have KP : ∀ W, Below w.heap.size w W → Calls Tryz.prog 65 #[.slice a l.length cap, chv (fdc (lk name l)).nm ((fdc (lk name l)).ep + 1) maker false (fdc (lk name l)).kd (fdc (lk name l)).sc] W (Ans W (ptL l (dlM l maker name))) := fun W (b : Below w.heap.size w W) => put_any a l.length cap l (fdc (lk name l)).nm ((fdc (lk name l)).ep + 1) maker false (fdc (lk name l)).kd (fdc (lk name l)).sc W (hr.below b) hn
  have HC0 : Hid (dlE l name = if (fdc (lk name l)).al = false then 44 else if 1099511627776 ≤ (fdc (lk name l)).ep then 33 else 0) := rfl
  obtain ⟨E, hEE⟩ : ∃ E, dlE l name = E := ⟨_, rfl⟩
  obtain ⟨LC, hLC⟩ : ∃ LC, ptL l (dlM l maker name) = LC := ⟨_, rfl⟩
  rw [hEE] at HC0 ⊢
  rw [hLC] at KP ⊢
  clear hEE hLC hr hn
  obtain ⟨o0, ho0⟩ : ∃ o0, lk name l = o0 := ⟨_, rfl⟩
  rw [ho0] at KF HC0 hep KP
  clear ho0
  have hz : (fdc o0).al = true → o0.isSome = true := fun h => by cases o0 with
    | none => cases h
    | some c => rfl
  obtain ⟨b0, hb0⟩ : ∃ b0, o0.isSome = b0 := ⟨_, rfl⟩
  obtain ⟨c0, hc0⟩ : ∃ c0, fdc o0 = c0 := ⟨_, rfl⟩
  unfold fnd at KF
  rw [hb0, hc0] at KF hz
  rw [hc0] at hep HC0 KP
  clear hb0 hc0
  obtain ⟨nm0, ep0, mr0, al0, kd0, sc0⟩ := c0
  replace KF : ∀ W, Below w.heap.size w W → Calls Tryz.prog 61 #[.slice a l.length cap, .string name] W fun e w' => e = .returned (.tuple #[chv nm0 ep0 mr0 al0 kd0 sc0, .bool b0]) ∧ Below W.heap.size W w' := KF
  dsimp only at HC0 hep hz KP
  cases al0 with
  | false =>
    cases b0 with
    | false =>
      have hE : E = 44 := by rw [HC0.out]; simp
      subst hE
      rw [if_neg (by decide)]
      clear HC0
      clear hz
      clear KP
      go_enter Tryz.func34, Tryz.ntmps34
      go_wp2_with (first
      | (go_at_call 61; refine (KF _ M.below).mono ?_; clear KF; rintro e W1 ⟨rfl, b1⟩; replace M := M.later b1; clear b1)
      | ((with_reducible show wpList _ _ _ (Oper.mk (some 8) (Op.alloc 47) _ _ _ _ :: _) _ _); refine wpList_alloc M rfl rfl rt23 ?_; clear M; intro k8 W M)
      | ((with_reducible show wpList _ _ _ (Oper.mk _ (Op.store 47 _ _) _ _ _ _ :: _) _ _); (first | (refine wpList_put M rfl _ _ rfl rt23 0 _ rfl rfl rfl rfl rfl (by simp [Value.oneCell']) ?_)); clear M; intro W M; simp only [List.set_cons_zero, List.set_cons_succ] at M)
      | ((with_reducible show wpList _ _ _ (Oper.mk _ (Op.load 4 _) _ _ _ _ :: _) _ _); refine wpList_cell4 M (by rfl) _ rfl _ rfl (by first | exact .head _) (by rfl) ?_)
      | ((with_reducible show wpList _ _ _ (Oper.mk _ (Op.load 2 _) _ _ _ _ :: _) _ _); refine wpList_cell2 M (by rfl) _ rfl _ rfl (by first | exact .head _) (by rfl) ?_)
      | ((with_reducible show wpList _ _ _ (Oper.mk _ (Op.load 47 _) _ _ _ _ :: _) _ _); refine wpList_load M (by rfl) _ rfl rt23 rfl (by first | exact .head _) (by rfl) ?_)
      | (go_at_call 63; refine (KC _ M.below).mono ?_; clear KC; rintro e W2 ⟨a1, c1, rfl, L1, o1, b1⟩; have hsz := M.below.size; replace M := M.later b1; clear b1))
      exact bodyPost_ret (results_tmp2 rfl _ _ _) rfl ⟨a1, c1, rfl, L1, fun g off e => by have := o1 g off e; omega, M.below⟩
    | true =>
      have hE : E = 44 := by rw [HC0.out]; simp
      subst hE
      rw [if_neg (by decide)]
      clear HC0
      clear hz
      clear KP
      go_enter Tryz.func34, Tryz.ntmps34
      go_wp2_with (first
      | (go_at_call 61; refine (KF _ M.below).mono ?_; clear KF; rintro e W1 ⟨rfl, b1⟩; replace M := M.later b1; clear b1)
      | ((with_reducible show wpList _ _ _ (Oper.mk (some 8) (Op.alloc 47) _ _ _ _ :: _) _ _); refine wpList_alloc M rfl rfl rt23 ?_; clear M; intro k8 W M)
      | ((with_reducible show wpList _ _ _ (Oper.mk _ (Op.store 47 _ _) _ _ _ _ :: _) _ _); (first | (refine wpList_put M rfl _ _ rfl rt23 0 _ rfl rfl rfl rfl rfl (by simp [Value.oneCell']) ?_)); clear M; intro W M; simp only [List.set_cons_zero, List.set_cons_succ] at M)
      | ((with_reducible show wpList _ _ _ (Oper.mk _ (Op.load 4 _) _ _ _ _ :: _) _ _); refine wpList_cell4 M (by rfl) _ rfl _ rfl (by first | exact .head _) (by rfl) ?_)
      | ((with_reducible show wpList _ _ _ (Oper.mk _ (Op.load 2 _) _ _ _ _ :: _) _ _); refine wpList_cell2 M (by rfl) _ rfl _ rfl (by first | exact .head _) (by rfl) ?_)
      | ((with_reducible show wpList _ _ _ (Oper.mk _ (Op.load 47 _) _ _ _ _ :: _) _ _); refine wpList_load M (by rfl) _ rfl rt23 rfl (by first | exact .head _) (by rfl) ?_)
      | (go_at_call 63; refine (KC _ M.below).mono ?_; clear KC; rintro e W2 ⟨a1, c1, rfl, L1, o1, b1⟩; have hsz := M.below.size; replace M := M.later b1; clear b1))
      exact bodyPost_ret (results_tmp2 rfl _ _ _) rfl ⟨a1, c1, rfl, L1, fun g off e => by have := o1 g off e; omega, M.below⟩
  | true =>
    have hb : b0 = true := hz rfl
    subst hb
    clear hz
    by_cases hmx : 1099511627776 ≤ ep0
    · skip
      have hE : E = 33 := by rw [HC0.out]; simp [hmx]
      subst hE
      rw [if_neg (by decide)]
      clear HC0
      clear KP
      go_enter Tryz.func34, Tryz.ntmps34
      go_wp2_with (first
      | (go_at_call 61; refine (KF _ M.below).mono ?_; clear KF; rintro e W1 ⟨rfl, b1⟩; replace M := M.later b1; clear b1)
      | ((with_reducible show wpList _ _ _ (Oper.mk (some 8) (Op.alloc 47) _ _ _ _ :: _) _ _); refine wpList_alloc M rfl rfl rt23 ?_; clear M; intro k8 W M)
      | ((with_reducible show wpList _ _ _ (Oper.mk _ (Op.store 47 _ _) _ _ _ _ :: _) _ _); (first | (refine wpList_put M rfl _ _ rfl rt23 0 _ rfl rfl rfl rfl rfl (by simp [Value.oneCell']) ?_)); clear M; intro W M; simp only [List.set_cons_zero, List.set_cons_succ] at M)
      | ((with_reducible show wpList _ _ _ (Oper.mk _ (Op.load 4 _) _ _ _ _ :: _) _ _); refine wpList_cell4 M (by rfl) _ rfl _ rfl (by first | exact .head _) (by rfl) ?_)
      | ((with_reducible show wpList _ _ _ (Oper.mk _ (Op.load 2 _) _ _ _ _ :: _) _ _); refine wpList_cell2 M (by rfl) _ rfl _ rfl (by first | exact .head _) (by rfl) ?_)
      | ((with_reducible show wpList _ _ _ (Oper.mk _ (Op.load 47 _) _ _ _ _ :: _) _ _); refine wpList_load M (by rfl) _ rfl rt23 rfl (by first | exact .head _) (by rfl) ?_)
      | (go_at_call 63; refine (KC _ M.below).mono ?_; clear KC; rintro e W2 ⟨a1, c1, rfl, L1, o1, b1⟩; have hsz := M.below.size; replace M := M.later b1; clear b1))
      exact bodyPost_ret (results_tmp2 rfl _ _ _) rfl ⟨a1, c1, rfl, L1, fun g off e => by have := o1 g off e; omega, M.below⟩
    · have hwx : IntKind.i64.wrap (ep0 + 1) = ep0 + 1 := by rw [IntKind.wrap_i64]; omega
      have hE : E = 0 := by rw [HC0.out]; simp [hmx]
      subst hE
      rw [if_pos rfl]
      clear HC0
      clear KC
      go_enter Tryz.func34, Tryz.ntmps34
      go_wp2_with (first
      | (go_at_call 61; refine (KF _ M.below).mono ?_; clear KF; rintro e W1 ⟨rfl, b1⟩; replace M := M.later b1; clear b1)
      | ((with_reducible show wpList _ _ _ (Oper.mk (some 8) (Op.alloc 47) _ _ _ _ :: _) _ _); refine wpList_alloc M rfl rfl rt23 ?_; clear M; intro k8 W M)
      | ((with_reducible show wpList _ _ _ (Oper.mk _ (Op.store 47 _ _) _ _ _ _ :: _) _ _); (first | (refine wpList_put M rfl _ _ rfl rt23 0 _ rfl rfl rfl rfl rfl (by simp [Value.oneCell']) ?_)); clear M; intro W M; simp only [List.set_cons_zero, List.set_cons_succ] at M)
      | ((with_reducible show wpList _ _ _ (Oper.mk _ (Op.load 4 _) _ _ _ _ :: _) _ _); refine wpList_cell4 M (by rfl) _ rfl _ rfl (by first | exact .head _) (by rfl) ?_)
      | ((with_reducible show wpList _ _ _ (Oper.mk _ (Op.load 2 _) _ _ _ _ :: _) _ _); refine wpList_cell2 M (by rfl) _ rfl _ rfl (by first | exact .head _) (by rfl) ?_)
      | ((with_reducible show wpList _ _ _ (Oper.mk _ (Op.load 47 _) _ _ _ _ :: _) _ _); refine wpList_load M (by rfl) _ rfl rt23 rfl (by first | exact .head _) (by rfl) ?_)
      | (go_at_call 63; refine (KC _ M.below).mono ?_; clear KC; rintro e W2 ⟨a1, c1, rfl, L1, o1, b1⟩; have hsz := M.below.size; replace M := M.later b1; clear b1)
      | ((with_reducible show wpList _ _ _ (Oper.mk _ (Op.store 2 _ _) _ _ _ _ :: _) _ _); (first | (refine wpList_set2 M rfl _ _ rfl 0 _ _ rfl rfl rfl rfl ?_)); clear M; intro W M; simp only [List.set_cons_zero, List.set_cons_succ, List.setIfInBounds_toArray] at M)
      | ((with_reducible show wpList _ _ _ (Oper.mk _ (Op.store 3 _ _) _ _ _ _ :: _) _ _); (first | (refine wpList_set3 M rfl _ _ rfl 0 _ _ rfl rfl rfl rfl ?_)); clear M; intro W M; simp only [List.set_cons_zero, List.set_cons_succ, List.setIfInBounds_toArray] at M)
      | ((with_reducible show wpList _ _ _ (Oper.mk _ (Op.store 4 _ _) _ _ _ _ :: _) _ _); (first | (refine wpList_set4 M rfl _ _ rfl 0 _ _ rfl rfl rfl rfl ?_)); clear M; intro W M; simp only [List.set_cons_zero, List.set_cons_succ, List.setIfInBounds_toArray] at M)
      | (go_at_call 65; refine (KP _ M.below).mono ?_; clear KP; rintro e W2 ⟨a1, c1, rfl, L1, o1, b1⟩; have hsz := M.below.size; replace M := M.later b1; clear b1))
      exact bodyPost_ret (results_tmp2 rfl _ _ _) rfl ⟨a1, c1, rfl, L1, fun g off e => by have := o1 g off e; omega, M.below⟩
end Go.Proofs.YtoeebofappbneaaGreat
