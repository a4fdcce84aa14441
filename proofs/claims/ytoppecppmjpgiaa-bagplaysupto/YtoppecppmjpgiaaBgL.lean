/-
  Package bag: a bag of one's own beside a call that lies in a block: call after call.
-/
import Derived.Test.YtoppecppmjpgiaaBgK
namespace Go.Proofs.Ytoppecppmjpgiaa
open Go.ChangeShapes Go.WideShapes Go.ChangeAt Go.RowKit Go.Maps
set_option linter.unusedVariables false
set_option linter.unusedSimpArgs false

/-- A bag of one's own, and a block beside it. -/
structure Inn (w : World) (b M g : Nat) (o : Obj) (k : Nat) (next : Int) (ds : List DG) (D : DataW Unit) (W : World) : Prop where
  out : ∃ a, Aw w b M k next ds D a W ∧ Aside b M a g o W
theorem Inn.later {w : World} {b M g : Nat} {o : Obj} {k : Nat} {next : Int} {ds : List DG} {D : DataW Unit} {W W' : World} (h : Inn w b M g o k next ds D W) (hb : Below W.heap.size W W') : Inn w b M g o k next ds D W' := by
  obtain ⟨a, A, s⟩ := h.out
  exact ⟨a, A.later hb, s.later hb⟩
theorem Inn.at_ {w : World} {b M g : Nat} {o : Obj} {k : Nat} {next : Int} {ds : List DG} {D : DataW Unit} {W : World} (h : Inn w b M g o k next ds D W) : W.heap[g]? = some o := by
  obtain ⟨a, A, s⟩ := h.out
  exact s.at_
/-- What holds of a bag that was filled by Put and Double alone. -/
structure Good (next : Int) (ds : List DG) : Prop where
  n0 : 0 ≤ next
  asc : Asc ds
  len : ds.length ≤ 65536
  num : ∀ d ∈ ds, 1 ≤ d.num ∧ d.num ≤ next
  i64 : ∀ d ∈ ds, I64 d.src ∧ I64 d.dst
theorem good_nil : Good 0 [] := ⟨by omega, List.Pairwise.nil, by simp, fun d hd => (by cases hd), fun d hd => (by cases hd)⟩
theorem Good.sub {next : Int} {ds es : List DG} (h : Good next ds) (hs : es.Sublist ds) : Good next es :=
  ⟨h.n0, h.asc.sublist hs, Nat.le_trans hs.length_le h.len, fun d hd => h.num d (hs.subset hd), fun d hd => h.i64 d (hs.subset hd)⟩
theorem Good.put {next : Int} {ds : List DG} (h : Good next ds) (hl : ds.length < 65536) {x y : Int} (hx : I64 x) (hy : I64 y) (s : ByteArray) : Good (next + 1) (ds ++ [⟨next + 1, x, y, s⟩]) := by
  refine ⟨by have := h.n0; omega, ?_, by simp; omega, ?_, ?_⟩
  · unfold Asc
    rw [List.pairwise_append]
    refine ⟨h.asc, List.pairwise_singleton _ _, fun a ha b hb => ?_⟩
    simp at hb
    subst hb
    have := (h.num a ha).2
    show a.num < next + 1
    omega
  · intro d hd
    rcases List.mem_append.1 hd with hd | hd
    · have := h.num d hd; omega
    · simp at hd; subst hd; have := h.n0; show 1 ≤ next + 1 ∧ next + 1 ≤ next + 1; omega
  · intro d hd
    rcases List.mem_append.1 hd with hd | hd
    · exact h.i64 d hd
    · simp at hd; subst hd; exact ⟨hx, hy⟩
/-- A number stands once. -/
theorem Good.one {next : Int} {ds : List DG} (h : Good next ds) {i j : Nat} {d e : DG} (hi : ds[i]? = some d) (hj : ds[j]? = some e) (hn : d.num = e.num) : i = j := by
  obtain ⟨hi', rfl⟩ := List.getElem?_eq_some_iff.1 hi
  obtain ⟨hj', rfl⟩ := List.getElem?_eq_some_iff.1 hj
  have P := List.pairwise_iff_getElem.1 h.asc
  rcases Nat.lt_trichotomy i j with hlt | rfl | hlt
  · have := P i j hi' hj' hlt; omega
  · rfl
  · have := P j i hj' hi' hlt; omega
section
variable {w : World} {b M g : Nat} {o : Obj} {k : Nat} {next : Int} {ds : List DG} {D : DataW Unit} {W : World}
theorem Inn.put (h : Inn w b M g o k next ds D W) (G : Good next ds) (x y : Int) (s : ByteArray) (hx : I64 x) (hy : I64 y) {P : PutS} (hP : putS D next ds x y s = P) :
    Calls Try.prog 16 #[.pointer (some ⟨b, 0, none⟩), .int .i64 x, .int .i64 y, .string s] W fun e W' => e = .returned (.tuple #[.int .i64 P.r0, .int .i64 P.r1]) ∧ Inn w b M g o k P.next P.ds D W' := by
  obtain ⟨a, A, sd⟩ := h.out
  refine (A.put x y s hx hy G.n0 hP).mono ?_
  rintro e W' ⟨he, a', A', L, hs⟩
  exact ⟨he, a', A', sd.left L⟩
theorem Inn.double (h : Inn w b M g o k next ds D W) (G : Good next ds) (num : Int) (d : DG) (hd : d ∈ ds) (hdn : d.num = num) {P : PutS} (hP : putS D next ds d.src d.dst d.body = P) :
    Calls Try.prog 17 #[.pointer (some ⟨b, 0, none⟩), .int .i64 num] W fun e W' => e = .returned (.tuple #[.int .i64 P.r0, .int .i64 P.r1]) ∧ Inn w b M g o k P.next P.ds D W' := by
  obtain ⟨a, A, sd⟩ := h.out
  refine (A.double num G.len G.asc G.i64 G.n0 d hd hdn ?_ hP).mono ?_
  · intro e he hn
    obtain ⟨i, hi⟩ := List.getElem?_of_mem he
    obtain ⟨j, hj⟩ := List.getElem?_of_mem hd
    have := G.one hi hj (by omega)
    subst this
    rw [hi] at hj
    cases hj
    rfl
  · rintro e W' ⟨he, a', A', L, hs⟩
    exact ⟨he, a', A', sd.left L⟩
theorem Inn.double_none (h : Inn w b M g o k next ds D W) (G : Good next ds) (num : Int) (hno : ∀ d ∈ ds, d.num ≠ num) :
    Calls Try.prog 17 #[.pointer (some ⟨b, 0, none⟩), .int .i64 num] W fun e W' => e = .returned (.tuple #[.int .i64 0, .int .i64 31]) ∧ Inn w b M g o k next ds D W' := by
  obtain ⟨a, A, sd⟩ := h.out
  obtain ⟨cap, B⟩ := A.bag
  refine (double_any b M a _ cap k next ds D num W B G.len G.asc G.i64 G.n0).mono ?_
  rintro e W' (⟨j, d', h1, h2, _⟩ | ⟨_, rfl, hb⟩)
  · exact absurd h2 (hno d' (List.mem_of_getElem? h1))
  · exact ⟨rfl, h.later hb⟩
theorem Inn.take (h : Inn w b M g o k next ds D W) (G : Good next ds) (j : Nat) (d : DG) (hd : ds[j]? = some d) :
    Calls Try.prog 18 #[.pointer (some ⟨b, 0, none⟩), .int .i64 d.num] W fun e W' => e = .returned (.tuple #[dgv d, .int .i64 0]) ∧ Inn w b M g o k next (ds.eraseIdx j) D W' := by
  obtain ⟨a, A, sd⟩ := h.out
  refine (A.take d.num G.len G.asc j d hd rfl (fun i e hi hn => G.one hi hd hn) rfl).mono ?_
  rintro e W' ⟨he, a', A', L, hs⟩
  exact ⟨he, a', A', sd.left L⟩
theorem Inn.take_none (h : Inn w b M g o k next ds D W) (G : Good next ds) (num : Int) (hno : ∀ d ∈ ds, d.num ≠ num) :
    Calls Try.prog 18 #[.pointer (some ⟨b, 0, none⟩), .int .i64 num] W fun e W' => e = .returned (.tuple #[dgv DG.z, .int .i64 31]) ∧ Inn w b M g o k next ds D W' := by
  obtain ⟨a, A, sd⟩ := h.out
  exact (A.take_none num G.len G.asc hno).mono fun e W' ⟨he, hb⟩ => ⟨he, h.later hb⟩
theorem Inn.sever (h : Inn w b M g o k next ds D W) (x y : Int) (hx : I64 x) (hy : I64 y) (hxy : x ≠ y) (hk : k < maxLen) {es : List DG} (he : ds.filter (fun d => !onWay (min x y) (max x y) d) = es) :
    Calls Try.prog 19 #[.pointer (some ⟨b, 0, none⟩), .int .i64 x, .int .i64 y] W fun e W' => e = .returned (.int .i64 ((ds.length : Int) - (es.length : Int))) ∧ Inn w b M g o (k + 1) next es (D.put (klOf (min x y) (max x y)) (.agg [])) W' := by
  obtain ⟨a, A, sd⟩ := h.out
  refine (A.sever x y hx hy hxy hk he).mono ?_
  rintro e W' ⟨he, A', L, hs⟩
  exact ⟨he, a, A', sd.left L⟩
theorem Inn.sever_same (h : Inn w b M g o k next ds D W) (x : Int) :
    Calls Try.prog 19 #[.pointer (some ⟨b, 0, none⟩), .int .i64 x, .int .i64 x] W fun e W' => e = .returned (.int .i64 0) ∧ Inn w b M g o k next ds D W' := by
  obtain ⟨a, A, sd⟩ := h.out
  obtain ⟨cap, B⟩ := A.bag
  exact (_root_.Go.Proofs.Ytoppecppmjpgiaa.sever_same b M a _ cap k next ds D x W B).mono fun e W' ⟨he, hw⟩ => ⟨he, by rw [hw]; exact h⟩
theorem Inn.mend (h : Inn w b M g o k next ds D W) (x y : Int) (hx : I64 x) (hy : I64 y) :
    Calls Try.prog 21 #[.pointer (some ⟨b, 0, none⟩), .int .i64 x, .int .i64 y] W fun e W' => e = .returned (.bool (cut D x y)) ∧ Inn w b M g o k next ds (D.del (klOf (min x y) (max x y))) W' := by
  obtain ⟨a, A, sd⟩ := h.out
  obtain ⟨cap, B⟩ := A.bag
  refine (mend_any b M a _ cap k next ds D x y W B hx hy).mono ?_
  rintro e W' ⟨rfl, B', o'⟩
  have L : Left b M a a W W' := fun q hq hn => ⟨o'.block q hq (fun e => hn (.inr (.inl e))), hn⟩
  exact ⟨rfl, a, ⟨⟨cap, B'⟩, A.mine, only_below A.below o' (fun q hq => A.mine q (.inr (.inl hq)))⟩, sd.left L⟩
theorem Inn.forget (h : Inn w b M g o k next ds D W) (x : Int) {es : List DG} (he : ds.filter (fun d => !onTo x d) = es) :
    Calls Try.prog 22 #[.pointer (some ⟨b, 0, none⟩), .int .i64 x] W fun e W' => e = .returned (.int .i64 ((ds.length : Int) - (es.length : Int))) ∧ Inn w b M g o k next es D W' := by
  obtain ⟨a, A, sd⟩ := h.out
  obtain ⟨cap, B⟩ := A.bag
  subst he
  refine (forget_any b M a _ cap k next ds D x W B).mono ?_
  rintro e W' ⟨m, rfl, B', o'⟩
  have hm := B'.lst.size
  have L : Left b M a a W W' := fun q hq hn => ⟨o'.block q hq hn, hn⟩
  exact ⟨by rw [hm], a, ⟨⟨cap, by rw [hm]; exact B'⟩, A.mine, only_below A.below o' A.mine⟩, sd.left L⟩
theorem Inn.len (h : Inn w b M g o k next ds D W) :
    Calls Try.prog 14 #[.pointer (some ⟨b, 0, none⟩)] W fun e W' => e = .returned (.int .i64 (ds.length : Int)) ∧ W' = W := by
  obtain ⟨a, A, sd⟩ := h.out
  exact A.len
theorem Inn.between (h : Inn w b M g o k next ds D W) (x y : Int) (hl : ds.length ≤ 65536) {n : Nat} (hn : (nums x y ds).length = n) :
    Calls Try.prog 20 #[.pointer (some ⟨b, 0, none⟩), .int .i64 x, .int .i64 y] W fun e W' => ∃ a c, e = .returned (.slice a n c) ∧ Inn w b M g o k next ds D W' := by
  obtain ⟨a, A, sd⟩ := h.out
  obtain ⟨cap, B⟩ := A.bag
  refine (between_any b M a _ cap k next ds D x y W B hl).mono ?_
  rintro e W' ⟨v, rfl, ho, hb⟩
  have h0 : W'.ownsRow W.heap.size 2 1 v (nums x y ds).length ((nums x y ds).map nv) := ho
  rw [hn] at h0
  rcases h0.2 with ⟨rfl, hn0⟩ | ⟨g', cap', cur, rfl, _⟩
  · subst hn0
    exact ⟨none, 0, rfl, h.later hb⟩
  · exact ⟨_, _, rfl, h.later hb⟩
end
theorem Inn.put' {w : World} {b M g : Nat} {o : Obj} {k : Nat} {next : Int} {ds : List DG} {D : DataW Unit} {W : World} (h : Inn w b M g o k next ds D W) (G : Good next ds) (x y : Int) (s : ByteArray) (hx : I64 x) (hy : I64 y) {r0 r1 n' : Int} {ds' : List DG} (hP : putS D next ds x y s = ⟨r0, r1, n', ds'⟩) :
    Calls Try.prog 16 #[.pointer (some ⟨b, 0, none⟩), .int .i64 x, .int .i64 y, .string s] W fun e W' => e = .returned (.tuple #[.int .i64 r0, .int .i64 r1]) ∧ Inn w b M g o k n' ds' D W' := h.put G x y s hx hy hP
theorem Inn.double' {w : World} {b M g : Nat} {o : Obj} {k : Nat} {next : Int} {ds : List DG} {D : DataW Unit} {W : World} (h : Inn w b M g o k next ds D W) (G : Good next ds) (num x y : Int) (s : ByteArray) (hd : ⟨num, x, y, s⟩ ∈ ds) {r0 r1 n' : Int} {ds' : List DG} (hP : putS D next ds x y s = ⟨r0, r1, n', ds'⟩) :
    Calls Try.prog 17 #[.pointer (some ⟨b, 0, none⟩), .int .i64 num] W fun e W' => e = .returned (.tuple #[.int .i64 r0, .int .i64 r1]) ∧ Inn w b M g o k n' ds' D W' := h.double G num ⟨num, x, y, s⟩ hd rfl hP
theorem Inn.take' {w : World} {b M g : Nat} {o : Obj} {k : Nat} {next : Int} {ds : List DG} {D : DataW Unit} {W : World} (h : Inn w b M g o k next ds D W) (G : Good next ds) (j : Nat) (num x y : Int) (s : ByteArray) (hd : ds[j]? = some ⟨num, x, y, s⟩) {ds' : List DG} (hds : ds.eraseIdx j = ds') :
    Calls Try.prog 18 #[.pointer (some ⟨b, 0, none⟩), .int .i64 num] W fun e W' => e = .returned (.tuple #[.agg #[.int .i64 num, .int .i64 x, .int .i64 y, .string s], .int .i64 0]) ∧ Inn w b M g o k next ds' D W' := by
  subst hds
  exact h.take G j ⟨num, x, y, s⟩ hd
theorem Inn.take_none' {w : World} {b M g : Nat} {o : Obj} {k : Nat} {next : Int} {ds : List DG} {D : DataW Unit} {W : World} (h : Inn w b M g o k next ds D W) (G : Good next ds) (num : Int) (hno : ∀ d ∈ ds, d.num ≠ num) :
    Calls Try.prog 18 #[.pointer (some ⟨b, 0, none⟩), .int .i64 num] W fun e W' => e = .returned (.tuple #[.agg #[.int .i64 0, .int .i64 0, .int .i64 0, .string ByteArray.empty], .int .i64 31]) ∧ Inn w b M g o k next ds D W' := h.take_none G num hno
theorem Good.erase_no {next : Int} {ds : List DG} (h : Good next ds) {j : Nat} {d : DG} (hd : ds[j]? = some d) : ∀ e ∈ ds.eraseIdx j, e.num ≠ d.num := by
  intro e he hn
  rw [List.mem_eraseIdx_iff_getElem?] at he
  obtain ⟨i, hij, hi⟩ := he
  exact hij (h.one hi hd hn)
theorem nums_all (ds : List DG) : (nums (-1) (-1) ds).length = ds.length := by
  unfold nums
  rw [List.length_map, List.filter_eq_self.2 (fun d _ => by simp [fits])]
theorem nums_cut (x y : Int) (hx : x ≠ -1) (hy : y ≠ -1) (ds : List DG) : (nums x y (ds.filter (fun d => !onWay (min x y) (max x y) d))).length = 0 := by
  unfold nums
  rw [List.length_map, List.filter_filter]
  apply List.length_eq_zero_iff.2
  rw [List.filter_eq_nil_iff]
  intro d _ h
  simp only [fits, onWay, Bool.and_eq_true, Bool.or_eq_true, beq_iff_eq, Bool.not_eq_true', Bool.and_eq_false_iff, beq_eq_false_iff_ne] at h
  rcases h with ⟨⟨h1, h2⟩, h3⟩
  omega
theorem nums_to (y : Int) (hy : y ≠ -1) (ds : List DG) : (nums (-1) y (ds.filter (fun d => !onTo y d))).length = 0 := by
  unfold nums
  rw [List.length_map, List.filter_filter]
  apply List.length_eq_zero_iff.2
  rw [List.filter_eq_nil_iff]
  intro d _ h
  simp only [fits, onTo, Bool.and_eq_true, Bool.or_eq_true, beq_iff_eq, Bool.not_eq_true', beq_eq_false_iff_ne] at h
  omega
end Go.Proofs.Ytoppecppmjpgiaa
