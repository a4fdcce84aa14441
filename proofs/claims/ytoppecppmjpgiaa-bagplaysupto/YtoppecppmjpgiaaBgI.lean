/-
  Package bag: two lists of numbers compared; a bag of one's own, call after call.
-/
import Derived.Test.YtoppecppmjpgiaaBgH
import Derived.Test.YtoppecppmjpgiaaBgA
import Derived.Test.YtoppecppmjpgiaaBgB
namespace Go.Proofs.Ytoppecppmjpgiaa
open Go.ChangeShapes Go.WideShapes Go.ChangeAt Go.RowKit Go.Maps
set_option linter.unusedVariables false
set_option linter.unusedSimpArgs false

set_option maxRecDepth 100000 in
set_option maxHeartbeats 2000000 in
theorem same_nums (g h n c c' : Nat) (zs : List Int) (w : World) (hz : zs.length = n) (h1 : ∀ i, i < n → w.cell? ⟨g, i, none⟩ = some (.int .i64 (zs.getD i 0))) (h2 : ∀ i, i < n → w.cell? ⟨h, i, none⟩ = some (.int .i64 (zs.getD i 0))) (hn : n ≤ 65536) :
    Calls Try.prog 26 #[.slice (some ⟨g, 0, none⟩) n c, .slice (some ⟨h, 0, none⟩) n c'] w fun e w' => e = .returned (.bool true) ∧ Below w.heap.size w w' := by
  go_enter Try.func26, Try.ntmps26
  go_wp2
  go_loopg [5] n (fun gk v5 wr => ∃ i : Nat, v5 = .int .i64 (i : Int) ∧ i + gk = n ∧ Hid (Below w.heap.size w wr))
  case atStart => exact ⟨0, by first | rfl | go_num, by omega, ⟨Below.refl _ _⟩⟩
  case round =>
    obtain ⟨i, rfl, hg, HB⟩ := hrel
    by_cases hi : i < n
    · have hiI : (i : Int) < (n : Int) := by omega
      obtain ⟨z, hzz⟩ : ∃ z, zs.getD i 0 = z := ⟨_, rfl⟩
      have q1 : wr.cell? ⟨g, i, none⟩ = some (.int .i64 z) := by rw [← hzz, ← h1 i hi]; exact HB.out.cell (p := ⟨g, i, none⟩) (World.block_lt_of_cell? w ⟨g, i, none⟩ (h1 i hi))
      have q2 : wr.cell? ⟨h, i, none⟩ = some (.int .i64 z) := by rw [← hzz, ← h2 i hi]; exact HB.out.cell (p := ⟨h, i, none⟩) (World.block_lt_of_cell? w ⟨h, i, none⟩ (h2 i hi))
      clear hzz
      go_wp2_with (fail)
      go_quiet (fail)
      go_wp2
      go_roundg (gk - 1)
      case measure => omega
      case rel => exact ⟨i + 1, by go_num, by omega, ⟨⟨HB.out.os, HB.out.tape, HB.out.output, HB.out.size, HB.out.block⟩⟩⟩
    · obtain rfl : i = n := by omega
      go_wp2
      go_ret
      exact ⟨rfl, HB.out⟩
/-- A bag of one's own. -/
structure Aw (w : World) (b M : Nat) (k : Nat) (next : Int) (ds : List DG) (D : DataW Unit) (a : Option Addr) (W : World) : Prop where
  bag : ∃ cap, BagAt W b M a ds.length cap k next ds D
  mine : ∀ q, bagC b M a q → w.heap.size ≤ q
  below : Below w.heap.size w W
/-- What another call leaves. -/
def Left (b M : Nat) (a a' : Option Addr) (W W' : World) : Prop := ∀ g, g < W.heap.size → ¬ bagC b M a g → W'.heap[g]? = W.heap[g]? ∧ ¬ bagC b M a' g
theorem Aw.later {w : World} {b M k : Nat} {next : Int} {ds : List DG} {D : DataW Unit} {a : Option Addr} {W W' : World} (h : Aw w b M k next ds D a W) (hb : Below W.heap.size W W') : Aw w b M k next ds D a W' := by
  obtain ⟨cap, B⟩ := h.bag
  exact ⟨⟨cap, B.below hb⟩, h.mine, h.below.trans (hb.mono h.below.size)⟩
theorem only_below {w W W' : World} {C : Nat → Prop} (h : Below w.heap.size w W) (o : Only C W W') (hC : ∀ q, C q → w.heap.size ≤ q) : Below w.heap.size w W' :=
  h.trans (o.below h.size hC)
theorem Aw.put {w : World} {b M k : Nat} {next : Int} {ds : List DG} {D : DataW Unit} {a : Option Addr} {W : World} (h : Aw w b M k next ds D a W) (x y : Int) (s : ByteArray) (hx : I64 x) (hy : I64 y) (hs0 : 0 ≤ next) {P : PutS} (hP : putS D next ds x y s = P) :
    Calls Try.prog 16 #[.pointer (some ⟨b, 0, none⟩), .int .i64 x, .int .i64 y, .string s] W fun e W' => e = .returned (.tuple #[.int .i64 P.r0, .int .i64 P.r1]) ∧ ∃ a', Aw w b M k P.next P.ds D a' W' ∧ Left b M a a' W W' ∧ W.heap.size ≤ W'.heap.size := by
  obtain ⟨cap, B⟩ := h.bag
  subst hP
  refine (put_any b M a _ cap k next ds D x y s W B hx hy hs0).mono ?_
  rintro e W' ⟨rfl, o, a', cap', B', ha'⟩
  refine ⟨rfl, a', ⟨⟨cap', B'⟩, ?_, only_below h.below o h.mine⟩, fun g hg hn => ⟨o.block g hg hn, ?_⟩, o.size⟩
  · rintro q (e | e | ⟨off, e⟩)
    · exact h.mine q (.inl e)
    · exact h.mine q (.inr (.inl e))
    · rcases ha' q off e with ⟨o', e'⟩ | hq
      · exact h.mine q (.inr (.inr ⟨o', e'⟩))
      · exact Nat.le_trans h.below.size hq
  · rintro (e | e | ⟨off, e⟩)
    · exact hn (.inl e)
    · exact hn (.inr (.inl e))
    · rcases ha' g off e with ⟨o', e'⟩ | hq
      · exact hn (.inr (.inr ⟨o', e'⟩))
      · omega
theorem Aw.double {w : World} {b M k : Nat} {next : Int} {ds : List DG} {D : DataW Unit} {a : Option Addr} {W : World} (h : Aw w b M k next ds D a W) (num : Int) (hn : ds.length ≤ 65536) (hasc : Asc ds) (hok : ∀ d ∈ ds, I64 d.src ∧ I64 d.dst) (hs0 : 0 ≤ next) (d : DG) (hd : d ∈ ds) (hdn : d.num = num) (hone : ∀ e ∈ ds, e.num = num → e = d) {P : PutS} (hP : putS D next ds d.src d.dst d.body = P) :
    Calls Try.prog 17 #[.pointer (some ⟨b, 0, none⟩), .int .i64 num] W fun e W' => e = .returned (.tuple #[.int .i64 P.r0, .int .i64 P.r1]) ∧ ∃ a', Aw w b M k P.next P.ds D a' W' ∧ Left b M a a' W W' ∧ W.heap.size ≤ W'.heap.size := by
  obtain ⟨cap, B⟩ := h.bag
  subst hP
  refine (double_any b M a _ cap k next ds D num W B hn hasc hok hs0).mono ?_
  rintro e W' (⟨j, d', h1, h2, rfl, ⟨a', cap', B', ha'⟩, o⟩ | ⟨hno, _⟩)
  · obtain rfl := hone d' (List.mem_of_getElem? h1) h2
    refine ⟨rfl, a', ⟨⟨cap', B'⟩, ?_, only_below h.below o h.mine⟩, fun g hg hn => ⟨o.block g hg hn, ?_⟩, o.size⟩
    · rintro q (e | e | ⟨off, e⟩)
      · exact h.mine q (.inl e)
      · exact h.mine q (.inr (.inl e))
      · rcases ha' q off e with ⟨o', e'⟩ | hq
        · exact h.mine q (.inr (.inr ⟨o', e'⟩))
        · exact Nat.le_trans h.below.size hq
    · rintro (e | e | ⟨off, e⟩)
      · exact hn (.inl e)
      · exact hn (.inr (.inl e))
      · rcases ha' g off e with ⟨o', e'⟩ | hq
        · exact hn (.inr (.inr ⟨o', e'⟩))
        · omega
  · exact absurd hdn (hno d hd)
theorem Aw.take {w : World} {b M k : Nat} {next : Int} {ds : List DG} {D : DataW Unit} {a : Option Addr} {W : World} (h : Aw w b M k next ds D a W) (num : Int) (hn : ds.length ≤ 65536) (hasc : Asc ds) (j : Nat) (d : DG) (hd : ds[j]? = some d) (hdn : d.num = num) (hone : ∀ i e, ds[i]? = some e → e.num = num → i = j) {es : List DG} (he : ds.eraseIdx j = es) :
    Calls Try.prog 18 #[.pointer (some ⟨b, 0, none⟩), .int .i64 num] W fun e W' => e = .returned (.tuple #[dgv d, .int .i64 0]) ∧ ∃ a', Aw w b M k next es D a' W' ∧ Left b M a a' W W' ∧ W.heap.size ≤ W'.heap.size := by
  obtain ⟨cap, B⟩ := h.bag
  subst he
  refine (take_any b M a _ cap k next ds D num W B hn hasc).mono ?_
  rintro e W' (⟨i, d', a', cap', h1, h2, rfl, B', o, ha'⟩ | ⟨hno, _⟩)
  · obtain rfl := hone i d' h1 h2
    obtain rfl : d' = d := by rw [hd] at h1; cases h1; rfl
    have hl : (ds.eraseIdx i).length = ds.length - 1 := List.length_eraseIdx_of_lt (List.getElem?_eq_some_iff.1 hd).1
    refine ⟨rfl, a', ⟨⟨cap', by rw [hl]; exact B'⟩, fun q hq => h.mine q (bagC_of ha' q hq), only_below h.below o h.mine⟩, fun g hg hn => ⟨o.block g hg hn, fun hq => hn (bagC_of ha' g hq)⟩, o.size⟩
  · exact absurd hdn (hno d (List.mem_of_getElem? hd))
theorem Aw.take_none {w : World} {b M k : Nat} {next : Int} {ds : List DG} {D : DataW Unit} {a : Option Addr} {W : World} (h : Aw w b M k next ds D a W) (num : Int) (hn : ds.length ≤ 65536) (hasc : Asc ds) (hno : ∀ d ∈ ds, d.num ≠ num) :
    Calls Try.prog 18 #[.pointer (some ⟨b, 0, none⟩), .int .i64 num] W fun e W' => e = .returned (.tuple #[dgv DG.z, .int .i64 31]) ∧ Below W.heap.size W W' := by
  obtain ⟨cap, B⟩ := h.bag
  refine (take_any b M a _ cap k next ds D num W B hn hasc).mono ?_
  rintro e W' (⟨i, d', a', cap', h1, h2, rfl, B', o, ha'⟩ | ⟨_, rfl, hb⟩)
  · exact absurd h2 (hno d' (List.mem_of_getElem? h1))
  · exact ⟨rfl, hb⟩
theorem Aw.sever {w : World} {b M k : Nat} {next : Int} {ds : List DG} {D : DataW Unit} {a : Option Addr} {W : World} (h : Aw w b M k next ds D a W) (x y : Int) (hx : I64 x) (hy : I64 y) (hxy : x ≠ y) (hk : k < maxLen) {es : List DG} (he : ds.filter (fun d => !onWay (min x y) (max x y) d) = es) :
    Calls Try.prog 19 #[.pointer (some ⟨b, 0, none⟩), .int .i64 x, .int .i64 y] W fun e W' => e = .returned (.int .i64 ((ds.length : Int) - (es.length : Int))) ∧ Aw w b M (k + 1) next es (D.put (klOf (min x y) (max x y)) (.agg [])) a W' ∧ Left b M a a W W' ∧ W.heap.size ≤ W'.heap.size := by
  obtain ⟨cap, B⟩ := h.bag
  subst he
  refine (sever_any b M a _ cap k next ds D x y W B hx hy hxy hk).mono ?_
  rintro e W' ⟨m, rfl, B', o⟩
  have hm := B'.lst.size
  exact ⟨by rw [hm], ⟨⟨cap, by rw [hm]; exact B'⟩, h.mine, only_below h.below o h.mine⟩, fun g hg hn => ⟨o.block g hg hn, hn⟩, o.size⟩
end Go.Proofs.Ytoppecppmjpgiaa
