/-
  Package bag: the examples behind every law.
-/
import Derived.Test.YtoppecppmjpgiaaBgI
namespace Go.Proofs.Ytoppecppmjpgiaa
open Go.ChangeShapes Go.WideShapes Go.ChangeAt Go.RowKit Go.Maps
set_option linter.unusedVariables false
set_option linter.unusedSimpArgs false

abbrev sA : ByteArray := { data := #[97] }
abbrev sB : ByteArray := { data := #[98] }
abbrev sC : ByteArray := { data := #[99] }
theorem cut0 (x y : Int) : cut (.map []) x y = false := rfl
theorem pa1 : putS (.map []) 0 [] 1 2 sA = ⟨1, 0, 1, [⟨1, 1, 2, sA⟩]⟩ := by simp [putS, cut0]
theorem pa2 : putS (.map []) 1 [⟨1, 1, 2, sA⟩] 2 1 sB = ⟨2, 0, 2, [⟨1, 1, 2, sA⟩, ⟨2, 2, 1, sB⟩]⟩ := by simp [putS, cut0]
theorem pa3 : putS (.map []) 2 [⟨1, 1, 2, sA⟩, ⟨2, 2, 1, sB⟩] 1 2 sA = ⟨3, 0, 3, [⟨1, 1, 2, sA⟩, ⟨2, 2, 1, sB⟩, ⟨3, 1, 2, sA⟩]⟩ := by simp [putS, cut0]
abbrev cutD : DataW Unit := (DataW.map []).put (klOf (min 2 1) (max 2 1)) (.agg [])
theorem cut1 : cut cutD 1 2 = true := by
  unfold cut cutD
  rw [show klOf (min 1 2) (max 1 2) = klOf (min 2 1) (max 2 1) from rfl]
  exact Maps.has_put_same ⟨_, rfl⟩ (show WideAt.IsKeyLit (klOf (min 2 1) (max 2 1)) from trivial) _
theorem pa4 : putS cutD 3 [] 1 2 sC = ⟨0, 34, 3, []⟩ := by simp [putS, cut1]
theorem i64s : I64 1 ∧ I64 2 := by unfold I64; omega
theorem nums1 : nums 1 (-1) [⟨1, 1, 2, sA⟩, ⟨2, 2, 1, sB⟩, ⟨3, 1, 2, sA⟩] = [1, 3] := by decide
theorem way1 : List.filter (fun d => !onWay (min 2 1) (max 2 1) d) [⟨2, 2, 1, sB⟩, ⟨3, 1, 2, sA⟩] = [] := by decide
theorem asc2 : Asc [⟨1, 1, 2, sA⟩, ⟨2, 2, 1, sB⟩] := by simp [Asc]
theorem asc3 : Asc [⟨1, 1, 2, sA⟩, ⟨2, 2, 1, sB⟩, ⟨3, 1, 2, sA⟩] := by simp [Asc]
theorem asc4 : Asc [⟨2, 2, 1, sB⟩, ⟨3, 1, 2, sA⟩] := by simp [Asc]
theorem own_two {base : Nat} {W : World} {v : Value} {x y : Int} (h : OwnN base W v [x, y]) : ∃ g cap cur, v = .slice (some ⟨g, 0, none⟩) 2 cap ∧ base ≤ g ∧ W.heap[g]? = some (.cells cur 2 (0, 0)) ∧ cur[0]? = some (.int .i64 x) ∧ cur[1]? = some (.int .i64 y) := by
  have h0 : W.ownsRow base 2 1 v 2 [nv x, nv y] := h
  rcases h0.2 with ⟨_, hn⟩ | ⟨g, cap, cur, rfl, hg, hh, hn, hc, hcs, ht⟩
  · cases hn
  · have e0 := congrArg (·[0]?) ht
    have e1 := congrArg (·[1]?) ht
    simp [List.getElem?_take] at e0 e1
    exact ⟨g, cap, cur, rfl, hg, hh, e0, e1⟩
theorem put_word (w : World) (b M k : Nat) (next : Int) (ds : List DG) (D : DataW Unit) (a : Option Addr) (W : World) (h : Aw w b M k next ds D a W) (g : Nat) (o : Option Obj) (hg : W.heap[g]? = o) (hl : g < W.heap.size) (hn : ¬ bagC b M a g) {a' : Option Addr} {W' : World} (L : Left b M a a' W W') (hs : W.heap.size ≤ W'.heap.size) : W'.heap[g]? = o ∧ g < W'.heap.size ∧ ¬ bagC b M a' g :=
  ⟨(L g hl hn).1.trans hg, Nat.lt_of_lt_of_le hl hs, (L g hl hn).2⟩
/-- A block that is not the bag's. -/
structure Aside (b M : Nat) (a : Option Addr) (g : Nat) (o : Obj) (W : World) : Prop where
  at_ : W.heap[g]? = some o
  free : ¬ bagC b M a g
theorem Aside.left {b M : Nat} {a a' : Option Addr} {g : Nat} {o : Obj} {W W' : World} (h : Aside b M a g o W) (L : Left b M a a' W W') : Aside b M a' g o W' := ⟨(L g (row_lt h.at_) h.free).1.trans h.at_, (L g (row_lt h.at_) h.free).2⟩
theorem Aside.later {b M : Nat} {a : Option Addr} {g : Nat} {o : Obj} {W W' : World} (h : Aside b M a g o W) (hb : Below W.heap.size W W') : Aside b M a g o W' := ⟨(hb.block g (row_lt h.at_)).trans h.at_, h.free⟩
theorem Aw.ltC {w : World} {b M k : Nat} {next : Int} {ds : List DG} {D : DataW Unit} {a : Option Addr} {W : World} (h : Aw w b M k next ds D a W) : ∀ q, bagC b M a q → q < W.heap.size := by
  obtain ⟨cap, B⟩ := h.bag
  exact B.ltC
theorem Aw.new {w : World} {b M k : Nat} {next : Int} {ds : List DG} {D : DataW Unit} {a : Option Addr} {W : World} (h : Aw w b M k next ds D a W) (o : Obj) : Aw w b M k next ds D a (W.alloc o) ∧ Aside b M a W.heap.size o (W.alloc o) :=
  ⟨h.later ((Below.refl _ _).alloc (Nat.le_refl _) _), World.alloc_heap_new _ _, fun hq => by have := h.ltC _ hq; omega⟩
theorem Aw.between {w : World} {b M k : Nat} {next : Int} {ds : List DG} {D : DataW Unit} {a : Option Addr} {W : World} (h : Aw w b M k next ds D a W) (x y p q : Int) (hn : ds.length ≤ 65536) (hnum : nums x y ds = [p, q]) :
    Calls Try.prog 20 #[.pointer (some ⟨b, 0, none⟩), .int .i64 x, .int .i64 y] W fun e W' => ∃ g cap cur, e = .returned (.slice (some ⟨g, 0, none⟩) 2 cap) ∧ Aside b M a g (.cells cur 2) W' ∧ cur[0]? = some (.int .i64 p) ∧ cur[1]? = some (.int .i64 q) ∧ Aw w b M k next ds D a W' := by
  obtain ⟨cap, B⟩ := h.bag
  refine (between_any b M a _ cap k next ds D x y W B hn).mono ?_
  rintro e W' ⟨v, rfl, ho, hb⟩
  rw [hnum] at ho
  obtain ⟨g, c, cur, rfl, hg, hh, e0, e1⟩ := own_two ho
  exact ⟨g, c, cur, rfl, ⟨hh, fun hq => by have := h.ltC g hq; omega⟩, e0, e1, h.later hb⟩
theorem Aw.len {w : World} {b M k : Nat} {next : Int} {ds : List DG} {D : DataW Unit} {a : Option Addr} {W : World} (h : Aw w b M k next ds D a W) : Calls Try.prog 14 #[.pointer (some ⟨b, 0, none⟩)] W fun e W' => e = .returned (.int .i64 (ds.length : Int)) ∧ W' = W := by
  obtain ⟨cap, B⟩ := h.bag
  exact len_any b M a _ cap k next ds D W B
theorem Aw.mend {w : World} {b M k : Nat} {next : Int} {ds : List DG} {D : DataW Unit} {a : Option Addr} {W : World} (h : Aw w b M k next ds D a W) (x y : Int) (hx : I64 x) (hy : I64 y) : Calls Try.prog 21 #[.pointer (some ⟨b, 0, none⟩), .int .i64 x, .int .i64 y] W fun e W' => e = .returned (.bool (cut D x y)) ∧ Below w.heap.size w W' := by
  obtain ⟨cap, B⟩ := h.bag
  refine (mend_any b M a _ cap k next ds D x y W B hx hy).mono ?_
  rintro e W' ⟨rfl, _, o⟩
  exact ⟨rfl, only_below h.below o (fun q hq => h.mine q (.inr (.inl hq)))⟩
theorem two_cells {b M : Nat} {a : Option Addr} {g : Nat} {cur : Array Value} {x y : Int} {W : World} (h : Aside b M a g (.cells cur 2) W) (h0 : cur[0]? = some (.int .i64 x)) (h1 : cur[1]? = some (.int .i64 y)) : ∀ i, i < 2 → W.cell? ⟨g, i, none⟩ = some (.int .i64 ([x, y].getD i 0)) := by
  intro i hi
  match i, hi with
  | 0, _ => exact row_cell h.at_ 0 _ h0
  | 1, _ => exact row_cell h.at_ 1 _ h1
theorem one1 : ∀ (i : Nat) (e : DG), ([⟨1, 1, 2, sA⟩, ⟨2, 2, 1, sB⟩, ⟨3, 1, 2, sA⟩] : List DG)[i]? = some e → e.num = 1 → i = 0
  | 0, _, _, _ => rfl
  | 1, e, h1, h2 => by simp at h1; subst h1; simp at h2
  | 2, e, h1, h2 => by simp at h1; subst h1; simp at h2
  | i + 3, e, h1, h2 => by simp at h1
theorem Aw.take1 {w : World} {b M k : Nat} {next : Int} {D : DataW Unit} {a : Option Addr} {W : World} (h : Aw w b M k next [⟨1, 1, 2, sA⟩, ⟨2, 2, 1, sB⟩, ⟨3, 1, 2, sA⟩] D a W) :
    Calls Try.prog 18 #[.pointer (some ⟨b, 0, none⟩), .int .i64 1] W fun e W' => e = .returned (.tuple #[.agg #[.int .i64 1, .int .i64 1, .int .i64 2, .string sA], .int .i64 0]) ∧ ∃ a', Aw w b M k next [⟨2, 2, 1, sB⟩, ⟨3, 1, 2, sA⟩] D a' W' ∧ Left b M a a' W W' ∧ W.heap.size ≤ W'.heap.size :=
  h.take 1 (by simp) asc3 0 ⟨1, 1, 2, sA⟩ rfl rfl one1 rfl
theorem Aw.take2 {w : World} {b M k : Nat} {next : Int} {D : DataW Unit} {a : Option Addr} {W : World} (h : Aw w b M k next [⟨2, 2, 1, sB⟩, ⟨3, 1, 2, sA⟩] D a W) :
    Calls Try.prog 18 #[.pointer (some ⟨b, 0, none⟩), .int .i64 1] W fun e W' => e = .returned (.tuple #[.agg #[.int .i64 0, .int .i64 0, .int .i64 0, .string { data := #[] }], .int .i64 31]) ∧ Below W.heap.size W W' :=
  h.take_none 1 (by simp) asc4 (by simp)
theorem Aside.new {b M : Nat} {a : Option Addr} {g : Nat} {o : Obj} {W : World} (h : Aside b M a g o W) (o' : Obj) : Aside b M a g o (W.alloc o') := h.later ((Below.refl _ _).alloc (Nat.le_refl _) _)
set_option maxRecDepth 100000 in
set_option maxHeartbeats 8000000 in
theorem awake_any (w : World) : Calls Try.prog 10 #[] w fun e w' => e = .returned (.bool true) ∧ Below w.heap.size w w' := by
  have i1 := i64s.1
  have i2 := i64s.2
  go_enter Try.func10, Try.ntmps10
  go_wp2_with (first
    | (go_at_call 15; refine (new_any _).mono ?_; rintro e w1 ⟨b, rfl, hb, M, hM, B1, b1⟩; have A1 : Aw w b M 0 0 [] (.map []) none w1 := ⟨⟨0, B1⟩, (by rintro q (e | e | ⟨off, e⟩); (· rw [e]; exact hb); (· rw [e]; exact hM); (· cases e)), b1⟩)
    | (go_at_call 16; refine (A1.put 1 2 sA i1 i2 (by omega) pa1).mono ?_; rintro e w2 ⟨rfl, a2, A2, L2, s2⟩; clear A1)
    | (go_at_call 16; refine (A2.put 2 1 sB i2 i1 (by simp) pa2).mono ?_; rintro e w3 ⟨rfl, a3, A3, L3, s3⟩; clear A2)
    | (go_at_call 17; refine (A3.double 1 (by simp) asc2 (by simp [I64]) (by simp) ⟨1, 1, 2, sA⟩ (by simp) rfl (by simp) pa3).mono ?_; rintro e w4 ⟨rfl, a4, A4, L4, s4⟩; clear A3)
    | (go_at_call 20; refine (A4.between 1 (-1) 1 3 (by simp) nums1).mono ?_; rintro e w5 ⟨g, cap, cur, rfl, S5, e0, e1, A5⟩; clear A4)
    | (go_at_call 18; refine A5.take1.mono ?_; rintro e w6 ⟨rfl, a6, A6, L6, s6⟩; have S6 := (S5.left L6).new (.cells #[.int .i64 1, .int .i64 1, .int .i64 2, .string sA] 33); obtain ⟨A6a, T6⟩ := A6.new (.cells #[.int .i64 1, .int .i64 1, .int .i64 2, .string sA] 33); clear A5 A6)
    | (go_at_call 18; refine A6a.take2.mono ?_; rintro e w7 ⟨rfl, b7⟩; obtain ⟨A7a, T7⟩ := (A6a.later b7).new (.cells #[.int .i64 0, .int .i64 0, .int .i64 0, .string { data := #[] }] 33); have S7 := (S6.later b7).new (.cells #[.int .i64 0, .int .i64 0, .int .i64 0, .string { data := #[] }] 33); have X7 := (T6.later b7).new (.cells #[.int .i64 0, .int .i64 0, .int .i64 0, .string { data := #[] }] 33); clear A6a)
    | (go_at_call 19; refine (A7a.sever 2 1 i2 i1 (by decide) (by unfold maxLen; omega) way1).mono ?_; rintro e w8 ⟨rfl, A8, L8, s8⟩; have S8 := S7.left L8; have X8 := X7.left L8; clear A7a)
    | (go_at_call 16; refine (A8.put 1 2 sC i1 i2 (by omega) pa4).mono ?_; rintro e w9 ⟨rfl, a9, A9, L9, s9⟩; obtain ⟨A9a, T9⟩ := A9.new (.cells #[.int .i64 1, .int .i64 3] 2); have S9 := (S8.left L9).new (.cells #[.int .i64 1, .int .i64 3] 2); have X9 := (X8.left L9).new (.cells #[.int .i64 1, .int .i64 3] 2); clear A8)
    | (go_at_call 26; refine (same_nums g w9.heap.size 2 cap 2 [1, 3] _ rfl (two_cells S9 e0 e1) (two_cells T9 rfl rfl) (by omega)).mono ?_; rintro e w10 ⟨rfl, b10⟩; have A10 := A9a.later b10; have X10 := X9.later b10; have q0 := row_cell X10.at_ 0 (.int .i64 1) rfl; have q1 := row_cell X10.at_ 1 (.int .i64 1) rfl; have q2 := row_cell X10.at_ 2 (.int .i64 2) rfl; have q3 := row_cell X10.at_ 3 (.string sA) rfl)
    | (go_at_call 14; refine A10.len.mono ?_; rintro e w11 ⟨rfl, hw⟩; rw [hw]; clear hw)
    | (go_at_call 21; refine (A10.mend 1 2 i1 i2).mono ?_; rintro e w12 ⟨rfl, b12⟩; rw [cut1]))
  go_ret
  exact ⟨rfl, b12⟩
end Go.Proofs.Ytoppecppmjpgiaa
