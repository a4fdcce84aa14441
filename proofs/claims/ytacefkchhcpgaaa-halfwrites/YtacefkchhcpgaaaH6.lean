/-
  The document's Copy.
-/
import Derived.Test.YtacefkchhcpgaaaH1
import Derived.Test.YtacefkchhcpgaaaG1
namespace Go.Proofs.Ytacefkchhcpgaaa
open Go.ChangeShapes Go.WideShapes Go.ChangeAt Go.RowKit Go.Maps Go.Shelf
set_option linter.unusedVariables false
set_option linter.unusedSimpArgs false
attribute [local go_sem] Oper.semAt_some

/-- Copies of the first i half-edges, each with lines of its own. -/
structure Cpy (w : World) (hs : List HS) (i : Nat) (v : Value) (es : List HR) (W : World) : Prop where
  below : Below w.heap.size w W
  row : W.ownsRow w.heap.size 24 6 v i (csH es)
  len : es.length = i
  each : ∀ j, j < i → ∃ a c, es.getD j HR.z = (hs.getD j HS.z).on a c ∧ Own w.heap.size W (hs.getD j HS.z) a c
theorem Cpy.nil (w : World) (hs : List HS) : Cpy w hs 0 (.slice none 0 0) [] w := ⟨Below.refl _ _, World.ownsRow_nil _ _ 24 6, rfl, fun j hj => by omega⟩
theorem Cpy.later {w : World} {hs : List HS} {i : Nat} {v : Value} {es : List HR} {W W' : World} (C : Cpy w hs i v es W) (b : Below W.heap.size W W') : Cpy w hs i v es W' :=
  ⟨C.below.trans (b.mono C.below.size), owns_later C.row b, C.len, fun j hj => by
    obtain ⟨a, c, e, o⟩ := C.each j hj
    exact ⟨a, c, e, o.below b⟩⟩
theorem own_grow {base i : Nat} {W W' : World} {v : Value} {es : List HR} {h : HS} {a : Option Addr} {c : Nat} (row : W.ownsRow base 24 6 v i (csH es)) (r : W.grownBy W' v.ownBlock) (o : Own base W h a c) : Own base W' h a c := by
  refine ⟨?_, o.new⟩
  refine o.lst.of_block fun g off e => ?_
  rcases o.lst.mem with ⟨e', _⟩ | ⟨g', off', cur, e', hh, _⟩
  · rw [e'] at e; cases e
  · rw [e'] at e; cases e
    exact r.block g (row_lt hh) (owns_ne row hh (by decide))
theorem Cpy.next {w : World} {hs : List HS} {i : Nat} {v v' : Value} {es : List HR} {W W' : World} {a : Option Addr} {c : Nat} (C : Cpy w hs i v es W) (O : Own w.heap.size W (hs.getD i HS.z) a c)
    (r : W.grownBy W' v.ownBlock) (b : Below w.heap.size W W') (o : W'.ownsRow w.heap.size 24 6 v' (i + 1) (csH (es ++ [(hs.getD i HS.z).on a c]))) : Cpy w hs (i + 1) v' (es ++ [(hs.getD i HS.z).on a c]) W' := by
  refine ⟨C.below.trans b, o, by simp [C.len], fun j hj => ?_⟩
  by_cases e : j = i
  · subst e
    refine ⟨a, c, ?_, own_grow C.row r O⟩
    rw [List.getD_eq_getElem?_getD, List.getElem?_append_right (by rw [C.len]; exact Nat.le_refl _), C.len]
    simp
  · obtain ⟨a', c', e', o'⟩ := C.each j (by omega)
    refine ⟨a', c', ?_, own_grow C.row r o'⟩
    rw [← e', List.getD_eq_getElem?_getD, List.getElem?_append_left (by rw [C.len]; omega), ← List.getD_eq_getElem?_getD]
theorem Cpy.hs {w : World} {hs : List HS} {v : Value} {es : List HR} {W : World} (C : Cpy w hs hs.length v es W) (hn : hs.length * 64 ≤ 140737488355328) (hl : ∀ j, j < hs.length → (hs.getD j HS.z).ls.length * 40 ≤ 140737488355328) : ∃ a c, v = .slice a hs.length c ∧ Hs W a hs.length c hs := by
  obtain ⟨a, c, e, L, _⟩ := own_lstH C.row C.len
  refine ⟨a, c, e, rfl, es, L.rd hn, fun i hi => ?_⟩
  obtain ⟨a', c', e', o'⟩ := C.each i hi
  exact ⟨a', c', e', o'.rd (hl i hi)⟩
theorem Hs.few {W : World} {A : Option Addr} {n cap : Nat} {hs : List HS} (h : Hs W A n cap hs) : ∀ j, j < n → (hs.getD j HS.z).ls.length * 40 ≤ 140737488355328 := fun j hj => by
  obtain ⟨g, off, a, c, _, _, _, R⟩ := h.at j hj
  exact R.few
set_option maxRecDepth 100000 in
set_option maxHeartbeats 8000000 in
theorem rcopy_any (A : Option Addr) (c : Nat) (hs : List HS) (w : World) (P : Hs w A hs.length c hs) : Calls Try.prog 14 #[.slice A hs.length c] w fun e w' => (∃ a' c', e = .returned (.slice a' hs.length c') ∧ Hs w' a' hs.length c' hs) ∧ Below w.heap.size w w' := by
  have HSM : Hid (hs.length * 64 ≤ 140737488355328) := P.small
  go_enter Try.func14, Try.ntmps14
  go_wp2
  go_loopg [3, 4] hs.length (fun gk v3 v4 wr => ∃ (i : Nat) (es : List HR) (vv : Value), vv = v3 ∧ v4 = .int .i64 (i : Int) ∧ i + gk = hs.length ∧ Cpy w hs i vv es wr)
  case atStart => exact ⟨0, [], _, rfl, by first | rfl | go_num, by omega, Cpy.nil _ _⟩
  case round =>
    obtain ⟨i, es, vv, rfl, rfl, hgk, C⟩ := hrel
    by_cases hi : i < hs.length
    case pos =>
      have HI : Hid (i < hs.length) := hi
      have hiI : (i : Int) < (hs.length : Int) := by omega
      have hwr : IntKind.i64.wrap ((i : Int) + 1) = (i : Int) + 1 := by rw [IntKind.wrap_i64]; have := HSM.out; omega
      obtain ⟨g, o, a1, c1, rfl, k10, r10, R10⟩ := P.at i hi
      obtain ⟨x, e1⟩ : ∃ x, hs.getD i HS.z = x := ⟨_, rfl⟩
      rw [e1] at r10 R10
      have HX : Hid (hs.getD i HS.z = x) := e1
      clear e1
      have r1 := range_later r10 k10 C.below
      have R1 : RdO wr x a1 c1 := RdL.below R10 C.below
      have HC : Hid (Cpy w hs i vv es wr) := C
      clear C r10 R10
      go_wp2_with (first
        | ((with_reducible show wpList _ _ _ (Oper.mk _ (Op.load 24 _) _ _ _ _ :: _) _ _); refine wpList_load24 rfl _ rfl g (o + i * 6) (x.on a1 c1) rfl r1 ?_)
        | (go_at_call 29; refine (one_any x a1 c1 _ R1).mono ?_; rintro e w5 ⟨a2, c2, rfl, O5, b5⟩; dsimp only [HS.on, HR.val])
        | ((with_reducible show wpList _ _ _ (Oper.mk _ (Op.call { callee := Callee.builtin Builtin.append, args := _, argTypes := #[25, 25] }) _ _ _ _ :: _) _ _); go_must (have SA := (HC.out.later b5).later ((Below.refl _ _).alloc (Nat.le_refl _) (.cells #[.int .i64 x.peer, .int .i64 x.boot, .int .i64 x.life, .slice a2 x.ls.length c2, .bool x.pend, .int .i64 x.miss] 24)); have X8 := World.alloc_heap_new w5 (.cells #[.int .i64 x.peer, .int .i64 x.boot, .int .i64 x.life, .slice a2 x.ls.length c2, .bool x.pend, .int .i64 x.miss] 24); refine wpList_more_lstH (base := w.heap.size) (k := i) (es := es) (ds := [x.on a2 c2]) (ad := ⟨w5.heap.size, 0, none⟩) rfl _ _ rfl rfl rfl SA.row rfl (fun j u hj => by rw [add_plain, Nat.zero_add]; exact row_cell X8 j u (by simpa [csH, HR.cells, HS.on] using hj)) (by have := HSM.out; have := HI.out; omega) SA.below.size ?_; intro v8 w8 O8 g8 b8)))
      have C8 : Cpy w hs (i + 1) v8 (es ++ [(hs.getD i HS.z).on a2 c2]) w8 := by
        refine SA.next ?_ g8 b8 (by rw [HX.out]; exact O8)
        rw [HX.out]
        exact (O5.mono HC.out.below.size).below ((Below.refl _ _).alloc (Nat.le_refl _) _)
      go_roundg (gk - 1)
      case measure => omega
      case rel => exact ⟨i + 1, _, _, rfl, by first | rfl | go_num, by omega, C8⟩
    case neg =>
      have hiI : ¬ (i : Int) < (hs.length : Int) := by omega
      have hin : i = hs.length := by omega
      subst hin
      obtain ⟨a', c', e, H⟩ := C.hs HSM.out P.few
      subst e
      go_wp2
      go_ret
      exact ⟨⟨a', c', rfl, H⟩, C.below⟩
end Go.Proofs.Ytacefkchhcpgaaa
