/-
  Copy.
-/
import Derived.Test.YtifkkkfejbgifaaH6
namespace Go.Proofs.Ytifkkkfejbgifaa
open Go.ChangeShapes Go.WideShapes Go.ChangeAt Go.RowKit Go.Maps Go.Shelf
set_option linter.unusedVariables false
set_option linter.unusedSimpArgs false
attribute [local go_sem] Oper.semAt_some

set_option maxRecDepth 100000 in
set_option maxHeartbeats 8000000 in
theorem hcopy_any (A : Option Addr) (c : Nat) (hs : List HS) (w : World) (P : Hs w A hs.length c hs) : Calls Try.prog 35 #[.slice A hs.length c] w fun e w' => ∃ v es, e = .returned v ∧ Cpy w hs hs.length v es w' := by
  have HSM : Hid (hs.length * 64 ≤ 140737488355328) := P.small
  go_enter Try.func35, Try.ntmps35
  go_wp2
  go_loopg [3, 8] hs.length (fun gk v3 v8 wr => ∃ (i : Nat) (es : List HR) (vv : Value), vv = v3 ∧ v8 = .int .i64 (i : Int) ∧ i + gk = hs.length ∧ Cpy w hs i vv es wr)
  case atStart => exact ⟨0, [], _, rfl, by first | rfl | go_num, by omega, Cpy.nil _ _⟩
  case round =>
    obtain ⟨i, es, vv, rfl, rfl, hgk, C⟩ := hrel
    by_cases hi : i < hs.length
    case pos =>
      have HI : Hid (i < hs.length) := hi
      have hiI : (i : Int) < (hs.length : Int) := by omega
      have hwr : IntKind.i64.wrap ((i : Int) + 1) = (i : Int) + 1 := by rw [IntKind.wrap_i64]; have := HSM.out; omega
      obtain ⟨g, o, a1, c1, rfl, k10, r10, R10⟩ := P.at i hi
      obtain ⟨x, e1⟩ : ∃ x, hs.getD i HS.z = x := ⟨_, rfl⟩
      rw [e1] at r10 R10
      have HX : Hid (hs.getD i HS.z = x) := e1
      clear e1
      have r1 := range_later r10 k10 C.below
      have CA := C.later ((Below.refl _ _).alloc (Nat.le_refl _) (.cells #[.int .i64 x.peer, .int .i64 x.boot, .int .i64 x.life, .slice a1 x.ls.length c1, .bool x.pend, .int .i64 x.miss] 24))
      have T : (wr.alloc (.cells #[.int .i64 x.peer, .int .i64 x.boot, .int .i64 x.life, .slice a1 x.ls.length c1, .bool x.pend, .int .i64 x.miss] 24)).heap[wr.heap.size]? = some (.cells (x.on a1 c1).cells.toArray 24 (0, 0)) := heap_new rfl
      have R1 : RdO (wr.alloc (.cells #[.int .i64 x.peer, .int .i64 x.boot, .int .i64 x.life, .slice a1 x.ls.length c1, .bool x.pend, .int .i64 x.miss] 24)) x a1 c1 := RdL.below R10 CA.below
      have HC : Hid (Cpy w hs i vv es (wr.alloc (.cells #[.int .i64 x.peer, .int .i64 x.boot, .int .i64 x.life, .slice a1 x.ls.length c1, .bool x.pend, .int .i64 x.miss] 24))) := CA
      clear C CA r10 R10
      go_wp2_with (first
        | ((with_reducible show wpList _ _ _ (Oper.mk _ (Op.load 24 (Operand.tmp 10)) _ _ _ _ :: _) _ _); refine wpList_load24 rfl _ rfl g (o + i * 6) (x.on a1 c1) rfl r1 ?_; dsimp only [HS.on, HR.val])
        | ((with_reducible show wpList _ _ _ (Oper.mk _ (Op.load 24 (Operand.tmp 5)) _ _ _ _ :: _) _ _); refine wpList_load24 rfl _ rfl wr.heap.size 0 (x.on a1 c1) rfl (range_rowH T) ?_)
        | (go_at_call 39; refine (own_any x a1 c1 _ R1).mono ?_; rintro e w5 ⟨a2, c2, rfl, O5, b5⟩; dsimp only [HS.on, HR.val])
        | ((with_reducible show wpList _ _ _ (Oper.mk _ (Op.call { callee := Callee.builtin Builtin.append, args := _, argTypes := #[48, 48] }) _ _ _ _ :: _) _ _); go_must (have SA := (HC.out.later b5).later ((Below.refl _ _).alloc (Nat.le_refl _) (.cells #[.int .i64 x.peer, .int .i64 x.boot, .int .i64 x.life, .slice a2 x.ls.length c2, .bool x.pend, .int .i64 x.miss] 24)); have X8 := World.alloc_heap_new w5 (.cells #[.int .i64 x.peer, .int .i64 x.boot, .int .i64 x.life, .slice a2 x.ls.length c2, .bool x.pend, .int .i64 x.miss] 24); refine wpList_more_lstH (base := w.heap.size) (k := i) (es := es) (ds := [x.on a2 c2]) (ad := ⟨w5.heap.size, 0, none⟩) rfl _ _ rfl rfl rfl SA.row rfl (fun j u hj => by rw [add_plain, Nat.zero_add]; exact row_cell X8 j u (by simpa [csH, HR.cells, HS.on] using hj)) (by have := HSM.out; have := HI.out; omega) SA.below.size ?_; intro v8 w8 O8 g8 b8)))
      have C8 : Cpy w hs (i + 1) v8 (es ++ [(hs.getD i HS.z).on a2 c2]) w8 := by
        refine SA.next ?_ g8 b8 (by rw [HX.out]; exact O8)
        rw [HX.out]
        exact (O5.mono HC.out.below.size).below ((Below.refl _ _).alloc (Nat.le_refl _) _)
      go_roundg (gk - 1)
      case measure => omega
      case rel => exact ⟨i + 1, _, _, rfl, by first | rfl | go_num, by omega, C8⟩
    case neg =>
      have hiI : ¬ (i : Int) < (hs.length : Int) := by omega
      have hin : i = hs.length := by omega
      subst hin
      go_wp2
      go_ret
      exact ⟨_, rfl, es, C⟩
end Go.Proofs.Ytifkkkfejbgifaa
