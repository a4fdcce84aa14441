/-
  The document's Reg.
-/
import Derived.Test.YtacefkchhcpgaaaC3
namespace Go.Proofs.Ytacefkchhcpgaaa
open Go.ChangeShapes Go.WideShapes Go.ChangeAt Go.RowKit
set_option linter.unusedVariables false
set_option linter.unusedSimpArgs false

def regF (name : ByteArray) : List LS → LS
  | [] => LS.z
  | x :: r => if eqN x.name name = true then x else regF name r
theorem regF_at {name : ByteArray} : ∀ {ls : List LS} {i : Nat}, (∀ j, j < i → eqN (ls.getD j LS.z).name name = false) → i < ls.length → eqN (ls.getD i LS.z).name name = true → regF name ls = ls.getD i LS.z
  | [], i, _, h, _ => by simp at h
  | x :: r, 0, _, _, h => by
    have h' : eqN x.name name = true := h
    simp [regF, h']
  | x :: r, i + 1, h0, hl, h => by
    have h1 : eqN x.name name = false := h0 0 (by omega)
    have := regF_at (ls := r) (i := i) (fun j hj => h0 (j + 1) (by omega)) (by simpa using hl) h
    simp [regF, h1, this]
theorem regF_none {name : ByteArray} : ∀ {ls : List LS}, (∀ j, j < ls.length → eqN (ls.getD j LS.z).name name = false) → regF name ls = LS.z
  | [], _ => rfl
  | x :: r, h => by
    have h1 : eqN x.name name = false := h 0 (by simp)
    have := regF_none (ls := r) (fun j hj => h (j + 1) (by simp; omega))
    simp [regF, h1, this]
set_option maxRecDepth 100000 in
set_option maxHeartbeats 4000000 in
theorem rreg_any (h : HS) (a : Option Addr) (c : Nat) (name : ByteArray) (w : World) (R : RdO w h a c) : Calls Try.prog 31 #[(h.on a c).val, .string name] w fun e w' => e = .returned (regF name h.ls).r ∧ Below w.heap.size w w' := by
  obtain ⟨peer, boot, life, ls, pend, miss⟩ := h
  dsimp only [HS.on, HR.val, RdO] at R ⊢
  have C0 := ((Bx.nil w).add rfl (.cells #[.int .i64 peer, .int .i64 boot, .int .i64 life, .slice a ls.length c, .bool pend, .int .i64 miss] 24)).add (by simp) (.cells #[.int .i64 0, .int .i64 0, .int .i64 0] 42)
  have T0 := (Tri.new (w.alloc (.cells #[.int .i64 peer, .int .i64 boot, .int .i64 life, .slice a ls.length c, .bool pend, .int .i64 miss] 24)) (.int .i64 0) (.int .i64 0) (.int .i64 0) 42).at (k' := w.heap.size + 1) (by simp)
  have HSM : Hid (ls.length ≤ 140737488355328) := R.small
  go_enter Try.func31, Try.ntmps31
  go_wp2
  go_loopg [5] ls.length (fun gk v5 wr => ∃ i : Nat, v5 = .int .i64 (i : Int) ∧ i + gk = ls.length ∧ (∀ j, j < i → eqN (ls.getD j LS.z).name name = false) ∧ wr = (w.alloc (.cells #[.int .i64 peer, .int .i64 boot, .int .i64 life, .slice a ls.length c, .bool pend, .int .i64 miss] 24)).alloc (.cells #[.int .i64 0, .int .i64 0, .int .i64 0] 42))
  case atStart => exact ⟨0, by first | rfl | go_num, by omega, fun j hj => by omega, rfl⟩
  case round =>
    obtain ⟨i, rfl, hgk, hok, rfl⟩ := hrel
    have HOK : Hid (∀ j, j < i → eqN (ls.getD j LS.z).name name = false) := hok
    clear hok
    by_cases hi : i < ls.length
    · have hiI : (i : Int) < (ls.length : Int) := by omega
      have HI : Hid (i < ls.length) := hi
      obtain ⟨g, off, rfl, hg, hd, hri0⟩ := R.at i hi
      have hri := range_later hri0 hg C0.below
      clear hri0 hd
      obtain ⟨⟨nm, v, p, f⟩, hgi⟩ : ∃ x, ls.getD i LS.z = x := ⟨_, rfl⟩
      have HG : Hid (ls.getD i LS.z = ⟨nm, v, p, f⟩) := hgi
      rw [hgi] at hri
      clear hgi
      have hnm := LS.name_cell hri
      have hrg := LS.reg_range hri
      have hwr : IntKind.i64.wrap ((i : Int) + 1) = (i : Int) + 1 := by rw [IntKind.wrap_i64]; have := HSM.out; omega
      cases he : eqN nm name with
      | true =>
        have he2 : (nm.toList == name.toList) = true := he
        have HV : Hid (regF name ls = ⟨nm, v, p, f⟩) := by show _ = _; rw [← HG.out]; exact regF_at HOK.out HI.out (by rw [HG.out]; exact he)
        clear he
        go_wp2_with ((with_reducible show wpList _ _ _ (Oper.mk _ (Op.load 42 _) _ _ _ _ :: _) _ _); refine wpList_load42x rfl _ rfl g (off + i * 4 + 1) v p f rfl hrg ?_)
        rw [HV.out]
        exact bodyPost_ret (results_row1 rfl _ _ (w.heap.size + 1) _ rfl (load_42 ((Tri.new (w.alloc (.cells #[.int .i64 peer, .int .i64 boot, .int .i64 life, .slice (some ⟨g, off, none⟩) ls.length c, .bool pend, .int .i64 miss] 24)) (.int .i64 v) (.int .i64 p) (.int .i64 f) 42).at (k' := w.heap.size + 1) (by simp)))) rfl ⟨rfl, by go_grown⟩
      | false =>
        have he2 : (nm.toList == name.toList) = false := he
        have HF : Hid (eqN (ls.getD i LS.z).name name = false) := by show _ = _; rw [HG.out]; exact he
        clear he
        go_wp2
        go_roundg (gk - 1)
        case measure => omega
        case rel => exact ⟨i + 1, by first | rfl | go_num, by omega, fun j hj => (Nat.lt_succ_iff_lt_or_eq.1 hj).elim (HOK.out j) (fun e => by rw [e]; exact HF.out), rfl⟩
    · have hin : ¬ (i : Int) < (ls.length : Int) := by omega
      have HV : Hid (regF name ls = LS.z) := regF_none (fun j hj => HOK.out j (by omega))
      go_wp2
      rw [HV.out]
      exact bodyPost_ret (results_row1 rfl _ _ (w.heap.size + 1) _ rfl (load_42 T0)) rfl ⟨rfl, by go_grown⟩
end Go.Proofs.Ytacefkchhcpgaaa
