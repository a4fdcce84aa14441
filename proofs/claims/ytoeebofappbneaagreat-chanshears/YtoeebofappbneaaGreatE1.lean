/-
  Package dir: a list of records that grows beside other records; Learn, Merge.
-/
import Derived.Test.YtoeebofappbneaaGreatP4
namespace Go.Proofs.YtoeebofappbneaaGreat
open Go.ChangeShapes Go.WideShapes Go.ChangeAt Go.RowKit Go.Maps Go.Shelf
set_option linter.unusedVariables false
set_option linter.unusedSimpArgs false

abbrev chc (n : ByteArray) (e m : Int) (a : Bool) (k s : Int) : Array Value := #[.string n, .int .i64 e, .int .i64 m, .bool a, .int .i64 k, .int .i64 s]
theorem rd_one {W : World} {k : Nat} {n : ByteArray} {e m : Int} {a : Bool} {kk s : Int} (h : W.heap[k]? = some (.cells (chc n e m a kk s) 47 (0, 0))) : RdC W (some ⟨k, 0, none⟩) 1 1 [⟨n, e, m, a, kk, s⟩] := by
  refine ⟨rfl, Nat.le_refl _, by decide, .inr (.inr ⟨k, 0, rfl, row_lt h, ?_⟩)⟩
  have := range_rowC (d := ⟨n, e, m, a, kk, s⟩) h
  simpa [csC] using this
/-- The list's own block is held, too. -/
theorem MemG.own {w wr : World} {l : List Blk} (M : MemG w.heap.size (fun _ => False) w wr l) {v : Value} {n : Nat} {xs : List Value} (O : wr.ownsRow w.heap.size 47 6 v n xs) (hne : ∀ g, v.ownBlock = some g → ∀ p, p ∈ l → p.1 ≠ g) : MemG w.heap.size (fun b => v.ownBlock = some b) wr wr l :=
  ⟨Same.refl _ _ _, M.size, fun b hb => (O.lt b hb).2, fun p hp => ⟨(M.at_ p hp).1, (M.at_ p hp).2.1, fun h => hne _ h p hp rfl⟩, M.nd⟩
theorem MemG.back {w wr W : World} {l0 l : List Blk} {C : Nat → Prop} (M0 : MemG w.heap.size (fun _ => False) w wr l0) (M : MemG w.heap.size C wr W l) : MemG w.heap.size (fun _ => False) w W l :=
  ⟨M0.same.trans ⟨M.same.os, M.same.tape, M.same.output, M.same.size, fun b hb hc => M.same.block b hb (hc.imp _root_.id (fun h => h.elim))⟩, Nat.le_refl _, fun b h => h.elim, fun p hp => ⟨(M.at_ p hp).1, (M.at_ p hp).2.1, fun h => h⟩, M.nd⟩
theorem MemG.owns {N : Nat} {wr W : World} {l : List Blk} {v : Value} {base n : Nat} {xs : List Value} (M : MemG N (fun b => v.ownBlock = some b) wr W l) (O : wr.ownsRow base 47 6 v n xs) : W.ownsRow base 47 6 v n xs := owns_of_block O (fun g hg => M.same.block g (O.lt g hg).2 (.inr hg))
theorem MemG.ne {N : Nat} {wr W : World} {l : List Blk} {v : Value} (M : MemG N (fun b => v.ownBlock = some b) wr W l) : ∀ g, v.ownBlock = some g → ∀ p, p ∈ l → p.1 ≠ g := fun g hg p hp e => (M.at_ p hp).2.2 (by rw [e]; exact hg)
section
variable {ops : Array Oper} {rest : List Oper} {o : Oper} {A : Act} {w W : World} {l : List Blk} {Q : Exit → Act → World → Prop} {N : Nat} {C : Nat → Prop}
theorem wpList_mk1 (M : MemG N C w W l) (hgd : o.guard = none) (x : Operand) (ho : o.op = .buildSlice 44 1 #[(0, x)]) (n : ByteArray) (e m : Int) (a : Bool) (k s : Int) (hx : A.eval x = chv n e m a k s)
    (H : ∀ q W', MemG N C w W' ((q, chc n e m a k s, 47) :: l) → wpList Tryz.prog ops Q rest (A.put o.dst (.slice (some ⟨q, 0, none⟩) 1 1)) W') : wpList Tryz.prog ops Q (o :: rest) A W := by
  refine wpList_plain hgd fun K hK => ?_
  have MA := M.add (chc n e m a k s) 47
  unfold Oper.wp execOp
  simp only [ho]
  simp only [List.map_toArray, List.map_cons, List.map_nil, Array.toList, hx]
  go_simp
  exact hK _ _ (H _ _ MA)
theorem wpList_appM {v : Value} {k : Nat} {xs : List Value} {n : ByteArray} {e m : Int} {a : Bool} {kk s : Int} {q : Nat} (M : MemG N (fun b => v.ownBlock = some b) w W ((q, chc n e m a kk s, 47) :: l)) (O : w.ownsRow N 47 6 v k xs) (hg : o.guard = none) (p x : Operand) (hop : o.op = Op.call { callee := Callee.builtin Builtin.append, args := #[p, x], argTypes := #[44, 44] })
    (hs : A.eval p = v) (hx : A.eval x = .slice (some ⟨q, 0, none⟩) 1 1) (hb : k ≤ 1000000)
    (H : ∀ g cap W', MemG N (fun _ => False) w W' l → W'.ownsRow N 47 6 (.slice (some ⟨g, 0, none⟩) (k + 1) cap) (k + 1) (xs ++ CH.cells ⟨n, e, m, a, kk, s⟩) → (∀ g', (Value.slice (some ⟨g, 0, none⟩) (k + 1) cap).ownBlock = some g' → ∀ p, p ∈ l → p.1 ≠ g') →
      wpList Tryz.prog ops Q rest (A.put o.dst (.slice (some ⟨g, 0, none⟩) (k + 1) cap)) W') : wpList Tryz.prog ops Q (o :: rest) A W := by
  refine wpList_plain hg fun K hK => ?_
  obtain ⟨g, cap, w', hrun, r1, r2, r4⟩ := run_append_ch (y := ⟨n, e, m, a, kk, s⟩) o.type (M.owns O) (ad := ⟨q, 0, none⟩) (fun j u hu => by rw [add_plain, Nat.zero_add]; exact row_cell (M.get (.head _)) j u (by simpa [CH.cells] using hu)) (by omega) M.size
  have M1 := (M.tail.weak (C' := fun _ => False) (fun b h => h.elim)).grown r2 (fun b hb => ⟨(O.lt b hb).1, fun h => h, fun p hp e => M.ne b hb p (.tail _ hp) e⟩)
  unfold Oper.wp
  simp [execOp, hop, resolve, invoke, builtin, hs, hx, hrun, Result.andThen]
  refine hK _ _ (H g cap w' M1 r1 (fun g' hg' p hp e => ?_))
  have e1 : g = g' := by simpa [Value.ownBlock] using hg'
  rcases r4 with h | h
  · exact M.ne g h p (.tail _ hp) (by rw [e, e1])
  · have := M.lt (k := p.1) (c := p.2.1) (t := p.2.2) (.tail _ hp)
    omega
end
set_option maxRecDepth 100000 in
set_option maxHeartbeats 4000000 in
theorem merge_any (a : Option Addr) (n cap : Nat) (l : List CH) (a' : Option Addr) (n' cap' : Nat) (m : List CH) (w : World) (hr : RdC w a n cap l) (hr' : RdC w a' n' cap' m) (hn : n ≤ 1000) (hn' : n' ≤ 1000) : Calls Tryz.prog 54 #[.slice a n cap, .slice a' n' cap'] w (Ans w (GL (8 - (n : Int)) (Z l m))) := by
  have KL := learn_any a n cap l a' n' cap' m w hr hr' hn hn'
  obtain ⟨L, hL⟩ : ∃ L, GL (8 - (n : Int)) (Z l m) = L := ⟨_, rfl⟩
  obtain ⟨X, hX⟩ : ∃ X, GW (8 - (n : Int)) 0 (Z l m) = X := ⟨_, rfl⟩
  rw [hL, hX] at KL
  rw [hL]
  clear hL hX hn hn' hr hr'
  go_enter Tryz.func54, Tryz.ntmps54
  go_wp2_with (go_at_call 86; refine KL.mono ?_; clear KL; rintro e W2 ⟨a1, c1, rfl, L1, o1, b1⟩)
  go_ret
  exact ⟨a1, c1, rfl, L1, o1, b1⟩
end Go.Proofs.YtoeebofappbneaaGreat
