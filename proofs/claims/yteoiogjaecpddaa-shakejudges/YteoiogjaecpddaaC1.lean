/-
  Package half: the iterators over lines and over half-edges.
-/
import Derived.Test.YteoiogjaecpddaaC0
namespace Go.Proofs.Yteoiogjaecpddaa
open Go.ChangeShapes Go.WideShapes Go.ChangeAt Go.RowKit Go.Maps Go.Shelf
set_option linter.unusedVariables false
set_option linter.unusedSimpArgs false
attribute [local go_sem] Oper.semAt_some

/-- What an iterator leans on. -/
structure KeepI (w0 : World) (fb : Nat) (v : Value) (A : World) : Prop where
  ptr : One A fb v
  below : Below w0.heap.size w0 A
abbrev encN (x : LS) : Array Value := #[.string x.name, rg x.v x.p x.f]
abbrev encT (r : HR) : Array Value := #[.int .i64 r.peer, r.val]
section
variable {ops : Array Oper} {rest : List Oper} {o : Oper} {A : Act} {W : World} {Q : Exit → Act → World → Prop} {F : Fence} {n : Nat}
theorem wpListIn_load44x (hgd : o.guard = none) (x : Operand) (ho : o.op = .load 88 x) (g off : Nat) (name : ByteArray) (v p f : Int) (hx : A.eval x = .pointer (some ⟨g, off, none⟩)) (hc : W.rangeAt g off (LS.cells ⟨name, v, p, f⟩))
    (h : wpListIn F n Try.prog ops Q rest (A.put o.dst (.agg #[.string name, .int .i64 v, .int .i64 p, .int .i64 f])) W) : wpListIn F n Try.prog ops Q (o :: rest) A W := wpListIn_load44 hgd x ho g off ⟨name, v, p, f⟩ hx hc h
theorem wpListIn_load24x (hgd : o.guard = none) (x : Operand) (ho : o.op = .load 70 x) (g off : Nat) (peer boot life : Int) (a : Option Addr) (k cap : Nat) (pend : Bool) (miss : Int) (hx : A.eval x = .pointer (some ⟨g, off, none⟩)) (hc : W.rangeAt g off (HR.cells ⟨peer, boot, life, a, k, cap, pend, miss⟩))
    (h : wpListIn F n Try.prog ops Q rest (A.put o.dst (.agg #[.int .i64 peer, .int .i64 boot, .int .i64 life, .slice a k cap, .bool pend, .int .i64 miss])) W) : wpListIn F n Try.prog ops Q (o :: rest) A W := wpListIn_load24 hgd x ho g off ⟨peer, boot, life, a, k, cap, pend, miss⟩ hx hc h
theorem wpList_load44x (hgd : o.guard = none) (x : Operand) (ho : o.op = .load 88 x) (g off : Nat) (name : ByteArray) (v p f : Int) (hx : A.eval x = .pointer (some ⟨g, off, none⟩)) (hc : W.rangeAt g off (LS.cells ⟨name, v, p, f⟩))
    (h : wpList Try.prog ops Q rest (A.put o.dst (.agg #[.string name, .int .i64 v, .int .i64 p, .int .i64 f])) W) : wpList Try.prog ops Q (o :: rest) A W := wpList_load44 hgd x ho g off ⟨name, v, p, f⟩ hx hc h
theorem wpList_load24x (hgd : o.guard = none) (x : Operand) (ho : o.op = .load 70 x) (g off : Nat) (peer boot life : Int) (a : Option Addr) (k cap : Nat) (pend : Bool) (miss : Int) (hx : A.eval x = .pointer (some ⟨g, off, none⟩)) (hc : W.rangeAt g off (HR.cells ⟨peer, boot, life, a, k, cap, pend, miss⟩))
    (h : wpList Try.prog ops Q rest (A.put o.dst (.agg #[.int .i64 peer, .int .i64 boot, .int .i64 life, .slice a k cap, .bool pend, .int .i64 miss])) W) : wpList Try.prog ops Q (o :: rest) A W := wpList_load24 hgd x ho g off ⟨peer, boot, life, a, k, cap, pend, miss⟩ hx hc h
end
theorem toward_any (a : Option Addr) (n cap : Nat) (w : World) : Calls Try.prog 64 #[.slice a n cap] w fun e w' => e = .returned (.func (.func 69) #[] #[.pointer (some ⟨w.heap.size, 0, none⟩)]) ∧ w' = w.alloc (.cells #[.slice a n cap] 37) := by
  have hmf : ∀ (fn : Fn) (first cap : Array Value) (w : World), (Instr.makeFunc fn first cap).run Try.prog w = .ok (.func fn first cap) w := fun _ _ _ _ => rfl
  go_enter Try.func64, Try.ntmps64
  go_wp2
  go_ret
  exact ⟨rfl, rfl⟩

set_option maxRecDepth 100000 in
set_option maxHeartbeats 8000000 in
theorem toward_gives (w0 : World) (fb : Nat) (a : Option Addr) (n cap : Nat) (l : List HR) (w : World) (hr : RdH w0 a n cap l) :
    Gives Try.prog 69 #[.pointer (some ⟨fb, 0, none⟩)] encT l w (KeepI w0 fb (.slice a n cap)) := by
  intro lp J Jx W hbW hJ hJx hKeep hY h0
  have K0 := hKeep _ _ _ h0
  obtain ⟨o0, of0, oz0⟩ := id K0.ptr
  have HN : Hid (n ≤ 140737488355328) := hr.small
  have HL : Hid (l.length = n) := hr.size
  refine (callsIn_wide (n := 2)).1 ?_
  refine callsIn_of_wp Try.func69 rfl trivial ?_
  simp only [Try.ntmps69, List.size_toArray, List.length_cons, List.length_nil, Nat.reduceAdd, Nat.reduceSub, Array.replicate_succ, Array.replicate_zero, List.push_toArray, List.append_toArray, List.nil_append, List.cons_append]
  gi_wp2
  gi_loopg [7] n (fun g v7 wr => ∃ (i : Nat) (C : Nat → Prop), v7 = .int .i64 (i : Int) ∧ i + g = n ∧ J i C wr ∧ (∀ c, C c → W.heap.size ≤ c ∧ c < wr.heap.size) ∧ W.heap.size ≤ wr.heap.size)
  case atStart =>
    exact ⟨0, fun _ => False, by first | rfl | go_num, by omega, h0, fun c h => h.elim, Nat.le_refl _⟩
  case round =>
    obtain ⟨i, C, rfl, hg, hJi, hCw, hWs⟩ := hrel
    have Kr := hKeep _ _ _ hJi
    by_cases hi : i < n
    · have hiI : (i : Int) < (n : Int) := by omega
      obtain ⟨b, off, rfl, hb, hd, hra⟩ := (hr.below Kr.below).at i hi
      obtain ⟨⟨peer, boot, life, la, ln, lc, pend, miss⟩, hri⟩ : ∃ r, l.getD i HR.z = r := ⟨_, rfl⟩
      rw [hri] at hra hd
      have JA := hJ _ _ _ _ hJi (Same.alloc W.heap.size C wr (.cells #[.int .i64 peer, .int .i64 boot, .int .i64 life, .slice la ln lc, .bool pend, .int .i64 miss] 70))
      obtain ⟨fn1, tmps, assign, body, hy, hR⟩ := hY i C ⟨peer, boot, life, la, ln, lc, pend, miss⟩ _ JA (by rw [World.size_alloc]; omega) (fun c hc => ⟨(hCw c hc).1, by have := (hCw c hc).2; rw [World.size_alloc]; omega⟩) hd
      dsimp only [encT, HR.val] at hy hR
      clear hd hri
      gi_wp2_with ((with_reducible show wpListIn _ _ _ _ _ (Oper.mk _ (Op.load 70 (Operand.tmp 9)) _ _ _ _ :: _) _ _); refine wpListIn_load24x rfl _ rfl b (off + i * 6) peer boot life la ln lc pend miss rfl hra ?_)
      clear hy hY hra Kr K0 o0 of0
      refine (RoundIn.wideAny hR).mono ?_
      clear hR
      rintro e W3 (⟨rfl, C', hJ3, t3⟩ | ⟨rfl, C', hx3, t3⟩)
      · have hs3 := t3.size
        have hC3 : ∀ c, C' c → W.heap.size ≤ c ∧ c < W3.heap.size := fun c hc => ⟨(t3.mine c hc).1, (t3.mine c hc).2.1⟩
        have hs4 : W.heap.size ≤ W3.heap.size := by rw [World.size_alloc] at hs3; omega
        have hin : IntKind.i64.wrap ((i : Int) + 1) = (i : Int) + 1 := by rw [IntKind.wrap_i64]; have := HN.out; omega
        clear hs3 t3
        gi_wp2
        gi_roundg (gk - 1)
        case measure => omega
        case rel => exact ⟨i + 1, C', by first | rfl | go_num, by omega, hJ3, hC3, hs4⟩
      · gi_wp2
        exact bodyPost_ret (v := .tuple #[]) (by simp [results, Try.results69, go_sem]) rfl ⟨⟨_, rfl⟩, C', fun b hb => ⟨(t3.mine b hb).1, (t3.mine b hb).2.1⟩, .inr hx3⟩
    · have hin : i = n := by omega
      have HI : Hid (i = n) := hin
      clear hin
      gi_wp2
      exact bodyPost_end (v := .tuple #[]) (by simp [results, Try.results69, go_sem]) rfl ⟨⟨_, rfl⟩, C, hCw, .inl (by rw [HL.out, ← HI.out]; exact hJi)⟩
end Go.Proofs.Yteoiogjaecpddaa
