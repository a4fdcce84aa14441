/-
  Package bag: the document's bag; link, less, place.
-/
import Derived.Test.YtoppecppmjpgiaaBhB
namespace Go.Proofs.Ytoppecppmjpgiaa
open Go.ChangeShapes Go.WideShapes Go.ChangeAt Go.RowKit Go.Maps
set_option linter.unusedVariables false
set_option linter.unusedSimpArgs false

/-- The document's bag. -/
structure RAt (W : World) (r : Nat) (next : Int) (a : Option Addr) (n c : Nat) (ds : List DG) (la : Option Addr) (m lc : Nat) (ls : List LK) : Prop where
  obj : W.heap[r]? = some (.cells #[.int .i64 next, .slice a n c, .slice la m lc] 37 (0, 0))
  lst : Lst W a n c ds
  lks : Lks W la m lc ls
  typ : ∀ g off, la = some ⟨g, off, none⟩ → ∃ cur, W.heap[g]? = some (.cells cur 65 (0, 0))
theorem RAt.ne {W : World} {r : Nat} {next : Int} {a : Option Addr} {n c : Nat} {ds : List DG} {la : Option Addr} {m lc : Nat} {ls : List LK} (R : RAt W r next a n c ds la m lc ls) : ∀ g off, la = some ⟨g, off, none⟩ → g ≠ r := by
  rintro g off e rfl
  obtain ⟨cur, h⟩ := R.typ g off e
  rw [R.obj] at h
  cases h
set_option maxHeartbeats 1000000 in
theorem link_any (x y : Int) (w : World) : Calls Try.prog 48 #[.int .i64 x, .int .i64 y] w fun e w' => e = .returned (LK.v ⟨min x y, max x y⟩) ∧ Below w.heap.size w w' := by
  have fin : ∀ u v : Int, u = min x y → v = max x y → ∀ tm : Array Value, tm.getD 4 undef = .pointer (some ⟨w.heap.size, 0, none⟩) → ∀ df, df = [] →
      bodyPost Try.prog Try.f48 (fun e w' => e = Ending.returned (LK.v ⟨min x y, max x y⟩) ∧ Below w.heap.size w w') Exit.ret { tmps := tm, defers := df } (w.alloc (.cells #[.int .i64 u, .int .i64 v] 65)) := by
    rintro u v rfl rfl tm ht df rfl
    exact bodyPost_ret (results_row1 rfl _ _ w.heap.size _ ht (load_65 (World.alloc_heap_new w _))) rfl ⟨rfl, (Below.refl _ _).alloc (Nat.le_refl _) _⟩
  go_enter Try.func48, Try.ntmps48
  go_wp2
  all_goals exact fin _ _ (by omega) (by omega) _ rfl _ rfl
def lessK (p q : LK) : Bool := decide (p.fst < q.fst) || (p.fst == q.fst && decide (p.snd < q.snd))
set_option maxHeartbeats 1000000 in
theorem less_any (p q : LK) (w : World) : Calls Try.prog 25 #[p.v, q.v] w fun e w' => e = .returned (.bool (lessK p q)) ∧ Below w.heap.size w w' := by
  obtain ⟨p0, p1⟩ := p
  obtain ⟨q0, q1⟩ := q
  have B : Below w.heap.size w ((w.alloc (.cells #[.int .i64 p0, .int .i64 p1] 65)).alloc (.cells #[.int .i64 q0, .int .i64 q1] 65)) := ((Below.refl _ _).alloc (Nat.le_refl _) _).alloc (by simp) _
  simp only [LK.v]
  by_cases h : p0 < q0
  · have h1 : (decide (p0 < q0)) = true := by simp [h]
    go_enter Try.func25, Try.ntmps25
    go_wp2
    go_ret
    exact ⟨by simp [lessK, h], B⟩
  · have h1 : (decide (p0 < q0)) = false := by simp [h]
    by_cases k : p0 = q0
    · subst k
      go_enter Try.func25, Try.ntmps25
      go_wp2
      go_ret
      exact ⟨by simp [lessK], B⟩
    · have k1 : (p0 == q0) = false := by simp [k]
      go_enter Try.func25, Try.ntmps25
      go_wp2
      go_ret
      exact ⟨by simp [lessK, h, k], B⟩
set_option maxHeartbeats 2000000 in
theorem place_any (r : Nat) (next : Int) (a : Option Addr) (n c : Nat) (ds : List DG) (la : Option Addr) (m lc : Nat) (ls : List LK) (x : Int) (w : World) (R : RAt w r next a n c ds la m lc ls) :
    Calls Try.prog 47 #[.pointer (some ⟨r, 0, none⟩), .int .i64 x] w fun e w' => e = .returned (.int .i64 (idx (fun d => d.num == x) ds)) ∧ w' = w := by
  have c1 := row_cell R.obj 1 (.slice a n c) rfl
  have L := R.lst
  have hb : Hid (n ≤ 9223372036854775807) := ⟨by have := L.le; have := L.max; omega⟩
  have hs := L.size
  go_enter Try.func47, Try.ntmps47
  go_wp2
  go_loopg [5] n (fun gk v5 wr => ∃ i : Nat, v5 = .int .i64 (i : Int) ∧ i + gk = n ∧ wr = w ∧ Hid (∀ e ∈ ds.take i, (e.num == x) = false))
  case atStart => exact ⟨0, by first | rfl | go_num, by omega, rfl, ⟨by simp⟩⟩
  case round =>
    obtain ⟨i, rfl, hg, rfl, HP⟩ := hrel
    by_cases hi : i < n
    · have hiI : (i : Int) < (n : Int) := by omega
      obtain ⟨g, off, rfl, hd, hr⟩ := L.at i hi
      obtain ⟨d, hdd⟩ : ∃ d, ds.getD i DG.z = d := ⟨_, rfl⟩
      rw [hdd] at hr hd
      have q0 := hr 0 (.int .i64 d.num) rfl
      rw [Nat.add_zero] at q0
      clear hdd
      by_cases hx : d.num = x
      · have hx1 : (d.num == x) = true := by simp [hx]
        have hidx := idx_some HP.out hd hx1
        go_wp2
        go_ret
        exact ⟨by rw [hidx]; rfl, rfl⟩
      · have hx1 : (d.num == x) = false := by simp [hx]
        go_wp2
        go_roundg (gk - 1)
        case measure => omega
        case rel => exact ⟨i + 1, by rw [IntWalk.wrap64_in _ (by have := hb.out; omega)]; go_num, by omega, rfl, ⟨take_more HP.out hd hx1⟩⟩
    · have e : i = n := by omega
      subst e
      have hidx : idx (fun d => d.num == x) ds = -1 := idx_none (by have := HP.out; rwa [List.take_of_length_le (by omega)] at this)
      go_wp2
      go_ret
      exact ⟨by rw [hidx]; rfl, rfl⟩
end Go.Proofs.Ytoppecppmjpgiaa
