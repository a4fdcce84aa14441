/-
  The law DiskCuts: what holds behind so many writes.
-/
import Derived.Test.YtoecgldpmmclgaaSz
import Derived.Test.YtoecgldpmmclgaaEx
namespace Go.Proofs.Ytoecgldpmmclgaa
open Go.ChangeShapes Go.WideShapes Go.ChangeAt Go.RowKit Go.Deep
set_option linter.unusedVariables false
set_option linter.unusedSimpArgs false

/-- Behind i writes, N of which the cut lets through. -/
structure Cst (N sc i : Nat) (S : DS) : Prop where
  n : S.n = sc
  stays : S.stays = false
  up : i ≤ N → S.gone = false ∧ S.left = (N : Int) - i ∧ S.done = (i : Int)
  down : N < i → S.gone = true ∧ S.done = (N : Int)
theorem cst_0 (N sc : Nat) : Cst N sc 0 ((newS sc).cut (N : Int)) :=
  ⟨rfl, rfl, fun _ => ⟨rfl, by simp only [DS.cut]; rw [if_neg (by omega)]; omega, rfl⟩, fun h => by omega⟩
theorem Cst.yes {N sc i : Nat} {S : DS} (h : Cst N sc i S) (hi : i < N) (hN : N ≤ 8) (k : Nat) (hk : k < sc) (zs : List Int) : wrC S (k : Int) 16 = 0 ∧ Cst N sc (i + 1) (wrS S (k : Int) 16 zs) ∧ (wrS S (k : Int) 16 zs).gone = false := by
  obtain ⟨h1, h2, h3⟩ := h.up (by omega)
  have hin : inS S (k : Int) = true := by rw [← h.n] at hk; exact inS_nat hk
  have h0 : ¬ S.left = 0 := by omega
  have hp : (0 : Int) < S.left := by omega
  have e1 : wrC S (k : Int) 16 = 0 := by unfold wrC; rw [h1, hin]; simp [h0]
  have e2 : wrS S (k : Int) 16 zs = S.put k zs := by unfold wrS; rw [h1, hin]; simp [h0]
  rw [e2]
  refine ⟨e1, ⟨h.n, h.stays, fun _ => ⟨h1, ?_, ?_⟩, fun hh => by omega⟩, h1⟩
  · simp only [DS.put]; rw [if_pos hp]; omega
  · simp only [DS.put]; rw [h3]; unfold wrap64; omega
theorem Cst.no {N sc i : Nat} {S : DS} (h : Cst N sc i S) (hi : ¬ i < N) (k : Nat) (hk : k < sc) (zs : List Int) : wrC S (k : Int) 16 = 32 ∧ Cst N sc (i + 1) (wrS S (k : Int) 16 zs) ∧ (wrS S (k : Int) 16 zs).gone = true ∧ (wrS S (k : Int) 16 zs).bs = S.bs := by
  have hin : inS S (k : Int) = true := by rw [← h.n] at hk; exact inS_nat hk
  by_cases hN : N < i
  · obtain ⟨h1, h3⟩ := h.down hN
    have e1 : wrC S (k : Int) 16 = 32 := by unfold wrC; rw [h1]; rfl
    have e2 : wrS S (k : Int) 16 zs = S := by unfold wrS; rw [h1]; rfl
    rw [e2]
    exact ⟨e1, ⟨h.n, h.stays, fun hh => (by omega), fun _ => ⟨h1, h3⟩⟩, h1, rfl⟩
  · obtain ⟨h1, h2, h3⟩ := h.up (by omega)
    have h0 : S.left = 0 := by omega
    have e1 : wrC S (k : Int) 16 = 32 := by unfold wrC; rw [h1, hin]; simp [h0]
    have e2 : wrS S (k : Int) 16 zs = ⟨true, S.left, S.stays, S.n, S.bs, S.done⟩ := by unfold wrS; rw [h1, hin]; simp [h0]
    rw [e2]
    exact ⟨e1, ⟨h.n, h.stays, fun hh => (by omega), fun _ => ⟨rfl, by show S.done = _; omega⟩⟩, rfl, rfl⟩
theorem Cst.done {N sc i : Nat} {S : DS} (h : Cst N sc i S) : S.done = if (i : Int) ≤ N then (i : Int) else (N : Int) := by
  by_cases hi : i ≤ N
  · rw [if_pos (by omega)]; exact (h.up hi).2.2
  · rw [if_neg (by omega)]; exact (h.down (by omega)).2
theorem add_none (a : Addr) : a.add 0 = a := by unfold Addr.add; split <;> simp_all
/-- Lists of bytes that came in. -/
structure RowB (w : World) (a : Option Addr) (len cap : Nat) (bs : List (List Int)) : Prop where
  size : bs.length = len
  le : len ≤ cap
  mem : len = 0 ∨ ∃ b off, a = some ⟨b, off, none⟩ ∧ b < w.heap.size ∧ ∀ j, j < len → ∃ a' n' c', w.cell? ⟨b, off + j, none⟩ = some (.slice a' n' c') ∧ Row .u8 w a' n' c' (bs.getD j [])
theorem RowB.below {w w' : World} {a : Option Addr} {len cap : Nat} {bs : List (List Int)} (R : RowB w a len cap bs) (hb : Below w.heap.size w w') : RowB w' a len cap bs where
  size := R.size
  le := R.le
  mem := R.mem.imp id fun ⟨b, off, e, h, c⟩ => ⟨b, off, e, Nat.lt_of_lt_of_le h hb.size, fun j hj => by
    obtain ⟨a', n', c', h1, h2⟩ := c j hj
    exact ⟨a', n', c', (hb.cell (p := ⟨b, off + j, none⟩) h).trans h1, h2.below hb⟩⟩
theorem open_rows {H : Type} {enc : TypeId × Value → H} {W : World} {a : Option Addr} {len cap : Nat} {d : DataW H} {ps : List MemPlace}
    (h : DataW.Trod enc Try.prog W 0 (fun _ => true) true 38 (.slice a len cap) d ps) : ∃ bs, RowB W a len cap bs ∧ cap ≤ maxLen := by
  obtain ⟨fuel, hf⟩ := h
  rcases open_slice Try.underlying38 hf with ⟨hcs, hx⟩ | ⟨x, l, c, m, n, D, Pl, hcs, _, hl, hm, hmm, hx, hel⟩
  · simp [Value.cells] at hcs
    obtain ⟨rfl, rfl, rfl⟩ := hcs
    exact ⟨[], ⟨rfl, Nat.le_refl _, .inl rfl⟩, Nat.zero_le _⟩
  · simp [Value.cells] at hcs
    obtain ⟨rfl, rfl, rfl⟩ := hcs
    have hmc : m = cap := by simpa using hmm
    subst hmc
    rw [cn28] at hel
    have each : ∀ i, i < m → ∃ zs : List Int, ∃ a' n' c', W.cell? (x.add i) = some (.slice a' n' c') ∧ Row .u8 W a' n' c' zs := by
      intro i hi
      obtain ⟨cs', h1, h2⟩ := hel i hi
      obtain ⟨_, hlen, hcell⟩ := World.cells?_some h1
      match cs', hlen with
      | [v], _ =>
      obtain ⟨a', n', c', zs, rfl, hR, _⟩ := open_bytes h2
      have hc0 := hcell 0 (by simp)
      refine ⟨zs, a', n', c', ?_, hR⟩
      have e : (x.add (i * 1)).add 0 = x.add i := by rw [Nat.mul_one]; exact add_none _
      rw [e] at hc0
      simpa using hc0
    obtain ⟨F, hF⟩ := choose_lt each
    have hget : ∀ j, j < len → ((List.range len).map F).getD j [] = F j := by
      intro j hj
      simp [List.getD, hj]
    refine ⟨(List.range len).map F, ⟨by simp, hl, ?_⟩, hm⟩
    by_cases h0 : len = 0
    · exact .inl h0
    · obtain ⟨b, off, spot⟩ := x
      obtain ⟨a', n', c', hc, _⟩ := hF 0 (by omega)
      have hspot : spot = none := by simpa [Addr.add] using World.cell?_spot hc
      subst hspot
      refine .inr ⟨b, off, rfl, World.block_lt_of_cell? _ _ hc, fun j hj => ?_⟩
      rw [hget j hj]
      obtain ⟨a', n', c', hc', h2⟩ := hF j (by omega)
      rw [add_plain] at hc'
      exact ⟨a', n', c', hc', h2⟩
/-- Sixteen bytes with others laid over their beginning. -/
def lay16 (xs : List Int) : List Int := splice (List.replicate 16 0) 0 (xs.take 16)
theorem lay16_len (xs : List Int) : (lay16 xs).length = 16 := by unfold lay16; rw [length_splice _ _ _ (by simp; omega)]; simp
theorem lay16_byt {xs : List Int} (h : Byt xs) : Byt (lay16 xs) := splice_byt _ (by intro c hc; have := List.eq_of_mem_replicate hc; omega) (fun c hc => h c (List.mem_of_mem_take hc))
theorem sec0 (bs : List Int) : sec bs 0 = bs.take 16 := by unfold sec; simp
end Go.Proofs.Ytoecgldpmmclgaa
