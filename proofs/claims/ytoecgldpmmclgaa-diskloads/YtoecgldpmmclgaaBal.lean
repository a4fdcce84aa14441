/-
  The law's helper 'both', whatever the call.
-/
import Derived.Test.YtoecgldpmmclgaaBoE
import Derived.Test.YtoecgldpmmclgaaBoC
import Derived.Test.YtoecgldpmmclgaaBoN
import Derived.Test.YtoecgldpmmclgaaBoR
import Derived.Test.YtoecgldpmmclgaaBoK
import Derived.Test.YtoecgldpmmclgaaBoW
import Derived.Test.YtoecgldpmmclgaaIn
namespace Go.Proofs.Ytoecgldpmmclgaa
open Go.ChangeShapes Go.WideShapes Go.ChangeAt Go.RowKit
set_option linter.unusedVariables false
set_option linter.unusedSimpArgs false

theorem both_all (d l r m : Nat) (S T : DS) (q : ActS) (w : World) (B : Bth w d l r m S T) (O : ActOk w q) (hcm : q.c ≤ 140737488351232) (hdat : ∀ b o, q.a = some ⟨b, o, none⟩ → 0 < q.n → ¬ in4 d l r m b) :
    Calls Try.prog 10 (bothArgs d r q.kd q.nn q.a q.n q.c) w fun e w' => e = .returned (.bool true) ∧ Now w d l r m w' := by
  obtain ⟨kd, nn, a, n, c, zs⟩ := q
  have hR := O.row
  have hm := O.max
  have hn := O.nn
  simp only at hR hm hn hdat hcm ⊢
  have hle := hR.le
  by_cases h1 : kd = 1
  · subst h1
    cases hg : S.gone with
    | true => exact both_rdno d l r m S T nn a n c w B (.inl hg)
    | false =>
      cases hi : inS S nn with
      | false => exact both_rdno d l r m S T nn a n c w B (.inr hi)
      | true =>
        obtain ⟨i, rfl, hin⟩ := inS_yes hi
        exact both_rdok d l r m S T i a n c w B hg hin
  · by_cases h2 : kd = 2
    · subst h2
      exact both_write d l r m S T nn a n c w B zs hR (by omega) hdat
    · by_cases h3 : kd = 3
      · subst h3
        exact both_cut d l r m S T nn a n c w B hn.2
      · by_cases h4 : kd = 4
        · subst h4
          exact both_on d l r m S T nn a n c w B
        · exact both_else d l r m S T kd nn a n c w B h1 h2 h3 h4
/-- What holds between two calls: both disks, made since w; all that was there ahead of them as it was. -/
structure Plays (w : World) (d l r m : Nat) (W : World) : Prop where
  bth : ∃ S T, Bth W d l r m S T
  below : Below w.heap.size w W
  hd : w.heap.size ≤ d
  hl : w.heap.size ≤ l
  hr : w.heap.size ≤ r
  hm : w.heap.size ≤ m
theorem ActOk.below {w w' : World} {q : ActS} (h : ActOk w q) (b : Below w.heap.size w w') : ActOk w' q := ⟨h.row.below b, h.max, h.nn⟩
theorem RowA.below {w w' : World} {a : Option Addr} {len cap : Nat} {l : List ActS} (R : RowA w a len cap l) (hb : Below w.heap.size w w') : RowA w' a len cap l where
  size := R.size
  le := R.le
  mem := R.mem.imp id fun ⟨b, off, e, h, c⟩ => ⟨b, off, e, Nat.lt_of_lt_of_le h hb.size, fun j hj i v hv => (hb.cell (p := ⟨b, off + j * 3 + i, none⟩) h).trans (c j hj i v hv)⟩
  ok := fun q hq => (R.ok q hq).below hb
theorem getD_mem {α : Type} (l : List α) (j : Nat) (d : α) (h : j < l.length) : l.getD j d ∈ l := by
  rw [List.getD_eq_getElem?_getD, List.getElem?_eq_getElem h]
  exact List.getElem_mem h
theorem Plays.act {w W : World} {d l r m : Nat} (P : Plays w d l r m W) {q : ActS} (O : ActOk w q) : ∀ b o, q.a = some ⟨b, o, none⟩ → 0 < q.n → ¬ in4 d l r m b := by
  intro b o e h0 h
  have R := O.row
  rw [e] at R
  have hb := R.lt h0
  have := P.hd; have := P.hl; have := P.hr; have := P.hm
  rcases h with h | h | h | h <;> omega
theorem Plays.next {w W W' : World} {d l r m : Nat} (P : Plays w d l r m W) (h : Now W d l r m W') : Plays w d l r m W' := by
  obtain ⟨S, T, B, o⟩ := h
  exact ⟨⟨S, T, B⟩, P.below.trans (o.below P.below.size (fun q hq => by have := P.hd; have := P.hl; have := P.hr; have := P.hm; rcases hq with h | h | h | h <;> omega)), P.hd, P.hl, P.hr, P.hm⟩
theorem Plays.later {w W W' : World} {d l r m : Nat} (P : Plays w d l r m W) (h : Below W.heap.size W W') : Plays w d l r m W' := by
  obtain ⟨S, T, B⟩ := P.bth
  exact ⟨⟨S, T, B.below h⟩, P.below.trans (h.mono P.below.size), P.hd, P.hl, P.hr, P.hm⟩
theorem wpList_load30 {ops : Array Oper} {rest : List Oper} {o : Oper} {a : Act} {W : World} {Q : Exit → Act → World → Prop} (hgd : o.guard = none) (x : Operand) (ho : o.op = .load 30 x) (g off : Nat) (q : ActS) (hx : a.eval x = .pointer (some ⟨g, off, none⟩)) (hc : W.rangeAt g off q.cells)
    (h : wpList Try.prog ops Q rest (a.put o.dst (act3 q.kd q.nn q.a q.n q.c)) W) : wpList Try.prog ops Q (o :: rest) a W :=
  wpList_load_mid hgd 30 x ho g off hx q.cells _ hc Try.underlying30 rfl (by kernel_rfl) h
set_option maxRecDepth 100000 in
set_option maxHeartbeats 8000000 in
theorem plays_walk (n0 : Int) (a : Option Addr) (len cap : Nat) (qs : List ActS) (w : World) (R : RowA w a len cap qs) (hcs : ∀ q ∈ qs, q.c ≤ 140737488351232) (hl : len ≤ 9223372036854775807) :
    Calls Try.prog 3 #[.int .i64 n0, .slice a len cap] w fun e w' => e = .returned (.bool true) ∧ Below w.heap.size w w' := by
  by_cases hno : n0 < 1 ∨ 64 < n0
  · go_enter Try.func3, Try.ntmps3
    go_wp2_with (first
      | (go_at_call 7; refine (new_no n0 _ hno).mono ?_; rintro e w1 ⟨rfl, hw⟩; rw [hw]; clear hw)
      | (go_at_call 8; refine (rnew_no n0 _ hno).mono ?_; rintro e w1 ⟨rfl, hw⟩; rw [hw]; clear hw)
      | (go_at_call 9; refine (awake_any _).mono ?_; rintro e w2 ⟨rfl, b2⟩))
    go_ret
    exact ⟨rfl, b2⟩
  · obtain ⟨n, rfl, h1, h2⟩ : ∃ n : Nat, n0 = (n : Int) ∧ 1 ≤ n ∧ n ≤ 64 := ⟨n0.toNat, by omega, by omega, by omega⟩
    have HSZ : Hid (qs.length = len) := R.size
    have K7 := new_ok n w h1 h2
    clear hno
    go_enter Try.func3, Try.ntmps3
    go_wp2_with (first
      | (go_at_call 7; refine K7.mono ?_; rintro e w1 ⟨d, rfl, hd, l, hl', D1, b1⟩; clear K7)
      | (go_at_call 8; refine (rnew_ok n _ h1 h2).mono ?_; rintro e w2 ⟨r, rfl, hr, m, hm, D2, b2⟩))
    have P0 : Plays w d l r m w2 := ⟨⟨newS n, newS n, D1.below b2, D2, Sim.refl0 rfl rfl, by have := row_lt D1.obj; omega, by have := row_lt D1.obj; omega, by have := row_lt D1.lst; omega, by have := row_lt D1.lst; omega⟩, b1.trans (b2.mono b1.size), hd, hl', by have := b1.size; omega, by have := b1.size; omega⟩
    clear D1 D2
    go_loopg [23] len (fun g v23 wr => ∃ i : Nat, v23 = .int .i64 (i : Int) ∧ i + g = len ∧ Hid (Plays w d l r m wr))
    case atStart => exact ⟨0, rfl, by omega, P0⟩
    case round =>
      obtain ⟨i, rfl, hg, HP⟩ := hrel
      have P := HP.out
      by_cases hi : i < len
      · have hiI : (i : Int) < (len : Int) := by omega
        obtain ⟨b, off, rfl, hbz, hcell⟩ := (R.below P.below).mem.resolve_left (by omega)
        have hq0 := hcell i hi
        have hmem := getD_mem qs i actsZ (by rw [HSZ.out]; exact hi)
        have O0 := R.ok _ hmem
        have C0 := hcs _ hmem
        obtain ⟨q, hqq⟩ : ∃ q, qs.getD i actsZ = q := ⟨_, rfl⟩
        rw [hqq] at hq0 O0 C0
        clear hcell hmem hqq
        obtain ⟨S, T, B⟩ := P.bth
        have Bw : Below wr.heap.size wr (wr.alloc (actC q.kd q.nn q.a q.n q.c)) := (Below.refl _ _).alloc (Nat.le_refl _) _
        have P1 := P.later Bw
        have K := both_all d l r m S T q _ (B.below Bw) ((O0.below P.below).below Bw) C0 (P.act O0)
        go_wp2_with (first
          | ((with_reducible show wpList _ _ _ (Oper.mk _ (Op.load 30 _) _ _ _ _ :: _) _ _); refine wpList_load30 rfl _ rfl b (off + i * 3) q rfl hq0 ?_)
          | (go_at_call 10; refine K.mono ?_; rintro e w5 ⟨rfl, N5⟩; have P5 := P1.next N5))
        go_roundg (gk - 1)
        case measure => omega
        case rel => exact ⟨i + 1, by go_num, by omega, P5⟩
      · obtain rfl : i = len := by omega
        go_wp2_with (go_at_call 9; refine (awake_any _).mono ?_; rintro e w6 ⟨rfl, b6⟩)
        go_ret
        exact ⟨rfl, (P.later b6).below⟩
end Go.Proofs.Ytoecgldpmmclgaa
