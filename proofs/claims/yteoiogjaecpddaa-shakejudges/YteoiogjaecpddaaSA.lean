/-
  Package shake: See and Dropped, the program's and the document's.
-/
import Derived.Test.YteoiogjaecpddaaS9
namespace Go.Proofs.Yteoiogjaecpddaa
open Go.ChangeShapes Go.WideShapes Go.ChangeAt Go.RowKit
set_option linter.unusedVariables false
set_option linter.unusedSimpArgs false

theorem Ans.mono {w w1 : World} {l : List SN} {e : Ending} {w' : World} (h : Ans w1 l e w') (b : Below w.heap.size w w1) : Ans w l e w' := by
  obtain ⟨a', cap', h1, h2, h3, h4⟩ := h
  exact ⟨a', cap', h1, h2, fun g off e => Nat.le_trans b.size (h3 g off e), b.trans (h4.mono b.size)⟩
theorem rd_of_len {W : World} {a : Option Addr} {n cap : Nat} {l : List SN} (h : RdS W a n cap l) : RdS W a l.length cap l := by rw [h.size]; exact h
set_option maxRecDepth 100000 in
set_option maxHeartbeats 8000000 in
theorem see_any (idn k b f : Int) (a : Option Addr) (n cap : Nat) (l : List SN) (w : World) (hr : RdS w a n cap l) (hf : FitP idn l) (hb : 1 ≤ b) : Calls Try.prog 17 #[.slice a n cap, .int .i64 k, .int .i64 b, .int .i64 f] w (Ans w (seeL k b f l)) := by
  have hn16 : n ≤ 16 := by rw [← hr.size]; exact fit_len hf
  have HN : Hid (n ≤ 65000) := by show n ≤ 65000; omega
  have HB : Hid (1 ≤ b) := hb
  have HF : Hid (FitP idn l) := hf
  have K := get_any a n cap l k w hr
  obtain ⟨⟨s0, s1, s2, s3⟩, hs⟩ : ∃ s, getL k l = s := ⟨_, rfl⟩
  have HS : Hid (getL k l = ⟨s0, s1, s2, s3⟩) := hs
  rw [hs] at K
  have KL := fun W => later_any b f s1 s2 W
  dsimp only [SN.val] at K
  have X : ∀ w1, Below w.heap.size w w1 → Below w.heap.size w (w1.alloc (.cells #[.int .i64 s0, .int .i64 s1, .int .i64 s2, .int .i64 s3] 33)) ∧ (w1.alloc (.cells #[.int .i64 s0, .int .i64 s1, .int .i64 s2, .int .i64 s3] 33)).heap[w1.heap.size]? = some (.cells #[.int .i64 s0, .int .i64 s1, .int .i64 s2, .int .i64 s3] 33 (0, 0)) := fun w1 h => ⟨h.alloc h.size _, heap_new rfl⟩
  clear hn16 hb hf hs
  cases hl : ltr b f s1 s2 with
  | true =>
    have HV : Hid (seeL k b f l = insS ⟨s0, b, f, s3⟩ l) := by show _ = _; unfold seeL; rw [HS.out, if_pos hl]; rfl
    have KP := fun W (h : Below w.heap.size w W) => sput_any ⟨s0, b, f, s3⟩ a n cap l W (hr.below h) HN.out
    dsimp only [SN.val] at KP
    clear hr
    go_enter Try.func17, Try.ntmps17
    go_wp2_with (first
      | (go_at_call 19; refine K.mono ?_; rintro e w1 ⟨rfl, b1⟩; have ⟨B2, T2⟩ := X _ b1)
      | (go_at_call 11; refine (KL _).mono ?_; rw [hl]; rintro e w3 ⟨rfl, b3⟩; have T3 := (b3.block _ (row_lt T2)).trans T2; have ⟨⟨p0, p1, p2, p3⟩, q0, q1, q2, q3⟩ := cel4 T3)
      | (go_at_call 42; refine (KP _ ?_).mono ?_; exact ((B2.trans (b3.mono B2.size)).setCell (p := ⟨w1.heap.size, 1, none⟩) b1.size _).setCell (p := ⟨w1.heap.size, 2, none⟩) b1.size _; intro e w5 h5; have h5' := h5; obtain ⟨a5, c5, rfl, _, _, _⟩ := h5))
    go_ret
    rw [HV.out]
    exact h5'.mono (((B2.trans (b3.mono B2.size)).setCell (p := ⟨w1.heap.size, 1, none⟩) b1.size _).setCell (p := ⟨w1.heap.size, 2, none⟩) b1.size _)
  | false =>
    have HV : Hid (seeL k b f l = l) := by show _ = _; unfold seeL; rw [HS.out, if_neg (by rw [hl]; decide)]
    have KO := fun W (h : Below w.heap.size w W) => sown_any a n cap l W (hr.below h)
    have HL : Hid (l.length = n) := hr.size
    clear hr
    go_enter Try.func17, Try.ntmps17
    go_wp2_with (first
      | (go_at_call 19; refine K.mono ?_; rintro e w1 ⟨rfl, b1⟩; have ⟨B2, T2⟩ := X _ b1)
      | (go_at_call 11; refine (KL _).mono ?_; rw [hl]; rintro e w3 ⟨rfl, b3⟩; have T3 := (b3.block _ (row_lt T2)).trans T2; have ⟨⟨p0, p1, p2, p3⟩, q0, q1, q2, q3⟩ := cel4 T3)
      | (go_at_call 43; refine (KO _ (B2.trans (b3.mono B2.size))).mono ?_; rintro e w5 ⟨a5, c5, rfl, L5, f5, b5⟩))
    go_ret
    rw [HV.out]
    refine Ans.mono ⟨a5, c5, by rw [HL.out]; rfl, by rw [HL.out]; exact L5, f5, b5⟩ (B2.trans (b3.mono B2.size))
set_option maxRecDepth 100000 in
set_option maxHeartbeats 8000000 in
theorem rsee_any (idn k b f : Int) (a : Option Addr) (n cap : Nat) (l : List SN) (w : World) (hr : RdS w a n cap l) (hf : FitP idn l) (hb : 1 ≤ b) : Calls Try.prog 22 #[.slice a n cap, .int .i64 k, .int .i64 b, .int .i64 f] w (Ans w (seeL k b f l)) := by
  have hn16 : n ≤ 16 := by rw [← hr.size]; exact fit_len hf
  have HN : Hid (n ≤ 65000) := by show n ≤ 65000; omega
  have HB : Hid (1 ≤ b) := hb
  have HF : Hid (FitP idn l) := hf
  have K := rget_any a n cap l k w hr hf.2.1
  obtain ⟨⟨s0, s1, s2, s3⟩, hs⟩ : ∃ s, getL k l = s := ⟨_, rfl⟩
  have HS : Hid (getL k l = ⟨s0, s1, s2, s3⟩) := hs
  rw [hs] at K
  have KL := fun W => rlater_any b f s1 s2 W
  dsimp only [SN.val] at K
  have X : ∀ w1, Below w.heap.size w w1 → Below w.heap.size w (w1.alloc (.cells #[.int .i64 s0, .int .i64 s1, .int .i64 s2, .int .i64 s3] 33)) ∧ (w1.alloc (.cells #[.int .i64 s0, .int .i64 s1, .int .i64 s2, .int .i64 s3] 33)).heap[w1.heap.size]? = some (.cells #[.int .i64 s0, .int .i64 s1, .int .i64 s2, .int .i64 s3] 33 (0, 0)) := fun w1 h => ⟨h.alloc h.size _, heap_new rfl⟩
  clear hn16 hb hf hs
  cases hl : ltr b f s1 s2 with
  | true =>
    have HV : Hid (seeL k b f l = insS ⟨s0, b, f, s3⟩ l) := by show _ = _; unfold seeL; rw [HS.out, if_pos hl]; rfl
    have KP := fun W (h : Below w.heap.size w W) => rput_any ⟨s0, b, f, s3⟩ a n cap l W (hr.below h) HN.out (.inl (by show b ≠ 0; have := HB.out; omega))
    dsimp only [SN.val] at KP
    clear hr
    go_enter Try.func22, Try.ntmps22
    go_wp2_with (first
      | (go_at_call 20; refine K.mono ?_; rintro e w1 ⟨rfl, b1⟩; have ⟨B2, T2⟩ := X _ b1)
      | (go_at_call 12; refine (KL _).mono ?_; rw [hl]; rintro e w3 ⟨rfl, hw3⟩; rw [hw3]; clear hw3 w3)
      | (go_at_call 45; refine (KP _ ?_).mono ?_; exact b1.alloc b1.size _; intro e w5 h5; have h5' := h5; obtain ⟨a5, c5, rfl, _, _, _⟩ := h5))
    go_ret
    rw [HV.out]
    exact h5'.mono (b1.alloc b1.size _)
  | false =>
    have hh := see_has (k := k) (f := f) HF.out HB.out (by rw [HS.out]; exact hl)
    have HV : Hid (seeL k b f l = insS ⟨s0, s1, s2, s3⟩ l) := by
      show _ = _
      unfold seeL
      rw [HS.out, if_neg (by rw [hl]; decide), ← HS.out, ins_same hh]
    have HNZ : Hid (s1 ≠ 0 ∨ s3 ≠ 0) := by
      show _ ∨ _
      have := (HF.out.2.2 _ (get_has hh)).2.2.2.2.2
      rw [HS.out] at this
      dsimp only at this
      omega
    have KP := fun W (h : Below w.heap.size w W) => rput_any ⟨s0, s1, s2, s3⟩ a n cap l W (hr.below h) HN.out HNZ.out
    dsimp only [SN.val] at KP
    clear hr hh
    go_enter Try.func22, Try.ntmps22
    go_wp2_with (first
      | (go_at_call 20; refine K.mono ?_; rintro e w1 ⟨rfl, b1⟩; have ⟨B2, T2⟩ := X _ b1)
      | (go_at_call 12; refine (KL _).mono ?_; rw [hl]; rintro e w3 ⟨rfl, hw3⟩; rw [hw3]; clear hw3 w3)
      | (go_at_call 45; refine (KP _ B2).mono ?_; intro e w5 h5; have h5' := h5; obtain ⟨a5, c5, rfl, _, _, _⟩ := h5))
    go_ret
    rw [HV.out]
    exact h5'.mono B2
set_option maxRecDepth 100000 in
set_option maxHeartbeats 8000000 in
theorem drp_any (idn k : Int) (a : Option Addr) (n cap : Nat) (l : List SN) (w : World) (hr : RdS w a n cap l) (hf : FitP idn l) : Calls Try.prog 18 #[.slice a n cap, .int .i64 k] w (Ans w (drpL k l)) := by
  have hn16 : n ≤ 16 := by rw [← hr.size]; exact fit_len hf
  have HN : Hid (n ≤ 65000) := by show n ≤ 65000; omega
  have K := get_any a n cap l k w hr
  have hrg := (get_rng (k := k) hf).2.2
  obtain ⟨⟨s0, s1, s2, s3⟩, hs⟩ : ∃ s, getL k l = s := ⟨_, rfl⟩
  have HS : Hid (getL k l = ⟨s0, s1, s2, s3⟩) := hs
  rw [hs] at K hrg
  dsimp only at hrg
  have HG : Hid (0 ≤ s3 ∧ s3 ≤ 1099511627776) := hrg
  obtain ⟨m, hm⟩ : ∃ m, (if 1099511627775 < s3 then 1099511627775 else s3) + 1 = m := ⟨_, rfl⟩
  have HM : Hid (1 ≤ m) := by show 1 ≤ m; rw [← hm]; split <;> omega
  have HV : Hid (drpL k l = insS ⟨s0, s1, s2, m⟩ l) := by show _ = _; unfold drpL; rw [HS.out, ← hm]; rfl
  have KP := fun W (h : Below w.heap.size w W) => sput_any ⟨s0, s1, s2, m⟩ a n cap l W (hr.below h) HN.out
  dsimp only [SN.val] at K KP
  have X : ∀ w1, Below w.heap.size w w1 → Below w.heap.size w (w1.alloc (.cells #[.int .i64 s0, .int .i64 s1, .int .i64 s2, .int .i64 s3] 33)) ∧ (w1.alloc (.cells #[.int .i64 s0, .int .i64 s1, .int .i64 s2, .int .i64 s3] 33)).heap[w1.heap.size]? = some (.cells #[.int .i64 s0, .int .i64 s1, .int .i64 s2, .int .i64 s3] 33 (0, 0)) := fun w1 h => ⟨h.alloc h.size _, heap_new rfl⟩
  by_cases hc : 1099511627775 < s3
  · obtain rfl : m = 1099511627776 := by rw [← hm, if_pos hc]; rfl
    clear hn16 hf hs hr hrg hm
    go_enter Try.func18, Try.ntmps18
    go_wp2_with (first
      | (go_at_call 19; refine K.mono ?_; rintro e w1 ⟨rfl, b1⟩; have ⟨B2, T2⟩ := X _ b1)
      | (go_at_call 42; refine (KP _ ?_).mono ?_; exact b1.alloc b1.size _; intro e w5 h5; have h5' := h5; obtain ⟨a5, c5, rfl, _, _, _⟩ := h5))
    go_ret
    rw [HV.out]
    exact h5'.mono (b1.alloc b1.size _)
  · obtain rfl : m = s3 + 1 := by rw [← hm, if_neg hc]
    have hwr : IntKind.i64.wrap (s3 + 1) = s3 + 1 := by rw [IntKind.wrap_i64]; omega
    clear hn16 hf hs hr hrg hm
    go_enter Try.func18, Try.ntmps18
    go_wp2_with (first
      | (go_at_call 19; refine K.mono ?_; rintro e w1 ⟨rfl, b1⟩; have ⟨B2, T2⟩ := X _ b1)
      | (go_at_call 42; refine (KP _ ?_).mono ?_; exact b1.alloc b1.size _; intro e w5 h5; have h5' := h5; obtain ⟨a5, c5, rfl, _, _, _⟩ := h5))
    go_ret
    rw [HV.out]
    exact h5'.mono (b1.alloc b1.size _)
set_option maxRecDepth 100000 in
set_option maxHeartbeats 8000000 in
theorem rdrp_any (idn k : Int) (a : Option Addr) (n cap : Nat) (l : List SN) (w : World) (hr : RdS w a n cap l) (hf : FitP idn l) : Calls Try.prog 23 #[.slice a n cap, .int .i64 k] w (Ans w (drpL k l)) := by
  have hn16 : n ≤ 16 := by rw [← hr.size]; exact fit_len hf
  have HN : Hid (n ≤ 65000) := by show n ≤ 65000; omega
  have K := rget_any a n cap l k w hr hf.2.1
  have hrg := (get_rng (k := k) hf).2.2
  obtain ⟨⟨s0, s1, s2, s3⟩, hs⟩ : ∃ s, getL k l = s := ⟨_, rfl⟩
  have HS : Hid (getL k l = ⟨s0, s1, s2, s3⟩) := hs
  rw [hs] at K hrg
  dsimp only at hrg
  have HG : Hid (0 ≤ s3 ∧ s3 ≤ 1099511627776) := hrg
  obtain ⟨m, hm⟩ : ∃ m, (if 1099511627775 < s3 then 1099511627775 else s3) + 1 = m := ⟨_, rfl⟩
  have HM : Hid (1 ≤ m) := by show 1 ≤ m; rw [← hm]; split <;> omega
  have HV : Hid (drpL k l = insS ⟨s0, s1, s2, m⟩ l) := by show _ = _; unfold drpL; rw [HS.out, ← hm]; rfl
  have KP := fun W (h : Below w.heap.size w W) => rput_any ⟨s0, s1, s2, m⟩ a n cap l W (hr.below h) HN.out (.inr (by show m ≠ 0; have := HM.out; omega))
  dsimp only [SN.val] at K KP
  have X : ∀ w1, Below w.heap.size w w1 → Below w.heap.size w (w1.alloc (.cells #[.int .i64 s0, .int .i64 s1, .int .i64 s2, .int .i64 s3] 33)) ∧ (w1.alloc (.cells #[.int .i64 s0, .int .i64 s1, .int .i64 s2, .int .i64 s3] 33)).heap[w1.heap.size]? = some (.cells #[.int .i64 s0, .int .i64 s1, .int .i64 s2, .int .i64 s3] 33 (0, 0)) := fun w1 h => ⟨h.alloc h.size _, heap_new rfl⟩
  have hwr : IntKind.i64.wrap (s3 + 1) = s3 + 1 := by rw [IntKind.wrap_i64]; omega
  by_cases hc : 1099511627775 < s3
  · obtain rfl : m = 1099511627776 := by rw [← hm, if_pos hc]; rfl
    have hc2 : 1099511627776 < s3 + 1 := by omega
    clear hn16 hf hs hr hrg hm hc
    go_enter Try.func23, Try.ntmps23
    go_wp2_with (first
      | (go_at_call 20; refine K.mono ?_; rintro e w1 ⟨rfl, b1⟩; have ⟨B2, T2⟩ := X _ b1)
      | (go_at_call 45; refine (KP _ ?_).mono ?_; exact b1.alloc b1.size _; intro e w5 h5; have h5' := h5; obtain ⟨a5, c5, rfl, _, _, _⟩ := h5))
    go_ret
    rw [HV.out]
    exact h5'.mono (b1.alloc b1.size _)
  · obtain rfl : m = s3 + 1 := by rw [← hm, if_neg hc]
    have hc2 : ¬ 1099511627776 < s3 + 1 := by omega
    clear hn16 hf hs hr hrg hm hc
    go_enter Try.func23, Try.ntmps23
    go_wp2_with (first
      | (go_at_call 20; refine K.mono ?_; rintro e w1 ⟨rfl, b1⟩; have ⟨B2, T2⟩ := X _ b1)
      | (go_at_call 45; refine (KP _ ?_).mono ?_; exact b1.alloc b1.size _; intro e w5 h5; have h5' := h5; obtain ⟨a5, c5, rfl, _, _, _⟩ := h5))
    go_ret
    rw [HV.out]
    exact h5'.mono (b1.alloc b1.size _)
end Go.Proofs.Yteoiogjaecpddaa
