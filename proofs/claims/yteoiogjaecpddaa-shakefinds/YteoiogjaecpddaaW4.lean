/-
  The law ShakeFinds.
-/
import Derived.Test.YteoiogjaecpddaaSD
namespace Go.Proofs.Yteoiogjaecpddaa
open Go.ChangeShapes Go.WideShapes Go.ChangeAt Go.RowKit
set_option linter.unusedVariables false
set_option linter.unusedSimpArgs false

set_option maxRecDepth 100000 in
set_option maxHeartbeats 16000000 in
theorem finds_no (a b ba bb : Int) (pa : Option Addr) (na ca : Nat) (la : List SN) (pb : Option Addr) (nb cb : Nat) (lb : List SN) (w : World) (ra : RdS w pa na ca la) (rb : RdS w pb nb cb lb) (hno : ¬ (nodeB a = true ∧ nodeB b = true ∧ a ≠ b ∧ fitS a la = true ∧ fitS b lb = true ∧ inB 1 ba 1099511627776 = true ∧ inB 1 bb 1099511627776 = true)) : Calls Try.prog 8 #[.int .i64 a, .int .i64 b, .int .i64 ba, .int .i64 bb, .slice pa na ca, .slice pb nb cb] w fun e w' => e = .returned (.bool true) ∧ Below w.heap.size w w' := by
  have KA := dfit_any_ a pa na ca la w ra
  have KB := fun W (h : Below w.heap.size w W) => dfit_any_ b pb nb cb lb W (rb.below h)
  obtain ⟨fa, hfa⟩ : ∃ f, fitS a la = f := ⟨_, rfl⟩
  obtain ⟨fb, hfb⟩ : ∃ f, fitS b lb = f := ⟨_, rfl⟩
  rw [hfa] at KA hno
  rw [hfb] at hno
  simp only [hfb] at KB
  clear hfa hfb ra rb
  cases hna : nodeB a with
  | false =>
    clear hno
    go_enter Try.func8, Try.ntmps8
    go_wp2_with (first | (go_at_call 14; refine (knode_any _ _).mono ?_; rintro e wx ⟨rfl, hw⟩; rw [hw]; clear hw wx) | (go_at_call 10; refine KA.mono ?_; rintro e w1 ⟨rfl, b1⟩; clear KA) | (go_at_call 10; refine (KB _ b1).mono ?_; rintro e w2 ⟨rfl, b2⟩; clear KB; have B2 := b1.trans (b2.mono b1.size)) | (go_at_call 15; refine (kwithin_any _ _ _ _).mono ?_; rintro e wx ⟨rfl, hw⟩; rw [hw]; clear hw wx) | (go_at_call 13; refine (awake_any _).mono ?_; rintro e w9 ⟨rfl, b9⟩))
    go_ret
    exact ⟨rfl, b9⟩
  | true =>
    cases hnb : nodeB b with
    | false =>
      clear hno
      go_enter Try.func8, Try.ntmps8
      go_wp2_with (first | (go_at_call 14; refine (knode_any _ _).mono ?_; rintro e wx ⟨rfl, hw⟩; rw [hw]; clear hw wx) | (go_at_call 10; refine KA.mono ?_; rintro e w1 ⟨rfl, b1⟩; clear KA) | (go_at_call 10; refine (KB _ b1).mono ?_; rintro e w2 ⟨rfl, b2⟩; clear KB; have B2 := b1.trans (b2.mono b1.size)) | (go_at_call 15; refine (kwithin_any _ _ _ _).mono ?_; rintro e wx ⟨rfl, hw⟩; rw [hw]; clear hw wx) | (go_at_call 13; refine (awake_any _).mono ?_; rintro e w9 ⟨rfl, b9⟩))
      go_ret
      exact ⟨rfl, b9⟩
    | true =>
      by_cases he : a = b
      · have heb : (a == b) = true := by simpa using he
        clear he hno
        go_enter Try.func8, Try.ntmps8
        go_wp2_with (first | (go_at_call 14; refine (knode_any _ _).mono ?_; rintro e wx ⟨rfl, hw⟩; rw [hw]; clear hw wx) | (go_at_call 10; refine KA.mono ?_; rintro e w1 ⟨rfl, b1⟩; clear KA) | (go_at_call 10; refine (KB _ b1).mono ?_; rintro e w2 ⟨rfl, b2⟩; clear KB; have B2 := b1.trans (b2.mono b1.size)) | (go_at_call 15; refine (kwithin_any _ _ _ _).mono ?_; rintro e wx ⟨rfl, hw⟩; rw [hw]; clear hw wx) | (go_at_call 13; refine (awake_any _).mono ?_; rintro e w9 ⟨rfl, b9⟩))
        go_ret
        exact ⟨rfl, b9⟩
      · have heb : (a == b) = false := by simpa using he
        cases fa with
        | false =>
          clear he hno
          go_enter Try.func8, Try.ntmps8
          go_wp2_with (first | (go_at_call 14; refine (knode_any _ _).mono ?_; rintro e wx ⟨rfl, hw⟩; rw [hw]; clear hw wx) | (go_at_call 10; refine KA.mono ?_; rintro e w1 ⟨rfl, b1⟩; clear KA) | (go_at_call 10; refine (KB _ b1).mono ?_; rintro e w2 ⟨rfl, b2⟩; clear KB; have B2 := b1.trans (b2.mono b1.size)) | (go_at_call 15; refine (kwithin_any _ _ _ _).mono ?_; rintro e wx ⟨rfl, hw⟩; rw [hw]; clear hw wx) | (go_at_call 13; refine (awake_any _).mono ?_; rintro e w9 ⟨rfl, b9⟩))
          go_ret
          exact ⟨rfl, b1.trans (b9.mono b1.size)⟩
        | true =>
          cases fb with
          | false =>
            clear he hno
            go_enter Try.func8, Try.ntmps8
            go_wp2_with (first | (go_at_call 14; refine (knode_any _ _).mono ?_; rintro e wx ⟨rfl, hw⟩; rw [hw]; clear hw wx) | (go_at_call 10; refine KA.mono ?_; rintro e w1 ⟨rfl, b1⟩; clear KA) | (go_at_call 10; refine (KB _ b1).mono ?_; rintro e w2 ⟨rfl, b2⟩; clear KB; have B2 := b1.trans (b2.mono b1.size)) | (go_at_call 15; refine (kwithin_any _ _ _ _).mono ?_; rintro e wx ⟨rfl, hw⟩; rw [hw]; clear hw wx) | (go_at_call 13; refine (awake_any _).mono ?_; rintro e w9 ⟨rfl, b9⟩))
            go_ret
            exact ⟨rfl, B2.trans (b9.mono B2.size)⟩
          | true =>
            cases hba : inB 1 ba 1099511627776 with
            | false =>
              clear he hno
              go_enter Try.func8, Try.ntmps8
              go_wp2_with (first | (go_at_call 14; refine (knode_any _ _).mono ?_; rintro e wx ⟨rfl, hw⟩; rw [hw]; clear hw wx) | (go_at_call 10; refine KA.mono ?_; rintro e w1 ⟨rfl, b1⟩; clear KA) | (go_at_call 10; refine (KB _ b1).mono ?_; rintro e w2 ⟨rfl, b2⟩; clear KB; have B2 := b1.trans (b2.mono b1.size)) | (go_at_call 15; refine (kwithin_any _ _ _ _).mono ?_; rintro e wx ⟨rfl, hw⟩; rw [hw]; clear hw wx) | (go_at_call 13; refine (awake_any _).mono ?_; rintro e w9 ⟨rfl, b9⟩))
              go_ret
              exact ⟨rfl, B2.trans (b9.mono B2.size)⟩
            | true =>
              cases hbb : inB 1 bb 1099511627776 with
              | false =>
                clear he hno
                go_enter Try.func8, Try.ntmps8
                go_wp2_with (first | (go_at_call 14; refine (knode_any _ _).mono ?_; rintro e wx ⟨rfl, hw⟩; rw [hw]; clear hw wx) | (go_at_call 10; refine KA.mono ?_; rintro e w1 ⟨rfl, b1⟩; clear KA) | (go_at_call 10; refine (KB _ b1).mono ?_; rintro e w2 ⟨rfl, b2⟩; clear KB; have B2 := b1.trans (b2.mono b1.size)) | (go_at_call 15; refine (kwithin_any _ _ _ _).mono ?_; rintro e wx ⟨rfl, hw⟩; rw [hw]; clear hw wx) | (go_at_call 13; refine (awake_any _).mono ?_; rintro e w9 ⟨rfl, b9⟩))
                go_ret
                exact ⟨rfl, B2.trans (b9.mono B2.size)⟩
              | true => exact absurd ⟨hna, hnb, he, rfl, rfl, hba, hbb⟩ hno
set_option maxRecDepth 100000 in
set_option maxHeartbeats 16000000 in
theorem finds_walk (a b ba bb : Int) (pa : Option Addr) (na ca : Nat) (la : List SN) (pb : Option Addr) (nb cb : Nat) (lb : List SN) (w : World) (ra : RdS w pa na ca la) (rb : RdS w pb nb cb lb) : Calls Try.prog 8 #[.int .i64 a, .int .i64 b, .int .i64 ba, .int .i64 bb, .slice pa na ca, .slice pb nb cb] w fun e w' => e = .returned (.bool true) ∧ Below w.heap.size w w' := by
  by_cases hall : nodeB a = true ∧ nodeB b = true ∧ a ≠ b ∧ fitS a la = true ∧ fitS b lb = true ∧ inB 1 ba 1099511627776 = true ∧ inB 1 bb 1099511627776 = true
  case neg => exact finds_no a b ba bb pa na ca la pb nb cb lb w ra rb hall
  obtain ⟨hna, hnb, hne, hfa, hfb, hba, hbb⟩ := hall
  have FA := fit_iff.1 hfa
  have FB := fit_iff.1 hfb
  have hneb : (a == b) = false := by simpa using hne
  have KA := dfit_any_ a pa na ca la w ra
  have KB := fun W (h : Below w.heap.size w W) => dfit_any_ b pb nb cb lb W (rb.below h)
  rw [hfa] at KA
  simp only [hfb] at KB
  have KX := fun W (h : Below w.heap.size w W) => get_any pa na ca la b W (ra.below h)
  have KY := fun W (h : Below w.heap.size w W) => get_any pb nb cb lb a W (rb.below h)
  have KH := fun W (h : Below w.heap.size w W) => hello_any a ba b pa na ca la W (ra.below h)
  have KW := fun (p : PK) W (h : Below w.heap.size w W) => welcome_any b bb pb nb cb lb p W (rb.below h)
  have JA := fun (p : PK) W (h : Below w.heap.size w W) => judge_any pa na ca la ba p W (ra.below h)
  have JB := fun (p : PK) W (h : Below w.heap.size w W) => judge_any pb nb cb lb bb p W (rb.below h)
  obtain ⟨⟨x0, x1, x2, x3⟩, hx⟩ : ∃ s, getL b la = s := ⟨_, rfl⟩
  obtain ⟨⟨y0, y1, y2, y3⟩, hy⟩ : ∃ s, getL a lb = s := ⟨_, rfl⟩
  simp only [hx, SN.val] at KX
  simp only [hy, SN.val] at KY
  simp only [hx, PK.val] at KH
  have KL1 := fun W => later_any x1 x2 bb y3 W
  have KL2 := fun W => later_any y1 y2 ba x3 W
  have J1 := JB ⟨1, a, b, ba, x3, 0, 0, none, 0, 0⟩
  have J2 := JA ⟨2, b, a, bb, y3, ba, x3, none, 0, 0⟩
  have J3 := JB ⟨3, a, b, ba, x3, bb, y3, none, 0, 0⟩
  have KV := KW ⟨1, a, b, ba, x3, 0, 0, none, 0, 0⟩
  simp only [hx, hy, PK.val] at J1 J2 J3 KV
  have HNE : Hid (a ≠ b) := hne
  clear hx hy FA FB hfa hfb hne ra rb KW JA JB
  cases hl1 : ltr x1 x2 bb y3 with
  | true =>
    clear J1 J2 J3 KV KH
    go_enter Try.func8, Try.ntmps8
    go_wp2_with (first
      | (go_at_call 14; refine (knode_any _ _).mono ?_; rintro e wx ⟨rfl, hw⟩; rw [hw]; clear hw wx)
      | (go_at_call 10; refine KA.mono ?_; rintro e w1 ⟨rfl, b1⟩; clear KA)
      | (go_at_call 10; refine (KB _ b1).mono ?_; rintro e w2 ⟨rfl, b2⟩; clear KB; have B2 := b1.trans (b2.mono b1.size))
      | (go_at_call 15; refine (kwithin_any _ _ _ _).mono ?_; rintro e wx ⟨rfl, hw⟩; rw [hw]; clear hw wx)
      | (go_at_call 19; refine (KX _ B2).mono ?_; rintro e w3 ⟨rfl, b3⟩; clear KX; have B3 := (B2.trans (b3.mono B2.size)).alloc (Nat.le_trans B2.size b3.size) (.cells #[.int .i64 x0, .int .i64 x1, .int .i64 x2, .int .i64 x3] 33); have TX : (w3.alloc (.cells #[.int .i64 x0, .int .i64 x1, .int .i64 x2, .int .i64 x3] 33)).heap[w3.heap.size]? = some (.cells #[.int .i64 x0, .int .i64 x1, .int .i64 x2, .int .i64 x3] 33) := heap_new rfl)
      | (go_at_call 19; refine (KY _ B3).mono ?_; rintro e w5 ⟨rfl, b5⟩; clear KY; have B5 := (B3.trans (b5.mono B3.size)).alloc (Nat.le_trans B3.size b5.size) (.cells #[.int .i64 y0, .int .i64 y1, .int .i64 y2, .int .i64 y3] 33); have TY : (w5.alloc (.cells #[.int .i64 y0, .int .i64 y1, .int .i64 y2, .int .i64 y3] 33)).heap[w5.heap.size]? = some (.cells #[.int .i64 y0, .int .i64 y1, .int .i64 y2, .int .i64 y3] 33) := heap_new rfl; have TX5 := heap_old (o := (.cells #[.int .i64 y0, .int .i64 y1, .int .i64 y2, .int .i64 y3] 33)) (Nat.lt_of_lt_of_le (row_lt TX) b5.size) ((b5.block _ (row_lt TX)).trans TX); have ⟨⟨u0, u1, u2, u3⟩, _⟩ := cel4 TX5; have ⟨⟨v0, v1, v2, v3⟩, _⟩ := cel4 TY)
      | (go_at_call 11; refine (KL1 _).mono ?_; rw [hl1]; rintro e w6 ⟨rfl, b6⟩; clear KL1; have B6 := B5.trans (b6.mono B5.size); have TX6 := (b6.block _ (row_lt TX5)).trans TX5; have TY6 := (b6.block _ (row_lt TY)).trans TY; have ⟨⟨u0, u1, u2, u3⟩, _⟩ := cel4 TX6; have ⟨⟨v0, v1, v2, v3⟩, _⟩ := cel4 TY6)
      | (go_at_call 13; refine (awake_any _).mono ?_; rintro e w9 ⟨rfl, b9⟩))
    go_ret
    exact ⟨rfl, B6.trans (b9.mono B6.size)⟩
  | false =>
    cases hl2 : ltr y1 y2 ba x3 with
    | true =>
      clear J1 J2 J3 KV KH
      go_enter Try.func8, Try.ntmps8
      go_wp2_with (first
        | (go_at_call 14; refine (knode_any _ _).mono ?_; rintro e wx ⟨rfl, hw⟩; rw [hw]; clear hw wx)
        | (go_at_call 10; refine KA.mono ?_; rintro e w1 ⟨rfl, b1⟩; clear KA)
        | (go_at_call 10; refine (KB _ b1).mono ?_; rintro e w2 ⟨rfl, b2⟩; clear KB; have B2 := b1.trans (b2.mono b1.size))
        | (go_at_call 15; refine (kwithin_any _ _ _ _).mono ?_; rintro e wx ⟨rfl, hw⟩; rw [hw]; clear hw wx)
        | (go_at_call 19; refine (KX _ B2).mono ?_; rintro e w3 ⟨rfl, b3⟩; clear KX; have B3 := (B2.trans (b3.mono B2.size)).alloc (Nat.le_trans B2.size b3.size) (.cells #[.int .i64 x0, .int .i64 x1, .int .i64 x2, .int .i64 x3] 33); have TX : (w3.alloc (.cells #[.int .i64 x0, .int .i64 x1, .int .i64 x2, .int .i64 x3] 33)).heap[w3.heap.size]? = some (.cells #[.int .i64 x0, .int .i64 x1, .int .i64 x2, .int .i64 x3] 33) := heap_new rfl)
        | (go_at_call 19; refine (KY _ B3).mono ?_; rintro e w5 ⟨rfl, b5⟩; clear KY; have B5 := (B3.trans (b5.mono B3.size)).alloc (Nat.le_trans B3.size b5.size) (.cells #[.int .i64 y0, .int .i64 y1, .int .i64 y2, .int .i64 y3] 33); have TY : (w5.alloc (.cells #[.int .i64 y0, .int .i64 y1, .int .i64 y2, .int .i64 y3] 33)).heap[w5.heap.size]? = some (.cells #[.int .i64 y0, .int .i64 y1, .int .i64 y2, .int .i64 y3] 33) := heap_new rfl; have TX5 := heap_old (o := (.cells #[.int .i64 y0, .int .i64 y1, .int .i64 y2, .int .i64 y3] 33)) (Nat.lt_of_lt_of_le (row_lt TX) b5.size) ((b5.block _ (row_lt TX)).trans TX); have ⟨⟨u0, u1, u2, u3⟩, _⟩ := cel4 TX5; have ⟨⟨v0, v1, v2, v3⟩, _⟩ := cel4 TY)
        | (go_at_call 11; refine (KL1 _).mono ?_; rw [hl1]; rintro e w6 ⟨rfl, b6⟩; clear KL1; have B6 := B5.trans (b6.mono B5.size); have TX6 := (b6.block _ (row_lt TX5)).trans TX5; have TY6 := (b6.block _ (row_lt TY)).trans TY; have ⟨⟨u0, u1, u2, u3⟩, _⟩ := cel4 TX6; have ⟨⟨v0, v1, v2, v3⟩, _⟩ := cel4 TY6)
          | (go_at_call 11; refine (KL2 _).mono ?_; rw [hl2]; rintro e w7 ⟨rfl, b7⟩; clear KL2; have B7 := B6.trans (b7.mono B6.size))
        | (go_at_call 13; refine (awake_any _).mono ?_; rintro e w9 ⟨rfl, b9⟩))
      go_ret
      exact ⟨rfl, B7.trans (b9.mono B7.size)⟩
    | false =>
      have e1 : judV ⟨y0, y1, y2, y3⟩ bb ⟨1, a, b, ba, x3, 0, 0, none, 0, 0⟩ = 3 := by unfold judV; rw [if_neg (by rw [hl2]; decide), if_neg (fun h => h.1 rfl), if_pos (.inl rfl)]
      have e2 : judV ⟨x0, x1, x2, x3⟩ ba ⟨2, b, a, bb, y3, ba, x3, none, 0, 0⟩ = 2 := by unfold judV; rw [if_neg (by rw [hl1]; decide), if_pos ⟨(fun h => by cases h), rfl, rfl⟩]
      have e3 : judV ⟨y0, y1, y2, y3⟩ bb ⟨3, a, b, ba, x3, bb, y3, none, 0, 0⟩ = 2 := by unfold judV; rw [if_neg (by rw [hl2]; decide), if_pos ⟨(fun h => by cases h), rfl, rfl⟩]
      simp only [e1] at J1
      simp only [e2] at J2
      simp only [e3] at J3
      clear e1 e2 e3
      go_enter Try.func8, Try.ntmps8
      go_wp2_with (first
        | (go_at_call 14; refine (knode_any _ _).mono ?_; rintro e wx ⟨rfl, hw⟩; rw [hw]; clear hw wx)
        | (go_at_call 10; refine KA.mono ?_; rintro e w1 ⟨rfl, b1⟩; clear KA)
        | (go_at_call 10; refine (KB _ b1).mono ?_; rintro e w2 ⟨rfl, b2⟩; clear KB; have B2 := b1.trans (b2.mono b1.size))
        | (go_at_call 15; refine (kwithin_any _ _ _ _).mono ?_; rintro e wx ⟨rfl, hw⟩; rw [hw]; clear hw wx)
        | (go_at_call 19; refine (KX _ B2).mono ?_; rintro e w3 ⟨rfl, b3⟩; clear KX; have B3 := (B2.trans (b3.mono B2.size)).alloc (Nat.le_trans B2.size b3.size) (.cells #[.int .i64 x0, .int .i64 x1, .int .i64 x2, .int .i64 x3] 33); have TX : (w3.alloc (.cells #[.int .i64 x0, .int .i64 x1, .int .i64 x2, .int .i64 x3] 33)).heap[w3.heap.size]? = some (.cells #[.int .i64 x0, .int .i64 x1, .int .i64 x2, .int .i64 x3] 33) := heap_new rfl)
        | (go_at_call 19; refine (KY _ B3).mono ?_; rintro e w5 ⟨rfl, b5⟩; clear KY; have B5 := (B3.trans (b5.mono B3.size)).alloc (Nat.le_trans B3.size b5.size) (.cells #[.int .i64 y0, .int .i64 y1, .int .i64 y2, .int .i64 y3] 33); have TY : (w5.alloc (.cells #[.int .i64 y0, .int .i64 y1, .int .i64 y2, .int .i64 y3] 33)).heap[w5.heap.size]? = some (.cells #[.int .i64 y0, .int .i64 y1, .int .i64 y2, .int .i64 y3] 33) := heap_new rfl; have TX5 := heap_old (o := (.cells #[.int .i64 y0, .int .i64 y1, .int .i64 y2, .int .i64 y3] 33)) (Nat.lt_of_lt_of_le (row_lt TX) b5.size) ((b5.block _ (row_lt TX)).trans TX); have ⟨⟨u0, u1, u2, u3⟩, _⟩ := cel4 TX5; have ⟨⟨v0, v1, v2, v3⟩, _⟩ := cel4 TY)
        | (go_at_call 11; refine (KL1 _).mono ?_; rw [hl1]; rintro e w6 ⟨rfl, b6⟩; clear KL1; have B6 := B5.trans (b6.mono B5.size); have TX6 := (b6.block _ (row_lt TX5)).trans TX5; have TY6 := (b6.block _ (row_lt TY)).trans TY; have ⟨⟨u0, u1, u2, u3⟩, _⟩ := cel4 TX6; have ⟨⟨v0, v1, v2, v3⟩, _⟩ := cel4 TY6)
          | (go_at_call 11; refine (KL2 _).mono ?_; rw [hl2]; rintro e w7 ⟨rfl, b7⟩; clear KL2; have B7 := B6.trans (b7.mono B6.size))
        | (go_at_call 33; refine (KH _ B7).mono ?_; rintro e w8 ⟨rfl, b8⟩; clear KH; have B8 := (B7.trans (b8.mono B7.size)).alloc (Nat.le_trans B7.size b8.size) (.cells #[.int .i64 1, .int .i64 a, .int .i64 b, .int .i64 ba, .int .i64 x3, .int .i64 0, .int .i64 0, .slice none 0 0] 40); have TH : (w8.alloc (.cells #[.int .i64 1, .int .i64 a, .int .i64 b, .int .i64 ba, .int .i64 x3, .int .i64 0, .int .i64 0, .slice none 0 0] 40)).heap[w8.heap.size]? = some (.cells #[.int .i64 1, .int .i64 a, .int .i64 b, .int .i64 ba, .int .i64 x3, .int .i64 0, .int .i64 0, .slice none 0 0] 40) := heap_new rfl; have TX8 := heap_old (o := (.cells #[.int .i64 1, .int .i64 a, .int .i64 b, .int .i64 ba, .int .i64 x3, .int .i64 0, .int .i64 0, .slice none 0 0] 40)) (Nat.lt_of_lt_of_le (Nat.lt_of_lt_of_le (row_lt TX6) b7.size) b8.size) (((b7.trans (b8.mono b7.size)).block _ (row_lt TX6)).trans TX6))
        | ((with_reducible show wpList _ _ _ (Oper.mk _ (Op.load 40 (Operand.tmp 15)) _ _ _ _ :: _) _ _); refine wpList_load40x (by rfl) _ rfl w8.heap.size 1 a b ba x3 0 0 none 0 0 rfl (by first | exact TH9 | exact TH) ?_)
        | (go_at_call 26; refine (J1 _ B8).mono ?_; rintro e w9 ⟨rfl, b9⟩; clear J1; have B9 := B8.trans (b9.mono B8.size); have TH9 := (b9.block _ (row_lt TH)).trans TH; have TX9 := (b9.block _ (row_lt TX8)).trans TX8)
        | (go_at_call 35; refine (KV _ B9).mono ?_; rintro e w10 ⟨rfl, b10⟩; clear KV; have B10 := (B9.trans (b10.mono B9.size)).alloc (Nat.le_trans B9.size b10.size) (.cells #[.int .i64 2, .int .i64 b, .int .i64 a, .int .i64 bb, .int .i64 y3, .int .i64 ba, .int .i64 x3, .slice none 0 0] 40); have TW : (w10.alloc (.cells #[.int .i64 2, .int .i64 b, .int .i64 a, .int .i64 bb, .int .i64 y3, .int .i64 ba, .int .i64 x3, .slice none 0 0] 40)).heap[w10.heap.size]? = some (.cells #[.int .i64 2, .int .i64 b, .int .i64 a, .int .i64 bb, .int .i64 y3, .int .i64 ba, .int .i64 x3, .slice none 0 0] 40) := heap_new rfl; have TX10 := heap_old (o := (.cells #[.int .i64 2, .int .i64 b, .int .i64 a, .int .i64 bb, .int .i64 y3, .int .i64 ba, .int .i64 x3, .slice none 0 0] 40)) (Nat.lt_of_lt_of_le (row_lt TX9) b10.size) ((b10.block _ (row_lt TX9)).trans TX9))
        | ((with_reducible show wpList _ _ _ (Oper.mk _ (Op.load 40 (Operand.tmp 16)) _ _ _ _ :: _) _ _); refine wpList_load40x (by rfl) _ rfl w10.heap.size 2 b a bb y3 ba x3 none 0 0 rfl TW ?_)
        | (go_at_call 26; refine (J2 _ B10).mono ?_; rintro e w11 ⟨rfl, b11⟩; clear J2; have B11 := (B10.trans (b11.mono B10.size)).alloc (Nat.le_trans B10.size b11.size) (.cells #[.int .i64 3, .int .i64 a, .int .i64 b, .int .i64 ba, .int .i64 x3, .int .i64 bb, .int .i64 y3, .slice none 0 0] 40); have TW11 := (b11.block _ (row_lt TW)).trans TW; have TX11 := (b11.block _ (row_lt TX10)).trans TX10; have ⟨⟨u0, u1, u2, u3⟩, _⟩ := cel4 TX11; have ⟨k0, k1, k2, k3, k4, k5, k6, k7⟩ := cel8 TW11; have TB : (w11.alloc (.cells #[.int .i64 3, .int .i64 a, .int .i64 b, .int .i64 ba, .int .i64 x3, .int .i64 bb, .int .i64 y3, .slice none 0 0] 40)).heap[w11.heap.size]? = some (.cells #[.int .i64 3, .int .i64 a, .int .i64 b, .int .i64 ba, .int .i64 x3, .int .i64 bb, .int .i64 y3, .slice none 0 0] 40) := heap_new rfl)
        | ((with_reducible show wpList _ _ _ (Oper.mk _ (Op.load 40 (Operand.tmp 17)) _ _ _ _ :: _) _ _); refine wpList_load40x (by rfl) _ rfl w11.heap.size 3 a b ba x3 bb y3 none 0 0 rfl TB ?_)
        | (go_at_call 26; refine (J3 _ B11).mono ?_; rintro e w12 ⟨rfl, b12⟩; clear J3; have B12 := B11.trans (b12.mono B11.size))
        | (go_at_call 13; refine (awake_any _).mono ?_; rintro e w13 ⟨rfl, b13⟩))
      go_ret
      exact ⟨rfl, B12.trans (b13.mono B12.size)⟩
end Go.Proofs.Yteoiogjaecpddaa
