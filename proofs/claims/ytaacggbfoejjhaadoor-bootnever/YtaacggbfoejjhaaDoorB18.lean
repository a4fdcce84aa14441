/-
  The law BootSlots, walked.
-/
import Derived.Test.YtaacggbfoejjhaaDoorB17
namespace Go.Proofs.YtaacggbfoejjhaaDoor
open Go.ChangeShapes Go.WideShapes Go.ChangeAt Go.RowKit
open D
set_option linter.unusedVariables false
set_option linter.unusedSimpArgs false

/-- What the walks are told: the calls, with what they answer. -/
def Says (w : World) (f : Nat) (S S' : DS) (v : Value) : Prop := ∀ (d l : Nat) (W : World), w.heap.size ≤ d → w.heap.size ≤ l → Tb W → DkP W d l S → Calls Tryd.prog f #[.pointer (some ⟨d, 0, none⟩)] W fun e W' => e = .returned v ∧ DkP W' d l S' ∧ Only (at2 d l) W W' ∧ Tb W'
def Says1 (w : World) (f : Nat) (S S' : DS) (x v : Value) : Prop := ∀ (d l : Nat) (W : World), w.heap.size ≤ d → w.heap.size ≤ l → Tb W → DkP W d l S → Calls Tryd.prog f #[.pointer (some ⟨d, 0, none⟩), x] W fun e W' => e = .returned v ∧ DkP W' d l S' ∧ Only (at2 d l) W W' ∧ Tb W'
theorem tb_far {w X Y : World} {d l : Nat} (hw : Tb w) (t : Tb X) (o : Only (at2 d l) X Y) (h1 : w.heap.size ≤ d) (h2 : w.heap.size ≤ l) : Tb Y := tab_only t o (by have := hw.pos; rintro (e | e) <;> omega)
theorem says_slots {w : World} (hw : Tb w) (S : DS) : Says w 8 S S (.tuple #[.int .i64 ((sl0 S : Nat) : Int), .int .i64 ((sl1 S : Nat) : Int), .int .i64 (ldC S)]) := fun d l W h1 h2 t D => (slots_dk d l S W D t).mono fun e W' ⟨he, b⟩ => ⟨he, D.below b, Only.of_below b, t.below b⟩
theorem says_last {w : World} (hw : Tb w) (S : DS) : Says w 10 S S (.tuple #[.int .i64 ((mx (ldV S) : Nat) : Int), .int .i64 (ldC S)]) := fun d l W h1 h2 t D => (last_dk d l S W D t).mono fun e W' ⟨he, b⟩ => ⟨he, D.below b, Only.of_below b, t.below b⟩
theorem says_next {w : World} (hw : Tb w) (S : DS) : Says w 9 S (nxS S) (.tuple #[.int .i64 (nxN S), .int .i64 (nxC S)]) := fun d l W h1 h2 t D => (next_any d l S W D t).mono fun e W' ⟨he, D', o⟩ => ⟨he, D', o, tb_far hw t o h1 h2⟩
theorem says_cut {w : World} (hw : Tb w) (S : DS) (x : Int) (hx : x ≤ 9223372036854775807) : Says1 w 19 S (S.cut x) (.int .i64 x) (.tuple #[]) := fun d l W h1 h2 t D => (cut_any d l S x W D hx).mono fun e W' ⟨he, D', o⟩ => ⟨he, D', o.two l, tb_far hw t (o.two l) h1 h2⟩
theorem says_on {w : World} (hw : Tb w) (S : DS) : Says w 20 S S.on (.tuple #[]) := fun d l W h1 h2 t D => (on_any d l S W D).mono fun e W' ⟨he, D', o⟩ => ⟨he, D', o.two l, tb_far hw t (o.two l) h1 h2⟩
theorem says_writes {w : World} (hw : Tb w) (S : DS) : Says w 21 S S (.int .i64 S.done) := fun d l W h1 h2 t D => (writes_any d l S W D).mono fun e W' ⟨he, hw'⟩ => ⟨he, by rw [hw']; exact D, by rw [hw']; exact Only.refl _ _, by rw [hw']; exact t⟩
theorem below_far {w X Y : World} {d l : Nat} (b : Below w.heap.size w X) (o : Only (at2 d l) X Y) (h1 : w.heap.size ≤ d) (h2 : w.heap.size ≤ l) : Below w.heap.size w Y := b.trans (o.below b.size (by rintro q (e | e) <;> omega))
set_option maxHeartbeats 4000000 in
theorem slots_ld_down (a : Option Addr) (len cap : Nat) (cut : Int) (S0 : DS) (w : World) (ht : Tb w) (K17 : Calls Tryd.prog 17 #[.slice a len cap] w (Made w S0)) (C : Int) (hC : (C != 0) = true) (KS : Says w 8 S0 S0 (.tuple #[.int .i64 0, .int .i64 0, .int .i64 C])) : Calls Tryd.prog 6 #[.slice a len cap, .int .i64 cut] w fun e w' => e = .returned (.bool true) ∧ Below w.heap.size w w' := by
  unfold Made at *
  go_enter Tryd.func6, Tryd.ntmps6
  go_wp2_with (first
    | (go_at_call 17; refine K17.mono ?_; rintro e w1 ⟨d, rfl, hd, l, hl, D1, b1⟩; have t1 := ht.below b1)
    | (go_at_call 8; refine (KS d l _ hd hl t1 D1).mono ?_; rintro e w2 ⟨rfl, D2, o2, t2⟩; have b2 := below_far b1 o2 hd hl; clear D1 o2)
    | (go_at_call 11; refine (awake_any w2 t2).mono ?_; rintro e wz ⟨rfl, bz⟩))
  all_goals (go_ret; exact ⟨rfl, b2.trans (bz.mono b2.size)⟩)
set_option maxHeartbeats 4000000 in
theorem slots_ld_lt0 (a : Option Addr) (len cap : Nat) (cut : Int) (S0 : DS) (w : World) (ht : Tb w) (K17 : Calls Tryd.prog 17 #[.slice a len cap] w (Made w S0)) (x y v : Int) (hlt : y < x) (hM : x < 1099511627776) (S1 S2 S3 : DS) (hcut : wrap64 ((IntKind.u64.wrap cut).tmod 4) = 0) (KS : Says w 8 S0 S0 (.tuple #[.int .i64 x, .int .i64 y, .int .i64 0])) (KC : Says1 w 19 S0 S1 (.int .i64 0) (.tuple #[])) (KN : Says w 9 S1 S2 (.tuple #[.int .i64 0, .int .i64 32])) (KW : Says w 21 S2 S2 (.int .i64 0)) (KO : Says w 20 S2 S3 (.tuple #[])) (KT : Says w 8 S3 S3 (.tuple #[.int .i64 x, .int .i64 v, .int .i64 0])) : Calls Tryd.prog 6 #[.slice a len cap, .int .i64 cut] w fun e w' => e = .returned (.bool true) ∧ Below w.heap.size w w' := by
  unfold Made at *
  go_enter Tryd.func6, Tryd.ntmps6
  go_wp2_with (first
    | (go_at_call 17; refine K17.mono ?_; rintro e w1 ⟨d, rfl, hd, l, hl, D1, b1⟩; have t1 := ht.below b1)
    | (go_at_call 8; refine (KS d l _ hd hl t1 D1).mono ?_; rintro e w2 ⟨rfl, D2, o2, t2⟩; have b2 := below_far b1 o2 hd hl; clear D1 o2)
    | (go_at_call 19; refine (KC d l _ hd hl t2 D2).mono ?_; rintro e w3 ⟨rfl, D3, o3, t3⟩; have b3 := below_far b2 o3 hd hl; clear D2 o3)
    | (go_at_call 9; refine (KN d l _ hd hl t3 D3).mono ?_; rintro e w4 ⟨rfl, D4, o4, t4⟩; have b4 := below_far b3 o4 hd hl; clear D3 o4)
    | (go_at_call 21; refine (KW d l _ hd hl t4 D4).mono ?_; rintro e w5 ⟨rfl, D5, o5, t5⟩; have b5 := below_far b4 o5 hd hl; clear D4 o5)
    | (go_at_call 20; refine (KO d l _ hd hl t5 D5).mono ?_; rintro e w6 ⟨rfl, D6, o6, t6⟩; have b6 := below_far b5 o6 hd hl; clear D5 o6)
    | (go_at_call 8; refine (KT d l _ hd hl t6 D6).mono ?_; rintro e w7 ⟨rfl, D7, o7, t7⟩; have b7 := below_far b6 o7 hd hl; clear D6 o7)
    | (go_at_call 11; refine (awake_any w7 t7).mono ?_; rintro e wz ⟨rfl, bz⟩))
  all_goals (go_ret; exact ⟨rfl, b7.trans (bz.mono b7.size)⟩)
set_option maxHeartbeats 4000000 in
theorem slots_ld_ge0 (a : Option Addr) (len cap : Nat) (cut : Int) (S0 : DS) (w : World) (ht : Tb w) (K17 : Calls Tryd.prog 17 #[.slice a len cap] w (Made w S0)) (x y z : Int) (hlt : x ≤ y) (hM : y < 1099511627776) (S1 S2 S3 : DS) (hcut : wrap64 ((IntKind.u64.wrap cut).tmod 4) = 0) (KS : Says w 8 S0 S0 (.tuple #[.int .i64 x, .int .i64 y, .int .i64 0])) (KC : Says1 w 19 S0 S1 (.int .i64 0) (.tuple #[])) (KN : Says w 9 S1 S2 (.tuple #[.int .i64 0, .int .i64 32])) (KW : Says w 21 S2 S2 (.int .i64 0)) (KO : Says w 20 S2 S3 (.tuple #[])) (KT : Says w 8 S3 S3 (.tuple #[.int .i64 z, .int .i64 y, .int .i64 0])) : Calls Tryd.prog 6 #[.slice a len cap, .int .i64 cut] w fun e w' => e = .returned (.bool true) ∧ Below w.heap.size w w' := by
  unfold Made at *
  go_enter Tryd.func6, Tryd.ntmps6
  go_wp2_with (first
    | (go_at_call 17; refine K17.mono ?_; rintro e w1 ⟨d, rfl, hd, l, hl, D1, b1⟩; have t1 := ht.below b1)
    | (go_at_call 8; refine (KS d l _ hd hl t1 D1).mono ?_; rintro e w2 ⟨rfl, D2, o2, t2⟩; have b2 := below_far b1 o2 hd hl; clear D1 o2)
    | (go_at_call 19; refine (KC d l _ hd hl t2 D2).mono ?_; rintro e w3 ⟨rfl, D3, o3, t3⟩; have b3 := below_far b2 o3 hd hl; clear D2 o3)
    | (go_at_call 9; refine (KN d l _ hd hl t3 D3).mono ?_; rintro e w4 ⟨rfl, D4, o4, t4⟩; have b4 := below_far b3 o4 hd hl; clear D3 o4)
    | (go_at_call 21; refine (KW d l _ hd hl t4 D4).mono ?_; rintro e w5 ⟨rfl, D5, o5, t5⟩; have b5 := below_far b4 o5 hd hl; clear D4 o5)
    | (go_at_call 20; refine (KO d l _ hd hl t5 D5).mono ?_; rintro e w6 ⟨rfl, D6, o6, t6⟩; have b6 := below_far b5 o6 hd hl; clear D5 o6)
    | (go_at_call 8; refine (KT d l _ hd hl t6 D6).mono ?_; rintro e w7 ⟨rfl, D7, o7, t7⟩; have b7 := below_far b6 o7 hd hl; clear D6 o7)
    | (go_at_call 11; refine (awake_any w7 t7).mono ?_; rintro e wz ⟨rfl, bz⟩))
  all_goals (go_ret; exact ⟨rfl, b7.trans (bz.mono b7.size)⟩)
set_option maxHeartbeats 4000000 in
theorem slots_ld_lt1 (a : Option Addr) (len cap : Nat) (cut : Int) (S0 : DS) (w : World) (ht : Tb w) (K17 : Calls Tryd.prog 17 #[.slice a len cap] w (Made w S0)) (x y v : Int) (hlt : y < x) (hM : x < 1099511627776) (S1 S2 S3 : DS) (hcut : wrap64 ((IntKind.u64.wrap cut).tmod 4) = 1) (KS : Says w 8 S0 S0 (.tuple #[.int .i64 x, .int .i64 y, .int .i64 0])) (KC : Says1 w 19 S0 S1 (.int .i64 1) (.tuple #[])) (KN : Says w 9 S1 S2 (.tuple #[.int .i64 0, .int .i64 32])) (KW : Says w 21 S2 S2 (.int .i64 1)) (KO : Says w 20 S2 S3 (.tuple #[])) (KT : Says w 8 S3 S3 (.tuple #[.int .i64 x, .int .i64 v, .int .i64 0])) : Calls Tryd.prog 6 #[.slice a len cap, .int .i64 cut] w fun e w' => e = .returned (.bool true) ∧ Below w.heap.size w w' := by
  unfold Made at *
  go_enter Tryd.func6, Tryd.ntmps6
  go_wp2_with (first
    | (go_at_call 17; refine K17.mono ?_; rintro e w1 ⟨d, rfl, hd, l, hl, D1, b1⟩; have t1 := ht.below b1)
    | (go_at_call 8; refine (KS d l _ hd hl t1 D1).mono ?_; rintro e w2 ⟨rfl, D2, o2, t2⟩; have b2 := below_far b1 o2 hd hl; clear D1 o2)
    | (go_at_call 19; refine (KC d l _ hd hl t2 D2).mono ?_; rintro e w3 ⟨rfl, D3, o3, t3⟩; have b3 := below_far b2 o3 hd hl; clear D2 o3)
    | (go_at_call 9; refine (KN d l _ hd hl t3 D3).mono ?_; rintro e w4 ⟨rfl, D4, o4, t4⟩; have b4 := below_far b3 o4 hd hl; clear D3 o4)
    | (go_at_call 21; refine (KW d l _ hd hl t4 D4).mono ?_; rintro e w5 ⟨rfl, D5, o5, t5⟩; have b5 := below_far b4 o5 hd hl; clear D4 o5)
    | (go_at_call 20; refine (KO d l _ hd hl t5 D5).mono ?_; rintro e w6 ⟨rfl, D6, o6, t6⟩; have b6 := below_far b5 o6 hd hl; clear D5 o6)
    | (go_at_call 8; refine (KT d l _ hd hl t6 D6).mono ?_; rintro e w7 ⟨rfl, D7, o7, t7⟩; have b7 := below_far b6 o7 hd hl; clear D6 o7)
    | (go_at_call 11; refine (awake_any w7 t7).mono ?_; rintro e wz ⟨rfl, bz⟩))
  all_goals (go_ret; exact ⟨rfl, b7.trans (bz.mono b7.size)⟩)
set_option maxHeartbeats 4000000 in
theorem slots_ld_ge1 (a : Option Addr) (len cap : Nat) (cut : Int) (S0 : DS) (w : World) (ht : Tb w) (K17 : Calls Tryd.prog 17 #[.slice a len cap] w (Made w S0)) (x y z : Int) (hlt : x ≤ y) (hM : y < 1099511627776) (S1 S2 S3 : DS) (hcut : wrap64 ((IntKind.u64.wrap cut).tmod 4) = 1) (KS : Says w 8 S0 S0 (.tuple #[.int .i64 x, .int .i64 y, .int .i64 0])) (KC : Says1 w 19 S0 S1 (.int .i64 1) (.tuple #[])) (KN : Says w 9 S1 S2 (.tuple #[.int .i64 0, .int .i64 32])) (KW : Says w 21 S2 S2 (.int .i64 1)) (KO : Says w 20 S2 S3 (.tuple #[])) (KT : Says w 8 S3 S3 (.tuple #[.int .i64 z, .int .i64 y, .int .i64 0])) : Calls Tryd.prog 6 #[.slice a len cap, .int .i64 cut] w fun e w' => e = .returned (.bool true) ∧ Below w.heap.size w w' := by
  unfold Made at *
  go_enter Tryd.func6, Tryd.ntmps6
  go_wp2_with (first
    | (go_at_call 17; refine K17.mono ?_; rintro e w1 ⟨d, rfl, hd, l, hl, D1, b1⟩; have t1 := ht.below b1)
    | (go_at_call 8; refine (KS d l _ hd hl t1 D1).mono ?_; rintro e w2 ⟨rfl, D2, o2, t2⟩; have b2 := below_far b1 o2 hd hl; clear D1 o2)
    | (go_at_call 19; refine (KC d l _ hd hl t2 D2).mono ?_; rintro e w3 ⟨rfl, D3, o3, t3⟩; have b3 := below_far b2 o3 hd hl; clear D2 o3)
    | (go_at_call 9; refine (KN d l _ hd hl t3 D3).mono ?_; rintro e w4 ⟨rfl, D4, o4, t4⟩; have b4 := below_far b3 o4 hd hl; clear D3 o4)
    | (go_at_call 21; refine (KW d l _ hd hl t4 D4).mono ?_; rintro e w5 ⟨rfl, D5, o5, t5⟩; have b5 := below_far b4 o5 hd hl; clear D4 o5)
    | (go_at_call 20; refine (KO d l _ hd hl t5 D5).mono ?_; rintro e w6 ⟨rfl, D6, o6, t6⟩; have b6 := below_far b5 o6 hd hl; clear D5 o6)
    | (go_at_call 8; refine (KT d l _ hd hl t6 D6).mono ?_; rintro e w7 ⟨rfl, D7, o7, t7⟩; have b7 := below_far b6 o7 hd hl; clear D6 o7)
    | (go_at_call 11; refine (awake_any w7 t7).mono ?_; rintro e wz ⟨rfl, bz⟩))
  all_goals (go_ret; exact ⟨rfl, b7.trans (bz.mono b7.size)⟩)
set_option maxHeartbeats 4000000 in
theorem slots_ld_lt2 (a : Option Addr) (len cap : Nat) (cut : Int) (S0 : DS) (w : World) (ht : Tb w) (K17 : Calls Tryd.prog 17 #[.slice a len cap] w (Made w S0)) (x y n : Int) (hlt : y < x) (hM : x < 1099511627776) (S1 S2 S3 : DS) (hcut : wrap64 ((IntKind.u64.wrap cut).tmod 4) = 2) (KS : Says w 8 S0 S0 (.tuple #[.int .i64 x, .int .i64 y, .int .i64 0])) (KC : Says1 w 19 S0 S1 (.int .i64 2) (.tuple #[])) (KN : Says w 9 S1 S2 (.tuple #[.int .i64 n, .int .i64 0])) (KW : Says w 21 S2 S2 (.int .i64 2)) (KO : Says w 20 S2 S3 (.tuple #[])) (KT : Says w 8 S3 S3 (.tuple #[.int .i64 x, .int .i64 n, .int .i64 0])) : Calls Tryd.prog 6 #[.slice a len cap, .int .i64 cut] w fun e w' => e = .returned (.bool true) ∧ Below w.heap.size w w' := by
  unfold Made at *
  go_enter Tryd.func6, Tryd.ntmps6
  go_wp2_with (first
    | (go_at_call 17; refine K17.mono ?_; rintro e w1 ⟨d, rfl, hd, l, hl, D1, b1⟩; have t1 := ht.below b1)
    | (go_at_call 8; refine (KS d l _ hd hl t1 D1).mono ?_; rintro e w2 ⟨rfl, D2, o2, t2⟩; have b2 := below_far b1 o2 hd hl; clear D1 o2)
    | (go_at_call 19; refine (KC d l _ hd hl t2 D2).mono ?_; rintro e w3 ⟨rfl, D3, o3, t3⟩; have b3 := below_far b2 o3 hd hl; clear D2 o3)
    | (go_at_call 9; refine (KN d l _ hd hl t3 D3).mono ?_; rintro e w4 ⟨rfl, D4, o4, t4⟩; have b4 := below_far b3 o4 hd hl; clear D3 o4)
    | (go_at_call 21; refine (KW d l _ hd hl t4 D4).mono ?_; rintro e w5 ⟨rfl, D5, o5, t5⟩; have b5 := below_far b4 o5 hd hl; clear D4 o5)
    | (go_at_call 20; refine (KO d l _ hd hl t5 D5).mono ?_; rintro e w6 ⟨rfl, D6, o6, t6⟩; have b6 := below_far b5 o6 hd hl; clear D5 o6)
    | (go_at_call 8; refine (KT d l _ hd hl t6 D6).mono ?_; rintro e w7 ⟨rfl, D7, o7, t7⟩; have b7 := below_far b6 o7 hd hl; clear D6 o7)
    | (go_at_call 11; refine (awake_any w7 t7).mono ?_; rintro e wz ⟨rfl, bz⟩))
  all_goals (go_ret; exact ⟨rfl, b7.trans (bz.mono b7.size)⟩)
set_option maxHeartbeats 4000000 in
theorem slots_ld_ge2 (a : Option Addr) (len cap : Nat) (cut : Int) (S0 : DS) (w : World) (ht : Tb w) (K17 : Calls Tryd.prog 17 #[.slice a len cap] w (Made w S0)) (x y n : Int) (hlt : x ≤ y) (hM : y < 1099511627776) (S1 S2 S3 : DS) (hcut : wrap64 ((IntKind.u64.wrap cut).tmod 4) = 2) (KS : Says w 8 S0 S0 (.tuple #[.int .i64 x, .int .i64 y, .int .i64 0])) (KC : Says1 w 19 S0 S1 (.int .i64 2) (.tuple #[])) (KN : Says w 9 S1 S2 (.tuple #[.int .i64 n, .int .i64 0])) (KW : Says w 21 S2 S2 (.int .i64 2)) (KO : Says w 20 S2 S3 (.tuple #[])) (KT : Says w 8 S3 S3 (.tuple #[.int .i64 n, .int .i64 y, .int .i64 0])) : Calls Tryd.prog 6 #[.slice a len cap, .int .i64 cut] w fun e w' => e = .returned (.bool true) ∧ Below w.heap.size w w' := by
  unfold Made at *
  go_enter Tryd.func6, Tryd.ntmps6
  go_wp2_with (first
    | (go_at_call 17; refine K17.mono ?_; rintro e w1 ⟨d, rfl, hd, l, hl, D1, b1⟩; have t1 := ht.below b1)
    | (go_at_call 8; refine (KS d l _ hd hl t1 D1).mono ?_; rintro e w2 ⟨rfl, D2, o2, t2⟩; have b2 := below_far b1 o2 hd hl; clear D1 o2)
    | (go_at_call 19; refine (KC d l _ hd hl t2 D2).mono ?_; rintro e w3 ⟨rfl, D3, o3, t3⟩; have b3 := below_far b2 o3 hd hl; clear D2 o3)
    | (go_at_call 9; refine (KN d l _ hd hl t3 D3).mono ?_; rintro e w4 ⟨rfl, D4, o4, t4⟩; have b4 := below_far b3 o4 hd hl; clear D3 o4)
    | (go_at_call 21; refine (KW d l _ hd hl t4 D4).mono ?_; rintro e w5 ⟨rfl, D5, o5, t5⟩; have b5 := below_far b4 o5 hd hl; clear D4 o5)
    | (go_at_call 20; refine (KO d l _ hd hl t5 D5).mono ?_; rintro e w6 ⟨rfl, D6, o6, t6⟩; have b6 := below_far b5 o6 hd hl; clear D5 o6)
    | (go_at_call 8; refine (KT d l _ hd hl t6 D6).mono ?_; rintro e w7 ⟨rfl, D7, o7, t7⟩; have b7 := below_far b6 o7 hd hl; clear D6 o7)
    | (go_at_call 11; refine (awake_any w7 t7).mono ?_; rintro e wz ⟨rfl, bz⟩))
  all_goals (go_ret; exact ⟨rfl, b7.trans (bz.mono b7.size)⟩)
set_option maxHeartbeats 4000000 in
theorem slots_ld_lt3 (a : Option Addr) (len cap : Nat) (cut : Int) (S0 : DS) (w : World) (ht : Tb w) (K17 : Calls Tryd.prog 17 #[.slice a len cap] w (Made w S0)) (x y n : Int) (hlt : y < x) (hM : x < 1099511627776) (S1 S2 S3 : DS) (hcut : wrap64 ((IntKind.u64.wrap cut).tmod 4) = 3) (KS : Says w 8 S0 S0 (.tuple #[.int .i64 x, .int .i64 y, .int .i64 0])) (KC : Says1 w 19 S0 S1 (.int .i64 3) (.tuple #[])) (KN : Says w 9 S1 S2 (.tuple #[.int .i64 n, .int .i64 0])) (KW : Says w 21 S2 S2 (.int .i64 2)) (KO : Says w 20 S2 S3 (.tuple #[])) (KT : Says w 8 S3 S3 (.tuple #[.int .i64 x, .int .i64 n, .int .i64 0])) : Calls Tryd.prog 6 #[.slice a len cap, .int .i64 cut] w fun e w' => e = .returned (.bool true) ∧ Below w.heap.size w w' := by
  unfold Made at *
  go_enter Tryd.func6, Tryd.ntmps6
  go_wp2_with (first
    | (go_at_call 17; refine K17.mono ?_; rintro e w1 ⟨d, rfl, hd, l, hl, D1, b1⟩; have t1 := ht.below b1)
    | (go_at_call 8; refine (KS d l _ hd hl t1 D1).mono ?_; rintro e w2 ⟨rfl, D2, o2, t2⟩; have b2 := below_far b1 o2 hd hl; clear D1 o2)
    | (go_at_call 19; refine (KC d l _ hd hl t2 D2).mono ?_; rintro e w3 ⟨rfl, D3, o3, t3⟩; have b3 := below_far b2 o3 hd hl; clear D2 o3)
    | (go_at_call 9; refine (KN d l _ hd hl t3 D3).mono ?_; rintro e w4 ⟨rfl, D4, o4, t4⟩; have b4 := below_far b3 o4 hd hl; clear D3 o4)
    | (go_at_call 21; refine (KW d l _ hd hl t4 D4).mono ?_; rintro e w5 ⟨rfl, D5, o5, t5⟩; have b5 := below_far b4 o5 hd hl; clear D4 o5)
    | (go_at_call 20; refine (KO d l _ hd hl t5 D5).mono ?_; rintro e w6 ⟨rfl, D6, o6, t6⟩; have b6 := below_far b5 o6 hd hl; clear D5 o6)
    | (go_at_call 8; refine (KT d l _ hd hl t6 D6).mono ?_; rintro e w7 ⟨rfl, D7, o7, t7⟩; have b7 := below_far b6 o7 hd hl; clear D6 o7)
    | (go_at_call 11; refine (awake_any w7 t7).mono ?_; rintro e wz ⟨rfl, bz⟩))
  all_goals (go_ret; exact ⟨rfl, b7.trans (bz.mono b7.size)⟩)
set_option maxHeartbeats 4000000 in
theorem slots_ld_ge3 (a : Option Addr) (len cap : Nat) (cut : Int) (S0 : DS) (w : World) (ht : Tb w) (K17 : Calls Tryd.prog 17 #[.slice a len cap] w (Made w S0)) (x y n : Int) (hlt : x ≤ y) (hM : y < 1099511627776) (S1 S2 S3 : DS) (hcut : wrap64 ((IntKind.u64.wrap cut).tmod 4) = 3) (KS : Says w 8 S0 S0 (.tuple #[.int .i64 x, .int .i64 y, .int .i64 0])) (KC : Says1 w 19 S0 S1 (.int .i64 3) (.tuple #[])) (KN : Says w 9 S1 S2 (.tuple #[.int .i64 n, .int .i64 0])) (KW : Says w 21 S2 S2 (.int .i64 2)) (KO : Says w 20 S2 S3 (.tuple #[])) (KT : Says w 8 S3 S3 (.tuple #[.int .i64 n, .int .i64 y, .int .i64 0])) : Calls Tryd.prog 6 #[.slice a len cap, .int .i64 cut] w fun e w' => e = .returned (.bool true) ∧ Below w.heap.size w w' := by
  unfold Made at *
  go_enter Tryd.func6, Tryd.ntmps6
  go_wp2_with (first
    | (go_at_call 17; refine K17.mono ?_; rintro e w1 ⟨d, rfl, hd, l, hl, D1, b1⟩; have t1 := ht.below b1)
    | (go_at_call 8; refine (KS d l _ hd hl t1 D1).mono ?_; rintro e w2 ⟨rfl, D2, o2, t2⟩; have b2 := below_far b1 o2 hd hl; clear D1 o2)
    | (go_at_call 19; refine (KC d l _ hd hl t2 D2).mono ?_; rintro e w3 ⟨rfl, D3, o3, t3⟩; have b3 := below_far b2 o3 hd hl; clear D2 o3)
    | (go_at_call 9; refine (KN d l _ hd hl t3 D3).mono ?_; rintro e w4 ⟨rfl, D4, o4, t4⟩; have b4 := below_far b3 o4 hd hl; clear D3 o4)
    | (go_at_call 21; refine (KW d l _ hd hl t4 D4).mono ?_; rintro e w5 ⟨rfl, D5, o5, t5⟩; have b5 := below_far b4 o5 hd hl; clear D4 o5)
    | (go_at_call 20; refine (KO d l _ hd hl t5 D5).mono ?_; rintro e w6 ⟨rfl, D6, o6, t6⟩; have b6 := below_far b5 o6 hd hl; clear D5 o6)
    | (go_at_call 8; refine (KT d l _ hd hl t6 D6).mono ?_; rintro e w7 ⟨rfl, D7, o7, t7⟩; have b7 := below_far b6 o7 hd hl; clear D6 o7)
    | (go_at_call 11; refine (awake_any w7 t7).mono ?_; rintro e wz ⟨rfl, bz⟩))
  all_goals (go_ret; exact ⟨rfl, b7.trans (bz.mono b7.size)⟩)
set_option maxHeartbeats 4000000 in
theorem slots_ld_mlt (a : Option Addr) (len cap : Nat) (cut : Int) (S0 : DS) (w : World) (ht : Tb w) (K17 : Calls Tryd.prog 17 #[.slice a len cap] w (Made w S0)) (c y : Int) (hlt : y < 1099511627776) (S1 S2 S3 : DS) (hcut : wrap64 ((IntKind.u64.wrap cut).tmod 4) = c) (KS : Says w 8 S0 S0 (.tuple #[.int .i64 1099511627776, .int .i64 y, .int .i64 0])) (KC : Says1 w 19 S0 S1 (.int .i64 c) (.tuple #[])) (KN : Says w 9 S1 S2 (.tuple #[.int .i64 0, .int .i64 33])) (KW : Says w 21 S2 S2 (.int .i64 0)) (KO : Says w 20 S2 S3 (.tuple #[])) (KT : Says w 8 S3 S3 (.tuple #[.int .i64 1099511627776, .int .i64 y, .int .i64 0])) : Calls Tryd.prog 6 #[.slice a len cap, .int .i64 cut] w fun e w' => e = .returned (.bool true) ∧ Below w.heap.size w w' := by
  unfold Made at *
  go_enter Tryd.func6, Tryd.ntmps6
  go_wp2_with (first
    | (go_at_call 17; refine K17.mono ?_; rintro e w1 ⟨d, rfl, hd, l, hl, D1, b1⟩; have t1 := ht.below b1)
    | (go_at_call 8; refine (KS d l _ hd hl t1 D1).mono ?_; rintro e w2 ⟨rfl, D2, o2, t2⟩; have b2 := below_far b1 o2 hd hl; clear D1 o2)
    | (go_at_call 19; refine (KC d l _ hd hl t2 D2).mono ?_; rintro e w3 ⟨rfl, D3, o3, t3⟩; have b3 := below_far b2 o3 hd hl; clear D2 o3)
    | (go_at_call 9; refine (KN d l _ hd hl t3 D3).mono ?_; rintro e w4 ⟨rfl, D4, o4, t4⟩; have b4 := below_far b3 o4 hd hl; clear D3 o4)
    | (go_at_call 21; refine (KW d l _ hd hl t4 D4).mono ?_; rintro e w5 ⟨rfl, D5, o5, t5⟩; have b5 := below_far b4 o5 hd hl; clear D4 o5)
    | (go_at_call 20; refine (KO d l _ hd hl t5 D5).mono ?_; rintro e w6 ⟨rfl, D6, o6, t6⟩; have b6 := below_far b5 o6 hd hl; clear D5 o6)
    | (go_at_call 8; refine (KT d l _ hd hl t6 D6).mono ?_; rintro e w7 ⟨rfl, D7, o7, t7⟩; have b7 := below_far b6 o7 hd hl; clear D6 o7)
    | (go_at_call 11; refine (awake_any w7 t7).mono ?_; rintro e wz ⟨rfl, bz⟩))
  all_goals (go_ret; exact ⟨rfl, b7.trans (bz.mono b7.size)⟩)
set_option maxHeartbeats 4000000 in
theorem slots_ld_mge (a : Option Addr) (len cap : Nat) (cut : Int) (S0 : DS) (w : World) (ht : Tb w) (K17 : Calls Tryd.prog 17 #[.slice a len cap] w (Made w S0)) (c x : Int) (hlt : x ≤ 1099511627776) (S1 S2 S3 : DS) (hcut : wrap64 ((IntKind.u64.wrap cut).tmod 4) = c) (KS : Says w 8 S0 S0 (.tuple #[.int .i64 x, .int .i64 1099511627776, .int .i64 0])) (KC : Says1 w 19 S0 S1 (.int .i64 c) (.tuple #[])) (KN : Says w 9 S1 S2 (.tuple #[.int .i64 0, .int .i64 33])) (KW : Says w 21 S2 S2 (.int .i64 0)) (KO : Says w 20 S2 S3 (.tuple #[])) (KT : Says w 8 S3 S3 (.tuple #[.int .i64 x, .int .i64 1099511627776, .int .i64 0])) : Calls Tryd.prog 6 #[.slice a len cap, .int .i64 cut] w fun e w' => e = .returned (.bool true) ∧ Below w.heap.size w w' := by
  unfold Made at *
  go_enter Tryd.func6, Tryd.ntmps6
  go_wp2_with (first
    | (go_at_call 17; refine K17.mono ?_; rintro e w1 ⟨d, rfl, hd, l, hl, D1, b1⟩; have t1 := ht.below b1)
    | (go_at_call 8; refine (KS d l _ hd hl t1 D1).mono ?_; rintro e w2 ⟨rfl, D2, o2, t2⟩; have b2 := below_far b1 o2 hd hl; clear D1 o2)
    | (go_at_call 19; refine (KC d l _ hd hl t2 D2).mono ?_; rintro e w3 ⟨rfl, D3, o3, t3⟩; have b3 := below_far b2 o3 hd hl; clear D2 o3)
    | (go_at_call 9; refine (KN d l _ hd hl t3 D3).mono ?_; rintro e w4 ⟨rfl, D4, o4, t4⟩; have b4 := below_far b3 o4 hd hl; clear D3 o4)
    | (go_at_call 21; refine (KW d l _ hd hl t4 D4).mono ?_; rintro e w5 ⟨rfl, D5, o5, t5⟩; have b5 := below_far b4 o5 hd hl; clear D4 o5)
    | (go_at_call 20; refine (KO d l _ hd hl t5 D5).mono ?_; rintro e w6 ⟨rfl, D6, o6, t6⟩; have b6 := below_far b5 o6 hd hl; clear D5 o6)
    | (go_at_call 8; refine (KT d l _ hd hl t6 D6).mono ?_; rintro e w7 ⟨rfl, D7, o7, t7⟩; have b7 := below_far b6 o7 hd hl; clear D6 o7)
    | (go_at_call 11; refine (awake_any w7 t7).mono ?_; rintro e wz ⟨rfl, bz⟩))
  all_goals (go_ret; exact ⟨rfl, b7.trans (bz.mono b7.size)⟩)
set_option maxHeartbeats 4000000 in
theorem slots_nw_down (a : Option Addr) (len cap : Nat) (cut : Int) (S0 : DS) (w : World) (ht : Tb w) (K17 : Calls Tryd.prog 17 #[.slice a len cap] w fun e w' => e = .returned (.pointer none) ∧ w' = w) (K18 : Calls Tryd.prog 18 #[.int .i64 4] w (Made w S0)) (C : Int) (hC : (C != 0) = true) (KS : Says w 8 S0 S0 (.tuple #[.int .i64 0, .int .i64 0, .int .i64 C])) : Calls Tryd.prog 6 #[.slice a len cap, .int .i64 cut] w fun e w' => e = .returned (.bool true) ∧ Below w.heap.size w w' := by
  unfold Made at *
  go_enter Tryd.func6, Tryd.ntmps6
  go_wp2_with (first
    | (go_at_call 17; refine K17.mono ?_; rintro e w0 ⟨rfl, hw⟩; rw [hw]; clear hw)
    | (go_at_call 18; refine K18.mono ?_; rintro e w1 ⟨d, rfl, hd, l, hl, D1, b1⟩; have t1 := ht.below b1)
    | (go_at_call 8; refine (KS d l _ hd hl t1 D1).mono ?_; rintro e w2 ⟨rfl, D2, o2, t2⟩; have b2 := below_far b1 o2 hd hl; clear D1 o2)
    | (go_at_call 11; refine (awake_any w2 t2).mono ?_; rintro e wz ⟨rfl, bz⟩))
  all_goals (go_ret; exact ⟨rfl, b2.trans (bz.mono b2.size)⟩)
set_option maxHeartbeats 4000000 in
theorem slots_nw_ge0 (a : Option Addr) (len cap : Nat) (cut : Int) (S0 : DS) (w : World) (ht : Tb w) (K17 : Calls Tryd.prog 17 #[.slice a len cap] w fun e w' => e = .returned (.pointer none) ∧ w' = w) (K18 : Calls Tryd.prog 18 #[.int .i64 4] w (Made w S0)) (x y z : Int) (hlt : x ≤ y) (hM : y < 1099511627776) (S1 S2 S3 : DS) (hcut : wrap64 ((IntKind.u64.wrap cut).tmod 4) = 0) (KS : Says w 8 S0 S0 (.tuple #[.int .i64 x, .int .i64 y, .int .i64 0])) (KC : Says1 w 19 S0 S1 (.int .i64 0) (.tuple #[])) (KN : Says w 9 S1 S2 (.tuple #[.int .i64 0, .int .i64 32])) (KW : Says w 21 S2 S2 (.int .i64 0)) (KO : Says w 20 S2 S3 (.tuple #[])) (KT : Says w 8 S3 S3 (.tuple #[.int .i64 z, .int .i64 y, .int .i64 0])) : Calls Tryd.prog 6 #[.slice a len cap, .int .i64 cut] w fun e w' => e = .returned (.bool true) ∧ Below w.heap.size w w' := by
  unfold Made at *
  go_enter Tryd.func6, Tryd.ntmps6
  go_wp2_with (first
    | (go_at_call 17; refine K17.mono ?_; rintro e w0 ⟨rfl, hw⟩; rw [hw]; clear hw)
    | (go_at_call 18; refine K18.mono ?_; rintro e w1 ⟨d, rfl, hd, l, hl, D1, b1⟩; have t1 := ht.below b1)
    | (go_at_call 8; refine (KS d l _ hd hl t1 D1).mono ?_; rintro e w2 ⟨rfl, D2, o2, t2⟩; have b2 := below_far b1 o2 hd hl; clear D1 o2)
    | (go_at_call 19; refine (KC d l _ hd hl t2 D2).mono ?_; rintro e w3 ⟨rfl, D3, o3, t3⟩; have b3 := below_far b2 o3 hd hl; clear D2 o3)
    | (go_at_call 9; refine (KN d l _ hd hl t3 D3).mono ?_; rintro e w4 ⟨rfl, D4, o4, t4⟩; have b4 := below_far b3 o4 hd hl; clear D3 o4)
    | (go_at_call 21; refine (KW d l _ hd hl t4 D4).mono ?_; rintro e w5 ⟨rfl, D5, o5, t5⟩; have b5 := below_far b4 o5 hd hl; clear D4 o5)
    | (go_at_call 20; refine (KO d l _ hd hl t5 D5).mono ?_; rintro e w6 ⟨rfl, D6, o6, t6⟩; have b6 := below_far b5 o6 hd hl; clear D5 o6)
    | (go_at_call 8; refine (KT d l _ hd hl t6 D6).mono ?_; rintro e w7 ⟨rfl, D7, o7, t7⟩; have b7 := below_far b6 o7 hd hl; clear D6 o7)
    | (go_at_call 11; refine (awake_any w7 t7).mono ?_; rintro e wz ⟨rfl, bz⟩))
  all_goals (go_ret; exact ⟨rfl, b7.trans (bz.mono b7.size)⟩)
set_option maxHeartbeats 4000000 in
theorem slots_nw_ge1 (a : Option Addr) (len cap : Nat) (cut : Int) (S0 : DS) (w : World) (ht : Tb w) (K17 : Calls Tryd.prog 17 #[.slice a len cap] w fun e w' => e = .returned (.pointer none) ∧ w' = w) (K18 : Calls Tryd.prog 18 #[.int .i64 4] w (Made w S0)) (x y z : Int) (hlt : x ≤ y) (hM : y < 1099511627776) (S1 S2 S3 : DS) (hcut : wrap64 ((IntKind.u64.wrap cut).tmod 4) = 1) (KS : Says w 8 S0 S0 (.tuple #[.int .i64 x, .int .i64 y, .int .i64 0])) (KC : Says1 w 19 S0 S1 (.int .i64 1) (.tuple #[])) (KN : Says w 9 S1 S2 (.tuple #[.int .i64 0, .int .i64 32])) (KW : Says w 21 S2 S2 (.int .i64 1)) (KO : Says w 20 S2 S3 (.tuple #[])) (KT : Says w 8 S3 S3 (.tuple #[.int .i64 z, .int .i64 y, .int .i64 0])) : Calls Tryd.prog 6 #[.slice a len cap, .int .i64 cut] w fun e w' => e = .returned (.bool true) ∧ Below w.heap.size w w' := by
  unfold Made at *
  go_enter Tryd.func6, Tryd.ntmps6
  go_wp2_with (first
    | (go_at_call 17; refine K17.mono ?_; rintro e w0 ⟨rfl, hw⟩; rw [hw]; clear hw)
    | (go_at_call 18; refine K18.mono ?_; rintro e w1 ⟨d, rfl, hd, l, hl, D1, b1⟩; have t1 := ht.below b1)
    | (go_at_call 8; refine (KS d l _ hd hl t1 D1).mono ?_; rintro e w2 ⟨rfl, D2, o2, t2⟩; have b2 := below_far b1 o2 hd hl; clear D1 o2)
    | (go_at_call 19; refine (KC d l _ hd hl t2 D2).mono ?_; rintro e w3 ⟨rfl, D3, o3, t3⟩; have b3 := below_far b2 o3 hd hl; clear D2 o3)
    | (go_at_call 9; refine (KN d l _ hd hl t3 D3).mono ?_; rintro e w4 ⟨rfl, D4, o4, t4⟩; have b4 := below_far b3 o4 hd hl; clear D3 o4)
    | (go_at_call 21; refine (KW d l _ hd hl t4 D4).mono ?_; rintro e w5 ⟨rfl, D5, o5, t5⟩; have b5 := below_far b4 o5 hd hl; clear D4 o5)
    | (go_at_call 20; refine (KO d l _ hd hl t5 D5).mono ?_; rintro e w6 ⟨rfl, D6, o6, t6⟩; have b6 := below_far b5 o6 hd hl; clear D5 o6)
    | (go_at_call 8; refine (KT d l _ hd hl t6 D6).mono ?_; rintro e w7 ⟨rfl, D7, o7, t7⟩; have b7 := below_far b6 o7 hd hl; clear D6 o7)
    | (go_at_call 11; refine (awake_any w7 t7).mono ?_; rintro e wz ⟨rfl, bz⟩))
  all_goals (go_ret; exact ⟨rfl, b7.trans (bz.mono b7.size)⟩)
set_option maxHeartbeats 4000000 in
theorem slots_nw_ge2 (a : Option Addr) (len cap : Nat) (cut : Int) (S0 : DS) (w : World) (ht : Tb w) (K17 : Calls Tryd.prog 17 #[.slice a len cap] w fun e w' => e = .returned (.pointer none) ∧ w' = w) (K18 : Calls Tryd.prog 18 #[.int .i64 4] w (Made w S0)) (x y n : Int) (hlt : x ≤ y) (hM : y < 1099511627776) (S1 S2 S3 : DS) (hcut : wrap64 ((IntKind.u64.wrap cut).tmod 4) = 2) (KS : Says w 8 S0 S0 (.tuple #[.int .i64 x, .int .i64 y, .int .i64 0])) (KC : Says1 w 19 S0 S1 (.int .i64 2) (.tuple #[])) (KN : Says w 9 S1 S2 (.tuple #[.int .i64 n, .int .i64 0])) (KW : Says w 21 S2 S2 (.int .i64 2)) (KO : Says w 20 S2 S3 (.tuple #[])) (KT : Says w 8 S3 S3 (.tuple #[.int .i64 n, .int .i64 y, .int .i64 0])) : Calls Tryd.prog 6 #[.slice a len cap, .int .i64 cut] w fun e w' => e = .returned (.bool true) ∧ Below w.heap.size w w' := by
  unfold Made at *
  go_enter Tryd.func6, Tryd.ntmps6
  go_wp2_with (first
    | (go_at_call 17; refine K17.mono ?_; rintro e w0 ⟨rfl, hw⟩; rw [hw]; clear hw)
    | (go_at_call 18; refine K18.mono ?_; rintro e w1 ⟨d, rfl, hd, l, hl, D1, b1⟩; have t1 := ht.below b1)
    | (go_at_call 8; refine (KS d l _ hd hl t1 D1).mono ?_; rintro e w2 ⟨rfl, D2, o2, t2⟩; have b2 := below_far b1 o2 hd hl; clear D1 o2)
    | (go_at_call 19; refine (KC d l _ hd hl t2 D2).mono ?_; rintro e w3 ⟨rfl, D3, o3, t3⟩; have b3 := below_far b2 o3 hd hl; clear D2 o3)
    | (go_at_call 9; refine (KN d l _ hd hl t3 D3).mono ?_; rintro e w4 ⟨rfl, D4, o4, t4⟩; have b4 := below_far b3 o4 hd hl; clear D3 o4)
    | (go_at_call 21; refine (KW d l _ hd hl t4 D4).mono ?_; rintro e w5 ⟨rfl, D5, o5, t5⟩; have b5 := below_far b4 o5 hd hl; clear D4 o5)
    | (go_at_call 20; refine (KO d l _ hd hl t5 D5).mono ?_; rintro e w6 ⟨rfl, D6, o6, t6⟩; have b6 := below_far b5 o6 hd hl; clear D5 o6)
    | (go_at_call 8; refine (KT d l _ hd hl t6 D6).mono ?_; rintro e w7 ⟨rfl, D7, o7, t7⟩; have b7 := below_far b6 o7 hd hl; clear D6 o7)
    | (go_at_call 11; refine (awake_any w7 t7).mono ?_; rintro e wz ⟨rfl, bz⟩))
  all_goals (go_ret; exact ⟨rfl, b7.trans (bz.mono b7.size)⟩)
set_option maxHeartbeats 4000000 in
theorem slots_nw_ge3 (a : Option Addr) (len cap : Nat) (cut : Int) (S0 : DS) (w : World) (ht : Tb w) (K17 : Calls Tryd.prog 17 #[.slice a len cap] w fun e w' => e = .returned (.pointer none) ∧ w' = w) (K18 : Calls Tryd.prog 18 #[.int .i64 4] w (Made w S0)) (x y n : Int) (hlt : x ≤ y) (hM : y < 1099511627776) (S1 S2 S3 : DS) (hcut : wrap64 ((IntKind.u64.wrap cut).tmod 4) = 3) (KS : Says w 8 S0 S0 (.tuple #[.int .i64 x, .int .i64 y, .int .i64 0])) (KC : Says1 w 19 S0 S1 (.int .i64 3) (.tuple #[])) (KN : Says w 9 S1 S2 (.tuple #[.int .i64 n, .int .i64 0])) (KW : Says w 21 S2 S2 (.int .i64 2)) (KO : Says w 20 S2 S3 (.tuple #[])) (KT : Says w 8 S3 S3 (.tuple #[.int .i64 n, .int .i64 y, .int .i64 0])) : Calls Tryd.prog 6 #[.slice a len cap, .int .i64 cut] w fun e w' => e = .returned (.bool true) ∧ Below w.heap.size w w' := by
  unfold Made at *
  go_enter Tryd.func6, Tryd.ntmps6
  go_wp2_with (first
    | (go_at_call 17; refine K17.mono ?_; rintro e w0 ⟨rfl, hw⟩; rw [hw]; clear hw)
    | (go_at_call 18; refine K18.mono ?_; rintro e w1 ⟨d, rfl, hd, l, hl, D1, b1⟩; have t1 := ht.below b1)
    | (go_at_call 8; refine (KS d l _ hd hl t1 D1).mono ?_; rintro e w2 ⟨rfl, D2, o2, t2⟩; have b2 := below_far b1 o2 hd hl; clear D1 o2)
    | (go_at_call 19; refine (KC d l _ hd hl t2 D2).mono ?_; rintro e w3 ⟨rfl, D3, o3, t3⟩; have b3 := below_far b2 o3 hd hl; clear D2 o3)
    | (go_at_call 9; refine (KN d l _ hd hl t3 D3).mono ?_; rintro e w4 ⟨rfl, D4, o4, t4⟩; have b4 := below_far b3 o4 hd hl; clear D3 o4)
    | (go_at_call 21; refine (KW d l _ hd hl t4 D4).mono ?_; rintro e w5 ⟨rfl, D5, o5, t5⟩; have b5 := below_far b4 o5 hd hl; clear D4 o5)
    | (go_at_call 20; refine (KO d l _ hd hl t5 D5).mono ?_; rintro e w6 ⟨rfl, D6, o6, t6⟩; have b6 := below_far b5 o6 hd hl; clear D5 o6)
    | (go_at_call 8; refine (KT d l _ hd hl t6 D6).mono ?_; rintro e w7 ⟨rfl, D7, o7, t7⟩; have b7 := below_far b6 o7 hd hl; clear D6 o7)
    | (go_at_call 11; refine (awake_any w7 t7).mono ?_; rintro e wz ⟨rfl, bz⟩))
  all_goals (go_ret; exact ⟨rfl, b7.trans (bz.mono b7.size)⟩)
end Go.Proofs.YtaacggbfoejjhaaDoor
