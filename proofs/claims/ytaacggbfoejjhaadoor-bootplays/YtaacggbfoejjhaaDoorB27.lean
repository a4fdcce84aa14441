/-
  The law's helper 'act': a call, done to both: what is seen is the same.
-/
import Derived.Test.YtaacggbfoejjhaaDoorB26
import Derived.Test.YtaacggbfoejjhaaDoorBIn
namespace Go.Proofs.YtaacggbfoejjhaaDoor
open Go.ChangeShapes Go.WideShapes Go.ChangeAt Go.RowKit
open D
set_option linter.unusedVariables false
set_option linter.unusedSimpArgs false

abbrev act4 (kd nn sc : Int) (a : Option Addr) (n c : Nat) : Value := .agg #[.int .i64 kd, .int .i64 nn, .int .i64 sc, .slice a n c]
abbrev actCells (kd nn sc : Int) (a : Option Addr) (n c : Nat) : Array Value := #[.int .i64 kd, .int .i64 nn, .int .i64 sc, .slice a n c]
/-- What a call done to both leaves. -/
def Did (w : World) (d l r m : Nat) (e : Ending) (w' : World) : Prop := e = .returned (.bool true) ∧ (∃ S' T', Bth w' d l r m S' T') ∧ Only (in4 d l r m) w w'
def bargs (d r : Nat) (v : Value) : Array Value := #[.pointer (some ⟨d, 0, none⟩), .pointer (some ⟨r, 0, none⟩), v]
theorem box_here (w : World) (cs : Array Value) : (w.alloc (.cells cs 36)).heap[w.heap.size]? = some (.cells cs 36 (0, 0)) := World.alloc_heap_new _ _
theorem box_only {C : Nat → Prop} {w w' : World} {g : Nat} {o : Obj} (h : w.heap[g]? = some o) (k : Only C w w') (hC : ¬ C g) : w'.heap[g]? = some o := (k.block g (row_lt h) hC).trans h
theorem bth_alloc {w : World} {d l r m : Nat} {S T : DS} (B : Bth w d l r m S T) (o : Obj) : Bth (w.alloc o) d l r m S T := B.below ((Below.refl _ _).alloc (Nat.le_refl _) o)
structure Apart (w : World) (d l r m : Nat) : Prop where
  d : d < w.heap.size
  l : l < w.heap.size
  r : r < w.heap.size
  m : m < w.heap.size
theorem bth_apart {w : World} {d l r m : Nat} {S T : DS} (B : Bth w d l r m S T) : Apart w d l r m := ⟨row_lt B.p.obj, row_lt B.p.lst, row_lt B.q.obj, row_lt B.q.byt⟩
set_option maxRecDepth 10000 in
set_option maxHeartbeats 4000000 in
theorem act_none (d l r m : Nat) (S T : DS) (w : World) (B : Bth w d l r m S T) (ht : Tb w) (nn sc : Int) (a : Option Addr) (n c : Nat) (kd : Int) (h1 : (kd == 1) = false) (h2 : (kd == 2) = false) (h3 : (kd == 3) = false) (h4 : (kd == 4) = false) (h5 : (kd == 5) = false) : Calls Tryd.prog 12 (bargs d r (act4 kd nn sc a n c)) w (Did w d l r m) := by
  unfold bargs Did
  have AP : Hid (Apart w d l r m) := bth_apart B
  have b0 : Below w.heap.size w (w.alloc (.cells (actCells kd nn sc a n c) 36)) := (Below.refl _ _).alloc (Nat.le_refl _) _
  have o0 : Only (in4 d l r m) w (w.alloc (.cells (actCells kd nn sc a n c) 36)) := Only.of_below b0
  have B0 := B.below b0
  have t0 := ht.below b0
  go_enter Tryd.func12, Tryd.ntmps12
  go_wp2
  go_ret
  exact ⟨rfl, ⟨S, T, B0⟩, o0⟩
set_option maxRecDepth 10000 in
set_option maxHeartbeats 4000000 in
theorem act_next (d l r m : Nat) (S T : DS) (w : World) (B : Bth w d l r m S T) (ht : Tb w) (nn sc : Int) (a : Option Addr) (n c : Nat)  : Calls Tryd.prog 12 (bargs d r (act4 1 nn sc a n c)) w (Did w d l r m) := by
  unfold bargs Did
  have AP : Hid (Apart w d l r m) := bth_apart B
  have b0 : Below w.heap.size w (w.alloc (.cells (actCells 1 nn sc a n c) 36)) := (Below.refl _ _).alloc (Nat.le_refl _) _
  have o0 : Only (in4 d l r m) w (w.alloc (.cells (actCells 1 nn sc a n c) 36)) := Only.of_below b0
  have B0 := B.below b0
  have t0 := ht.below b0
  obtain ⟨n1, n2, n3⟩ := sim_next B.sim
  have K1 := next_any d l S _ B0.p t0
  have KQ := fun (W : World) (D : DkR W r m T) => rnext_any r m T W D
  rw [n1, n2] at KQ
  go_enter Tryd.func12, Tryd.ntmps12
  go_wp2_with (first
    | (go_at_call 9; refine K1.mono ?_; rintro e w1 ⟨rfl, D1, o1⟩; have q1 := keepQ B0.q B.dr B.dm B.lr B.lm o1)
    | (go_at_call 30; refine (KQ w1 q1).mono ?_; rintro e w2 ⟨rfl, Q2, o2⟩; have p2 := keepP D1 B.dr B.dm B.lr B.lm o2))
  go_ret
  exact ⟨rfl, ⟨_, _, p2, Q2, n3, B.dr, B.dm, B.lr, B.lm⟩, (o0.trans (o1.p4 r m)).trans (o2.q4 d l)⟩
set_option maxRecDepth 10000 in
set_option maxHeartbeats 4000000 in
theorem act_cut (d l r m : Nat) (S T : DS) (w : World) (B : Bth w d l r m S T) (ht : Tb w) (nn sc : Int) (a : Option Addr) (n c : Nat) (hn : nn ≤ 9223372036854775807) : Calls Tryd.prog 12 (bargs d r (act4 2 nn sc a n c)) w (Did w d l r m) := by
  unfold bargs Did
  have AP : Hid (Apart w d l r m) := bth_apart B
  have b0 : Below w.heap.size w (w.alloc (.cells (actCells 2 nn sc a n c) 36)) := (Below.refl _ _).alloc (Nat.le_refl _) _
  have o0 : Only (in4 d l r m) w (w.alloc (.cells (actCells 2 nn sc a n c) 36)) := Only.of_below b0
  have B0 := B.below b0
  have t0 := ht.below b0
  have X0 := box_here w (actCells 2 nn sc a n c)
  have K1 := cut_any d l S nn _ B0.p hn
  have KQ := fun (W : World) (D : DkR W r m T) => rcut_any r m T nn W D hn
  go_enter Tryd.func12, Tryd.ntmps12
  go_wp2_with (first
    | (go_at_call 19; refine K1.mono ?_; rintro e w1 ⟨rfl, D1, o1'⟩; have o1 := o1'.two l; have q1 := keepQ B0.q B.dr B.dm B.lr B.lm o1; have X1 := box_only X0 o1 (by have := AP.out.d; have := AP.out.l; rintro (e | e) <;> omega); have c1 : w1.cell? ⟨w.heap.size, 1, none⟩ = some (.int .i64 nn) := row_cell X1 1 _ rfl)
    | (go_at_call 31; refine (KQ w1 q1).mono ?_; rintro e w2 ⟨rfl, Q2, o2'⟩; have o2 := o2'.two m; have p2 := keepP D1 B.dr B.dm B.lr B.lm o2))
  go_ret
  exact ⟨rfl, ⟨_, _, p2, Q2, B.sim.cut nn, B.dr, B.dm, B.lr, B.lm⟩, (o0.trans (o1.p4 r m)).trans (o2.q4 d l)⟩
set_option maxRecDepth 10000 in
set_option maxHeartbeats 4000000 in
theorem act_on (d l r m : Nat) (S T : DS) (w : World) (B : Bth w d l r m S T) (ht : Tb w) (nn sc : Int) (a : Option Addr) (n c : Nat)  : Calls Tryd.prog 12 (bargs d r (act4 3 nn sc a n c)) w (Did w d l r m) := by
  unfold bargs Did
  have AP : Hid (Apart w d l r m) := bth_apart B
  have b0 : Below w.heap.size w (w.alloc (.cells (actCells 3 nn sc a n c) 36)) := (Below.refl _ _).alloc (Nat.le_refl _) _
  have o0 : Only (in4 d l r m) w (w.alloc (.cells (actCells 3 nn sc a n c) 36)) := Only.of_below b0
  have B0 := B.below b0
  have t0 := ht.below b0
  have K1 := on_any d l S _ B0.p
  have KQ := fun (W : World) (D : DkR W r m T) => ron_any r m T W D
  go_enter Tryd.func12, Tryd.ntmps12
  go_wp2_with (first
    | (go_at_call 20; refine K1.mono ?_; rintro e w1 ⟨rfl, D1, o1'⟩; have o1 := o1'.two l; have q1 := keepQ B0.q B.dr B.dm B.lr B.lm o1)
    | (go_at_call 32; refine (KQ w1 q1).mono ?_; rintro e w2 ⟨rfl, Q2, o2'⟩; have o2 := o2'.two m; have p2 := keepP D1 B.dr B.dm B.lr B.lm o2))
  go_ret
  exact ⟨rfl, ⟨_, _, p2, Q2, B.sim.on, B.dr, B.dm, B.lr, B.lm⟩, (o0.trans (o1.p4 r m)).trans (o2.q4 d l)⟩
set_option maxRecDepth 10000 in
set_option maxHeartbeats 4000000 in
theorem act_slotslt (d l r m : Nat) (S T : DS) (w : World) (B : Bth w d l r m S T) (ht : Tb w) (nn sc : Int) (a : Option Addr) (n c : Nat) (hlt : sl1 S < sl0 S) : Calls Tryd.prog 12 (bargs d r (act4 4 nn sc a n c)) w (Did w d l r m) := by
  unfold bargs Did
  have AP : Hid (Apart w d l r m) := bth_apart B
  have b0 : Below w.heap.size w (w.alloc (.cells (actCells 4 nn sc a n c) 36)) := (Below.refl _ _).alloc (Nat.le_refl _) _
  have o0 : Only (in4 d l r m) w (w.alloc (.cells (actCells 4 nn sc a n c) 36)) := Only.of_below b0
  have B0 := B.below b0
  have t0 := ht.below b0
  obtain ⟨e1, e2⟩ := sim_ld B.sim
  have K1 := slots_dk d l S _ B0.p t0
  have KQ := fun (W : World) (D : DkR W r m T) => rslots_any r m T W D
  have KL := fun (W : World) (D : DkP W d l S) (t : Tb W) => last_dk d l S W D t
  have es0 : sl0 T = sl0 S := by unfold sl0; rw [e2]
  have es1 : sl1 T = sl1 S := by unfold sl1; rw [e2]
  rw [es0, es1, e1] at KQ
  have em : ((mx (ldV S) : Nat) : Int) = ((sl0 S : Nat) : Int) := by
    have : mx (ldV S) = max (sl0 S) (sl1 S) := rfl
    rw [this]; omega
  rw [em] at KL
  have hlI : ((sl1 S : Nat) : Int) < ((sl0 S : Nat) : Int) := by omega
  generalize ((sl0 S : Nat) : Int) = x at *
  generalize ((sl1 S : Nat) : Int) = y at *
  generalize ldC S = C at *
  clear em es0 es1 e1 e2 hlt
  go_enter Tryd.func12, Tryd.ntmps12
  go_wp2_with (first
    | (go_at_call 8; refine K1.mono ?_; rintro e w1 ⟨rfl, b1⟩; have B1 := B0.below b1; have t1 := t0.below b1)
    | (go_at_call 33; refine (KQ w1 B1.q).mono ?_; rintro e w2 ⟨rfl, b2⟩; have B2 := B1.below b2; have t2 := t1.below b2)
    | (go_at_call 10; refine (KL w2 B2.p t2).mono ?_; rintro e w3 ⟨rfl, b3⟩; have B3 := B2.below b3))
  all_goals (go_ret; exact ⟨rfl, ⟨S, T, B3⟩, ((o0.trans (Only.of_below b1)).trans (Only.of_below b2)).trans (Only.of_below b3)⟩)
set_option maxRecDepth 10000 in
set_option maxHeartbeats 4000000 in
theorem act_slotsge (d l r m : Nat) (S T : DS) (w : World) (B : Bth w d l r m S T) (ht : Tb w) (nn sc : Int) (a : Option Addr) (n c : Nat) (hlt : sl0 S ≤ sl1 S) : Calls Tryd.prog 12 (bargs d r (act4 4 nn sc a n c)) w (Did w d l r m) := by
  unfold bargs Did
  have AP : Hid (Apart w d l r m) := bth_apart B
  have b0 : Below w.heap.size w (w.alloc (.cells (actCells 4 nn sc a n c) 36)) := (Below.refl _ _).alloc (Nat.le_refl _) _
  have o0 : Only (in4 d l r m) w (w.alloc (.cells (actCells 4 nn sc a n c) 36)) := Only.of_below b0
  have B0 := B.below b0
  have t0 := ht.below b0
  obtain ⟨e1, e2⟩ := sim_ld B.sim
  have K1 := slots_dk d l S _ B0.p t0
  have KQ := fun (W : World) (D : DkR W r m T) => rslots_any r m T W D
  have KL := fun (W : World) (D : DkP W d l S) (t : Tb W) => last_dk d l S W D t
  have es0 : sl0 T = sl0 S := by unfold sl0; rw [e2]
  have es1 : sl1 T = sl1 S := by unfold sl1; rw [e2]
  rw [es0, es1, e1] at KQ
  have em : ((mx (ldV S) : Nat) : Int) = ((sl1 S : Nat) : Int) := by
    have : mx (ldV S) = max (sl0 S) (sl1 S) := rfl
    rw [this]; omega
  rw [em] at KL
  have hlI : ((sl0 S : Nat) : Int) ≤ ((sl1 S : Nat) : Int) := by omega
  generalize ((sl0 S : Nat) : Int) = x at *
  generalize ((sl1 S : Nat) : Int) = y at *
  generalize ldC S = C at *
  clear em es0 es1 e1 e2 hlt
  go_enter Tryd.func12, Tryd.ntmps12
  go_wp2_with (first
    | (go_at_call 8; refine K1.mono ?_; rintro e w1 ⟨rfl, b1⟩; have B1 := B0.below b1; have t1 := t0.below b1)
    | (go_at_call 33; refine (KQ w1 B1.q).mono ?_; rintro e w2 ⟨rfl, b2⟩; have B2 := B1.below b2; have t2 := t1.below b2)
    | (go_at_call 10; refine (KL w2 B2.p t2).mono ?_; rintro e w3 ⟨rfl, b3⟩; have B3 := B2.below b3))
  all_goals (go_ret; exact ⟨rfl, ⟨S, T, B3⟩, ((o0.trans (Only.of_below b1)).trans (Only.of_below b2)).trans (Only.of_below b3)⟩)
set_option maxRecDepth 10000 in
set_option maxHeartbeats 8000000 in
theorem act_write (d l r m : Nat) (S T : DS) (w : World) (B : Bth w d l r m S T) (ht : Tb w) (nn sc : Int) (a : Option Addr) (n c : Nat) (zs : List Int) (KW : ∀ W, Only (in4 d l r m) w W → DkP W d l S → Calls Tryd.prog 34 #[.pointer (some ⟨d, 0, none⟩), .int .i64 sc, .slice a n c] W fun e w' => e = .returned (.int .i64 (wrC S sc n)) ∧ DkP w' d l (wrS S sc n zs) ∧ Only (at2 d l) W w') (KR : ∀ W, Only (in4 d l r m) w W → DkR W r m T → Calls Tryd.prog 35 #[.pointer (some ⟨r, 0, none⟩), .int .i64 sc, .slice a n c] W fun e w' => e = .returned (.int .i64 (wrC T sc n)) ∧ DkR w' r m (rwS T sc n zs) ∧ Only (at2 r m) W w') : Calls Tryd.prog 12 (bargs d r (act4 5 nn sc a n c)) w (Did w d l r m) := by
  unfold bargs Did
  have AP : Hid (Apart w d l r m) := bth_apart B
  have b0 : Below w.heap.size w (w.alloc (.cells (actCells 5 nn sc a n c) 36)) := (Below.refl _ _).alloc (Nat.le_refl _) _
  have o0 : Only (in4 d l r m) w (w.alloc (.cells (actCells 5 nn sc a n c) 36)) := Only.of_below b0
  have B0 := B.below b0
  have t0 := ht.below b0
  have X0 := box_here w (actCells 5 nn sc a n c)
  obtain ⟨e1, e2⟩ := sim_wr B.sim sc n zs
  have hk : ¬ in4 d l r m w.heap.size := by have := AP.out.d; have := AP.out.l; have := AP.out.r; have := AP.out.m; rintro (e | e | e | e) <;> omega
  go_enter Tryd.func12, Tryd.ntmps12
  go_wp2
  refine wp_region_any (by kernel_rfl) ?_
  change wpAny _ _ _ _ _ _ _ (World.drew _)
  generalize hwd : World.drew _ = wd
  have Bd : Bth wd d l r m S T := by rw [← hwd]; exact ⟨B0.p.of_blocks rfl rfl, B0.q.of_blocks rfl rfl, B0.sim, B0.dr, B0.dm, B0.lr, B0.lm⟩
  have od : Only (in4 d l r m) w wd := by rw [← hwd]; exact o0.drew
  have Xd : wd.heap[w.heap.size]? = some (.cells (actCells 5 nn sc a n c) 36 (0, 0)) := by rw [← hwd]; exact X0
  clear hwd B0 o0 X0 t0
  have XC : ∀ X, Only (in4 d l r m) wd X → X.cell? ⟨w.heap.size, 2, none⟩ = some (.int .i64 sc) ∧ X.cell? ⟨w.heap.size, 3, none⟩ = some (.slice a n c) := fun X hX => ⟨row_cell (box_only Xd hX hk) 2 _ rfl, row_cell (box_only Xd hX hk) 3 _ rfl⟩
  refine wpAny_narrow (fun X => Only (in4 d l r m) wd X) _ _ _ _ ?_
  refine anyH_take 0 103 (.pointer (some ⟨d, 0, none⟩)) rfl rfl (by kernel_rfl) (by kernel_rfl) (by kernel_rfl) (fun _ _ _ h => h) (Or.inl ⟨by rfl, by intro X hSw; go_simp⟩) (Only.refl _ _) ?_
  try simp only [Act.put, List.setIfInBounds_toArray, List.set_cons_zero, List.set_cons_succ]
  refine anyH_take 1 104 (.pointer (some ⟨w.heap.size, 2, none⟩)) rfl rfl (by kernel_rfl) (by kernel_rfl) (by kernel_rfl) (fun _ _ _ h => h) (Or.inl ⟨by rfl, by intro X hSw; go_simp⟩) (Only.refl _ _) ?_
  try simp only [Act.put, List.setIfInBounds_toArray, List.set_cons_zero, List.set_cons_succ]
  refine anyH_take 2 105 (.int .i64 sc) rfl rfl (by kernel_rfl) (by kernel_rfl) (by kernel_rfl) (fun _ _ _ h => h) (Or.inl ⟨by rfl, by intro X hSw; obtain ⟨q2, q3⟩ := XC X hSw; go_simp⟩) (Only.refl _ _) ?_
  try simp only [Act.put, List.setIfInBounds_toArray, List.set_cons_zero, List.set_cons_succ]
  refine anyH_take 3 106 (.pointer (some ⟨w.heap.size, 3, none⟩)) rfl rfl (by kernel_rfl) (by kernel_rfl) (by kernel_rfl) (fun _ _ _ h => h) (Or.inl ⟨by rfl, by intro X hSw; go_simp⟩) (Only.refl _ _) ?_
  try simp only [Act.put, List.setIfInBounds_toArray, List.set_cons_zero, List.set_cons_succ]
  refine anyH_take 4 107 (.slice a n c) rfl rfl (by kernel_rfl) (by kernel_rfl) (by kernel_rfl) (fun _ _ _ h => h) (Or.inl ⟨by rfl, by intro X hSw; obtain ⟨q2, q3⟩ := XC X hSw; go_simp⟩) (Only.refl _ _) ?_
  try simp only [Act.put, List.setIfInBounds_toArray, List.set_cons_zero, List.set_cons_succ]
  refine anyH_take 6 109 (.pointer (some ⟨r, 0, none⟩)) rfl rfl (by kernel_rfl) (by kernel_rfl) (by kernel_rfl) (fun _ _ _ h => h) (Or.inl ⟨by rfl, by intro X hSw; go_simp⟩) (Only.refl _ _) ?_
  try simp only [Act.put, List.setIfInBounds_toArray, List.set_cons_zero, List.set_cons_succ]
  refine anyH_take 7 110 (.pointer (some ⟨w.heap.size, 2, none⟩)) rfl rfl (by kernel_rfl) (by kernel_rfl) (by kernel_rfl) (fun _ _ _ h => h) (Or.inl ⟨by rfl, by intro X hSw; go_simp⟩) (Only.refl _ _) ?_
  try simp only [Act.put, List.setIfInBounds_toArray, List.set_cons_zero, List.set_cons_succ]
  refine anyH_take 8 111 (.int .i64 sc) rfl rfl (by kernel_rfl) (by kernel_rfl) (by kernel_rfl) (fun _ _ _ h => h) (Or.inl ⟨by rfl, by intro X hSw; obtain ⟨q2, q3⟩ := XC X hSw; go_simp⟩) (Only.refl _ _) ?_
  try simp only [Act.put, List.setIfInBounds_toArray, List.set_cons_zero, List.set_cons_succ]
  refine anyH_take 9 112 (.pointer (some ⟨w.heap.size, 3, none⟩)) rfl rfl (by kernel_rfl) (by kernel_rfl) (by kernel_rfl) (fun _ _ _ h => h) (Or.inl ⟨by rfl, by intro X hSw; go_simp⟩) (Only.refl _ _) ?_
  try simp only [Act.put, List.setIfInBounds_toArray, List.set_cons_zero, List.set_cons_succ]
  refine anyH_take 10 113 (.slice a n c) rfl rfl (by kernel_rfl) (by kernel_rfl) (by kernel_rfl) (fun _ _ _ h => h) (Or.inl ⟨by rfl, by intro X hSw; obtain ⟨q2, q3⟩ := XC X hSw; go_simp⟩) (Only.refl _ _) ?_
  try simp only [Act.put, List.setIfInBounds_toArray, List.set_cons_zero, List.set_cons_succ]
  refine wpAnyH_ready (rs := [5]) (by kernel_rfl) (by simp) ?_
  refine AllReadyH.cons rfl (fun K hK => ?_) AllReadyH.nil
  rw [if_pos (by rfl)]
  simp only [List.getElem_toArray, List.getElem_cons_succ, List.getElem_cons_zero]
  go_wp2_with (go_at_call 34; refine (KW wd od Bd.p).mono ?_; rintro e w1 ⟨rfl, D1, o1⟩; have Q1 := keepQ Bd.q B.dr B.dm B.lr B.lm o1)
  refine hK.out _ _ (o1.p4 r m) (fun hS => ?_)
  clear hK hS
  have o1' := o1.p4 r m
  refine wpAnyH_narrow (fun X => Only (in4 d l r m) w1 X) (fun X hX => o1'.trans hX) _ _ _ _ ?_
  refine wpAnyH_ready (rs := [11]) (by kernel_rfl) (by simp) ?_
  refine AllReadyH.cons rfl (fun K hK => ?_) AllReadyH.nil
  rw [if_pos (by rfl)]
  simp only [List.getElem_toArray, List.getElem_cons_succ, List.getElem_cons_zero]
  go_wp2_with (go_at_call 35; refine (KR w1 (od.trans o1') Q1).mono ?_; rintro e w2 ⟨rfl, Q2, o2⟩; rw [e1]; have p2 := keepP D1 B.dr B.dm B.lr B.lm o2)
  refine hK.out _ _ (o2.q4 d l) (fun hS => ?_)
  clear hK hS
  have o2' := o2.q4 d l
  refine wpAnyH_narrow (fun X => Only (in4 d l r m) w2 X) (fun X hX => o2'.trans hX) _ _ _ _ ?_
  refine anyH_take 12 115 (.bool true) rfl rfl (by kernel_rfl) (by kernel_rfl) (by kernel_rfl) (fun _ _ _ h => h) (Or.inl ⟨by rfl, by intro X hSw; go_simp⟩) (Only.refl _ _) ?_
  try simp only [Act.put, List.setIfInBounds_toArray, List.set_cons_zero, List.set_cons_succ]
  refine anyH_take 13 6 (.bool true) rfl rfl (by kernel_rfl) (by kernel_rfl) (by kernel_rfl) (fun _ _ _ h => h) (Or.inl ⟨by rfl, by intro X hSw; go_simp⟩) (Only.refl _ _) ?_
  try simp only [Act.put, List.setIfInBounds_toArray, List.set_cons_zero, List.set_cons_succ]
  refine wpAnyH_done (by kernel_rfl) ?_ _
  go_wp2
  go_ret
  exact ⟨rfl, ⟨_, _, p2, Q2, e2, B.dr, B.dm, B.lr, B.lm⟩, (od.trans o1').trans o2'⟩
theorem write_short (d l : Nat) (S : DS) (x : Int) (a : Option Addr) (len c : Nat) (zs : List Int) (w : World) (D : DkP w d l S) (h16 : len ≠ 16) :
    Calls Tryd.prog 34 #[.pointer (some ⟨d, 0, none⟩), .int .i64 x, .slice a len c] w fun e w' => e = .returned (.int .i64 (wrC S x len)) ∧ DkP w' d l (wrS S x len zs) ∧ Only (at2 d l) w w' := by
  unfold wrC wrS
  cases hg : S.gone with
  | true => exact (write_dead d l S x _ w D hg).mono fun e w' ⟨h1, h2⟩ => ⟨h1, D.below h2, Only.of_below h2⟩
  | false =>
    simp only [Bool.false_eq_true, if_false]
    cases hi : inS S x with
    | false => exact (write_no d l S x _ w D hg hi).mono fun e w' ⟨h1, h2⟩ => ⟨h1, D.below h2, Only.of_below h2⟩
    | true =>
      simp only [if_true]
      rw [if_neg h16, if_neg h16]
      exact (write_form d l S x a len c w D hg hi h16).mono fun e w' ⟨h1, h2⟩ => ⟨h1, D.below h2, Only.of_below h2⟩
theorem rwrite_short (d l : Nat) (S : DS) (x : Int) (a : Option Addr) (len c : Nat) (zs : List Int) (w : World) (D : DkR w d l S) (h16 : len ≠ 16) :
    Calls Tryd.prog 35 #[.pointer (some ⟨d, 0, none⟩), .int .i64 x, .slice a len c] w fun e w' => e = .returned (.int .i64 (wrC S x len)) ∧ DkR w' d l (rwS S x len zs) ∧ Only (at2 d l) w w' := by
  unfold wrC rwS
  cases hg : S.gone with
  | true => exact (rwrite_dead d l S x _ w D hg).mono fun e w' ⟨h1, h2⟩ => ⟨h1, D.below h2, Only.of_below h2⟩
  | false =>
    simp only [Bool.false_eq_true, if_false]
    cases hi : inS S x with
    | false => exact (rwrite_no d l S x _ w D hg hi).mono fun e w' ⟨h1, h2⟩ => ⟨h1, D.below h2, Only.of_below h2⟩
    | true =>
      simp only [if_true]
      obtain ⟨i, rfl, hin⟩ := inS_yes hi
      rw [if_neg h16, if_neg h16]
      exact (rwrite_form d l S i a len c w D hg hin h16).mono fun e w' ⟨h1, h2⟩ => ⟨h1, D.below h2, Only.of_below h2⟩
/-- Whatever the call. -/
theorem act_all (d l r m : Nat) (S T : DS) (w : World) (B : Bth w d l r m S T) (ht : Tb w) (q : ActS) (O : ActOk w q) (hfar : ∀ b, b < w.heap.size → (∃ o, q.a = some ⟨b, o, none⟩) → 0 < q.n → ¬ in4 d l r m b) :
    Calls Tryd.prog 12 (bargs d r (act4 q.kd q.nn q.sc q.a q.n q.c)) w (Did w d l r m) := by
  obtain ⟨kd, nn, sc, a, n, c, zs⟩ := q
  have hR := O.row
  have hn := O.nn
  simp only at hR hn hfar ⊢
  by_cases h1 : kd = 1
  · subst h1; exact act_next d l r m S T w B ht nn sc a n c
  · by_cases h2 : kd = 2
    · subst h2; exact act_cut d l r m S T w B ht nn sc a n c hn.2
    · by_cases h3 : kd = 3
      · subst h3; exact act_on d l r m S T w B ht nn sc a n c
      · by_cases h4 : kd = 4
        · subst h4
          by_cases hlt : sl1 S < sl0 S
          · exact act_slotslt d l r m S T w B ht nn sc a n c hlt
          · exact act_slotsge d l r m S T w B ht nn sc a n c (by omega)
        · by_cases h5 : kd = 5
          · subst h5
            by_cases h16 : n = 16
            · subst h16
              obtain ⟨b, off, rfl, hb⟩ := row_some hR
              have hf := hfar b hb ⟨off, rfl⟩ (by omega)
              have hRW : ∀ W, Only (in4 d l r m) w W → Row .u8 W (some ⟨b, off, none⟩) 16 c zs := fun W hW => hR.of_block hW.size (fun b' o e hb' => hW.block b' hb' (by cases e; exact hf))
              refine act_write d l r m S T w B ht nn sc _ 16 c zs (fun W hW DW => write_all d l S sc _ 16 c zs W DW (hRW W hW) ?_) (fun W hW DW => rwrite_all r m T sc _ 16 c zs W DW (hRW W hW) ?_)
              · intro b' o e; cases e; exact ⟨fun h => hf (.inl h), fun h => hf (.inr (.inl h))⟩
              · intro b' o e; cases e; exact fun h => hf (.inr (.inr (.inl h)))
            · exact act_write d l r m S T w B ht nn sc a n c zs (fun W hW DW => write_short d l S sc a n c zs W DW h16) (fun W hW DW => rwrite_short r m T sc a n c zs W DW h16)
          · exact act_none d l r m S T w B ht nn sc a n c kd (by simp [h1]) (by simp [h2]) (by simp [h3]) (by simp [h4]) (by simp [h5])
end Go.Proofs.YtaacggbfoejjhaaDoor
