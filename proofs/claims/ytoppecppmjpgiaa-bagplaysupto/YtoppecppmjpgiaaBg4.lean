/-
  Package bag: Put.
-/
import Derived.Test.YtoppecppmjpgiaaBg3
import Derived.Deep.Cut
namespace Go.Proofs.Ytoppecppmjpgiaa
open Go.ChangeShapes Go.WideShapes Go.ChangeAt Go.RowKit Go.Maps
set_option linter.unusedVariables false
set_option linter.unusedSimpArgs false

set_option maxHeartbeats 4000000 in
set_option maxRecDepth 8000 in
theorem put_ok (b M : Nat) (a : Option Addr) (n cap k : Nat) (next : Int) (ds : List DG) (D : DataW Unit) (x y : Int) (s : ByteArray) (w : World) (B : BagAt w b M a n cap k next ds D) (hx : I64 x) (hy : I64 y) (hcut : cut D x y = false) (hn : n < 65536) (hs0 : 0 ≤ next) (hs : next < 4611686018427387904) : Calls Try.prog 16 #[.pointer (some ⟨b, 0, none⟩), .int .i64 x, .int .i64 y, .string s] w fun e w' => e = .returned (.tuple #[.int .i64 (next + 1), .int .i64 0]) ∧ Only (bagC b M a) w w' ∧ ∃ a' cap', BagAt w' b M a' (n + 1) cap' k (next + 1) (ds ++ [⟨next + 1, x, y, s⟩]) D ∧ (∀ g off, a' = some ⟨g, off, none⟩ → (∃ o, a = some ⟨g, o, none⟩) ∨ w.heap.size ≤ g) := by
  go_enter Try.func16, Try.ntmps16
  go_wp2_with (go_at_call 34; refine (given_any b M a n cap k next ds D _ B).mono ?_; rintro e w1 ⟨rfl, hw⟩; rw [hw]; clear hw)
  have S0 : Below w.heap.size w w.drew := (Below.refl _ _).drew
  refine wp_region_any (by kernel_rfl) ?_
  change wpAny _ _ _ _ _ _ _ (World.drew _)
  refine any_take 0 16 (.pointer (some ⟨b, 0, none⟩)) rfl rfl (by kernel_rfl) (by kernel_rfl) (by kernel_rfl) (fun _ _ _ h => h) (Or.inl ⟨by rfl, by intro w; go_simp⟩) ?_
  try simp only [Act.put, List.setIfInBounds_toArray, List.set_cons_zero, List.set_cons_succ]
  refine any_take 1 17 (.pointer (some ⟨b, 0, none⟩)) rfl rfl (by kernel_rfl) (by kernel_rfl) (by kernel_rfl) (fun _ _ _ h => h) (Or.inl ⟨by rfl, by intro w; go_simp⟩) ?_
  try simp only [Act.put, List.setIfInBounds_toArray, List.set_cons_zero, List.set_cons_succ]
  refine any_take 2 18 (.pointer (some ⟨b, 2, none⟩)) rfl rfl (by kernel_rfl) (by kernel_rfl) (by kernel_rfl) (fun _ _ _ h => h) (Or.inl ⟨by rfl, by intro w; go_simp⟩) ?_
  try simp only [Act.put, List.setIfInBounds_toArray, List.set_cons_zero, List.set_cons_succ]
  refine any_take 4 20 (.int .i64 x) rfl rfl (by kernel_rfl) (by kernel_rfl) (by kernel_rfl) (fun _ _ _ h => h) (Or.inl ⟨by rfl, by intro w; go_simp⟩) ?_
  try simp only [Act.put, List.setIfInBounds_toArray, List.set_cons_zero, List.set_cons_succ]
  refine any_take 5 21 (.int .i64 y) rfl rfl (by kernel_rfl) (by kernel_rfl) (by kernel_rfl) (fun _ _ _ h => h) (Or.inl ⟨by rfl, by intro w; go_simp⟩) ?_
  try simp only [Act.put, List.setIfInBounds_toArray, List.set_cons_zero, List.set_cons_succ]
  refine wpAny_narrow (fun W => Below w.heap.size w W) _ _ _ _ ?_
  refine anyH_take 3 19 (.map (some M)) rfl rfl (by kernel_rfl) (by kernel_rfl) (by kernel_rfl) (fun _ _ _ h => h) (Or.inl ⟨by rfl, by intro w hSw; have c2 := row_cell (B.below hSw).obj 2 (.map (some M)) rfl; go_simp⟩) (S0) ?_
  try simp only [Act.put, List.setIfInBounds_toArray, List.set_cons_zero, List.set_cons_succ]
  refine wpAnyH_ready (rs := [6, 11]) (by kernel_rfl) (by simp) ?_
  refine AllReadyH.cons rfl (fun K hK => ?_) (AllReadyH.cons rfl (fun K hK => ?_) AllReadyH.nil)
  · go_simp
    go_wp2_with (go_at_call 38; refine (pair_any x y _).mono ?_; rintro e w2 ⟨rfl, b2⟩; have S2 : Below w.heap.size w w2 := S0.trans (b2.mono S0.size))
    refine hK.out _ _ S2 (fun hS => ?_)
    clear hK
    refine anyH_take 7 23 (.tuple #[.agg #[], .bool false]) rfl rfl (by kernel_rfl) (by kernel_rfl) (by kernel_rfl) (fun _ _ _ h => h) (Or.inl ⟨by rfl, by intro w hSw; have lk := look65 (B.below hSw).map hx hy; rw [hcut] at lk; go_simp⟩) (S2) ?_
    try simp only [Act.put, List.setIfInBounds_toArray, List.set_cons_zero, List.set_cons_succ]
    refine anyH_take 8 15 (.tuple #[.agg #[], .bool false]) rfl rfl (by kernel_rfl) (by kernel_rfl) (by kernel_rfl) (fun _ _ _ h => h) (Or.inl ⟨by rfl, by intro w hSw; go_simp⟩) (S2) ?_
    try simp only [Act.put, List.setIfInBounds_toArray, List.set_cons_zero, List.set_cons_succ]
    refine anyH_take 9 24 (.agg #[]) rfl rfl (by kernel_rfl) (by kernel_rfl) (by kernel_rfl) (fun _ _ _ h => h) (Or.inl ⟨by rfl, by intro w hSw; go_simp⟩) (S2) ?_
    try simp only [Act.put, List.setIfInBounds_toArray, List.set_cons_zero, List.set_cons_succ]
    refine anyH_take 10 25 (.bool false) rfl rfl (by kernel_rfl) (by kernel_rfl) (by kernel_rfl) (fun _ _ _ h => h) (Or.inl ⟨by rfl, by intro w hSw; go_simp⟩) (S2) ?_
    try simp only [Act.put, List.setIfInBounds_toArray, List.set_cons_zero, List.set_cons_succ]
    refine wpAnyH_ready (rs := [11]) (by kernel_rfl) (by simp) ?_
    refine AllReadyH.cons rfl (fun K hK => ?_) AllReadyH.nil
    go_simp
    go_wp2
    have S3 := S2.alloc S2.size (.cells #[] 66)
    refine hK.out _ _ S3 (fun hS => ?_)
    clear hK
    refine wpAnyH_ready (rs := [12]) (by kernel_rfl) (by simp) ?_
    refine AllReadyH.cons rfl (fun K hK => ?_) AllReadyH.nil
    go_simp
    go_wp2
    refine hK.out _ _ S3 (fun hS => ?_)
    clear hK
    refine anyH_take 13 11 (.bool false) rfl rfl (by kernel_rfl) (by kernel_rfl) (by kernel_rfl) (fun _ _ _ h => h) (Or.inl ⟨by rfl, by intro w hSw; go_simp⟩) (S3) ?_
    try simp only [Act.put, List.setIfInBounds_toArray, List.set_cons_zero, List.set_cons_succ]
    refine wpAnyH_done (by kernel_rfl) ?_ _
    have B4 := B.below S3
    have c0 := row_cell B4.obj 0 (.int .i64 next) rfl
    have c1 := row_cell B4.obj 1 (.slice a n cap) rfl
    have f0 := row_free B4.obj 0
    have hn1 : ¬ (65536 : Int) ≤ (n : Int) := by omega
    have hs1 : ¬ (4611686018427387904 : Int) ≤ next := by omega
    have hwr : IntKind.i64.wrap (next + 1) = next + 1 := by rw [IntKind.wrap_i64]; omega
    clear hs hs0
    go_wp2_with (fail)
    have B5 := B4.setNext (next + 1)
    have O5 : Only (bagC b M a) w _ := ((Only.of_below S3).setCell (fun _ => .inl rfl) 0 (.int .i64 (next + 1)) : Only (bagC b M a) w ((w2.alloc (.cells #[] 66)).setCell ⟨b, 0, none⟩ (.int .i64 (next + 1))))
    refine wp_region_any (by kernel_rfl) ?_
    change wpAny _ _ _ _ _ _ _ (World.drew _)
    obtain ⟨W5, hW5⟩ : ∃ X, World.drew ((w2.alloc (.cells #[] 66)).setCell ⟨b, 0, none⟩ (.int .i64 (next + 1))) = X := ⟨_, rfl⟩
    have B5 := B5.of_blocks (W' := W5) (fun q _ => by rw [← hW5]; rfl)
    have O5 : Only (bagC b M a) w W5 := by rw [← hW5]; exact O5.drew
    rw [hW5]
    clear hW5 c0 c1 f0 B4
    have c0 := row_cell B5.obj 0 _ rfl
    have c1 := row_cell B5.obj 1 _ rfl
    refine any_take 0 47 (.pointer (some ⟨b, 0, none⟩)) rfl rfl (by kernel_rfl) (by kernel_rfl) (by kernel_rfl) (fun _ _ _ h => h) (Or.inl ⟨by rfl, by intro w; go_simp⟩) ?_
    try simp only [Act.put, List.setIfInBounds_toArray, List.set_cons_zero, List.set_cons_succ]
    refine any_take 1 48 (.pointer (some ⟨b, 0, none⟩)) rfl rfl (by kernel_rfl) (by kernel_rfl) (by kernel_rfl) (fun _ _ _ h => h) (Or.inl ⟨by rfl, by intro w; go_simp⟩) ?_
    try simp only [Act.put, List.setIfInBounds_toArray, List.set_cons_zero, List.set_cons_succ]
    refine any_take 2 49 (.pointer (some ⟨b, 0, none⟩)) rfl rfl (by kernel_rfl) (by kernel_rfl) (by kernel_rfl) (fun _ _ _ h => h) (Or.inl ⟨by rfl, by intro w; go_simp⟩) ?_
    try simp only [Act.put, List.setIfInBounds_toArray, List.set_cons_zero, List.set_cons_succ]
    refine any_take 3 50 (.pointer (some ⟨b, 1, none⟩)) rfl rfl (by kernel_rfl) (by kernel_rfl) (by kernel_rfl) (fun _ _ _ h => h) (Or.inl ⟨by rfl, by intro w; go_simp⟩) ?_
    try simp only [Act.put, List.setIfInBounds_toArray, List.set_cons_zero, List.set_cons_succ]
    refine any_take 5 52 (.pointer (some ⟨b, 0, none⟩)) rfl rfl (by kernel_rfl) (by kernel_rfl) (by kernel_rfl) (fun _ _ _ h => h) (Or.inl ⟨by rfl, by intro w; go_simp⟩) ?_
    try simp only [Act.put, List.setIfInBounds_toArray, List.set_cons_zero, List.set_cons_succ]
    refine any_take 6 53 (.pointer (some ⟨b, 0, none⟩)) rfl rfl (by kernel_rfl) (by kernel_rfl) (by kernel_rfl) (fun _ _ _ h => h) (Or.inl ⟨by rfl, by intro w; go_simp⟩) ?_
    try simp only [Act.put, List.setIfInBounds_toArray, List.set_cons_zero, List.set_cons_succ]
    refine any_take 7 54 (.pointer (some ⟨b, 0, none⟩)) rfl rfl (by kernel_rfl) (by kernel_rfl) (by kernel_rfl) (fun _ _ _ h => h) (Or.inl ⟨by rfl, by intro w; go_simp⟩) ?_
    try simp only [Act.put, List.setIfInBounds_toArray, List.set_cons_zero, List.set_cons_succ]
    refine any_take 9 56 (.int .i64 x) rfl rfl (by kernel_rfl) (by kernel_rfl) (by kernel_rfl) (fun _ _ _ h => h) (Or.inl ⟨by rfl, by intro w; go_simp⟩) ?_
    try simp only [Act.put, List.setIfInBounds_toArray, List.set_cons_zero, List.set_cons_succ]
    refine any_take 10 57 (.int .i64 y) rfl rfl (by kernel_rfl) (by kernel_rfl) (by kernel_rfl) (fun _ _ _ h => h) (Or.inl ⟨by rfl, by intro w; go_simp⟩) ?_
    try simp only [Act.put, List.setIfInBounds_toArray, List.set_cons_zero, List.set_cons_succ]
    refine any_take 11 58 (.string s) rfl rfl (by kernel_rfl) (by kernel_rfl) (by kernel_rfl) (fun _ _ _ h => h) (Or.inl ⟨by rfl, by intro w; go_simp⟩) ?_
    try simp only [Act.put, List.setIfInBounds_toArray, List.set_cons_zero, List.set_cons_succ]
    refine wpAny_ready (rs := [4, 8]) (by kernel_rfl) (by simp) ?_
    refine AllReady.cons rfl (fun K hK => ?_) (AllReady.cons rfl (fun K hK => ?_) AllReady.nil)
    · replace hK : Shut _ := hK
      go_simp
      go_wp2
      refine hK.out _ _ ?_
      clear hK
      try simp only [Act.put, List.setIfInBounds_toArray, List.set_cons_zero, List.set_cons_succ]
      refine wpAny_ready (rs := [8]) (by kernel_rfl) (by simp) ?_
      refine AllReady.cons rfl (fun K hK => ?_) AllReady.nil
      replace hK : Shut _ := hK
      go_simp
      go_wp2
      refine hK.out _ _ ?_
      clear hK
      try simp only [Act.put, List.setIfInBounds_toArray, List.set_cons_zero, List.set_cons_succ]
      refine any_take 12 59 (dgv ⟨next + 1, x, y, s⟩) rfl rfl (by kernel_rfl) (by kernel_rfl) (by kernel_rfl) (fun _ _ _ h => h) (Or.inl ⟨by rfl, by intro w; go_simp; rfl⟩) ?_
      try simp only [Act.put, List.setIfInBounds_toArray, List.set_cons_zero, List.set_cons_succ]
      refine wpAny_ready (rs := [13]) (by kernel_rfl) (by simp) ?_
      refine AllReady.cons rfl (fun K hK => ?_) AllReady.nil
      refine wp_one33 _ rfl ⟨next + 1, x, y, s⟩ rfl ?_
      refine hK _ _ ?_
      clear hK
      try simp only [Act.put, List.setIfInBounds_toArray, List.set_cons_zero, List.set_cons_succ]
      have r6 := range_new W5 (DG.cells ⟨next + 1, x, y, s⟩) 33
      have B6 := B5.below ((Below.refl _ _).alloc (Nat.le_refl _) (.cells (DG.cells ⟨next + 1, x, y, s⟩).toArray 33))
      have O6 := O5.alloc (.cells (DG.cells ⟨next + 1, x, y, s⟩).toArray 33)
      have L6 := B6.lst
      obtain ⟨w6, hw6⟩ : ∃ X, W5.alloc (.cells (DG.cells ⟨next + 1, x, y, s⟩).toArray 33) = X := ⟨_, rfl⟩
      rw [hw6] at r6 B6 O6 L6 ⊢
      clear hw6
      refine wpAny_ready (rs := [14]) (by kernel_rfl) (by simp) ?_
      refine AllReady.cons rfl (fun K hK => ?_) AllReady.nil
      refine wp_append_lst _ _ rfl rfl rfl L6 r6 (by omega) ?_
      intro a' cap' w7 L7 hg7 o7
      refine hK _ _ ?_
      clear hK
      try simp only [Act.put, List.setIfInBounds_toArray, List.set_cons_zero, List.set_cons_succ]
      have hgb : ∀ g off, a' = some ⟨g, off, none⟩ → g ≠ b := fun g off e => by rcases hg7 g off e with ⟨o, e'⟩ | h'; (· subst e'; exact B6.gb); (· have := row_lt B6.obj; omega)
      have B8 := B6.setList o7 L7 hgb
      have hb7 : w7.heap[b]? = w6.heap[b]? := o7.block b (row_lt B6.obj) (fun ⟨off, e⟩ => by subst e; exact B6.gb rfl)
      have c7 := row_cell (hb7.trans B6.obj) 1 _ rfl
      have f7 := row_free (hb7.trans B6.obj) 1
      have c8 := row_cell B8.obj 0 _ rfl
      refine any_take 15 62 (.pointer (some ⟨b, 0, none⟩)) rfl rfl (by kernel_rfl) (by kernel_rfl) (by kernel_rfl) (fun _ _ _ h => h) (Or.inl ⟨by rfl, by intro w; go_simp⟩) ?_
      try simp only [Act.put, List.setIfInBounds_toArray, List.set_cons_zero, List.set_cons_succ]
      refine any_take 16 63 (.pointer (some ⟨b, 1, none⟩)) rfl rfl (by kernel_rfl) (by kernel_rfl) (by kernel_rfl) (fun _ _ _ h => h) (Or.inl ⟨by rfl, by intro w; go_simp⟩) ?_
      try simp only [Act.put, List.setIfInBounds_toArray, List.set_cons_zero, List.set_cons_succ]
      refine wpAny_ready (rs := [17]) (by kernel_rfl) (by simp) ?_
      refine AllReady.cons rfl (fun K hK => ?_) AllReady.nil
      replace hK : Shut _ := hK
      go_simp
      go_wp2
      refine hK.out _ _ ?_
      clear hK
      try simp only [Act.put, List.setIfInBounds_toArray, List.set_cons_zero, List.set_cons_succ]
      refine wpAny_done (by kernel_rfl) ?_ _
      go_wp2
      go_ret2
      refine ⟨rfl, ((O6.trans (o7.mono fun q _ hq => .inr (.inr hq))).setCell (fun _ => .inl rfl) _ _), a', cap', B8, fun g off e => (hg7 g off e).imp id fun h' => Nat.le_trans O6.size h'⟩
    · replace hK : Shut _ := hK
      go_simp
      go_wp2
      refine hK.out _ _ ?_
      clear hK
      try simp only [Act.put, List.setIfInBounds_toArray, List.set_cons_zero, List.set_cons_succ]
      refine any_take 12 59 (dgv ⟨next + 1, x, y, s⟩) rfl rfl (by kernel_rfl) (by kernel_rfl) (by kernel_rfl) (fun _ _ _ h => h) (Or.inl ⟨by rfl, by intro w; go_simp; rfl⟩) ?_
      try simp only [Act.put, List.setIfInBounds_toArray, List.set_cons_zero, List.set_cons_succ]
      refine wpAny_ready (rs := [4, 13]) (by kernel_rfl) (by simp) ?_
      refine AllReady.cons rfl (fun K hK => ?_) (AllReady.cons rfl (fun K hK => ?_) AllReady.nil)
      · replace hK : Shut _ := hK
        go_simp
        go_wp2
        refine hK.out _ _ ?_
        clear hK
        try simp only [Act.put, List.setIfInBounds_toArray, List.set_cons_zero, List.set_cons_succ]
        refine wpAny_ready (rs := [13]) (by kernel_rfl) (by simp) ?_
        refine AllReady.cons rfl (fun K hK => ?_) AllReady.nil
        refine wp_one33 _ rfl ⟨next + 1, x, y, s⟩ rfl ?_
        refine hK _ _ ?_
        clear hK
        try simp only [Act.put, List.setIfInBounds_toArray, List.set_cons_zero, List.set_cons_succ]
        have r6 := range_new W5 (DG.cells ⟨next + 1, x, y, s⟩) 33
        have B6 := B5.below ((Below.refl _ _).alloc (Nat.le_refl _) (.cells (DG.cells ⟨next + 1, x, y, s⟩).toArray 33))
        have O6 := O5.alloc (.cells (DG.cells ⟨next + 1, x, y, s⟩).toArray 33)
        have L6 := B6.lst
        obtain ⟨w6, hw6⟩ : ∃ X, W5.alloc (.cells (DG.cells ⟨next + 1, x, y, s⟩).toArray 33) = X := ⟨_, rfl⟩
        rw [hw6] at r6 B6 O6 L6 ⊢
        clear hw6
        refine wpAny_ready (rs := [14]) (by kernel_rfl) (by simp) ?_
        refine AllReady.cons rfl (fun K hK => ?_) AllReady.nil
        refine wp_append_lst _ _ rfl rfl rfl L6 r6 (by omega) ?_
        intro a' cap' w7 L7 hg7 o7
        refine hK _ _ ?_
        clear hK
        try simp only [Act.put, List.setIfInBounds_toArray, List.set_cons_zero, List.set_cons_succ]
        have hgb : ∀ g off, a' = some ⟨g, off, none⟩ → g ≠ b := fun g off e => by rcases hg7 g off e with ⟨o, e'⟩ | h'; (· subst e'; exact B6.gb); (· have := row_lt B6.obj; omega)
        have B8 := B6.setList o7 L7 hgb
        have hb7 : w7.heap[b]? = w6.heap[b]? := o7.block b (row_lt B6.obj) (fun ⟨off, e⟩ => by subst e; exact B6.gb rfl)
        have c7 := row_cell (hb7.trans B6.obj) 1 _ rfl
        have f7 := row_free (hb7.trans B6.obj) 1
        have c8 := row_cell B8.obj 0 _ rfl
        refine any_take 15 62 (.pointer (some ⟨b, 0, none⟩)) rfl rfl (by kernel_rfl) (by kernel_rfl) (by kernel_rfl) (fun _ _ _ h => h) (Or.inl ⟨by rfl, by intro w; go_simp⟩) ?_
        try simp only [Act.put, List.setIfInBounds_toArray, List.set_cons_zero, List.set_cons_succ]
        refine any_take 16 63 (.pointer (some ⟨b, 1, none⟩)) rfl rfl (by kernel_rfl) (by kernel_rfl) (by kernel_rfl) (fun _ _ _ h => h) (Or.inl ⟨by rfl, by intro w; go_simp⟩) ?_
        try simp only [Act.put, List.setIfInBounds_toArray, List.set_cons_zero, List.set_cons_succ]
        refine wpAny_ready (rs := [17]) (by kernel_rfl) (by simp) ?_
        refine AllReady.cons rfl (fun K hK => ?_) AllReady.nil
        replace hK : Shut _ := hK
        go_simp
        go_wp2
        refine hK.out _ _ ?_
        clear hK
        try simp only [Act.put, List.setIfInBounds_toArray, List.set_cons_zero, List.set_cons_succ]
        refine wpAny_done (by kernel_rfl) ?_ _
        go_wp2
        go_ret2
        refine ⟨rfl, ((O6.trans (o7.mono fun q _ hq => .inr (.inr hq))).setCell (fun _ => .inl rfl) _ _), a', cap', B8, fun g off e => (hg7 g off e).imp id fun h' => Nat.le_trans O6.size h'⟩
      · refine wp_one33 _ rfl ⟨next + 1, x, y, s⟩ rfl ?_
        refine hK _ _ ?_
        clear hK
        try simp only [Act.put, List.setIfInBounds_toArray, List.set_cons_zero, List.set_cons_succ]
        have r6 := range_new W5 (DG.cells ⟨next + 1, x, y, s⟩) 33
        have B6 := B5.below ((Below.refl _ _).alloc (Nat.le_refl _) (.cells (DG.cells ⟨next + 1, x, y, s⟩).toArray 33))
        have O6 := O5.alloc (.cells (DG.cells ⟨next + 1, x, y, s⟩).toArray 33)
        have L6 := B6.lst
        obtain ⟨w6, hw6⟩ : ∃ X, W5.alloc (.cells (DG.cells ⟨next + 1, x, y, s⟩).toArray 33) = X := ⟨_, rfl⟩
        rw [hw6] at r6 B6 O6 L6 ⊢
        clear hw6
        have c1 := row_cell B6.obj 1 _ rfl
        refine wpAny_ready (rs := [4]) (by kernel_rfl) (by simp) ?_
        refine AllReady.cons rfl (fun K hK => ?_) AllReady.nil
        replace hK : Shut _ := hK
        go_simp
        go_wp2
        refine hK.out _ _ ?_
        clear hK
        try simp only [Act.put, List.setIfInBounds_toArray, List.set_cons_zero, List.set_cons_succ]
        refine wpAny_ready (rs := [14]) (by kernel_rfl) (by simp) ?_
        refine AllReady.cons rfl (fun K hK => ?_) AllReady.nil
        refine wp_append_lst _ _ rfl rfl rfl L6 r6 (by omega) ?_
        intro a' cap' w7 L7 hg7 o7
        refine hK _ _ ?_
        clear hK
        try simp only [Act.put, List.setIfInBounds_toArray, List.set_cons_zero, List.set_cons_succ]
        have hgb : ∀ g off, a' = some ⟨g, off, none⟩ → g ≠ b := fun g off e => by rcases hg7 g off e with ⟨o, e'⟩ | h'; (· subst e'; exact B6.gb); (· have := row_lt B6.obj; omega)
        have B8 := B6.setList o7 L7 hgb
        have hb7 : w7.heap[b]? = w6.heap[b]? := o7.block b (row_lt B6.obj) (fun ⟨off, e⟩ => by subst e; exact B6.gb rfl)
        have c7 := row_cell (hb7.trans B6.obj) 1 _ rfl
        have f7 := row_free (hb7.trans B6.obj) 1
        have c8 := row_cell B8.obj 0 _ rfl
        refine any_take 15 62 (.pointer (some ⟨b, 0, none⟩)) rfl rfl (by kernel_rfl) (by kernel_rfl) (by kernel_rfl) (fun _ _ _ h => h) (Or.inl ⟨by rfl, by intro w; go_simp⟩) ?_
        try simp only [Act.put, List.setIfInBounds_toArray, List.set_cons_zero, List.set_cons_succ]
        refine any_take 16 63 (.pointer (some ⟨b, 1, none⟩)) rfl rfl (by kernel_rfl) (by kernel_rfl) (by kernel_rfl) (fun _ _ _ h => h) (Or.inl ⟨by rfl, by intro w; go_simp⟩) ?_
        try simp only [Act.put, List.setIfInBounds_toArray, List.set_cons_zero, List.set_cons_succ]
        refine wpAny_ready (rs := [17]) (by kernel_rfl) (by simp) ?_
        refine AllReady.cons rfl (fun K hK => ?_) AllReady.nil
        replace hK : Shut _ := hK
        go_simp
        go_wp2
        refine hK.out _ _ ?_
        clear hK
        try simp only [Act.put, List.setIfInBounds_toArray, List.set_cons_zero, List.set_cons_succ]
        refine wpAny_done (by kernel_rfl) ?_ _
        go_wp2
        go_ret2
        refine ⟨rfl, ((O6.trans (o7.mono fun q _ hq => .inr (.inr hq))).setCell (fun _ => .inl rfl) _ _), a', cap', B8, fun g off e => (hg7 g off e).imp id fun h' => Nat.le_trans O6.size h'⟩
  · go_simp
    go_wp2
    have S2 : Below w.heap.size w (w.alloc (.cells #[] 66)).drew := ((Below.refl _ _).alloc (Nat.le_refl _) _).drew
    refine hK.out _ _ S2 (fun hS => ?_)
    clear hK
    refine wpAnyH_ready (rs := [6]) (by kernel_rfl) (by simp) ?_
    refine AllReadyH.cons rfl (fun K hK => ?_) AllReadyH.nil
    go_simp
    go_wp2_with (go_at_call 38; refine (pair_any x y _).mono ?_; rintro e w3 ⟨rfl, b3⟩; have S3 : Below w.heap.size w w3 := S2.trans (b3.mono S2.size))
    refine hK.out _ _ S3 (fun hS => ?_)
    clear hK
    refine anyH_take 7 23 (.tuple #[.agg #[], .bool false]) rfl rfl (by kernel_rfl) (by kernel_rfl) (by kernel_rfl) (fun _ _ _ h => h) (Or.inl ⟨by rfl, by intro w hSw; have lk := look65 (B.below hSw).map hx hy; rw [hcut] at lk; go_simp⟩) (S3) ?_
    try simp only [Act.put, List.setIfInBounds_toArray, List.set_cons_zero, List.set_cons_succ]
    refine anyH_take 8 15 (.tuple #[.agg #[], .bool false]) rfl rfl (by kernel_rfl) (by kernel_rfl) (by kernel_rfl) (fun _ _ _ h => h) (Or.inl ⟨by rfl, by intro w hSw; go_simp⟩) (S3) ?_
    try simp only [Act.put, List.setIfInBounds_toArray, List.set_cons_zero, List.set_cons_succ]
    refine anyH_take 9 24 (.agg #[]) rfl rfl (by kernel_rfl) (by kernel_rfl) (by kernel_rfl) (fun _ _ _ h => h) (Or.inl ⟨by rfl, by intro w hSw; go_simp⟩) (S3) ?_
    try simp only [Act.put, List.setIfInBounds_toArray, List.set_cons_zero, List.set_cons_succ]
    refine anyH_take 10 25 (.bool false) rfl rfl (by kernel_rfl) (by kernel_rfl) (by kernel_rfl) (fun _ _ _ h => h) (Or.inl ⟨by rfl, by intro w hSw; go_simp⟩) (S3) ?_
    try simp only [Act.put, List.setIfInBounds_toArray, List.set_cons_zero, List.set_cons_succ]
    refine wpAnyH_ready (rs := [12]) (by kernel_rfl) (by simp) ?_
    refine AllReadyH.cons rfl (fun K hK => ?_) AllReadyH.nil
    go_simp
    go_wp2
    refine hK.out _ _ S3 (fun hS => ?_)
    clear hK
    refine anyH_take 13 11 (.bool false) rfl rfl (by kernel_rfl) (by kernel_rfl) (by kernel_rfl) (fun _ _ _ h => h) (Or.inl ⟨by rfl, by intro w hSw; go_simp⟩) (S3) ?_
    try simp only [Act.put, List.setIfInBounds_toArray, List.set_cons_zero, List.set_cons_succ]
    refine wpAnyH_done (by kernel_rfl) ?_ _
    have B4 := B.below S3
    have c0 := row_cell B4.obj 0 (.int .i64 next) rfl
    have c1 := row_cell B4.obj 1 (.slice a n cap) rfl
    have f0 := row_free B4.obj 0
    have hn1 : ¬ (65536 : Int) ≤ (n : Int) := by omega
    have hs1 : ¬ (4611686018427387904 : Int) ≤ next := by omega
    have hwr : IntKind.i64.wrap (next + 1) = next + 1 := by rw [IntKind.wrap_i64]; omega
    clear hs hs0
    go_wp2_with (fail)
    have B5 := B4.setNext (next + 1)
    have O5 : Only (bagC b M a) w _ := ((Only.of_below S3).setCell (fun _ => .inl rfl) 0 (.int .i64 (next + 1)) : Only (bagC b M a) w ((w3).setCell ⟨b, 0, none⟩ (.int .i64 (next + 1))))
    refine wp_region_any (by kernel_rfl) ?_
    change wpAny _ _ _ _ _ _ _ (World.drew _)
    obtain ⟨W5, hW5⟩ : ∃ X, World.drew ((w3).setCell ⟨b, 0, none⟩ (.int .i64 (next + 1))) = X := ⟨_, rfl⟩
    have B5 := B5.of_blocks (W' := W5) (fun q _ => by rw [← hW5]; rfl)
    have O5 : Only (bagC b M a) w W5 := by rw [← hW5]; exact O5.drew
    rw [hW5]
    clear hW5 c0 c1 f0 B4
    have c0 := row_cell B5.obj 0 _ rfl
    have c1 := row_cell B5.obj 1 _ rfl
    refine any_take 0 47 (.pointer (some ⟨b, 0, none⟩)) rfl rfl (by kernel_rfl) (by kernel_rfl) (by kernel_rfl) (fun _ _ _ h => h) (Or.inl ⟨by rfl, by intro w; go_simp⟩) ?_
    try simp only [Act.put, List.setIfInBounds_toArray, List.set_cons_zero, List.set_cons_succ]
    refine any_take 1 48 (.pointer (some ⟨b, 0, none⟩)) rfl rfl (by kernel_rfl) (by kernel_rfl) (by kernel_rfl) (fun _ _ _ h => h) (Or.inl ⟨by rfl, by intro w; go_simp⟩) ?_
    try simp only [Act.put, List.setIfInBounds_toArray, List.set_cons_zero, List.set_cons_succ]
    refine any_take 2 49 (.pointer (some ⟨b, 0, none⟩)) rfl rfl (by kernel_rfl) (by kernel_rfl) (by kernel_rfl) (fun _ _ _ h => h) (Or.inl ⟨by rfl, by intro w; go_simp⟩) ?_
    try simp only [Act.put, List.setIfInBounds_toArray, List.set_cons_zero, List.set_cons_succ]
    refine any_take 3 50 (.pointer (some ⟨b, 1, none⟩)) rfl rfl (by kernel_rfl) (by kernel_rfl) (by kernel_rfl) (fun _ _ _ h => h) (Or.inl ⟨by rfl, by intro w; go_simp⟩) ?_
    try simp only [Act.put, List.setIfInBounds_toArray, List.set_cons_zero, List.set_cons_succ]
    refine any_take 5 52 (.pointer (some ⟨b, 0, none⟩)) rfl rfl (by kernel_rfl) (by kernel_rfl) (by kernel_rfl) (fun _ _ _ h => h) (Or.inl ⟨by rfl, by intro w; go_simp⟩) ?_
    try simp only [Act.put, List.setIfInBounds_toArray, List.set_cons_zero, List.set_cons_succ]
    refine any_take 6 53 (.pointer (some ⟨b, 0, none⟩)) rfl rfl (by kernel_rfl) (by kernel_rfl) (by kernel_rfl) (fun _ _ _ h => h) (Or.inl ⟨by rfl, by intro w; go_simp⟩) ?_
    try simp only [Act.put, List.setIfInBounds_toArray, List.set_cons_zero, List.set_cons_succ]
    refine any_take 7 54 (.pointer (some ⟨b, 0, none⟩)) rfl rfl (by kernel_rfl) (by kernel_rfl) (by kernel_rfl) (fun _ _ _ h => h) (Or.inl ⟨by rfl, by intro w; go_simp⟩) ?_
    try simp only [Act.put, List.setIfInBounds_toArray, List.set_cons_zero, List.set_cons_succ]
    refine any_take 9 56 (.int .i64 x) rfl rfl (by kernel_rfl) (by kernel_rfl) (by kernel_rfl) (fun _ _ _ h => h) (Or.inl ⟨by rfl, by intro w; go_simp⟩) ?_
    try simp only [Act.put, List.setIfInBounds_toArray, List.set_cons_zero, List.set_cons_succ]
    refine any_take 10 57 (.int .i64 y) rfl rfl (by kernel_rfl) (by kernel_rfl) (by kernel_rfl) (fun _ _ _ h => h) (Or.inl ⟨by rfl, by intro w; go_simp⟩) ?_
    try simp only [Act.put, List.setIfInBounds_toArray, List.set_cons_zero, List.set_cons_succ]
    refine any_take 11 58 (.string s) rfl rfl (by kernel_rfl) (by kernel_rfl) (by kernel_rfl) (fun _ _ _ h => h) (Or.inl ⟨by rfl, by intro w; go_simp⟩) ?_
    try simp only [Act.put, List.setIfInBounds_toArray, List.set_cons_zero, List.set_cons_succ]
    refine wpAny_ready (rs := [4, 8]) (by kernel_rfl) (by simp) ?_
    refine AllReady.cons rfl (fun K hK => ?_) (AllReady.cons rfl (fun K hK => ?_) AllReady.nil)
    · replace hK : Shut _ := hK
      go_simp
      go_wp2
      refine hK.out _ _ ?_
      clear hK
      try simp only [Act.put, List.setIfInBounds_toArray, List.set_cons_zero, List.set_cons_succ]
      refine wpAny_ready (rs := [8]) (by kernel_rfl) (by simp) ?_
      refine AllReady.cons rfl (fun K hK => ?_) AllReady.nil
      replace hK : Shut _ := hK
      go_simp
      go_wp2
      refine hK.out _ _ ?_
      clear hK
      try simp only [Act.put, List.setIfInBounds_toArray, List.set_cons_zero, List.set_cons_succ]
      refine any_take 12 59 (dgv ⟨next + 1, x, y, s⟩) rfl rfl (by kernel_rfl) (by kernel_rfl) (by kernel_rfl) (fun _ _ _ h => h) (Or.inl ⟨by rfl, by intro w; go_simp; rfl⟩) ?_
      try simp only [Act.put, List.setIfInBounds_toArray, List.set_cons_zero, List.set_cons_succ]
      refine wpAny_ready (rs := [13]) (by kernel_rfl) (by simp) ?_
      refine AllReady.cons rfl (fun K hK => ?_) AllReady.nil
      refine wp_one33 _ rfl ⟨next + 1, x, y, s⟩ rfl ?_
      refine hK _ _ ?_
      clear hK
      try simp only [Act.put, List.setIfInBounds_toArray, List.set_cons_zero, List.set_cons_succ]
      have r6 := range_new W5 (DG.cells ⟨next + 1, x, y, s⟩) 33
      have B6 := B5.below ((Below.refl _ _).alloc (Nat.le_refl _) (.cells (DG.cells ⟨next + 1, x, y, s⟩).toArray 33))
      have O6 := O5.alloc (.cells (DG.cells ⟨next + 1, x, y, s⟩).toArray 33)
      have L6 := B6.lst
      obtain ⟨w6, hw6⟩ : ∃ X, W5.alloc (.cells (DG.cells ⟨next + 1, x, y, s⟩).toArray 33) = X := ⟨_, rfl⟩
      rw [hw6] at r6 B6 O6 L6 ⊢
      clear hw6
      refine wpAny_ready (rs := [14]) (by kernel_rfl) (by simp) ?_
      refine AllReady.cons rfl (fun K hK => ?_) AllReady.nil
      refine wp_append_lst _ _ rfl rfl rfl L6 r6 (by omega) ?_
      intro a' cap' w7 L7 hg7 o7
      refine hK _ _ ?_
      clear hK
      try simp only [Act.put, List.setIfInBounds_toArray, List.set_cons_zero, List.set_cons_succ]
      have hgb : ∀ g off, a' = some ⟨g, off, none⟩ → g ≠ b := fun g off e => by rcases hg7 g off e with ⟨o, e'⟩ | h'; (· subst e'; exact B6.gb); (· have := row_lt B6.obj; omega)
      have B8 := B6.setList o7 L7 hgb
      have hb7 : w7.heap[b]? = w6.heap[b]? := o7.block b (row_lt B6.obj) (fun ⟨off, e⟩ => by subst e; exact B6.gb rfl)
      have c7 := row_cell (hb7.trans B6.obj) 1 _ rfl
      have f7 := row_free (hb7.trans B6.obj) 1
      have c8 := row_cell B8.obj 0 _ rfl
      refine any_take 15 62 (.pointer (some ⟨b, 0, none⟩)) rfl rfl (by kernel_rfl) (by kernel_rfl) (by kernel_rfl) (fun _ _ _ h => h) (Or.inl ⟨by rfl, by intro w; go_simp⟩) ?_
      try simp only [Act.put, List.setIfInBounds_toArray, List.set_cons_zero, List.set_cons_succ]
      refine any_take 16 63 (.pointer (some ⟨b, 1, none⟩)) rfl rfl (by kernel_rfl) (by kernel_rfl) (by kernel_rfl) (fun _ _ _ h => h) (Or.inl ⟨by rfl, by intro w; go_simp⟩) ?_
      try simp only [Act.put, List.setIfInBounds_toArray, List.set_cons_zero, List.set_cons_succ]
      refine wpAny_ready (rs := [17]) (by kernel_rfl) (by simp) ?_
      refine AllReady.cons rfl (fun K hK => ?_) AllReady.nil
      replace hK : Shut _ := hK
      go_simp
      go_wp2
      refine hK.out _ _ ?_
      clear hK
      try simp only [Act.put, List.setIfInBounds_toArray, List.set_cons_zero, List.set_cons_succ]
      refine wpAny_done (by kernel_rfl) ?_ _
      go_wp2
      go_ret2
      refine ⟨rfl, ((O6.trans (o7.mono fun q _ hq => .inr (.inr hq))).setCell (fun _ => .inl rfl) _ _), a', cap', B8, fun g off e => (hg7 g off e).imp id fun h' => Nat.le_trans O6.size h'⟩
    · replace hK : Shut _ := hK
      go_simp
      go_wp2
      refine hK.out _ _ ?_
      clear hK
      try simp only [Act.put, List.setIfInBounds_toArray, List.set_cons_zero, List.set_cons_succ]
      refine any_take 12 59 (dgv ⟨next + 1, x, y, s⟩) rfl rfl (by kernel_rfl) (by kernel_rfl) (by kernel_rfl) (fun _ _ _ h => h) (Or.inl ⟨by rfl, by intro w; go_simp; rfl⟩) ?_
      try simp only [Act.put, List.setIfInBounds_toArray, List.set_cons_zero, List.set_cons_succ]
      refine wpAny_ready (rs := [4, 13]) (by kernel_rfl) (by simp) ?_
      refine AllReady.cons rfl (fun K hK => ?_) (AllReady.cons rfl (fun K hK => ?_) AllReady.nil)
      · replace hK : Shut _ := hK
        go_simp
        go_wp2
        refine hK.out _ _ ?_
        clear hK
        try simp only [Act.put, List.setIfInBounds_toArray, List.set_cons_zero, List.set_cons_succ]
        refine wpAny_ready (rs := [13]) (by kernel_rfl) (by simp) ?_
        refine AllReady.cons rfl (fun K hK => ?_) AllReady.nil
        refine wp_one33 _ rfl ⟨next + 1, x, y, s⟩ rfl ?_
        refine hK _ _ ?_
        clear hK
        try simp only [Act.put, List.setIfInBounds_toArray, List.set_cons_zero, List.set_cons_succ]
        have r6 := range_new W5 (DG.cells ⟨next + 1, x, y, s⟩) 33
        have B6 := B5.below ((Below.refl _ _).alloc (Nat.le_refl _) (.cells (DG.cells ⟨next + 1, x, y, s⟩).toArray 33))
        have O6 := O5.alloc (.cells (DG.cells ⟨next + 1, x, y, s⟩).toArray 33)
        have L6 := B6.lst
        obtain ⟨w6, hw6⟩ : ∃ X, W5.alloc (.cells (DG.cells ⟨next + 1, x, y, s⟩).toArray 33) = X := ⟨_, rfl⟩
        rw [hw6] at r6 B6 O6 L6 ⊢
        clear hw6
        refine wpAny_ready (rs := [14]) (by kernel_rfl) (by simp) ?_
        refine AllReady.cons rfl (fun K hK => ?_) AllReady.nil
        refine wp_append_lst _ _ rfl rfl rfl L6 r6 (by omega) ?_
        intro a' cap' w7 L7 hg7 o7
        refine hK _ _ ?_
        clear hK
        try simp only [Act.put, List.setIfInBounds_toArray, List.set_cons_zero, List.set_cons_succ]
        have hgb : ∀ g off, a' = some ⟨g, off, none⟩ → g ≠ b := fun g off e => by rcases hg7 g off e with ⟨o, e'⟩ | h'; (· subst e'; exact B6.gb); (· have := row_lt B6.obj; omega)
        have B8 := B6.setList o7 L7 hgb
        have hb7 : w7.heap[b]? = w6.heap[b]? := o7.block b (row_lt B6.obj) (fun ⟨off, e⟩ => by subst e; exact B6.gb rfl)
        have c7 := row_cell (hb7.trans B6.obj) 1 _ rfl
        have f7 := row_free (hb7.trans B6.obj) 1
        have c8 := row_cell B8.obj 0 _ rfl
        refine any_take 15 62 (.pointer (some ⟨b, 0, none⟩)) rfl rfl (by kernel_rfl) (by kernel_rfl) (by kernel_rfl) (fun _ _ _ h => h) (Or.inl ⟨by rfl, by intro w; go_simp⟩) ?_
        try simp only [Act.put, List.setIfInBounds_toArray, List.set_cons_zero, List.set_cons_succ]
        refine any_take 16 63 (.pointer (some ⟨b, 1, none⟩)) rfl rfl (by kernel_rfl) (by kernel_rfl) (by kernel_rfl) (fun _ _ _ h => h) (Or.inl ⟨by rfl, by intro w; go_simp⟩) ?_
        try simp only [Act.put, List.setIfInBounds_toArray, List.set_cons_zero, List.set_cons_succ]
        refine wpAny_ready (rs := [17]) (by kernel_rfl) (by simp) ?_
        refine AllReady.cons rfl (fun K hK => ?_) AllReady.nil
        replace hK : Shut _ := hK
        go_simp
        go_wp2
        refine hK.out _ _ ?_
        clear hK
        try simp only [Act.put, List.setIfInBounds_toArray, List.set_cons_zero, List.set_cons_succ]
        refine wpAny_done (by kernel_rfl) ?_ _
        go_wp2
        go_ret2
        refine ⟨rfl, ((O6.trans (o7.mono fun q _ hq => .inr (.inr hq))).setCell (fun _ => .inl rfl) _ _), a', cap', B8, fun g off e => (hg7 g off e).imp id fun h' => Nat.le_trans O6.size h'⟩
      · refine wp_one33 _ rfl ⟨next + 1, x, y, s⟩ rfl ?_
        refine hK _ _ ?_
        clear hK
        try simp only [Act.put, List.setIfInBounds_toArray, List.set_cons_zero, List.set_cons_succ]
        have r6 := range_new W5 (DG.cells ⟨next + 1, x, y, s⟩) 33
        have B6 := B5.below ((Below.refl _ _).alloc (Nat.le_refl _) (.cells (DG.cells ⟨next + 1, x, y, s⟩).toArray 33))
        have O6 := O5.alloc (.cells (DG.cells ⟨next + 1, x, y, s⟩).toArray 33)
        have L6 := B6.lst
        obtain ⟨w6, hw6⟩ : ∃ X, W5.alloc (.cells (DG.cells ⟨next + 1, x, y, s⟩).toArray 33) = X := ⟨_, rfl⟩
        rw [hw6] at r6 B6 O6 L6 ⊢
        clear hw6
        have c1 := row_cell B6.obj 1 _ rfl
        refine wpAny_ready (rs := [4]) (by kernel_rfl) (by simp) ?_
        refine AllReady.cons rfl (fun K hK => ?_) AllReady.nil
        replace hK : Shut _ := hK
        go_simp
        go_wp2
        refine hK.out _ _ ?_
        clear hK
        try simp only [Act.put, List.setIfInBounds_toArray, List.set_cons_zero, List.set_cons_succ]
        refine wpAny_ready (rs := [14]) (by kernel_rfl) (by simp) ?_
        refine AllReady.cons rfl (fun K hK => ?_) AllReady.nil
        refine wp_append_lst _ _ rfl rfl rfl L6 r6 (by omega) ?_
        intro a' cap' w7 L7 hg7 o7
        refine hK _ _ ?_
        clear hK
        try simp only [Act.put, List.setIfInBounds_toArray, List.set_cons_zero, List.set_cons_succ]
        have hgb : ∀ g off, a' = some ⟨g, off, none⟩ → g ≠ b := fun g off e => by rcases hg7 g off e with ⟨o, e'⟩ | h'; (· subst e'; exact B6.gb); (· have := row_lt B6.obj; omega)
        have B8 := B6.setList o7 L7 hgb
        have hb7 : w7.heap[b]? = w6.heap[b]? := o7.block b (row_lt B6.obj) (fun ⟨off, e⟩ => by subst e; exact B6.gb rfl)
        have c7 := row_cell (hb7.trans B6.obj) 1 _ rfl
        have f7 := row_free (hb7.trans B6.obj) 1
        have c8 := row_cell B8.obj 0 _ rfl
        refine any_take 15 62 (.pointer (some ⟨b, 0, none⟩)) rfl rfl (by kernel_rfl) (by kernel_rfl) (by kernel_rfl) (fun _ _ _ h => h) (Or.inl ⟨by rfl, by intro w; go_simp⟩) ?_
        try simp only [Act.put, List.setIfInBounds_toArray, List.set_cons_zero, List.set_cons_succ]
        refine any_take 16 63 (.pointer (some ⟨b, 1, none⟩)) rfl rfl (by kernel_rfl) (by kernel_rfl) (by kernel_rfl) (fun _ _ _ h => h) (Or.inl ⟨by rfl, by intro w; go_simp⟩) ?_
        try simp only [Act.put, List.setIfInBounds_toArray, List.set_cons_zero, List.set_cons_succ]
        refine wpAny_ready (rs := [17]) (by kernel_rfl) (by simp) ?_
        refine AllReady.cons rfl (fun K hK => ?_) AllReady.nil
        replace hK : Shut _ := hK
        go_simp
        go_wp2
        refine hK.out _ _ ?_
        clear hK
        try simp only [Act.put, List.setIfInBounds_toArray, List.set_cons_zero, List.set_cons_succ]
        refine wpAny_done (by kernel_rfl) ?_ _
        go_wp2
        go_ret2
        refine ⟨rfl, ((O6.trans (o7.mono fun q _ hq => .inr (.inr hq))).setCell (fun _ => .inl rfl) _ _), a', cap', B8, fun g off e => (hg7 g off e).imp id fun h' => Nat.le_trans O6.size h'⟩
end Go.Proofs.Ytoppecppmjpgiaa
