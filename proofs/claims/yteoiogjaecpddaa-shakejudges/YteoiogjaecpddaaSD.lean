/-
  Package shake: Hello and Welcome, the program's and the document's.
-/
import Derived.Test.YteoiogjaecpddaaSC
namespace Go.Proofs.Yteoiogjaecpddaa
open Go.ChangeShapes Go.WideShapes Go.ChangeAt Go.RowKit
set_option linter.unusedVariables false
set_option linter.unusedSimpArgs false
attribute [local go_sem] field61 field33 field33b field33c

abbrev z8 : Obj := .cells #[.int .i64 0, .int .i64 0, .int .i64 0, .int .i64 0, .int .i64 0, .int .i64 0, .int .i64 0, .slice none 0 0] 40
abbrev put8 (W : World) (k : Nat) (a b c d e f g h : Value) : World := (((((((W.setCell ⟨k, 0, none⟩ a).setCell ⟨k, 1, none⟩ b).setCell ⟨k, 2, none⟩ c).setCell ⟨k, 3, none⟩ d).setCell ⟨k, 4, none⟩ e).setCell ⟨k, 5, none⟩ f).setCell ⟨k, 6, none⟩ g).setCell ⟨k, 7, none⟩ h
theorem put8_row {W : World} {k : Nat} {a b c d e f g h : Value} {t : TypeId} (H : W.heap[k]? = some (.cells #[a, b, c, d, e, f, g, h] t (0, 0))) (a' b' c' d' e' f' g' h' : Value) : (put8 W k a' b' c' d' e' f' g' h').heap[k]? = some (.cells #[a', b', c', d', e', f', g', h'] t (0, 0)) := by
  have h1 : ((W).setCell ⟨k, 0, none⟩ a').heap[k]? = some (.cells #[a', b, c, d, e, f, g, h] t (0, 0)) := set_row H 0 a'
  have h2 : (((W).setCell ⟨k, 0, none⟩ a').setCell ⟨k, 1, none⟩ b').heap[k]? = some (.cells #[a', b', c, d, e, f, g, h] t (0, 0)) := set_row h1 1 b'
  have h3 : ((((W).setCell ⟨k, 0, none⟩ a').setCell ⟨k, 1, none⟩ b').setCell ⟨k, 2, none⟩ c').heap[k]? = some (.cells #[a', b', c', d, e, f, g, h] t (0, 0)) := set_row h2 2 c'
  have h4 : (((((W).setCell ⟨k, 0, none⟩ a').setCell ⟨k, 1, none⟩ b').setCell ⟨k, 2, none⟩ c').setCell ⟨k, 3, none⟩ d').heap[k]? = some (.cells #[a', b', c', d', e, f, g, h] t (0, 0)) := set_row h3 3 d'
  have h5 : ((((((W).setCell ⟨k, 0, none⟩ a').setCell ⟨k, 1, none⟩ b').setCell ⟨k, 2, none⟩ c').setCell ⟨k, 3, none⟩ d').setCell ⟨k, 4, none⟩ e').heap[k]? = some (.cells #[a', b', c', d', e', f, g, h] t (0, 0)) := set_row h4 4 e'
  have h6 : (((((((W).setCell ⟨k, 0, none⟩ a').setCell ⟨k, 1, none⟩ b').setCell ⟨k, 2, none⟩ c').setCell ⟨k, 3, none⟩ d').setCell ⟨k, 4, none⟩ e').setCell ⟨k, 5, none⟩ f').heap[k]? = some (.cells #[a', b', c', d', e', f', g, h] t (0, 0)) := set_row h5 5 f'
  have h7 : ((((((((W).setCell ⟨k, 0, none⟩ a').setCell ⟨k, 1, none⟩ b').setCell ⟨k, 2, none⟩ c').setCell ⟨k, 3, none⟩ d').setCell ⟨k, 4, none⟩ e').setCell ⟨k, 5, none⟩ f').setCell ⟨k, 6, none⟩ g').heap[k]? = some (.cells #[a', b', c', d', e', f', g', h] t (0, 0)) := set_row h6 6 g'
  have h8 : (((((((((W).setCell ⟨k, 0, none⟩ a').setCell ⟨k, 1, none⟩ b').setCell ⟨k, 2, none⟩ c').setCell ⟨k, 3, none⟩ d').setCell ⟨k, 4, none⟩ e').setCell ⟨k, 5, none⟩ f').setCell ⟨k, 6, none⟩ g').setCell ⟨k, 7, none⟩ h').heap[k]? = some (.cells #[a', b', c', d', e', f', g', h'] t (0, 0)) := set_row h7 7 h'
  exact h8
theorem put8_far {W : World} {k c : Nat} (hk : c ≠ k) (a b c' d e f g h : Value) : (put8 W k a b c' d e f g h).heap[c]? = W.heap[c]? :=
  (set_far rfl hk _ _).trans ((set_far rfl hk _ _).trans ((set_far rfl hk _ _).trans ((set_far rfl hk _ _).trans ((set_far rfl hk _ _).trans ((set_far rfl hk _ _).trans ((set_far rfl hk _ _).trans (set_far rfl hk _ _)))))))
theorem Below.put8 {n : Nat} {A B : World} (H : Below n A B) {k : Nat} (hp : n ≤ k) (a b c d e f g h : Value) : Below n A (put8 B k a b c d e f g h) :=
  (((((((H.setCell (p := ⟨k, 0, none⟩) hp _).setCell (p := ⟨k, 1, none⟩) hp _).setCell (p := ⟨k, 2, none⟩) hp _).setCell (p := ⟨k, 3, none⟩) hp _).setCell (p := ⟨k, 4, none⟩) hp _).setCell (p := ⟨k, 5, none⟩) hp _).setCell (p := ⟨k, 6, none⟩) hp _).setCell (p := ⟨k, 7, none⟩) hp _
theorem fre8 {W : World} {k : Nat} {o : Array Value} {t : TypeId} (H : W.heap[k]? = some (.cells o t (0, 0))) :
    W.frozen? ⟨k, 0, none⟩ = false ∧ W.frozen? ⟨k, 1, none⟩ = false ∧ W.frozen? ⟨k, 2, none⟩ = false ∧ W.frozen? ⟨k, 3, none⟩ = false ∧ W.frozen? ⟨k, 4, none⟩ = false ∧ W.frozen? ⟨k, 5, none⟩ = false ∧ W.frozen? ⟨k, 6, none⟩ = false ∧ W.frozen? ⟨k, 7, none⟩ = false :=
  ⟨row_free H 0, row_free H 1, row_free H 2, row_free H 3, row_free H 4, row_free H 5, row_free H 6, row_free H 7⟩
set_option maxRecDepth 100000 in
set_option maxHeartbeats 8000000 in
theorem hello_any (idn boot peer : Int) (a : Option Addr) (n cap : Nat) (l : List SN) (w : World) (hr : RdS w a n cap l) : Calls Try.prog 33 #[.int .i64 idn, .int .i64 boot, .slice a n cap, .int .i64 peer] w fun e w' => e = .returned (PK.val ⟨1, idn, peer, boot, (getL peer l).mine, 0, 0, none, 0, 0⟩) ∧ Below w.heap.size w w' := by
  have b0 : Below w.heap.size w (w.alloc z8) := (Below.refl _ _).alloc (Nat.le_refl _) _
  have T0 : (w.alloc z8).heap[w.heap.size]? = some z8 := heap_new rfl
  have K := get_any a n cap l peer _ (hr.below b0)
  obtain ⟨⟨s0, s1, s2, s3⟩, hs⟩ : ∃ s, getL peer l = s := ⟨_, rfl⟩
  rw [hs] at K
  have HS : Hid (getL peer l = ⟨s0, s1, s2, s3⟩) := hs
  dsimp only [SN.val] at K
  clear hs hr
  go_enter Try.func33, Try.ntmps33
  go_wp2_with (go_at_call 19; refine K.mono ?_; rintro e w1 ⟨rfl, b1⟩; have T1 := (b1.block _ (row_lt T0)).trans T0; have ⟨p0, p1, p2, p3, p4, p5, p6, p7⟩ := cel8 T1; have ⟨q0, q1, q2, q3, q4, q5, q6, q7⟩ := fre8 T1)
  have T1 := (b1.block _ (row_lt T0)).trans T0
  refine bodyPost_ret (results_row1 rfl _ _ w.heap.size _ rfl (load_40 (d := ⟨1, idn, peer, boot, s3, 0, 0, none, 0, 0⟩) (put8_row T1 _ _ _ _ _ _ _ _))) rfl ⟨by rw [HS.out], ?_⟩
  exact Below.put8 (b0.trans (b1.mono b0.size)) (Nat.le_refl _) _ _ _ _ _ _ _ _
set_option maxRecDepth 100000 in
set_option maxHeartbeats 8000000 in
theorem rhello_any (idn boot peer : Int) (a : Option Addr) (n cap : Nat) (l : List SN) (w : World) (hr : RdS w a n cap l) (hrise : l.Pairwise (fun x y => x.peer < y.peer)) : Calls Try.prog 34 #[.int .i64 idn, .int .i64 boot, .slice a n cap, .int .i64 peer] w fun e w' => e = .returned (PK.val ⟨1, idn, peer, boot, (getL peer l).mine, 0, 0, none, 0, 0⟩) ∧ Below w.heap.size w w' := by
  have b0 : Below w.heap.size w (w.alloc z8) := (Below.refl _ _).alloc (Nat.le_refl _) _
  have T0 : (w.alloc z8).heap[w.heap.size]? = some z8 := heap_new rfl
  have K := rget_any a n cap l peer _ (hr.below b0) hrise
  obtain ⟨⟨s0, s1, s2, s3⟩, hs⟩ : ∃ s, getL peer l = s := ⟨_, rfl⟩
  rw [hs] at K
  have HS : Hid (getL peer l = ⟨s0, s1, s2, s3⟩) := hs
  dsimp only [SN.val] at K
  clear hs hr
  go_enter Try.func34, Try.ntmps34
  go_wp2_with (go_at_call 20; refine K.mono ?_; rintro e w1 ⟨rfl, b1⟩; have T1 := (b1.block _ (row_lt T0)).trans T0; have ⟨p0, p1, p2, p3, p4, p5, p6, p7⟩ := cel8 T1; have ⟨q0, q1, q2, q3, q4, q5, q6, q7⟩ := fre8 T1)
  have T1 := (b1.block _ (row_lt T0)).trans T0
  refine bodyPost_ret (results_row1 rfl _ _ w.heap.size _ rfl (load_40 (d := ⟨1, idn, peer, boot, s3, 0, 0, none, 0, 0⟩) (put8_row T1 _ _ _ _ _ _ _ _))) rfl ⟨by rw [HS.out], ?_⟩
  exact Below.put8 (b0.trans (b1.mono b0.size)) (Nat.le_refl _) _ _ _ _ _ _ _ _
set_option maxRecDepth 100000 in
set_option maxHeartbeats 8000000 in
theorem welcome_any (idn boot : Int) (a : Option Addr) (n cap : Nat) (l : List SN) (p : PK) (w : World) (hr : RdS w a n cap l) : Calls Try.prog 35 #[.int .i64 idn, .int .i64 boot, .slice a n cap, p.val] w fun e w' => e = .returned (PK.val ⟨2, idn, p.frm, boot, (getL p.frm l).mine, p.boot, p.life, none, 0, 0⟩) ∧ Below w.heap.size w w' := by
  obtain ⟨kd, fr, ds, bt, lf, ec, el, ia, im, ic⟩ := p
  dsimp only
  obtain ⟨W0, hW0⟩ : ∃ W0, (w.alloc (.cells #[.int .i64 kd, .int .i64 fr, .int .i64 ds, .int .i64 bt, .int .i64 lf, .int .i64 ec, .int .i64 el, .slice ia im ic] 40)).alloc z8 = W0 := ⟨_, rfl⟩
  have b0 : Below w.heap.size w W0 := by rw [← hW0]; exact ((Below.refl _ _).alloc (Nat.le_refl _) _).alloc (by simp) _
  have P1 : W0.heap[w.heap.size]? = some (.cells #[.int .i64 kd, .int .i64 fr, .int .i64 ds, .int .i64 bt, .int .i64 lf, .int .i64 ec, .int .i64 el, .slice ia im ic] 40 (0, 0)) := by rw [← hW0]; exact heap_old (by simp) (heap_new rfl)
  have Z1 : W0.heap[w.heap.size + 1]? = some z8 := by rw [← hW0]; exact heap_new (by simp)
  have HW : Hid ((w.alloc (.cells #[.int .i64 kd, .int .i64 fr, .int .i64 ds, .int .i64 bt, .int .i64 lf, .int .i64 ec, .int .i64 el, .slice ia im ic] 40)).alloc z8 = W0) := hW0
  have K := fun W (h : Below W0.heap.size W0 W) => get_any a n cap l fr W (hr.below (b0.trans (h.mono b0.size)))
  obtain ⟨⟨s0, s1, s2, s3⟩, hs⟩ : ∃ s, getL fr l = s := ⟨_, rfl⟩
  simp only [hs, SN.val] at K
  have HS : Hid (getL fr l = ⟨s0, s1, s2, s3⟩) := hs
  dsimp only [PK.val]
  clear hs hr hW0
  go_enter Try.func35, Try.ntmps35
  go_wp2_with (fail)
  rw [HW.out]
  obtain ⟨qp, hqp⟩ : ∃ q : Nat, w.heap.size = q := ⟨_, rfl⟩
  obtain ⟨qz, hqz⟩ : ∃ q : Nat, w.heap.size + 1 = q := ⟨_, rfl⟩
  have HQ : Hid (w.heap.size ≤ qz) := by show w.heap.size ≤ qz; omega
  have HPZ : Hid (qp ≠ qz) := by show qp ≠ qz; omega
  rw [hqz] at Z1
  simp only [hqz]
  rw [hqp] at P1
  simp only [hqp]
  clear hqp hqz
  refine wp_region_any (by kernel_rfl) ?_
  change wpAny _ _ _ _ _ _ _ (World.drew _)
  refine wpAny_narrow (fun W' => W'.heap[qp]? = some (.cells #[.int .i64 kd, .int .i64 fr, .int .i64 ds, .int .i64 bt, .int .i64 lf, .int .i64 ec, .int .i64 el, .slice ia im ic] 40 (0, 0))) _ _ _ _ ?_
  refine anyH_take 0 9 (.int .i64 idn) rfl rfl (by kernel_rfl) (by kernel_rfl) (by kernel_rfl) (fun _ _ _ h => h) (Or.inl ⟨by rfl, by intro w hSw; go_simp⟩) (P1) ?_
  try simp only [Act.put, List.setIfInBounds_toArray, List.set_cons_zero, List.set_cons_succ]
  refine anyH_take 1 10 (.pointer (some ⟨qp, 1, none⟩)) rfl rfl (by kernel_rfl) (by kernel_rfl) (by kernel_rfl) (fun _ _ _ h => h) (Or.inl ⟨by rfl, by intro w hSw; go_simp⟩) (P1) ?_
  try simp only [Act.put, List.setIfInBounds_toArray, List.set_cons_zero, List.set_cons_succ]
  refine anyH_take 2 11 (.int .i64 fr) rfl rfl (by kernel_rfl) (by kernel_rfl) (by kernel_rfl) (fun _ _ _ h => h) (Or.inl ⟨by rfl, by intro w hSw; have s1 := row_cell hSw 1 _ rfl; go_simp⟩) (P1) ?_
  try simp only [Act.put, List.setIfInBounds_toArray, List.set_cons_zero, List.set_cons_succ]
  refine anyH_take 3 12 (.int .i64 boot) rfl rfl (by kernel_rfl) (by kernel_rfl) (by kernel_rfl) (fun _ _ _ h => h) (Or.inl ⟨by rfl, by intro w hSw; go_simp⟩) (P1) ?_
  try simp only [Act.put, List.setIfInBounds_toArray, List.set_cons_zero, List.set_cons_succ]
  refine anyH_take 4 13 (.slice a n cap) rfl rfl (by kernel_rfl) (by kernel_rfl) (by kernel_rfl) (fun _ _ _ h => h) (Or.inl ⟨by rfl, by intro w hSw; go_simp⟩) (P1) ?_
  try simp only [Act.put, List.setIfInBounds_toArray, List.set_cons_zero, List.set_cons_succ]
  refine anyH_take 5 14 (.pointer (some ⟨qp, 1, none⟩)) rfl rfl (by kernel_rfl) (by kernel_rfl) (by kernel_rfl) (fun _ _ _ h => h) (Or.inl ⟨by rfl, by intro w hSw; go_simp⟩) (P1) ?_
  try simp only [Act.put, List.setIfInBounds_toArray, List.set_cons_zero, List.set_cons_succ]
  refine anyH_take 6 15 (.int .i64 fr) rfl rfl (by kernel_rfl) (by kernel_rfl) (by kernel_rfl) (fun _ _ _ h => h) (Or.inl ⟨by rfl, by intro w hSw; have s1 := row_cell hSw 1 _ rfl; go_simp⟩) (P1) ?_
  try simp only [Act.put, List.setIfInBounds_toArray, List.set_cons_zero, List.set_cons_succ]
  refine anyH_take 9 18 (.pointer (some ⟨qp, 3, none⟩)) rfl rfl (by kernel_rfl) (by kernel_rfl) (by kernel_rfl) (fun _ _ _ h => h) (Or.inl ⟨by rfl, by intro w hSw; go_simp⟩) (P1) ?_
  try simp only [Act.put, List.setIfInBounds_toArray, List.set_cons_zero, List.set_cons_succ]
  refine anyH_take 10 19 (.int .i64 bt) rfl rfl (by kernel_rfl) (by kernel_rfl) (by kernel_rfl) (fun _ _ _ h => h) (Or.inl ⟨by rfl, by intro w hSw; have s1 := row_cell hSw 3 _ rfl; go_simp⟩) (P1) ?_
  try simp only [Act.put, List.setIfInBounds_toArray, List.set_cons_zero, List.set_cons_succ]
  refine anyH_take 11 20 (.pointer (some ⟨qp, 4, none⟩)) rfl rfl (by kernel_rfl) (by kernel_rfl) (by kernel_rfl) (fun _ _ _ h => h) (Or.inl ⟨by rfl, by intro w hSw; go_simp⟩) (P1) ?_
  try simp only [Act.put, List.setIfInBounds_toArray, List.set_cons_zero, List.set_cons_succ]
  refine anyH_take 12 21 (.int .i64 lf) rfl rfl (by kernel_rfl) (by kernel_rfl) (by kernel_rfl) (fun _ _ _ h => h) (Or.inl ⟨by rfl, by intro w hSw; have s1 := row_cell hSw 4 _ rfl; go_simp⟩) (P1) ?_
  try simp only [Act.put, List.setIfInBounds_toArray, List.set_cons_zero, List.set_cons_succ]
  refine wpAnyH_ready (rs := [7]) (by kernel_rfl) (by simp) ?_
  refine AllReadyH.cons rfl (fun K9 hK => ?_) AllReadyH.nil
  go_simp
  go_wp2_with (go_at_call 19; refine (K _ ((Below.refl _ _).drew)).mono ?_; rintro e w5 ⟨rfl, b5⟩)
  have B5 : Below W0.heap.size W0 w5 := (Below.refl _ _).drew.trans b5
  have P5 := (B5.block _ (row_lt P1)).trans P1
  have Z5 := (B5.block _ (row_lt Z1)).trans Z1
  refine hK.out _ _ P5 (fun hS1 => ?_)
  clear hK
  try simp only [Act.put, List.setIfInBounds_toArray, List.set_cons_zero, List.set_cons_succ]
  refine anyH_take 8 17 (.int .i64 s3) rfl rfl (by kernel_rfl) (by kernel_rfl) (by kernel_rfl) (fun _ _ _ h => h) (Or.inl ⟨by rfl, by intro w hSw; go_simp⟩) (P5) ?_
  try simp only [Act.put, List.setIfInBounds_toArray, List.set_cons_zero, List.set_cons_succ]
  refine anyH_take 13 22 (.agg #[.int .i64 2, .int .i64 idn, .int .i64 fr, .int .i64 boot, .int .i64 s3, .int .i64 bt, .int .i64 lf, .slice none 0 0]) rfl rfl (by kernel_rfl) (by kernel_rfl) (by kernel_rfl) (fun _ _ _ h => h) (Or.inl ⟨by rfl, by intro w hSw; go_simp⟩) (P5) ?_
  try simp only [Act.put, List.setIfInBounds_toArray, List.set_cons_zero, List.set_cons_succ]
  have ⟨p0, p1, p2, p3, p4, p5, p6, p7⟩ := cel8 Z5
  have ⟨q0, q1, q2, q3, q4, q5, q6, q7⟩ := fre8 Z5
  refine wpAnyH_ready (rs := [14]) (by kernel_rfl) (by simp) ?_
  refine AllReadyH.cons rfl (fun K9 hK => ?_) AllReadyH.nil
  go_simp
  have P6 := (put8_far (W := w5) (k := qz) (c := qp) HPZ.out (.int .i64 2) (.int .i64 idn) (.int .i64 fr) (.int .i64 boot) (.int .i64 s3) (.int .i64 bt) (.int .i64 lf) (.slice none 0 0)).trans P5
  refine hK.out _ _ P6 (fun hS2 => ?_)
  clear hK
  refine wpAnyH_done (by kernel_rfl) ?_ _
  go_wp2
  refine bodyPost_ret (results_row1 rfl _ _ qz _ rfl (load_40 (d := ⟨2, idn, fr, boot, s3, bt, lf, none, 0, 0⟩) (put8_row Z5 _ _ _ _ _ _ _ _))) rfl ⟨by rw [HS.out]; rfl, ?_⟩
  exact Below.put8 (b0.trans (B5.mono b0.size)) HQ.out _ _ _ _ _ _ _ _
set_option maxRecDepth 100000 in
set_option maxHeartbeats 8000000 in
theorem rwelcome_any (idn boot : Int) (a : Option Addr) (n cap : Nat) (l : List SN) (p : PK) (w : World) (hr : RdS w a n cap l) (hrise : l.Pairwise (fun x y => x.peer < y.peer)) : Calls Try.prog 36 #[.int .i64 idn, .int .i64 boot, .slice a n cap, p.val] w fun e w' => e = .returned (PK.val ⟨2, idn, p.frm, boot, (getL p.frm l).mine, p.boot, p.life, none, 0, 0⟩) ∧ Below w.heap.size w w' := by
  obtain ⟨kd, fr, ds, bt, lf, ec, el, ia, im, ic⟩ := p
  dsimp only
  obtain ⟨W0, hW0⟩ : ∃ W0, (w.alloc (.cells #[.int .i64 kd, .int .i64 fr, .int .i64 ds, .int .i64 bt, .int .i64 lf, .int .i64 ec, .int .i64 el, .slice ia im ic] 40)).alloc z8 = W0 := ⟨_, rfl⟩
  have b0 : Below w.heap.size w W0 := by rw [← hW0]; exact ((Below.refl _ _).alloc (Nat.le_refl _) _).alloc (by simp) _
  have P1 : W0.heap[w.heap.size]? = some (.cells #[.int .i64 kd, .int .i64 fr, .int .i64 ds, .int .i64 bt, .int .i64 lf, .int .i64 ec, .int .i64 el, .slice ia im ic] 40 (0, 0)) := by rw [← hW0]; exact heap_old (by simp) (heap_new rfl)
  have Z1 : W0.heap[w.heap.size + 1]? = some z8 := by rw [← hW0]; exact heap_new (by simp)
  have HW : Hid ((w.alloc (.cells #[.int .i64 kd, .int .i64 fr, .int .i64 ds, .int .i64 bt, .int .i64 lf, .int .i64 ec, .int .i64 el, .slice ia im ic] 40)).alloc z8 = W0) := hW0
  have K := fun W (h : Below W0.heap.size W0 W) => rget_any a n cap l fr W (hr.below (b0.trans (h.mono b0.size))) hrise
  obtain ⟨⟨s0, s1, s2, s3⟩, hs⟩ : ∃ s, getL fr l = s := ⟨_, rfl⟩
  simp only [hs, SN.val] at K
  have HS : Hid (getL fr l = ⟨s0, s1, s2, s3⟩) := hs
  dsimp only [PK.val]
  clear hs hr hW0
  go_enter Try.func36, Try.ntmps36
  go_wp2_with (fail)
  rw [HW.out]
  obtain ⟨qp, hqp⟩ : ∃ q : Nat, w.heap.size = q := ⟨_, rfl⟩
  obtain ⟨qz, hqz⟩ : ∃ q : Nat, w.heap.size + 1 = q := ⟨_, rfl⟩
  have HQ : Hid (w.heap.size ≤ qz) := by show w.heap.size ≤ qz; omega
  have HPZ : Hid (qp ≠ qz) := by show qp ≠ qz; omega
  rw [hqz] at Z1
  simp only [hqz]
  rw [hqp] at P1
  simp only [hqp]
  clear hqp hqz
  refine wp_region_any (by kernel_rfl) ?_
  change wpAny _ _ _ _ _ _ _ (World.drew _)
  refine wpAny_narrow (fun W' => W'.heap[qp]? = some (.cells #[.int .i64 kd, .int .i64 fr, .int .i64 ds, .int .i64 bt, .int .i64 lf, .int .i64 ec, .int .i64 el, .slice ia im ic] 40 (0, 0))) _ _ _ _ ?_
  refine anyH_take 0 9 (.int .i64 idn) rfl rfl (by kernel_rfl) (by kernel_rfl) (by kernel_rfl) (fun _ _ _ h => h) (Or.inl ⟨by rfl, by intro w hSw; go_simp⟩) (P1) ?_
  try simp only [Act.put, List.setIfInBounds_toArray, List.set_cons_zero, List.set_cons_succ]
  refine anyH_take 1 10 (.pointer (some ⟨qp, 1, none⟩)) rfl rfl (by kernel_rfl) (by kernel_rfl) (by kernel_rfl) (fun _ _ _ h => h) (Or.inl ⟨by rfl, by intro w hSw; go_simp⟩) (P1) ?_
  try simp only [Act.put, List.setIfInBounds_toArray, List.set_cons_zero, List.set_cons_succ]
  refine anyH_take 2 11 (.int .i64 fr) rfl rfl (by kernel_rfl) (by kernel_rfl) (by kernel_rfl) (fun _ _ _ h => h) (Or.inl ⟨by rfl, by intro w hSw; have s1 := row_cell hSw 1 _ rfl; go_simp⟩) (P1) ?_
  try simp only [Act.put, List.setIfInBounds_toArray, List.set_cons_zero, List.set_cons_succ]
  refine anyH_take 3 12 (.int .i64 boot) rfl rfl (by kernel_rfl) (by kernel_rfl) (by kernel_rfl) (fun _ _ _ h => h) (Or.inl ⟨by rfl, by intro w hSw; go_simp⟩) (P1) ?_
  try simp only [Act.put, List.setIfInBounds_toArray, List.set_cons_zero, List.set_cons_succ]
  refine anyH_take 4 13 (.slice a n cap) rfl rfl (by kernel_rfl) (by kernel_rfl) (by kernel_rfl) (fun _ _ _ h => h) (Or.inl ⟨by rfl, by intro w hSw; go_simp⟩) (P1) ?_
  try simp only [Act.put, List.setIfInBounds_toArray, List.set_cons_zero, List.set_cons_succ]
  refine anyH_take 5 14 (.pointer (some ⟨qp, 1, none⟩)) rfl rfl (by kernel_rfl) (by kernel_rfl) (by kernel_rfl) (fun _ _ _ h => h) (Or.inl ⟨by rfl, by intro w hSw; go_simp⟩) (P1) ?_
  try simp only [Act.put, List.setIfInBounds_toArray, List.set_cons_zero, List.set_cons_succ]
  refine anyH_take 6 15 (.int .i64 fr) rfl rfl (by kernel_rfl) (by kernel_rfl) (by kernel_rfl) (fun _ _ _ h => h) (Or.inl ⟨by rfl, by intro w hSw; have s1 := row_cell hSw 1 _ rfl; go_simp⟩) (P1) ?_
  try simp only [Act.put, List.setIfInBounds_toArray, List.set_cons_zero, List.set_cons_succ]
  refine anyH_take 9 18 (.pointer (some ⟨qp, 3, none⟩)) rfl rfl (by kernel_rfl) (by kernel_rfl) (by kernel_rfl) (fun _ _ _ h => h) (Or.inl ⟨by rfl, by intro w hSw; go_simp⟩) (P1) ?_
  try simp only [Act.put, List.setIfInBounds_toArray, List.set_cons_zero, List.set_cons_succ]
  refine anyH_take 10 19 (.int .i64 bt) rfl rfl (by kernel_rfl) (by kernel_rfl) (by kernel_rfl) (fun _ _ _ h => h) (Or.inl ⟨by rfl, by intro w hSw; have s1 := row_cell hSw 3 _ rfl; go_simp⟩) (P1) ?_
  try simp only [Act.put, List.setIfInBounds_toArray, List.set_cons_zero, List.set_cons_succ]
  refine anyH_take 11 20 (.pointer (some ⟨qp, 4, none⟩)) rfl rfl (by kernel_rfl) (by kernel_rfl) (by kernel_rfl) (fun _ _ _ h => h) (Or.inl ⟨by rfl, by intro w hSw; go_simp⟩) (P1) ?_
  try simp only [Act.put, List.setIfInBounds_toArray, List.set_cons_zero, List.set_cons_succ]
  refine anyH_take 12 21 (.int .i64 lf) rfl rfl (by kernel_rfl) (by kernel_rfl) (by kernel_rfl) (fun _ _ _ h => h) (Or.inl ⟨by rfl, by intro w hSw; have s1 := row_cell hSw 4 _ rfl; go_simp⟩) (P1) ?_
  try simp only [Act.put, List.setIfInBounds_toArray, List.set_cons_zero, List.set_cons_succ]
  refine wpAnyH_ready (rs := [7]) (by kernel_rfl) (by simp) ?_
  refine AllReadyH.cons rfl (fun K9 hK => ?_) AllReadyH.nil
  go_simp
  go_wp2_with (go_at_call 20; refine (K _ ((Below.refl _ _).drew)).mono ?_; rintro e w5 ⟨rfl, b5⟩)
  have B5 : Below W0.heap.size W0 w5 := (Below.refl _ _).drew.trans b5
  have P5 := (B5.block _ (row_lt P1)).trans P1
  have Z5 := (B5.block _ (row_lt Z1)).trans Z1
  refine hK.out _ _ P5 (fun hS1 => ?_)
  clear hK
  try simp only [Act.put, List.setIfInBounds_toArray, List.set_cons_zero, List.set_cons_succ]
  refine anyH_take 8 17 (.int .i64 s3) rfl rfl (by kernel_rfl) (by kernel_rfl) (by kernel_rfl) (fun _ _ _ h => h) (Or.inl ⟨by rfl, by intro w hSw; go_simp⟩) (P5) ?_
  try simp only [Act.put, List.setIfInBounds_toArray, List.set_cons_zero, List.set_cons_succ]
  refine anyH_take 13 22 (.agg #[.int .i64 2, .int .i64 idn, .int .i64 fr, .int .i64 boot, .int .i64 s3, .int .i64 bt, .int .i64 lf, .slice none 0 0]) rfl rfl (by kernel_rfl) (by kernel_rfl) (by kernel_rfl) (fun _ _ _ h => h) (Or.inl ⟨by rfl, by intro w hSw; go_simp⟩) (P5) ?_
  try simp only [Act.put, List.setIfInBounds_toArray, List.set_cons_zero, List.set_cons_succ]
  have ⟨p0, p1, p2, p3, p4, p5, p6, p7⟩ := cel8 Z5
  have ⟨q0, q1, q2, q3, q4, q5, q6, q7⟩ := fre8 Z5
  refine wpAnyH_ready (rs := [14]) (by kernel_rfl) (by simp) ?_
  refine AllReadyH.cons rfl (fun K9 hK => ?_) AllReadyH.nil
  go_simp
  have P6 := (put8_far (W := w5) (k := qz) (c := qp) HPZ.out (.int .i64 2) (.int .i64 idn) (.int .i64 fr) (.int .i64 boot) (.int .i64 s3) (.int .i64 bt) (.int .i64 lf) (.slice none 0 0)).trans P5
  refine hK.out _ _ P6 (fun hS2 => ?_)
  clear hK
  refine wpAnyH_done (by kernel_rfl) ?_ _
  go_wp2
  refine bodyPost_ret (results_row1 rfl _ _ qz _ rfl (load_40 (d := ⟨2, idn, fr, boot, s3, bt, lf, none, 0, 0⟩) (put8_row Z5 _ _ _ _ _ _ _ _))) rfl ⟨by rw [HS.out]; rfl, ?_⟩
  exact Below.put8 (b0.trans (B5.mono b0.size)) HQ.out _ _ _ _ _ _ _ _
end Go.Proofs.Yteoiogjaecpddaa
