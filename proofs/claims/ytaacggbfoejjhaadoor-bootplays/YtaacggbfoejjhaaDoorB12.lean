/-
  Package boot: Slots.
-/
import Derived.Test.YtaacggbfoejjhaaDoorB11
namespace Go.Proofs.YtaacggbfoejjhaaDoor
open Go.ChangeShapes Go.WideShapes Go.ChangeAt Go.RowKit Go.Shelf
open D
set_option linter.unusedVariables false
set_option linter.unusedSimpArgs false
attribute [local go_sem] Oper.semAt_some

def scs (x y : Nat) (i : Nat) : Array Value := #[.int .i64 (if 0 < i then (x : Int) else 0), .int .i64 (if 1 < i then (y : Int) else 0)]
set_option maxRecDepth 100000 in
set_option maxHeartbeats 8000000 in
theorem slots_up (v : Value) (V : List Int) (w : World) (hV : V.length = 64) (hb : Byt V) (ht : Tb w) (KL : Calls Tryd.prog 24 #[v] w fun e w' => e = .returned (.tuple #[vb V, .int .i64 0]) ∧ Below w.heap.size w w') :
    Calls Tryd.prog 8 #[v] w fun e w' => e = .returned (.tuple #[.int .i64 ((stand (slot V 0) : Nat) : Int), .int .i64 ((stand (slot V 1) : Nat) : Int), .int .i64 0]) ∧ Below w.heap.size w w' := by
  have h0 := ht.pos
  refine (callsIn_wide (n := 2)).1 ?_
  refine callsIn_of_wp_marks Tryd.func8 rfl trivial ?_
  simp only [Tryd.ntmps8, List.size_toArray, List.length_cons, List.length_nil, Nat.reduceAdd, Nat.reduceSub, Array.replicate_succ, Array.replicate_zero, List.push_toArray, List.append_toArray, List.nil_append, List.cons_append]
  gi_wp2_with (first
    | (refine ⟨trivial, ?_⟩; gi_at_call 24; refine (callsIn_wide.2 KL).mono ?_; rintro e w1 ⟨rfl, b1⟩)
    | ((with_reducible show wpListIn _ _ _ _ _ (Oper.mk _ (Op.alloc 56) _ _ _ _ :: _) _ _); refine wpListIn_allocB rfl 56 64 arr56 rfl ?_; intro w2 N2)
    | ((with_reducible show wpListIn _ _ _ _ _ (Oper.mk _ (Op.store 56 _ _) _ _ _ _ :: _) _ _); refine wpListIn_storeB rfl 56 64 arr56 _ _ rfl w1.heap.size 0 56 (zr 64) V rfl rfl N2.blk hV (by rw [zr_len]; decide) ?_; intro w3 W3; rw [splice_all _ _ (by rw [hV, zr_len])] at W3; have b3 := b1.trans ((N2.wrote W3).mono b1.size))
    | ((with_reducible show wpListIn _ _ _ _ _ (Oper.mk _ (Op.alloc 59) _ _ _ _ :: _) _ _); refine wpListIn_allocC rfl 59 rfl (.agg #[.int .i64 0, .int .i64 0]) zero59 ?_; intro w4 N4)
    | ((with_reducible show wpListIn _ _ _ _ _ (Oper.mk _ (Op.load 56 _) _ _ _ _ :: _) _ _); refine wpListIn_loadB rfl 56 64 arr56 _ rfl w1.heap.size 0 V rfl (W3.blk.below N4.below).whole hV ?_)
    | (refine ⟨trivial, ?_⟩; gi_at_call 25; refine (callsIn_wide.2 (numbers_any V w4)).mono ?_; rintro e w5 ⟨rfl, N5⟩))
  have z4 : w4.heap.size = w3.heap.size + 1 := N4.size
  have z5 : w5.heap.size = w4.heap.size + 1 := N5.size
  have b4 : Below w.heap.size w w4 := b3.trans (N4.below.mono b3.size)
  have b5 : Below w.heap.size w w5 := b4.trans (N5.below.mono b4.size)
  have L0 : Lst w w5 w3.heap.size w4.heap.size 59 V (scs (stand (slot V 0)) (stand (slot V 1)) 0) := ⟨⟨N5.blk, ht.below b5⟩, N4.cel.below N5.below, b5⟩
  have HZ : Hid (w5.heap.size = w3.heap.size + 2 ∧ w4.heap.size = w3.heap.size + 1 ∧ w.heap.size ≤ w3.heap.size) := ⟨by omega, z4, b3.size⟩
  clear z4 z5 N2 W3 N4 N5 b4 b5 b3 b1
  have G := numbers_gives w4.heap.size V w5 hV hb
  have HXL : Hid ((nums V).length = 2) := rfl
  have HX0 : Hid ((nums V)[0]? = some (0, stand (slot V 0))) := rfl
  have HX1 : Hid ((nums V)[1]? = some (1, stand (slot V 1))) := rfl
  obtain ⟨xs, HXS⟩ : ∃ xs, Hid (nums V = xs) := ⟨_, rfl⟩
  rw [HXS.out] at G HXL HX0 HX1
  generalize w3.heap.size = c at *
  generalize w4.heap.size = k at *
  obtain ⟨x, HXX⟩ : ∃ x, Hid (stand (slot V 0) = x) := ⟨_, rfl⟩
  obtain ⟨y, HYY⟩ : ∃ y, Hid (stand (slot V 1) = y) := ⟨_, rfl⟩
  rw [HXX.out] at L0 HX0
  rw [HYY.out] at L0 HX1
  refine S.range_turns (gf := 43) (lb := #[.pointer (some ⟨k, 0, none⟩)]) (by first | rfl | simp) (enters_of Tryd.func43 (by kernel_rfl) rfl)
    G (Below.refl _ _) (fun _ => rfl)
    (fun i C W => Lst w W c k 59 V (scs x y i))
    (fun c C W => False)
    (fun i C A h => h.keep)
    (fun i C A B h s => h.same s (by have := HZ.out; omega) (by have := HZ.out; omega) (by have := HZ.out; omega))
    (fun c C A B h s => h)
    L0
    (fun q a' W => a' = { tmps := #[v, undef, .int .i64 0, .int .i64 0, .int .i64 0, .pointer (some ⟨w1.heap.size, 0, none⟩), .int .i64 0, .pointer (some ⟨c, 0, none⟩), .int .i64 (q.1 : Int), .int .i64 (q.2 : Int), .tuple #[vb V, .int .i64 0], v, .tuple #[vb V, .int .i64 0], vb V, .int .i64 0, .int .i64 0, .bool false, undef, vb V, .func (.func 43) #[] #[.pointer (some ⟨k, 0, none⟩)], .int .i64 (q.1 : Int), .int .i64 (q.2 : Int), undef, undef, undef, undef, undef, undef, undef], defers := [] })
    (fun q a' A o h => h)
    ?assign ?body ?done ?stop
  case assign =>
    intro i q W C K hi hs hK
    gi_wp2
    exact hK _ _ rfl (Below.refl _ _)
  case body =>
    rintro i ⟨qi, qn⟩ C a' W L rfl hx hs hC
    have hC' : ∀ b, C b → w5.heap.size ≤ b ∧ b < W.heap.size := fun b hb => ⟨by have := (hC b hb).1; omega, (hC b hb).2⟩
    have hi2 : i < 2 := by have := (List.getElem?_eq_some_iff.1 hx).1; rw [HXL.out] at this; exact this
    have hi3 : i = 0 ∨ i = 1 := by omega
    rcases hi3 with rfl | rfl
    · rw [HX0.out] at hx
      cases hx
      clear HXL HX0 HX1 HXS G hi2
      gi_wp2_with ((with_reducible show wpListIn _ _ _ _ _ (Oper.mk _ (Op.store 2 _ _) _ _ _ _ :: _) _ _); refine wpListIn_storeC rfl 2 one2 _ _ rfl c 0 59 _ (.int .i64 (x : Int)) rfl rfl rfl L.cel (by show 0 < 2; omega) ?_; intro W2 X2)
      refine ⟨C, ?_, turn_wr X2 (by have := HZ.out; omega) hC'⟩
      exact L.wr X2 (by have := HZ.out; omega) (by have := HZ.out; omega) h0
    · rw [HX1.out] at hx
      cases hx
      clear HXL HX0 HX1 HXS G hi2
      gi_wp2_with ((with_reducible show wpListIn _ _ _ _ _ (Oper.mk _ (Op.store 2 _ _) _ _ _ _ :: _) _ _); refine wpListIn_storeC rfl 2 one2 _ _ rfl c 1 59 _ (.int .i64 (y : Int)) rfl rfl rfl L.cel (by show 1 < 2; omega) ?_; intro W2 X2)
      refine ⟨C, ?_, turn_wr X2 (by have := HZ.out; omega) hC'⟩
      exact L.wr X2 (by have := HZ.out; omega) (by have := HZ.out; omega) h0
  case done =>
    intro C W L hK hC
    have LC := L.cel
    rw [HXL.out] at LC
    have BW := L.below
    have LC' : Cel W c 59 #[.int .i64 (x : Int), .int .i64 (y : Int)] := LC
    have c0 : W.cell? ⟨c, 0, none⟩ = some (.int .i64 (x : Int)) := row_cell LC' 0 _ rfl
    have c1 : W.cell? ⟨c, 1, none⟩ = some (.int .i64 (y : Int)) := row_cell LC' 1 _ rfl
    clear LC LC' L
    gi_wp2
    refine wpIn_wide.2 ?_
    go_quiet (fail)
    gi_wp2
    refine ⟨by simp, .inl ⟨_, _, rfl, run_takeDeferred hK, ?_⟩⟩
    refine ⟨.tuple #[.int .i64 (x : Int), .int .i64 (y : Int), .int .i64 0], by simp [results, Tryd.results8], ?_, S.below_putObj (S.Below.drewn BW _) (by have := HZ.out; omega) _⟩
    rw [HXX.out, HYY.out]
  case stop =>
    rintro c C W h _ _
    exact h.elim
set_option maxHeartbeats 4000000 in
theorem slots_down (v : Value) (C : Int) (w : World) (hC : (C != 0) = true) (KL : Calls Tryd.prog 24 #[v] w fun e w' => e = .returned (.tuple #[vb (zr 64), .int .i64 C]) ∧ Below w.heap.size w w') :
    Calls Tryd.prog 8 #[v] w fun e w' => e = .returned (.tuple #[.int .i64 0, .int .i64 0, .int .i64 C]) ∧ Below w.heap.size w w' := by
  go_enter Tryd.func8, Tryd.ntmps8
  go_wp2_with (first
    | (go_at_call 24; refine KL.mono ?_; rintro e w1 ⟨rfl, b1⟩)
    | ((with_reducible show wpList _ _ _ (Oper.mk _ (Op.alloc 56) _ _ _ _ :: _) _ _); refine wpList_allocB rfl 56 64 arr56 rfl ?_; intro w2 N2)
    | ((with_reducible show wpList _ _ _ (Oper.mk _ (Op.store 56 _ _) _ _ _ _ :: _) _ _); refine wpList_storeB rfl 56 64 arr56 _ _ rfl w1.heap.size 0 56 (zr 64) (zr 64) rfl rfl N2.blk (zr_len 64) (by rw [zr_len]; decide) ?_; intro w3 W3; have b3 := b1.trans ((N2.wrote W3).mono b1.size)))
  refine bodyPost_ret (v := .tuple #[.int .i64 0, .int .i64 0, .int .i64 C]) (by simp [results, Tryd.results8, go_sem]) rfl ⟨rfl, b3⟩
def sl0 (S : DS) : Nat := stand (slot (ldV S) 0)
def sl1 (S : DS) : Nat := stand (slot (ldV S) 1)
theorem sl_zr (i : Nat) (hi : i < 2) : stand (slot (zr 64) i) = 0 := by rw [slot_zr i hi]; exact stand_zr
theorem slots_dk (d l : Nat) (S : DS) (w : World) (D : DkP w d l S) (ht : Tb w) : Calls Tryd.prog 8 #[.pointer (some ⟨d, 0, none⟩)] w fun e w' => e = .returned (.tuple #[.int .i64 ((sl0 S : Nat) : Int), .int .i64 ((sl1 S : Nat) : Int), .int .i64 (ldC S)]) ∧ Below w.heap.size w w' := by
  have KL := ld_any d l S w D
  unfold sl0 sl1
  by_cases h : ldC S = 0
  · rw [h] at KL ⊢
    exact slots_up _ _ w (ldV_len D.ok) (ldV_byt D.ok) ht KL
  · rw [ldV_no h] at KL ⊢
    rw [sl_zr 0 (by omega), sl_zr 1 (by omega)]
    exact slots_down _ _ w (by simp [h]) KL
theorem slots_nil (w : World) : Calls Tryd.prog 8 #[.pointer none] w fun e w' => e = .returned (.tuple #[.int .i64 0, .int .i64 0, .int .i64 32]) ∧ Below w.heap.size w w' :=
  slots_down _ _ w rfl (ld_nil w)
end Go.Proofs.YtaacggbfoejjhaaDoor
