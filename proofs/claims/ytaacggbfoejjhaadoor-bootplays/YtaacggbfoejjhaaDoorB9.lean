/-
  Package boot: the slots are read.
-/
import Derived.Test.YtaacggbfoejjhaaDoorB6
namespace Go.Proofs.YtaacggbfoejjhaaDoor
open Go.ChangeShapes Go.WideShapes Go.ChangeAt Go.RowKit
open D
set_option linter.unusedVariables false
set_option linter.unusedSimpArgs false

/-- The first sectors, and zeros. -/
def prt (bs : List Int) (p : Nat) : List Int := bs.take (16 * p) ++ zr (64 - 16 * p)
theorem prt_len {bs : List Int} {p : Nat} (h : 16 * p ≤ bs.length) (hp : p ≤ 4) : (prt bs p).length = 64 := by
  unfold prt
  rw [List.length_append, List.length_take, zr_len]
  omega
theorem sec_len' {bs : List Int} {p : Nat} (h : 16 * (p + 1) ≤ bs.length) : (sec bs p).length = 16 := by unfold sec; rw [List.length_take, List.length_drop]; omega
theorem prt_succ {bs : List Int} {p : Nat} (h : 16 * (p + 1) ≤ bs.length) (hp : p < 4) : splice (prt bs p) (16 * p) (sec bs p) = prt bs (p + 1) := by
  unfold prt
  rw [splice_mid _ _ _ _ (by rw [List.length_take]; omega), sec_len' h, image_step bs p (by omega), List.append_assoc]
  congr 2
  unfold zr
  rw [List.drop_replicate]
  congr 1
theorem exec_arr52 (X : World) (a : Option Addr) (n c : Nat) (h : 16 ≤ n) : (Instr.arrayAt 52 (.slice a n c)).run Tryd.prog X = .ok (.pointer a) X := by simp [Instr.arrayAt, run_underlying und52, Nat.not_lt.2 h]
theorem wpList_build56 {ops : Array Oper} {rest : List Oper} {o : Oper} {a : Act} {w : World} {Q : Exit → Act → World → Prop} (hgd : o.guard = none) (ho : o.op = .build 56 #[])
    (h : wpList Tryd.prog ops Q rest (a.put o.dst (vb (zr 64))) w) : wpList Tryd.prog ops Q (o :: rest) a w :=
  wpList_plain hgd fun K hK => by
    unfold Oper.wp execOp
    have := arr56.zero
    cases hq : Tryd.prog.info? 56 with
    | none => simp [hq] at this
    | some i =>
      simp only [hq, Option.map_some, Option.some.injEq, Prod.mk.injEq] at this
      have e : (Instr.build 56 #[]).run Tryd.prog w = .ok (vb (zr 64)) w := by
        simp only [Instr.build, zeroValue, typeInfo, Sem.run_bind, Result.andThen_ok, run_underlying und56, run_program, hq, this.1, sizeB arr54, Sem.run_pure]
        rfl
      simp only [ho, Sem.run_bind, List.map_toArray, List.map_nil, e, Result.andThen_ok, Sem.run_pure]
      exact hK _ _ h
theorem results_ct {P : Program} {fn : Func} {p q : Tmp} {t : TypeId} (h : fn.results = #[.cell p t, .tmp q]) (tmps : Array Value) (w : World) (g : Nat) (v z : Value)
    (hp : tmps.getD p undef = .pointer (some ⟨g, 0, none⟩)) (hq : tmps.getD q undef = z) (h1 : (loadVar t ⟨g, 0, none⟩).run P w = .ok v w) :
    (results fn tmps).run P w = .ok (.tuple #[v, z]) w := by
  have hp' : tmps[p]?.getD undef = .pointer (some ⟨g, 0, none⟩) := by simpa using hp
  have hq' : tmps[q]?.getD undef = z := by simpa using hq
  simp [results, h, hp', hq', asAddr, h1]
set_option maxRecDepth 100000 in
set_option maxHeartbeats 8000000 in
theorem load_walk (v : Value) (m : Nat) (err : Int) (bs : List Int) (w : World) (herr : (err != 0) = true) (hbs : 16 * m ≤ bs.length)
    (hok : ∀ (p : Nat) (W : World), p < m → p < 4 → Below w.heap.size w W → Calls Tryd.prog 41 #[v, .int .i64 (p : Int)] W fun e w' => ∃ g, e = .returned (.tuple #[.slice (some ⟨g, 0, none⟩) 16 16, .int .i64 0]) ∧ W.heap.size ≤ g ∧ w'.heap[g]? = some (.cells ((sec bs p).map bv).toArray 77 (0, 0)) ∧ Below W.heap.size W w')
    (hno : ∀ (W : World), m < 4 → Below w.heap.size w W → Calls Tryd.prog 41 #[v, .int .i64 (m : Int)] W fun e w' => e = .returned (.tuple #[.slice none 0 0, .int .i64 err]) ∧ Below W.heap.size W w') :
    Calls Tryd.prog 24 #[v] w fun e w' => (e = .returned (.tuple #[if 4 ≤ m then vb (bs.take 64) else vb (zr 64), .int .i64 (if 4 ≤ m then 0 else err)])) ∧ Below w.heap.size w w' := by
  go_enter Tryd.func24, Tryd.ntmps24
  go_wp2_with (first
    | ((with_reducible show wpList _ _ _ (Oper.mk _ (Op.alloc 56) _ _ _ _ :: _) _ _); refine wpList_allocB rfl 56 64 arr56 rfl ?_; (first | (have _x := N1; clear _x; intro w2 N2) | intro w1 N1)))
  have X0 : Blk w2 w.heap.size 56 (zr 64) := N1.blk.below N2.below
  have Y0 : Blk w2 w1.heap.size 56 (prt bs 0) := by have := N2.blk; unfold prt; simpa using this
  have b0 : Below w.heap.size w w2 := N1.below.trans (N2.below.mono N1.below.size)
  have hk : w.heap.size < w1.heap.size := by have := N1.size; omega
  have HT : w2.heap.size = w.heap.size + 2 := by rw [N2.size, N1.size]
  clear N1 N2 HT
  generalize w1.heap.size = k at *
  go_loopg [9] 2 (fun g ix wr => ∃ (i : Nat), ix = .int .i64 (i : Int) ∧ i + g = 2 ∧ i * 2 ≤ m ∧ Blk wr k 56 (prt bs (i * 2)) ∧ Blk wr w.heap.size 56 (zr 64) ∧ Below w.heap.size w wr)
  case atStart => exact ⟨0, rfl, rfl, by omega, Y0, X0, b0⟩
  case round =>
    rename World => w0
    rename Nat => gko
    obtain ⟨i, rfl, hg, him, Yi, Xi, bi⟩ := hrel
    clear X0 Y0 b0
    by_cases hc : i < 2
    · have hcI : (i : Int) < 2 := by omega
      go_wp2
      go_loopg [12] 2 (fun g ix wr => ∃ (j : Nat), ix = .int .i64 (j : Int) ∧ j + g = 2 ∧ i * 2 + j ≤ m ∧ Blk wr k 56 (prt bs (i * 2 + j)) ∧ Blk wr w.heap.size 56 (zr 64) ∧ Below w.heap.size w wr)
      case atStart => exact ⟨0, rfl, rfl, by omega, Yi, Xi, bi⟩
      case round =>
        obtain ⟨j, rfl, hgj, hjm, Yj, Xj, bj⟩ := hrel
        clear Yi Xi bi
        by_cases hcj : j < 2
        · have hcJ : (j : Int) < 2 := by omega
          have KP := fun W => place_any i j W hc hcj
          obtain ⟨p, hp⟩ : ∃ p, i * 2 + j = p := ⟨_, rfl⟩
          rw [hp] at KP Yj hjm
          have HP : Hid (i * 2 + j = p) := hp
          clear hp
          by_cases hm : p < m
          · have hp4 : p < 4 := by have := HP.out; omega
            go_wp2_with (first
              | (go_at_call 42; refine (KP _).mono ?_; rintro e w3 ⟨rfl, hw⟩; rw [hw]; clear hw)
              | (go_at_call 41; refine (hok p wr hm hp4 bj).mono ?_; rintro e w4 ⟨g, rfl, hg4, B4, b4⟩))
            refine wp_region_any (by kernel_rfl) ?_
            change wpAny _ _ _ _ _ _ _ (World.drew _)
            obtain ⟨wd, hwd⟩ : ∃ wd, World.drew w4 = wd := ⟨_, rfl⟩
            rw [hwd]
            have Bd : Blk wd g 77 (sec bs p) := by rw [← hwd]; exact B4
            have Yd : Blk wd k 56 (prt bs p) := by rw [← hwd]; exact Yj.below b4.drew
            have Xd : Blk wd w.heap.size 56 (zr 64) := by rw [← hwd]; exact Xj.below b4.drew
            have bd : Below w.heap.size w wd := by rw [← hwd]; exact (bj.trans (b4.mono bj.size)).drew
            have hgk : g ≠ k := by have := row_lt Yj; omega
            have hsl : (sec bs p).length = 16 := sec_len' (by omega)
            have hat := fun X : World => exec_arr52 X (some ⟨g, 0, none⟩) 16 16 (by omega)
            clear hwd B4 Yj Xj b4
            refine wpAny_narrow (fun X => Only (at1 k) wd X) _ _ _ _ ?_
            refine anyH_take 0 27 (.int .i64 (i : Int)) rfl rfl (by kernel_rfl) (by kernel_rfl) (by kernel_rfl) (fun _ _ _ h => h) (Or.inl ⟨by rfl, by intro X hSw; go_simp⟩) (Only.refl _ _) ?_
            try simp only [Act.put, List.setIfInBounds_toArray, List.set_cons_zero, List.set_cons_succ]
            refine anyH_take 1 28 (.int .i64 (j : Int)) rfl rfl (by kernel_rfl) (by kernel_rfl) (by kernel_rfl) (fun _ _ _ h => h) (Or.inl ⟨by rfl, by intro X hSw; go_simp⟩) (Only.refl _ _) ?_
            try simp only [Act.put, List.setIfInBounds_toArray, List.set_cons_zero, List.set_cons_succ]
            refine anyH_take 2 29 (.slice (some ⟨g, 0, none⟩) 16 16) rfl rfl (by kernel_rfl) (by kernel_rfl) (by kernel_rfl) (fun _ _ _ h => h) (Or.inl ⟨by rfl, by intro X hSw; go_simp⟩) (Only.refl _ _) ?_
            try simp only [Act.put, List.setIfInBounds_toArray, List.set_cons_zero, List.set_cons_succ]
            refine anyH_take 3 30 (.pointer (some ⟨g, 0, none⟩)) rfl rfl (by kernel_rfl) (by kernel_rfl) (by kernel_rfl) (fun _ _ _ h => h) (Or.inl ⟨by rfl, by intro X hSw; go_simp⟩) (Only.refl _ _) ?_
            try simp only [Act.put, List.setIfInBounds_toArray, List.set_cons_zero, List.set_cons_succ]
            refine anyH_take 4 31 (vb (sec bs p)) rfl rfl (by kernel_rfl) (by kernel_rfl) (by kernel_rfl) (fun _ _ _ h => h) (Or.inl ⟨by rfl, fun X hSw => exec_loadB 52 16 arr52 rfl rfl (Bd.only hSw (by intro e; exact hgk e)).whole hsl⟩) (Only.refl _ _) ?_
            try simp only [Act.put, List.setIfInBounds_toArray, List.set_cons_zero, List.set_cons_succ]
            refine anyH_take 5 32 (.pointer (some ⟨k, i * 32, none⟩)) rfl rfl (by kernel_rfl) (by kernel_rfl) (by kernel_rfl) (fun _ _ _ h => h) (Or.inl ⟨by rfl, by intro X hSw; go_simp⟩) (Only.refl _ _) ?_
            try simp only [Act.put, List.setIfInBounds_toArray, List.set_cons_zero, List.set_cons_succ]
            refine anyH_take 6 33 (.pointer (some ⟨k, i * 32 + j * 16, none⟩)) rfl rfl (by kernel_rfl) (by kernel_rfl) (by kernel_rfl) (fun _ _ _ h => h) (Or.inl ⟨by rfl, by intro X hSw; go_simp⟩) (Only.refl _ _) ?_
            try simp only [Act.put, List.setIfInBounds_toArray, List.set_cons_zero, List.set_cons_succ]
            refine wpAnyH_ready (rs := [7]) (by kernel_rfl) (by simp) ?_
            refine AllReadyH.cons rfl (fun K hK => ?_) AllReadyH.nil
            refine wp_storeB 52 16 arr52 _ _ rfl k (i * 32 + j * 16) 56 (prt bs p) (sec bs p) rfl rfl Yd hsl (by rw [prt_len (by omega) (by omega)]; omega) ?_
            intro w5 W5
            refine hK.out _ _ W5.only (fun hS => ?_)
            clear hK
            refine wpAnyH_done (by kernel_rfl) ?_ _
            have hof : i * 32 + j * 16 = 16 * p := by have := HP.out; omega
            rw [hof, prt_succ (by omega) hp4] at W5
            have X5 := Xd.only W5.only (by intro e; have e' : w.heap.size = k := e; omega)
            have b5 := bd.trans (W5.only.below bd.size (by intro q e; have e' : q = k := e; omega))
            have Y5 := W5.blk
            clear hof hat
            go_wp2
            go_roundg (gk - 1)
            case measure => omega
            case rel => exact ⟨j + 1, by first | rfl | go_num, by omega, by have := HP.out; omega, by rw [show i * 2 + (j + 1) = p + 1 by have := HP.out; omega]; exact Y5, X5, b5⟩
          · have e : m = p := by omega
            have HE : Hid (¬ 4 ≤ m) := by show ¬ _; have := HP.out; omega
            have KN := hno wr (by have := HP.out; omega) bj
            rw [e] at KN
            clear e
            go_wp2_with (first
              | (go_at_call 42; refine (KP _).mono ?_; rintro e w3 ⟨rfl, hw⟩; rw [hw]; clear hw)
              | (go_at_call 41; refine KN.mono ?_; rintro e w4 ⟨rfl, b4⟩)
              | ((with_reducible show wpList _ _ _ (Oper.mk _ (Op.build 56 _) _ _ _ _ :: _) _ _); refine wpList_build56 rfl rfl ?_)
              | ((with_reducible show wpList _ _ _ (Oper.mk _ (Op.store 56 _ _) _ _ _ _ :: _) _ _); refine wpList_storeB rfl 56 64 arr56 _ _ rfl w.heap.size 0 56 (zr 64) (zr 64) rfl rfl (Xj.below b4) (zr_len 64) (by rw [zr_len]; decide) ?_; intro w5 W5))
            rw [splice_all _ _ rfl] at W5
            have B4 := bj.trans (b4.mono bj.size)
            refine bodyPost_ret (v := .tuple #[vb (zr 64), .int .i64 err]) (results_ct rfl _ _ w.heap.size _ _ rfl rfl (loadVarB arr56 W5.blk (zr_len 64))) rfl ⟨?_, B4.trans (W5.only.below B4.size (by intro q e; have e' : q = w.heap.size := e; omega))⟩
            simp only [if_neg HE.out]
        · have e : j = 2 := by omega
          subst e
          go_wp2
          go_roundg (gko - 1)
          case measure => omega
          case rel => exact ⟨i + 1, by first | rfl | go_num, by omega, by omega, by rw [show (i + 1) * 2 = i * 2 + 2 by omega]; exact Yj, Xj, bj⟩
    · have e : i = 2 := by omega
      subst e
      have Y2 : Blk w0 k 56 (bs.take 64) := by have := Yi; unfold prt at this; simpa [zr] using this
      have hl : (bs.take 64).length = 64 := by rw [List.length_take]; omega
      go_wp2_with (first
        | ((with_reducible show wpList _ _ _ (Oper.mk _ (Op.load 56 _) _ _ _ _ :: _) _ _); refine wpList_loadB rfl 56 64 arr56 _ rfl k 0 (bs.take 64) rfl Y2.whole hl ?_)
        | ((with_reducible show wpList _ _ _ (Oper.mk _ (Op.store 56 _ _) _ _ _ _ :: _) _ _); refine wpList_storeB rfl 56 64 arr56 _ _ rfl w.heap.size 0 56 (zr 64) (bs.take 64) rfl rfl Xi hl (by rw [zr_len]; decide) ?_; intro w5 W5))
      rw [splice_all _ _ (by rw [hl, zr_len])] at W5
      refine bodyPost_ret (v := .tuple #[vb (bs.take 64), .int .i64 0]) (results_ct rfl _ _ w.heap.size _ _ rfl rfl (loadVarB arr56 W5.blk hl)) rfl ⟨?_, bi.trans (W5.only.below bi.size (by intro q e; have e' : q = w.heap.size := e; omega))⟩
      have h4 : 4 ≤ m := by omega
      simp only [if_pos h4]
end Go.Proofs.YtaacggbfoejjhaaDoor
