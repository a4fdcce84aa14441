/-
  What the law ExtAges returns.
-/
import Derived.Test.YtnnapooochfnhaaX7
import Derived.Test.YtnnapooochfnhaaX8
import Derived.Test.YtnnapooochfnhaaX9
import Derived.Test.YtnnapooochfnhaaQ0
import Derived.Test.YtnnapooochfnhaaIn
namespace Go.Proofs.Ytnnapooochfnhaa
open Go.ChangeShapes Go.WideShapes Go.ChangeAt Go.RowKit Go.Deep
set_option linter.unusedVariables false
set_option linter.unusedSimpArgs false

theorem Exs.at {W : World} {a : Option Addr} {n : Nat} {l : List EX} (h : Exs W a n l) (i : Nat) (hi : i < n) : ∃ b off, ∃ x : EX, a = some ⟨b, off, none⟩ ∧ b < W.heap.size ∧ W.rangeAt b (off + i * 4) x.l := by
  rcases h.mem with h0 | ⟨b, off, rfl, hb, hr⟩
  · omega
  · have hl : i < l.length := by rw [h.size]; exact hi
    exact ⟨b, off, _, rfl, hb, hr i hl⟩
theorem range_later {w W : World} {g o : Nat} {cs : List Value} (h : w.rangeAt g o cs) (hg : g < w.heap.size) (k : Below w.heap.size w W) : W.rangeAt g o cs := fun j v hv => (World.cell?_of_block (a := ⟨g, o + j, none⟩) (k.block g hg)).trans (h j v hv)
theorem exec_load23x {o : Oper} {ρ : Operand → Value} {x : Operand} (ho : o.op = .load 23 x) (g off : Nat) (q : EX) (hx : ρ x = .pointer (some ⟨g, off, none⟩)) (X : World) (hc : X.rangeAt g off q.l) : (execOp ρ o).run Try.prog X = .ok (.value q.val) X := by
  unfold execOp
  simp only [ho, hx, Instr.loadAt, Instr.sureAddr, Sem.run_bind, Sem.run_pure, Result.andThen_ok, run_loadVar_mid X g off 23 q.l _ hc Try.underlying23 rfl (by kernel_rfl)]
theorem wpList_load23x {ops : Array Oper} {rest : List Oper} {o : Oper} {a : Act} {W : World} {Q : Exit → Act → World → Prop} (hw : Region.wanted o (yielded ops a.tmps) = true) (x : Operand) (ho : o.op = .load 23 x) (g off : Nat) (h : Bool) (v p k : Int) (hx : a.eval x = .pointer (some ⟨g, off, none⟩)) (hc : W.rangeAt g off (EX.mk h v p k).l)
    (H : wpList Try.prog ops Q rest (a.put o.dst (ex h v p k)) W) : wpList Try.prog ops Q (o :: rest) a W :=
  wpList_wanted hw _ (exec_load23x ho g off ⟨h, v, p, k⟩ hx W hc) H
section
variable {o : Oper} {A : Act} {w W : World} {l : List (Nat × EX)} {Q : Exit → Act → World → Prop} {K : Act → World → Prop}
theorem wp_allocd (M : Mem w W l) (ho : o.op = .alloc 23) (d : Nat) (hd : o.dst = some d)
    (H : ∀ k W', Mem w W' ((k, EX.z) :: l) → K (A.put (some d) (.pointer (some ⟨k, 0, none⟩))) W') : o.wp Try.prog A W K Q :=
  wp_alloc M ho fun k W' m => by rw [hd]; exact H k W' m
theorem wp_putd (M : Mem w W l) (x y : Operand) (ho : o.op = .store 23 x y) (hd : o.dst = none) (i : Nat) {k : Nat} {y0 : EX} (h : Bool) (v p g : Int) (hi : l[i]? = some (k, y0)) (hx : A.eval x = .pointer (some ⟨k, 0, none⟩)) (hy : A.eval y = ex h v p g)
    (H : ∀ W', Mem w W' (l.set i (k, ⟨h, v, p, g⟩)) → K A W') : o.wp Try.prog A W K Q :=
  wp_put M x y ho i h v p g hi hx hy fun W' m => by rw [hd]; exact H W' m
end
theorem Mem.tail {w W : World} {p : Nat × EX} {l : List (Nat × EX)} (M : Mem w W (p :: l)) : Mem w W l := M.sub _ (fun r hr => .tail _ hr) (by have h := M.nd; rw [List.map_cons, List.nodup_cons] at h; exact h.2)
set_option maxRecDepth 100000 in
set_option maxHeartbeats 16000000 in
theorem ages_walk (id : Int) (has : Bool) (inp : Int) (h1 : Bool) (v1 o1 g1 : Int) (h2 : Bool) (v2 o2 g2 : Int) (s : Option Addr) (n cap : Nat) (l : List EX) (w : World) (O : Exs w s n l) : Calls Try.prog 6 #[.int .i64 id, .bool has, .int .i64 inp, ex h1 v1 o1 g1, ex h2 v2 o2 g2, .slice s n cap] w fun e w' => e = .returned (.bool true) ∧ Below w.heap.size w w' := by
  have M := Mem.nil w
  have K81 := fun w => rfit_any h1 v1 o1 g1 w
  obtain ⟨F1, hF1⟩ : ∃ F, fitB ⟨h1, v1, o1, g1⟩ = F := ⟨_, rfl⟩
  simp only [hF1] at K81
  have K82 := fun w => rfit_any h2 v2 o2 g2 w
  obtain ⟨F2, hF2⟩ : ∃ F, fitB ⟨h2, v2, o2, g2⟩ = F := ⟨_, rfl⟩
  simp only [hF2] at K82
  have K9 := fun w => node_any id w
  have K10 := fun w => flow_any inp w
  obtain ⟨bn, hbn⟩ : ∃ F, nodeB id = F := ⟨_, rfl⟩
  obtain ⟨bf, hbf⟩ : ∃ F, flowB inp = F := ⟨_, rfl⟩
  simp only [hbn] at K9
  simp only [hbf] at K10
  cases bn with
  | false =>
    clear O
    go_enter Try.func6, Try.ntmps6
    go_wp2_with (first
      | ((with_reducible show wpList _ _ _ (Oper.mk (some 9) (Op.box 23 _) _ _ _ _ :: _) _ _); refine wpList_box M rfl _ rfl _ _ _ _ rfl ?_; clear M; intro k9 W M; skip)
      | ((with_reducible show wpList _ _ _ (Oper.mk (some 10) (Op.box 23 _) _ _ _ _ :: _) _ _); refine wpList_box M rfl _ rfl _ _ _ _ rfl ?_; clear M; intro k10 W M; skip)
      | (go_at_call 9; refine (K9 _).mono ?_; clear K9; rintro e wx ⟨rfl, hw⟩; rw [hw]; clear hw wx)
      | (go_at_call 10; refine (K10 _).mono ?_; clear K10; rintro e wx ⟨rfl, hw⟩; rw [hw]; clear hw wx)
      | ((with_reducible show wpList _ _ _ (Oper.mk _ (Op.load 23 _) _ _ _ _ :: _) _ _); refine wpList_loadw M (by rfl) _ rfl rfl (by first | exact .head _ | exact .tail _ (.head _)) ?_)
      | (go_at_call 8; refine (K81 _).mono ?_; clear K81; rintro e w1 ⟨rfl, b1⟩; replace M := M.later b1; clear b1)
      | (go_at_call 8; refine (K82 _).mono ?_; clear K82; rintro e w1 ⟨rfl, b1⟩; replace M := M.later b1; clear b1)
      | (go_at_call 13; refine (awake_any _).mono ?_; rintro e w1 ⟨rfl, b1⟩; replace M := M.later b1; clear b1))
    go_ret
    exact ⟨rfl, M.below⟩
  | true =>
    cases bf with
    | false =>
      clear O
      go_enter Try.func6, Try.ntmps6
      go_wp2_with (first
      | ((with_reducible show wpList _ _ _ (Oper.mk (some 9) (Op.box 23 _) _ _ _ _ :: _) _ _); refine wpList_box M rfl _ rfl _ _ _ _ rfl ?_; clear M; intro k9 W M; skip)
      | ((with_reducible show wpList _ _ _ (Oper.mk (some 10) (Op.box 23 _) _ _ _ _ :: _) _ _); refine wpList_box M rfl _ rfl _ _ _ _ rfl ?_; clear M; intro k10 W M; skip)
      | (go_at_call 9; refine (K9 _).mono ?_; clear K9; rintro e wx ⟨rfl, hw⟩; rw [hw]; clear hw wx)
      | (go_at_call 10; refine (K10 _).mono ?_; clear K10; rintro e wx ⟨rfl, hw⟩; rw [hw]; clear hw wx)
      | ((with_reducible show wpList _ _ _ (Oper.mk _ (Op.load 23 _) _ _ _ _ :: _) _ _); refine wpList_loadw M (by rfl) _ rfl rfl (by first | exact .head _ | exact .tail _ (.head _)) ?_)
      | (go_at_call 8; refine (K81 _).mono ?_; clear K81; rintro e w1 ⟨rfl, b1⟩; replace M := M.later b1; clear b1)
      | (go_at_call 8; refine (K82 _).mono ?_; clear K82; rintro e w1 ⟨rfl, b1⟩; replace M := M.later b1; clear b1)
      | (go_at_call 13; refine (awake_any _).mono ?_; rintro e w1 ⟨rfl, b1⟩; replace M := M.later b1; clear b1))
      go_ret
      exact ⟨rfl, M.below⟩
    | true =>
      cases F1 with
      | false =>
        clear O
        go_enter Try.func6, Try.ntmps6
        go_wp2_with (first
      | ((with_reducible show wpList _ _ _ (Oper.mk (some 9) (Op.box 23 _) _ _ _ _ :: _) _ _); refine wpList_box M rfl _ rfl _ _ _ _ rfl ?_; clear M; intro k9 W M; skip)
      | ((with_reducible show wpList _ _ _ (Oper.mk (some 10) (Op.box 23 _) _ _ _ _ :: _) _ _); refine wpList_box M rfl _ rfl _ _ _ _ rfl ?_; clear M; intro k10 W M; skip)
      | (go_at_call 9; refine (K9 _).mono ?_; clear K9; rintro e wx ⟨rfl, hw⟩; rw [hw]; clear hw wx)
      | (go_at_call 10; refine (K10 _).mono ?_; clear K10; rintro e wx ⟨rfl, hw⟩; rw [hw]; clear hw wx)
      | ((with_reducible show wpList _ _ _ (Oper.mk _ (Op.load 23 _) _ _ _ _ :: _) _ _); refine wpList_loadw M (by rfl) _ rfl rfl (by first | exact .head _ | exact .tail _ (.head _)) ?_)
      | (go_at_call 8; refine (K81 _).mono ?_; clear K81; rintro e w1 ⟨rfl, b1⟩; replace M := M.later b1; clear b1)
      | (go_at_call 8; refine (K82 _).mono ?_; clear K82; rintro e w1 ⟨rfl, b1⟩; replace M := M.later b1; clear b1)
      | (go_at_call 13; refine (awake_any _).mono ?_; rintro e w1 ⟨rfl, b1⟩; replace M := M.later b1; clear b1))
        go_ret
        exact ⟨rfl, M.below⟩
      | true =>
        cases F2 with
        | false =>
          clear O
          go_enter Try.func6, Try.ntmps6
          go_wp2_with (first
      | ((with_reducible show wpList _ _ _ (Oper.mk (some 9) (Op.box 23 _) _ _ _ _ :: _) _ _); refine wpList_box M rfl _ rfl _ _ _ _ rfl ?_; clear M; intro k9 W M; skip)
      | ((with_reducible show wpList _ _ _ (Oper.mk (some 10) (Op.box 23 _) _ _ _ _ :: _) _ _); refine wpList_box M rfl _ rfl _ _ _ _ rfl ?_; clear M; intro k10 W M; skip)
      | (go_at_call 9; refine (K9 _).mono ?_; clear K9; rintro e wx ⟨rfl, hw⟩; rw [hw]; clear hw wx)
      | (go_at_call 10; refine (K10 _).mono ?_; clear K10; rintro e wx ⟨rfl, hw⟩; rw [hw]; clear hw wx)
      | ((with_reducible show wpList _ _ _ (Oper.mk _ (Op.load 23 _) _ _ _ _ :: _) _ _); refine wpList_loadw M (by rfl) _ rfl rfl (by first | exact .head _ | exact .tail _ (.head _)) ?_)
      | (go_at_call 8; refine (K81 _).mono ?_; clear K81; rintro e w1 ⟨rfl, b1⟩; replace M := M.later b1; clear b1)
      | (go_at_call 8; refine (K82 _).mono ?_; clear K82; rintro e w1 ⟨rfl, b1⟩; replace M := M.later b1; clear b1)
      | (go_at_call 13; refine (awake_any _).mono ?_; rintro e w1 ⟨rfl, b1⟩; replace M := M.later b1; clear b1))
          go_ret
          exact ⟨rfl, M.below⟩
        | true =>
          go_enter Try.func6, Try.ntmps6
          go_wp2_with (first
      | ((with_reducible show wpList _ _ _ (Oper.mk (some 9) (Op.box 23 _) _ _ _ _ :: _) _ _); refine wpList_box M rfl _ rfl _ _ _ _ rfl ?_; clear M; intro k9 W M; skip)
      | ((with_reducible show wpList _ _ _ (Oper.mk (some 10) (Op.box 23 _) _ _ _ _ :: _) _ _); refine wpList_box M rfl _ rfl _ _ _ _ rfl ?_; clear M; intro k10 W M; skip)
      | (go_at_call 9; refine (K9 _).mono ?_; clear K9; rintro e wx ⟨rfl, hw⟩; rw [hw]; clear hw wx)
      | (go_at_call 10; refine (K10 _).mono ?_; clear K10; rintro e wx ⟨rfl, hw⟩; rw [hw]; clear hw wx)
      | ((with_reducible show wpList _ _ _ (Oper.mk _ (Op.load 23 _) _ _ _ _ :: _) _ _); refine wpList_loadw M (by rfl) _ rfl rfl (by first | exact .head _ | exact .tail _ (.head _)) ?_)
      | (go_at_call 8; refine (K81 _).mono ?_; clear K81; rintro e w1 ⟨rfl, b1⟩; replace M := M.later b1; clear b1)
      | (go_at_call 8; refine (K82 _).mono ?_; clear K82; rintro e w1 ⟨rfl, b1⟩; replace M := M.later b1; clear b1)
      | (go_at_call 13; refine (awake_any _).mono ?_; rintro e w1 ⟨rfl, b1⟩; replace M := M.later b1; clear b1))
          go_cut [13, 14] (fun p13 p14 wx => ∃ k13 k14, p13 = .pointer (some ⟨k13, 0, none⟩) ∧ p14 = .pointer (some ⟨k14, 0, none⟩) ∧ Mem w wx [(k14, ⟨h2, v2, o2, g2⟩), (k13, ⟨h1, v1, o1, g1⟩), (k10, ⟨h2, v2, o2, g2⟩), (k9, ⟨h1, v1, o1, g1⟩)])
          case first =>
            refine wp_region_any (by kernel_rfl) ?_
            change wpAny _ _ _ _ _ _ _ (World.drew _)
            replace M := M.drew
            generalize World.drew _ = WD at M ⊢
            refine wpAny_narrow (fun W' => At W' k9 ⟨h1, v1, o1, g1⟩ ∧ At W' k10 ⟨h2, v2, o2, g2⟩) _ _ _ _ ?_
            refine anyH_take 0 38 (ex h1 v1 o1 g1) rfl rfl (by kernel_rfl) (by kernel_rfl) (by kernel_rfl) (fun _ _ _ h => h) (Or.inl ⟨by rfl, fun X hSw => exec_load23 rfl rfl hSw.1⟩) (⟨M.get (.tail _ (.head _)), M.get (.head _)⟩) ?_
            try simp only [Act.put, List.setIfInBounds_toArray, List.set_cons_zero, List.set_cons_succ]
            refine anyH_take 1 39 (ex h2 v2 o2 g2) rfl rfl (by kernel_rfl) (by kernel_rfl) (by kernel_rfl) (fun _ _ _ h => h) (Or.inl ⟨by rfl, fun X hSw => exec_load23 rfl rfl hSw.2⟩) (⟨M.get (.tail _ (.head _)), M.get (.head _)⟩) ?_
            try simp only [Act.put, List.setIfInBounds_toArray, List.set_cons_zero, List.set_cons_succ]
            refine wpAnyH_ready (rs := [2, 3]) (by kernel_rfl) (by simp) ?_
            refine AllReadyH.cons rfl (fun K hK => ?_) (AllReadyH.cons rfl (fun K hK => ?_) AllReadyH.nil)
            · rw [if_pos (by rfl)]
              refine wp_allocd M rfl 13 rfl ?_
              clear M
              intro k13 W M
              refine hK.out _ _ (⟨M.get (.tail _ (.tail _ (.head _))), M.get (.tail _ (.head _))⟩) (fun hS => ?_)
              clear hK
              try simp only [Act.put, List.setIfInBounds_toArray, List.set_cons_zero, List.set_cons_succ]
              refine wpAnyH_ready (rs := [3]) (by kernel_rfl) (by simp) ?_
              refine AllReadyH.cons rfl (fun K hK => ?_) AllReadyH.nil
              rw [if_pos (by rfl)]
              refine wp_allocd M rfl 14 rfl ?_
              clear M
              intro k14 W M
              refine hK.out _ _ (⟨M.get (.tail _ (.tail _ (.tail _ (.head _)))), M.get (.tail _ (.tail _ (.head _)))⟩) (fun hS => ?_)
              clear hK
              try simp only [Act.put, List.setIfInBounds_toArray, List.set_cons_zero, List.set_cons_succ]
              refine wpAnyH_ready (rs := [4]) (by kernel_rfl) (by simp) ?_
              refine AllReadyH.cons rfl (fun K hK => ?_) AllReadyH.nil
              rw [if_pos (by rfl)]
              refine wp_putd M _ _ rfl rfl 1 _ _ _ _ rfl rfl rfl ?_
              clear M
              intro W M
              simp only [List.set_cons_zero, List.set_cons_succ] at M
              refine hK.out _ _ (⟨M.get (.tail _ (.tail _ (.tail _ (.head _)))), M.get (.tail _ (.tail _ (.head _)))⟩) (fun hS => ?_)
              clear hK
              refine wpAnyH_ready (rs := [5]) (by kernel_rfl) (by simp) ?_
              refine AllReadyH.cons rfl (fun K hK => ?_) AllReadyH.nil
              rw [if_pos (by rfl)]
              refine wp_putd M _ _ rfl rfl 0 _ _ _ _ rfl rfl rfl ?_
              clear M
              intro W M
              simp only [List.set_cons_zero, List.set_cons_succ] at M
              refine hK.out _ _ (⟨M.get (.tail _ (.tail _ (.tail _ (.head _)))), M.get (.tail _ (.tail _ (.head _)))⟩) (fun hS => ?_)
              clear hK
              refine wpAnyH_done (by kernel_rfl) ?_ _
              go_wp2_with (fail)
              go_meet
              exact ⟨k13, k14, rfl, rfl, M⟩
            · rw [if_pos (by rfl)]
              refine wp_allocd M rfl 14 rfl ?_
              clear M
              intro k14 W M
              refine hK.out _ _ (⟨M.get (.tail _ (.tail _ (.head _))), M.get (.tail _ (.head _))⟩) (fun hS => ?_)
              clear hK
              try simp only [Act.put, List.setIfInBounds_toArray, List.set_cons_zero, List.set_cons_succ]
              refine wpAnyH_ready (rs := [2]) (by kernel_rfl) (by simp) ?_
              refine AllReadyH.cons rfl (fun K hK => ?_) AllReadyH.nil
              rw [if_pos (by rfl)]
              refine wp_allocd M rfl 13 rfl ?_
              clear M
              intro k13 W M
              refine hK.out _ _ (⟨M.get (.tail _ (.tail _ (.tail _ (.head _)))), M.get (.tail _ (.tail _ (.head _)))⟩) (fun hS => ?_)
              clear hK
              try simp only [Act.put, List.setIfInBounds_toArray, List.set_cons_zero, List.set_cons_succ]
              refine wpAnyH_ready (rs := [4]) (by kernel_rfl) (by simp) ?_
              refine AllReadyH.cons rfl (fun K hK => ?_) AllReadyH.nil
              rw [if_pos (by rfl)]
              refine wp_putd M _ _ rfl rfl 0 _ _ _ _ rfl rfl rfl ?_
              clear M
              intro W M
              simp only [List.set_cons_zero, List.set_cons_succ] at M
              refine hK.out _ _ (⟨M.get (.tail _ (.tail _ (.tail _ (.head _)))), M.get (.tail _ (.tail _ (.head _)))⟩) (fun hS => ?_)
              clear hK
              refine wpAnyH_ready (rs := [5]) (by kernel_rfl) (by simp) ?_
              refine AllReadyH.cons rfl (fun K hK => ?_) AllReadyH.nil
              rw [if_pos (by rfl)]
              refine wp_putd M _ _ rfl rfl 1 _ _ _ _ rfl rfl rfl ?_
              clear M
              intro W M
              simp only [List.set_cons_zero, List.set_cons_succ] at M
              refine hK.out _ _ (⟨M.get (.tail _ (.tail _ (.tail _ (.head _)))), M.get (.tail _ (.tail _ (.head _)))⟩) (fun hS => ?_)
              clear hK
              refine wpAnyH_done (by kernel_rfl) ?_ _
              go_wp2_with (fail)
              go_meet
              exact ⟨k13, k14, rfl, rfl, M.swap⟩
          case rest =>
            obtain ⟨k13, k14, rfl, rfl, MS⟩ := hcut
            clear M
            go_wp2_with (fail)
            go_loopg [15] 64 (fun gk v15 wr => ∃ (i : Nat) (x y : EX), v15 = .int .i64 (i : Int) ∧ i ≤ 64 ∧ gk = 64 - i ∧ Going true id has inp ⟨h1, v1, o1, g1⟩ i x ∧ Going false id has inp ⟨h2, v2, o2, g2⟩ i y ∧ Mem w wr [(k14, y), (k13, x), (k10, ⟨h2, v2, o2, g2⟩), (k9, ⟨h1, v1, o1, g1⟩)])
            case atStart => exact ⟨0, ⟨h1, v1, o1, g1⟩, ⟨h2, v2, o2, g2⟩, by first | rfl | go_num, by omega, by omega, .inl ⟨rfl, rfl⟩, .inl ⟨rfl, rfl⟩, MS⟩
            case round =>
              obtain ⟨i, ⟨hx, vx, ox, gx⟩, ⟨hy, vy, oy, gy⟩, rfl, hi, hgk, Gx, Gy, M⟩ := hrel
              clear MS
              by_cases c : i < 64
              case pos =>
                have fx := going_fit hbn hbf hF1 Gx
                have fy := going_fit hbn hbf hF2 Gy
                have Ax := going_step Gx
                have Ay := going_step Gy
                have K20 := fun w => tick_any id has inp hx vx ox gx hy vy oy gy w fx fy
                rw [tick_step] at K20
                generalize stepX true id has inp ⟨hx, vx, ox, gx⟩ = x' at K20 Ax
                generalize stepX false id has inp ⟨hy, vy, oy, gy⟩ = y' at K20 Ay
                have HAx : Hid (Aged true id has inp ⟨h1, v1, o1, g1⟩ (i + 1) x') := Ax
                have HAy : Hid (Aged false id has inp ⟨h2, v2, o2, g2⟩ (i + 1) y') := Ay
                clear Gx Gy fx fy
                simp only [two] at K20
                have ci : (i : Int) < 64 := by omega
                have hwr : IntKind.i64.wrap ((i : Int) + 1) = (i : Int) + 1 := by rw [IntKind.wrap_i64]; omega
                cases has with
                | true =>
                  obtain ⟨sx1, sx2⟩ := aged_side Ax
                  obtain ⟨sy1, sy2⟩ := aged_side Ay
                  clear Ay
                  obtain ⟨hy', vy', oy', gy'⟩ := y'
                  dsimp only at sy1 sy2 K20
                  subst sy1
                  replace sx2 : x'.v ≤ inp := sx2
                  replace sy2 : inp ≤ vy' := sy2
                  have sy3 : ¬ vy' < inp := by omega
                  rcases Ax with rfl | ⟨k1, k2, k3, -, rfl⟩
                  · clear sx1 sx2
                    rw [show bare id true inp = ⟨true, inp, id, 0⟩ from rfl] at K20 HAx
                    try dsimp only at K20
                    go_wp2_with (first
      | ((with_reducible show wpList _ _ _ (Oper.mk _ (Op.load 23 _) _ _ _ _ :: _) _ _); refine wpList_loadw M (by rfl) _ rfl rfl (by first | exact .head _ | exact .tail _ (.head _) | exact .tail _ (.tail _ (.head _)) | exact .tail _ (.tail _ (.tail _ (.head _)))) ?_)
      | ((with_reducible show wpList _ _ _ (Oper.mk _ (Op.store 23 (Operand.tmp 13) _) _ _ _ _ :: _) _ _); refine wpList_put M rfl _ _ rfl 1 _ _ _ _ rfl rfl rfl ?_; clear M; intro W M; simp only [List.set_cons_zero, List.set_cons_succ] at M; skip)
      | ((with_reducible show wpList _ _ _ (Oper.mk _ (Op.store 23 (Operand.tmp 14) _) _ _ _ _ :: _) _ _); refine wpList_put M rfl _ _ rfl 0 _ _ _ _ rfl rfl rfl ?_; clear M; intro W M; simp only [List.set_cons_zero, List.set_cons_succ] at M; obtain ⟨c0, c1, c2, c3⟩ := (M.get (.tail _ (.head _))).cells; obtain ⟨d0, d1, d2, d3⟩ := (M.get (.head _)).cells; obtain ⟨a0, a1, a2, a3⟩ := (M.get (.tail _ (.tail _ (.tail _ (.head _))))).cells; dsimp only at c0 c1 c2 c3 d0 d1 d2 d3 a0 a1 a2 a3)
      | (go_at_call 20; refine (K20 _).mono ?_; clear K20; rintro e w1 ⟨rfl, b1⟩; replace M := M.later b1; clear b1))
                    go_roundg (gk - 1)
                    case measure => omega
                    case rel => exact ⟨i + 1, _, _, by first | rfl | go_num, by omega, by omega, .inr ⟨Nat.succ_pos i, HAx.out⟩, .inr ⟨Nat.succ_pos i, HAy.out⟩, M⟩
                  · have sx3 : ¬ inp < v1 := by dsimp only at sx2; omega
                    clear sx1 sx2
                    dsimp only at k1 k2 k3 K20
                    have eg : g1 + ((i + 1 : Nat) : Int) = g1 + (i : Int) + 1 := by omega
                    rw [eg] at K20 k3
                    try dsimp only at HAx
                    try rw [eg] at HAx
                    have fr := fit_some hF1 k1
                    dsimp only at fr
                    obtain ⟨-, -, -, -, f5, f6⟩ := fr
                    have hwa : IntKind.i64.wrap (g1 + (i : Int)) = g1 + (i : Int) := by rw [IntKind.wrap_i64]; omega
                    have hwb : IntKind.i64.wrap (g1 + (i : Int) + 1) = g1 + (i : Int) + 1 := by rw [IntKind.wrap_i64]; omega
                    have k2' : (o1 != id) = true := by simpa using k2
                    clear k1 eg
                    go_wp2_with (first
      | ((with_reducible show wpList _ _ _ (Oper.mk _ (Op.load 23 _) _ _ _ _ :: _) _ _); refine wpList_loadw M (by rfl) _ rfl rfl (by first | exact .head _ | exact .tail _ (.head _) | exact .tail _ (.tail _ (.head _)) | exact .tail _ (.tail _ (.tail _ (.head _)))) ?_)
      | ((with_reducible show wpList _ _ _ (Oper.mk _ (Op.store 23 (Operand.tmp 13) _) _ _ _ _ :: _) _ _); refine wpList_put M rfl _ _ rfl 1 _ _ _ _ rfl rfl rfl ?_; clear M; intro W M; simp only [List.set_cons_zero, List.set_cons_succ] at M; skip)
      | ((with_reducible show wpList _ _ _ (Oper.mk _ (Op.store 23 (Operand.tmp 14) _) _ _ _ _ :: _) _ _); refine wpList_put M rfl _ _ rfl 0 _ _ _ _ rfl rfl rfl ?_; clear M; intro W M; simp only [List.set_cons_zero, List.set_cons_succ] at M; obtain ⟨c0, c1, c2, c3⟩ := (M.get (.tail _ (.head _))).cells; obtain ⟨d0, d1, d2, d3⟩ := (M.get (.head _)).cells; obtain ⟨a0, a1, a2, a3⟩ := (M.get (.tail _ (.tail _ (.tail _ (.head _))))).cells; dsimp only at c0 c1 c2 c3 d0 d1 d2 d3 a0 a1 a2 a3)
      | (go_at_call 20; refine (K20 _).mono ?_; clear K20; rintro e w1 ⟨rfl, b1⟩; replace M := M.later b1; clear b1))
                    go_roundg (gk - 1)
                    case measure => omega
                    case rel => exact ⟨i + 1, _, _, by first | rfl | go_num, by omega, by omega, .inr ⟨Nat.succ_pos i, HAx.out⟩, .inr ⟨Nat.succ_pos i, HAy.out⟩, M⟩
                | false =>
                  clear Ay
                  obtain ⟨hy', vy', oy', gy'⟩ := y'
                  try dsimp only at K20
                  rcases Ax with rfl | ⟨k1, k2, k3, -, rfl⟩
                  · rw [show bare id false inp = EX.z from rfl] at K20 HAx
                    try dsimp only at K20
                    go_wp2_with (first
      | ((with_reducible show wpList _ _ _ (Oper.mk _ (Op.load 23 _) _ _ _ _ :: _) _ _); refine wpList_loadw M (by rfl) _ rfl rfl (by first | exact .head _ | exact .tail _ (.head _) | exact .tail _ (.tail _ (.head _)) | exact .tail _ (.tail _ (.tail _ (.head _)))) ?_)
      | ((with_reducible show wpList _ _ _ (Oper.mk _ (Op.store 23 (Operand.tmp 13) _) _ _ _ _ :: _) _ _); refine wpList_put M rfl _ _ rfl 1 _ _ _ _ rfl rfl rfl ?_; clear M; intro W M; simp only [List.set_cons_zero, List.set_cons_succ] at M; skip)
      | ((with_reducible show wpList _ _ _ (Oper.mk _ (Op.store 23 (Operand.tmp 14) _) _ _ _ _ :: _) _ _); refine wpList_put M rfl _ _ rfl 0 _ _ _ _ rfl rfl rfl ?_; clear M; intro W M; simp only [List.set_cons_zero, List.set_cons_succ] at M; obtain ⟨c0, c1, c2, c3⟩ := (M.get (.tail _ (.head _))).cells; obtain ⟨d0, d1, d2, d3⟩ := (M.get (.head _)).cells; obtain ⟨a0, a1, a2, a3⟩ := (M.get (.tail _ (.tail _ (.tail _ (.head _))))).cells; dsimp only at c0 c1 c2 c3 d0 d1 d2 d3 a0 a1 a2 a3)
      | (go_at_call 20; refine (K20 _).mono ?_; clear K20; rintro e w1 ⟨rfl, b1⟩; replace M := M.later b1; clear b1))
                    go_roundg (gk - 1)
                    case measure => omega
                    case rel => exact ⟨i + 1, _, _, by first | rfl | go_num, by omega, by omega, .inr ⟨Nat.succ_pos i, HAx.out⟩, .inr ⟨Nat.succ_pos i, HAy.out⟩, M⟩
                  · dsimp only at k1 k2 k3 K20
                    have eg : g1 + ((i + 1 : Nat) : Int) = g1 + (i : Int) + 1 := by omega
                    rw [eg] at K20 k3
                    try dsimp only at HAx
                    try rw [eg] at HAx
                    have fr := fit_some hF1 k1
                    dsimp only at fr
                    obtain ⟨-, -, -, -, f5, f6⟩ := fr
                    have hwa : IntKind.i64.wrap (g1 + (i : Int)) = g1 + (i : Int) := by rw [IntKind.wrap_i64]; omega
                    have hwb : IntKind.i64.wrap (g1 + (i : Int) + 1) = g1 + (i : Int) + 1 := by rw [IntKind.wrap_i64]; omega
                    have k2' : (o1 != id) = true := by simpa using k2
                    clear k1 eg
                    go_wp2_with (first
      | ((with_reducible show wpList _ _ _ (Oper.mk _ (Op.load 23 _) _ _ _ _ :: _) _ _); refine wpList_loadw M (by rfl) _ rfl rfl (by first | exact .head _ | exact .tail _ (.head _) | exact .tail _ (.tail _ (.head _)) | exact .tail _ (.tail _ (.tail _ (.head _)))) ?_)
      | ((with_reducible show wpList _ _ _ (Oper.mk _ (Op.store 23 (Operand.tmp 13) _) _ _ _ _ :: _) _ _); refine wpList_put M rfl _ _ rfl 1 _ _ _ _ rfl rfl rfl ?_; clear M; intro W M; simp only [List.set_cons_zero, List.set_cons_succ] at M; skip)
      | ((with_reducible show wpList _ _ _ (Oper.mk _ (Op.store 23 (Operand.tmp 14) _) _ _ _ _ :: _) _ _); refine wpList_put M rfl _ _ rfl 0 _ _ _ _ rfl rfl rfl ?_; clear M; intro W M; simp only [List.set_cons_zero, List.set_cons_succ] at M; obtain ⟨c0, c1, c2, c3⟩ := (M.get (.tail _ (.head _))).cells; obtain ⟨d0, d1, d2, d3⟩ := (M.get (.head _)).cells; obtain ⟨a0, a1, a2, a3⟩ := (M.get (.tail _ (.tail _ (.tail _ (.head _))))).cells; dsimp only at c0 c1 c2 c3 d0 d1 d2 d3 a0 a1 a2 a3)
      | (go_at_call 20; refine (K20 _).mono ?_; clear K20; rintro e w1 ⟨rfl, b1⟩; replace M := M.later b1; clear b1))
                    go_roundg (gk - 1)
                    case measure => omega
                    case rel => exact ⟨i + 1, _, _, by first | rfl | go_num, by omega, by omega, .inr ⟨Nat.succ_pos i, HAx.out⟩, .inr ⟨Nat.succ_pos i, HAy.out⟩, M⟩
              case neg =>
                obtain rfl : i = 64 := by omega
                have e1 := going_end hF1 Gx
                have e2 := going_end hF2 Gy
                rw [e1, e2] at M
                clear e1 e2 Gx Gy hgk hi c hx vx ox gx hy vy oy gy
                have fB := bare_fit (has := has) hbn hbf
                have ci : ¬ ((64 : Nat) : Int) < 64 := by decide
                go_wp2_with (fail)
                go_cut [127] (fun c wx => c = .bool false ∧ Mem w wx [(k14, (bare id has inp)), (k13, (bare id has inp)), (k10, ⟨h2, v2, o2, g2⟩), (k9, ⟨h1, v1, o1, g1⟩)])
                case first =>
                  cases has with
                  | true =>
                    replace M : Mem w _ [(k14, ⟨true, inp, id, 0⟩), (k13, ⟨true, inp, id, 0⟩), (k10, ⟨h2, v2, o2, g2⟩), (k9, ⟨h1, v1, o1, g1⟩)] := M
                    have KO : ∀ w, Calls Try.prog 11 #[.int .i64 id, .int .i64 inp] w fun e w' => e = .returned (ex true inp id 0) ∧ Below w.heap.size w w' := fun w => own11_any id inp w
                    have KP := KO
                    refine wp_region_any (by kernel_rfl) ?_
                    change wpAny _ _ _ _ _ _ _ (World.drew _)
                    replace M := M.drew
                    generalize World.drew _ = WD at M ⊢
                    refine wpAny_narrow (fun W' => Mem w W' [(k14, ⟨true, inp, id, 0⟩), (k13, ⟨true, inp, id, 0⟩), (k10, ⟨h2, v2, o2, g2⟩), (k9, ⟨h1, v1, o1, g1⟩)]) _ _ _ _ ?_
                    refine anyH_take 0 101 (.bool true) rfl rfl (by kernel_rfl) (by kernel_rfl) (by kernel_rfl) (fun _ _ _ h => h) (Or.inl ⟨by rfl, by intro w hSw; go_simp⟩) (M) ?_
                    try simp only [Act.put, List.setIfInBounds_toArray, List.set_cons_zero, List.set_cons_succ]
                    refine anyH_take 1 102 (.bool true) rfl rfl (by kernel_rfl) (by kernel_rfl) (by kernel_rfl) (fun _ _ _ h => h) (Or.inl ⟨by rfl, by intro w hSw; go_simp⟩) (M) ?_
                    try simp only [Act.put, List.setIfInBounds_toArray, List.set_cons_zero, List.set_cons_succ]
                    refine anyH_take 2 103 (ex true inp id 0) rfl rfl (by kernel_rfl) (by kernel_rfl) (by kernel_rfl) (fun _ _ _ h => h) (Or.inl ⟨by rfl, fun X hSw => exec_load23 rfl rfl (hSw.get (.tail _ (.head _)))⟩) (M) ?_
                    try simp only [Act.put, List.setIfInBounds_toArray, List.set_cons_zero, List.set_cons_succ]
                    refine anyH_take 3 104 (.int .i64 id) rfl rfl (by kernel_rfl) (by kernel_rfl) (by kernel_rfl) (fun _ _ _ h => h) (Or.inl ⟨by rfl, by intro w hSw; go_simp⟩) (M) ?_
                    try simp only [Act.put, List.setIfInBounds_toArray, List.set_cons_zero, List.set_cons_succ]
                    refine anyH_take 4 105 (.int .i64 inp) rfl rfl (by kernel_rfl) (by kernel_rfl) (by kernel_rfl) (fun _ _ _ h => h) (Or.inl ⟨by rfl, by intro w hSw; go_simp⟩) (M) ?_
                    try simp only [Act.put, List.setIfInBounds_toArray, List.set_cons_zero, List.set_cons_succ]
                    refine wpAnyH_ready (rs := [5]) (by kernel_rfl) (by simp) ?_
                    refine AllReadyH.cons rfl (fun K hK => ?_) AllReadyH.nil
                    go_simp
                    go_wp2_with (go_at_call 11; refine (KO _).mono ?_; clear KO; rintro e w1 ⟨rfl, b1⟩; replace M := M.later b1; clear b1)
                    refine hK.out _ _ (M) (fun hS => ?_)
                    clear hK
                    refine anyH_take 6 107 (.bool (!sameX ⟨true, inp, id, 0⟩ ⟨true, inp, id, 0⟩)) rfl rfl (by kernel_rfl) (by kernel_rfl) (by kernel_rfl) (fun _ _ _ h => h) (Or.inl ⟨by rfl, fun X hSw => exec_neq23 rfl ⟨true, inp, id, 0⟩ ⟨true, inp, id, 0⟩ rfl rfl X⟩) (M) ?_
                    try simp only [Act.put, List.setIfInBounds_toArray, List.set_cons_zero, List.set_cons_succ]
                    rw [sameX_self]
                    rw [Bool.not_true]
                    refine anyH_take 7 108 (.bool false) rfl rfl (by kernel_rfl) (by kernel_rfl) (by kernel_rfl) (fun _ _ _ h => h) (Or.inl ⟨by rfl, by intro w hSw; go_simp⟩) (M) ?_
                    try simp only [Act.put, List.setIfInBounds_toArray, List.set_cons_zero, List.set_cons_succ]
                    refine anyH_take 8 109 (ex true inp id 0) rfl rfl (by kernel_rfl) (by kernel_rfl) (by kernel_rfl) (fun _ _ _ h => h) (Or.inl ⟨by rfl, fun X hSw => exec_load23 rfl rfl (hSw.get (.head _))⟩) (M) ?_
                    try simp only [Act.put, List.setIfInBounds_toArray, List.set_cons_zero, List.set_cons_succ]
                    refine anyH_take 9 110 (.int .i64 id) rfl rfl (by kernel_rfl) (by kernel_rfl) (by kernel_rfl) (fun _ _ _ h => h) (Or.inl ⟨by rfl, by intro w hSw; go_simp⟩) (M) ?_
                    try simp only [Act.put, List.setIfInBounds_toArray, List.set_cons_zero, List.set_cons_succ]
                    refine anyH_take 10 111 (.int .i64 inp) rfl rfl (by kernel_rfl) (by kernel_rfl) (by kernel_rfl) (fun _ _ _ h => h) (Or.inl ⟨by rfl, by intro w hSw; go_simp⟩) (M) ?_
                    try simp only [Act.put, List.setIfInBounds_toArray, List.set_cons_zero, List.set_cons_succ]
                    refine wpAnyH_ready (rs := [11]) (by kernel_rfl) (by simp) ?_
                    refine AllReadyH.cons rfl (fun K hK => ?_) AllReadyH.nil
                    go_simp
                    go_wp2_with (go_at_call 11; refine (KP _).mono ?_; clear KP; rintro e w1 ⟨rfl, b1⟩; replace M := M.later b1; clear b1)
                    refine hK.out _ _ (M) (fun hS => ?_)
                    clear hK
                    refine anyH_take 12 113 (.bool (!sameX ⟨true, inp, id, 0⟩ ⟨true, inp, id, 0⟩)) rfl rfl (by kernel_rfl) (by kernel_rfl) (by kernel_rfl) (fun _ _ _ h => h) (Or.inl ⟨by rfl, fun X hSw => exec_neq23 rfl ⟨true, inp, id, 0⟩ ⟨true, inp, id, 0⟩ rfl rfl X⟩) (M) ?_
                    try simp only [Act.put, List.setIfInBounds_toArray, List.set_cons_zero, List.set_cons_succ]
                    rw [sameX_self]
                    rw [Bool.not_true]
                    refine anyH_take 13 114 (.bool false) rfl rfl (by kernel_rfl) (by kernel_rfl) (by kernel_rfl) (fun _ _ _ h => h) (Or.inl ⟨by rfl, by intro w hSw; go_simp⟩) (M) ?_
                    try simp only [Act.put, List.setIfInBounds_toArray, List.set_cons_zero, List.set_cons_succ]
                    refine anyH_take 14 115 (.bool false) rfl rfl (by kernel_rfl) (by kernel_rfl) (by kernel_rfl) (fun _ _ _ h => h) (Or.inl ⟨by rfl, by intro w hSw; go_simp⟩) (M) ?_
                    try simp only [Act.put, List.setIfInBounds_toArray, List.set_cons_zero, List.set_cons_succ]
                    refine anyH_take 15 116 (.bool false) rfl rfl (by kernel_rfl) (by kernel_rfl) (by kernel_rfl) (fun _ _ _ h => h) (Or.inl ⟨by rfl, by intro w hSw; go_simp⟩) (M) ?_
                    try simp only [Act.put, List.setIfInBounds_toArray, List.set_cons_zero, List.set_cons_succ]
                    refine anyH_take 16 117 (.bool true) rfl rfl (by kernel_rfl) (by kernel_rfl) (by kernel_rfl) (fun _ _ _ h => h) (Or.inl ⟨by rfl, by intro w hSw; go_simp⟩) (M) ?_
                    try simp only [Act.put, List.setIfInBounds_toArray, List.set_cons_zero, List.set_cons_succ]
                    refine anyH_take 17 118 (.bool false) rfl rfl (by kernel_rfl) (by kernel_rfl) (by kernel_rfl) (fun _ _ _ h => h) (Or.inl ⟨by rfl, by intro w hSw; go_simp⟩) (M) ?_
                    try simp only [Act.put, List.setIfInBounds_toArray, List.set_cons_zero, List.set_cons_succ]
                    refine anyH_take 18 119 (.bool false) rfl rfl (by kernel_rfl) (by kernel_rfl) (by kernel_rfl) (fun _ _ _ h => h) (Or.inl ⟨by rfl, by intro w hSw; go_simp⟩) (M) ?_
                    try simp only [Act.put, List.setIfInBounds_toArray, List.set_cons_zero, List.set_cons_succ]
                    refine anyH_take 19 120 (undef) rfl rfl (by kernel_rfl) (by kernel_rfl) (by kernel_rfl) (fun _ _ _ h => h) (Or.inr ⟨by rfl, rfl⟩) (M) ?_
                    try simp only [Act.put, List.setIfInBounds_toArray, List.set_cons_zero, List.set_cons_succ]
                    refine anyH_take 20 121 (undef) rfl rfl (by kernel_rfl) (by kernel_rfl) (by kernel_rfl) (fun _ _ _ h => h) (Or.inr ⟨by rfl, rfl⟩) (M) ?_
                    try simp only [Act.put, List.setIfInBounds_toArray, List.set_cons_zero, List.set_cons_succ]
                    refine anyH_take 21 122 (undef) rfl rfl (by kernel_rfl) (by kernel_rfl) (by kernel_rfl) (fun _ _ _ h => h) (Or.inr ⟨by rfl, rfl⟩) (M) ?_
                    try simp only [Act.put, List.setIfInBounds_toArray, List.set_cons_zero, List.set_cons_succ]
                    refine anyH_take 22 123 (undef) rfl rfl (by kernel_rfl) (by kernel_rfl) (by kernel_rfl) (fun _ _ _ h => h) (Or.inr ⟨by rfl, rfl⟩) (M) ?_
                    try simp only [Act.put, List.setIfInBounds_toArray, List.set_cons_zero, List.set_cons_succ]
                    refine anyH_take 23 124 (undef) rfl rfl (by kernel_rfl) (by kernel_rfl) (by kernel_rfl) (fun _ _ _ h => h) (Or.inr ⟨by rfl, rfl⟩) (M) ?_
                    try simp only [Act.put, List.setIfInBounds_toArray, List.set_cons_zero, List.set_cons_succ]
                    refine anyH_take 24 125 (undef) rfl rfl (by kernel_rfl) (by kernel_rfl) (by kernel_rfl) (fun _ _ _ h => h) (Or.inr ⟨by rfl, rfl⟩) (M) ?_
                    try simp only [Act.put, List.setIfInBounds_toArray, List.set_cons_zero, List.set_cons_succ]
                    refine anyH_take 25 126 (.bool false) rfl rfl (by kernel_rfl) (by kernel_rfl) (by kernel_rfl) (fun _ _ _ h => h) (Or.inl ⟨by rfl, by intro w hSw; go_simp⟩) (M) ?_
                    try simp only [Act.put, List.setIfInBounds_toArray, List.set_cons_zero, List.set_cons_succ]
                    refine anyH_take 26 127 (.bool false) rfl rfl (by kernel_rfl) (by kernel_rfl) (by kernel_rfl) (fun _ _ _ h => h) (Or.inl ⟨by rfl, by intro w hSw; go_simp⟩) (M) ?_
                    try simp only [Act.put, List.setIfInBounds_toArray, List.set_cons_zero, List.set_cons_succ]
                    refine wpAnyH_done (by kernel_rfl) ?_ _
                    go_wp2_with (fail)
                    go_meet
                    exact ⟨rfl, M⟩
                  | false =>
                    replace M : Mem w _ [(k14, EX.z), (k13, EX.z), (k10, ⟨h2, v2, o2, g2⟩), (k9, ⟨h1, v1, o1, g1⟩)] := M
                    refine wp_region_any (by kernel_rfl) ?_
                    change wpAny _ _ _ _ _ _ _ (World.drew _)
                    replace M := M.drew
                    generalize World.drew _ = WD at M ⊢
                    refine wpAny_narrow (fun W' => Mem w W' [(k14, EX.z), (k13, EX.z), (k10, ⟨h2, v2, o2, g2⟩), (k9, ⟨h1, v1, o1, g1⟩)]) _ _ _ _ ?_
                    refine anyH_take 0 101 (.bool false) rfl rfl (by kernel_rfl) (by kernel_rfl) (by kernel_rfl) (fun _ _ _ h => h) (Or.inl ⟨by rfl, by intro w hSw; go_simp⟩) (M) ?_
                    try simp only [Act.put, List.setIfInBounds_toArray, List.set_cons_zero, List.set_cons_succ]
                    refine anyH_take 1 102 (.bool false) rfl rfl (by kernel_rfl) (by kernel_rfl) (by kernel_rfl) (fun _ _ _ h => h) (Or.inl ⟨by rfl, by intro w hSw; go_simp⟩) (M) ?_
                    try simp only [Act.put, List.setIfInBounds_toArray, List.set_cons_zero, List.set_cons_succ]
                    refine anyH_take 2 103 (undef) rfl rfl (by kernel_rfl) (by kernel_rfl) (by kernel_rfl) (fun _ _ _ h => h) (Or.inr ⟨by rfl, rfl⟩) (M) ?_
                    try simp only [Act.put, List.setIfInBounds_toArray, List.set_cons_zero, List.set_cons_succ]
                    refine anyH_take 3 104 (undef) rfl rfl (by kernel_rfl) (by kernel_rfl) (by kernel_rfl) (fun _ _ _ h => h) (Or.inr ⟨by rfl, rfl⟩) (M) ?_
                    try simp only [Act.put, List.setIfInBounds_toArray, List.set_cons_zero, List.set_cons_succ]
                    refine anyH_take 4 105 (undef) rfl rfl (by kernel_rfl) (by kernel_rfl) (by kernel_rfl) (fun _ _ _ h => h) (Or.inr ⟨by rfl, rfl⟩) (M) ?_
                    try simp only [Act.put, List.setIfInBounds_toArray, List.set_cons_zero, List.set_cons_succ]
                    refine anyH_take 5 106 (undef) rfl rfl (by kernel_rfl) (by kernel_rfl) (by kernel_rfl) (fun _ _ _ h => h) (Or.inr ⟨by rfl, rfl⟩) (M) ?_
                    try simp only [Act.put, List.setIfInBounds_toArray, List.set_cons_zero, List.set_cons_succ]
                    refine anyH_take 6 107 (undef) rfl rfl (by kernel_rfl) (by kernel_rfl) (by kernel_rfl) (fun _ _ _ h => h) (Or.inr ⟨by rfl, rfl⟩) (M) ?_
                    try simp only [Act.put, List.setIfInBounds_toArray, List.set_cons_zero, List.set_cons_succ]
                    refine anyH_take 7 108 (undef) rfl rfl (by kernel_rfl) (by kernel_rfl) (by kernel_rfl) (fun _ _ _ h => h) (Or.inr ⟨by rfl, rfl⟩) (M) ?_
                    try simp only [Act.put, List.setIfInBounds_toArray, List.set_cons_zero, List.set_cons_succ]
                    refine anyH_take 8 109 (undef) rfl rfl (by kernel_rfl) (by kernel_rfl) (by kernel_rfl) (fun _ _ _ h => h) (Or.inr ⟨by rfl, rfl⟩) (M) ?_
                    try simp only [Act.put, List.setIfInBounds_toArray, List.set_cons_zero, List.set_cons_succ]
                    refine anyH_take 9 110 (undef) rfl rfl (by kernel_rfl) (by kernel_rfl) (by kernel_rfl) (fun _ _ _ h => h) (Or.inr ⟨by rfl, rfl⟩) (M) ?_
                    try simp only [Act.put, List.setIfInBounds_toArray, List.set_cons_zero, List.set_cons_succ]
                    refine anyH_take 10 111 (undef) rfl rfl (by kernel_rfl) (by kernel_rfl) (by kernel_rfl) (fun _ _ _ h => h) (Or.inr ⟨by rfl, rfl⟩) (M) ?_
                    try simp only [Act.put, List.setIfInBounds_toArray, List.set_cons_zero, List.set_cons_succ]
                    refine anyH_take 11 112 (undef) rfl rfl (by kernel_rfl) (by kernel_rfl) (by kernel_rfl) (fun _ _ _ h => h) (Or.inr ⟨by rfl, rfl⟩) (M) ?_
                    try simp only [Act.put, List.setIfInBounds_toArray, List.set_cons_zero, List.set_cons_succ]
                    refine anyH_take 12 113 (undef) rfl rfl (by kernel_rfl) (by kernel_rfl) (by kernel_rfl) (fun _ _ _ h => h) (Or.inr ⟨by rfl, rfl⟩) (M) ?_
                    try simp only [Act.put, List.setIfInBounds_toArray, List.set_cons_zero, List.set_cons_succ]
                    refine anyH_take 13 114 (undef) rfl rfl (by kernel_rfl) (by kernel_rfl) (by kernel_rfl) (fun _ _ _ h => h) (Or.inr ⟨by rfl, rfl⟩) (M) ?_
                    try simp only [Act.put, List.setIfInBounds_toArray, List.set_cons_zero, List.set_cons_succ]
                    refine anyH_take 14 115 (.bool false) rfl rfl (by kernel_rfl) (by kernel_rfl) (by kernel_rfl) (fun _ _ _ h => h) (Or.inl ⟨by rfl, by intro w hSw; go_simp⟩) (M) ?_
                    try simp only [Act.put, List.setIfInBounds_toArray, List.set_cons_zero, List.set_cons_succ]
                    refine anyH_take 15 116 (.bool false) rfl rfl (by kernel_rfl) (by kernel_rfl) (by kernel_rfl) (fun _ _ _ h => h) (Or.inl ⟨by rfl, by intro w hSw; go_simp⟩) (M) ?_
                    try simp only [Act.put, List.setIfInBounds_toArray, List.set_cons_zero, List.set_cons_succ]
                    refine anyH_take 16 117 (.bool false) rfl rfl (by kernel_rfl) (by kernel_rfl) (by kernel_rfl) (fun _ _ _ h => h) (Or.inl ⟨by rfl, by intro w hSw; go_simp⟩) (M) ?_
                    try simp only [Act.put, List.setIfInBounds_toArray, List.set_cons_zero, List.set_cons_succ]
                    refine anyH_take 17 118 (.bool true) rfl rfl (by kernel_rfl) (by kernel_rfl) (by kernel_rfl) (fun _ _ _ h => h) (Or.inl ⟨by rfl, by intro w hSw; go_simp⟩) (M) ?_
                    try simp only [Act.put, List.setIfInBounds_toArray, List.set_cons_zero, List.set_cons_succ]
                    refine anyH_take 18 119 (.bool true) rfl rfl (by kernel_rfl) (by kernel_rfl) (by kernel_rfl) (fun _ _ _ h => h) (Or.inl ⟨by rfl, by intro w hSw; go_simp⟩) (M) ?_
                    try simp only [Act.put, List.setIfInBounds_toArray, List.set_cons_zero, List.set_cons_succ]
                    refine anyH_take 19 120 (.pointer (some ⟨k13, 0, none⟩)) rfl rfl (by kernel_rfl) (by kernel_rfl) (by kernel_rfl) (fun _ _ _ h => h) (Or.inl ⟨by rfl, by intro w hSw; go_simp⟩) (M) ?_
                    try simp only [Act.put, List.setIfInBounds_toArray, List.set_cons_zero, List.set_cons_succ]
                    refine anyH_take 20 121 (.bool false) rfl rfl (by kernel_rfl) (by kernel_rfl) (by kernel_rfl) (fun _ _ _ h => h) (Or.inl ⟨by rfl, by intro w hSw; obtain ⟨q0, q1, q2, q3⟩ := (hSw.get (.tail _ (.head _))).cells; dsimp only at q0 q1 q2 q3; go_simp⟩) (M) ?_
                    try simp only [Act.put, List.setIfInBounds_toArray, List.set_cons_zero, List.set_cons_succ]
                    refine anyH_take 21 122 (.bool false) rfl rfl (by kernel_rfl) (by kernel_rfl) (by kernel_rfl) (fun _ _ _ h => h) (Or.inl ⟨by rfl, by intro w hSw; go_simp⟩) (M) ?_
                    try simp only [Act.put, List.setIfInBounds_toArray, List.set_cons_zero, List.set_cons_succ]
                    refine anyH_take 22 123 (.pointer (some ⟨k14, 0, none⟩)) rfl rfl (by kernel_rfl) (by kernel_rfl) (by kernel_rfl) (fun _ _ _ h => h) (Or.inl ⟨by rfl, by intro w hSw; go_simp⟩) (M) ?_
                    try simp only [Act.put, List.setIfInBounds_toArray, List.set_cons_zero, List.set_cons_succ]
                    refine anyH_take 23 124 (.bool false) rfl rfl (by kernel_rfl) (by kernel_rfl) (by kernel_rfl) (fun _ _ _ h => h) (Or.inl ⟨by rfl, by intro w hSw; obtain ⟨q0, q1, q2, q3⟩ := (hSw.get (.head _)).cells; dsimp only at q0 q1 q2 q3; go_simp⟩) (M) ?_
                    try simp only [Act.put, List.setIfInBounds_toArray, List.set_cons_zero, List.set_cons_succ]
                    refine anyH_take 24 125 (.bool false) rfl rfl (by kernel_rfl) (by kernel_rfl) (by kernel_rfl) (fun _ _ _ h => h) (Or.inl ⟨by rfl, by intro w hSw; go_simp⟩) (M) ?_
                    try simp only [Act.put, List.setIfInBounds_toArray, List.set_cons_zero, List.set_cons_succ]
                    refine anyH_take 25 126 (.bool false) rfl rfl (by kernel_rfl) (by kernel_rfl) (by kernel_rfl) (fun _ _ _ h => h) (Or.inl ⟨by rfl, by intro w hSw; go_simp⟩) (M) ?_
                    try simp only [Act.put, List.setIfInBounds_toArray, List.set_cons_zero, List.set_cons_succ]
                    refine anyH_take 26 127 (.bool false) rfl rfl (by kernel_rfl) (by kernel_rfl) (by kernel_rfl) (fun _ _ _ h => h) (Or.inl ⟨by rfl, by intro w hSw; go_simp⟩) (M) ?_
                    try simp only [Act.put, List.setIfInBounds_toArray, List.set_cons_zero, List.set_cons_succ]
                    refine wpAnyH_done (by kernel_rfl) ?_ _
                    go_wp2_with (fail)
                    go_meet
                    exact ⟨rfl, M⟩
                case rest =>
                  obtain ⟨rfl, M2⟩ := hcut
                  clear M
                  generalize bare id has inp = B at M2 fB
                  go_wp2_with (fail)
                  go_loopg [16] n (fun gg v16 wr => ∃ (j : Nat) (x y : EX), v16 = .int .i64 (j : Int) ∧ j ≤ n ∧ gg = n - j ∧ fitB x = true ∧ fitB y = true ∧ Mem w wr [(k14, y), (k13, x), (k10, ⟨h2, v2, o2, g2⟩), (k9, ⟨h1, v1, o1, g1⟩)])
                  case atStart => exact ⟨0, B, B, by first | rfl | go_num, by omega, by omega, fB, fB, M2⟩
                  case round =>
                    obtain ⟨j, ⟨hx, vx, ox, gx⟩, ⟨hy, vy, oy, gy⟩, rfl, hj, hgk, fx, fy, M⟩ := hrel
                    clear M2 fB
                    have HN : Hid (n ≤ 9223372036854775807) := O.max
                    have HF : Hid (fitB ⟨hx, vx, ox, gx⟩ = true ∧ fitB ⟨hy, vy, oy, gy⟩ = true) := ⟨fx, fy⟩
                    clear fx fy
                    by_cases c : j < n
                    case pos =>
                      have hwr : IntKind.i64.wrap ((j : Int) + 1) = (j : Int) + 1 := by rw [IntKind.wrap_i64]; have := HN.out; omega
                      have ci : (j : Int) < (n : Int) := by omega
                      have cj : (0 : Int) ≤ (j : Int) := by omega
                      obtain ⟨b, off, ⟨ht, vt, ot, gt⟩, rfl, hb, hr⟩ := O.at j c
                      have KR : ∀ W, Below w.heap.size w W → W.rangeAt b (off + j * 4) (EX.mk ht vt ot gt).l := fun W k => range_later hr hb k
                      have K8 := fun w => rfit_any ht vt ot gt w
                      obtain ⟨F, hF⟩ : ∃ F, fitB ⟨ht, vt, ot, gt⟩ = F := ⟨_, rfl⟩
                      simp only [hF] at K8
                      cases F with
                      | false =>
                        go_wp2_with (first
      | ((with_reducible show wpList _ _ _ (Oper.mk _ (Op.load 23 _) _ _ _ _ :: _) _ _); refine wpList_load23x (by rfl) _ rfl b (off + j * 4) ht vt ot gt rfl (KR _ M.below) ?_)
      | (go_at_call 8; refine (K8 _).mono ?_; clear K8; rintro e w1 ⟨rfl, b1⟩; replace M := M.later b1; clear b1))
                        go_roundg (gk - 1)
                        case measure => omega
                        case rel => exact ⟨j + 1, _, _, by first | rfl | go_num, by omega, by omega, HF.out.1, HF.out.2, M⟩
                      | true =>
                        have HT : Hid (fitB ⟨ht, vt, ot, gt⟩ = true) := hF
                        have K22 := fun w => hear_any id hx vx ox gx hy vy oy gy ht vt ot gt ht vt ot gt w
                        have U1 := hear_or true id (t := ⟨ht, vt, ot, gt⟩) HF.out.1
                        have U2 := hear_or false id (t := ⟨ht, vt, ot, gt⟩) HF.out.2
                        have f1 := hold_fit true HF.out.1 (for_fit id HT.out)
                        have f2 := hold_fit false HF.out.2 (for_fit id HT.out)
                        simp only [hearX, two] at K22
                        generalize holdX true ⟨hx, vx, ox, gx⟩ (forX id ⟨ht, vt, ot, gt⟩) = u at K22 U1 f1
                        generalize holdX false ⟨hy, vy, oy, gy⟩ (forX id ⟨ht, vt, ot, gt⟩) = v at K22 U2 f2
                        have HU : Hid (fitB u = true ∧ fitB v = true) := ⟨f1, f2⟩
                        clear f1 f2 hF
                        have HUo : Hid ((u = ⟨hx, vx, ox, gx⟩ ∨ u = ⟨ht, vt, ot, gt⟩) ∧ (v = ⟨hy, vy, oy, gy⟩ ∨ v = ⟨ht, vt, ot, gt⟩)) := ⟨U1, U2⟩
                        clear U1 U2
                        obtain ⟨hu, vu, ou, gu⟩ := u
                        obtain ⟨hv, vv, ov, gv⟩ := v
                        try dsimp only at K22
                        go_wp2_with (first
      | ((with_reducible show wpList _ _ _ (Oper.mk _ (Op.load 23 _) _ _ _ _ :: _) _ _); refine wpList_load23x (by rfl) _ rfl b (off + j * 4) ht vt ot gt rfl (KR _ M.below) ?_)
      | (go_at_call 8; refine (K8 _).mono ?_; clear K8; rintro e w1 ⟨rfl, b1⟩; replace M := M.later b1; clear b1))
                        go_cut [17, 18] (fun p17 p18 wx => ∃ k17 k18, p17 = .pointer (some ⟨k17, 0, none⟩) ∧ p18 = .pointer (some ⟨k18, 0, none⟩) ∧ Mem w wx [(k18, ⟨hv, vv, ov, gv⟩), (k17, ⟨hu, vu, ou, gu⟩), (k14, ⟨hy, vy, oy, gy⟩), (k13, ⟨hx, vx, ox, gx⟩), (k10, ⟨h2, v2, o2, g2⟩), (k9, ⟨h1, v1, o1, g1⟩)])
                        case first =>
                          refine wp_region_any (by kernel_rfl) ?_
                          change wpAny _ _ _ _ _ _ _ (World.drew _)
                          replace M := M.drew
                          generalize World.drew _ = WD at M ⊢
                          refine wpAny_narrow (fun W' => At W' k13 ⟨hx, vx, ox, gx⟩ ∧ At W' k14 ⟨hy, vy, oy, gy⟩ ∧ Below w.heap.size w W') _ _ _ _ ?_
                          refine anyH_take 0 141 (.int .i64 id) rfl rfl (by kernel_rfl) (by kernel_rfl) (by kernel_rfl) (fun _ _ _ h => h) (Or.inl ⟨by rfl, by intro w hSw; go_simp⟩) (⟨M.get (.tail _ (.head _)), M.get (.head _), M.below⟩) ?_
                          try simp only [Act.put, List.setIfInBounds_toArray, List.set_cons_zero, List.set_cons_succ]
                          refine anyH_take 1 142 (ex hx vx ox gx) rfl rfl (by kernel_rfl) (by kernel_rfl) (by kernel_rfl) (fun _ _ _ h => h) (Or.inl ⟨by rfl, fun X hSw => exec_load23 rfl rfl hSw.1⟩) (⟨M.get (.tail _ (.head _)), M.get (.head _), M.below⟩) ?_
                          try simp only [Act.put, List.setIfInBounds_toArray, List.set_cons_zero, List.set_cons_succ]
                          refine anyH_take 2 143 (ex hy vy oy gy) rfl rfl (by kernel_rfl) (by kernel_rfl) (by kernel_rfl) (fun _ _ _ h => h) (Or.inl ⟨by rfl, fun X hSw => exec_load23 rfl rfl hSw.2.1⟩) (⟨M.get (.tail _ (.head _)), M.get (.head _), M.below⟩) ?_
                          try simp only [Act.put, List.setIfInBounds_toArray, List.set_cons_zero, List.set_cons_succ]
                          refine anyH_take 3 144 (.slice (some ⟨b, off, none⟩) n cap) rfl rfl (by kernel_rfl) (by kernel_rfl) (by kernel_rfl) (fun _ _ _ h => h) (Or.inl ⟨by rfl, by intro w hSw; go_simp⟩) (⟨M.get (.tail _ (.head _)), M.get (.head _), M.below⟩) ?_
                          try simp only [Act.put, List.setIfInBounds_toArray, List.set_cons_zero, List.set_cons_succ]
                          refine anyH_take 4 145 (.int .i64 (j : Int)) rfl rfl (by kernel_rfl) (by kernel_rfl) (by kernel_rfl) (fun _ _ _ h => h) (Or.inl ⟨by rfl, by intro w hSw; go_simp⟩) (⟨M.get (.tail _ (.head _)), M.get (.head _), M.below⟩) ?_
                          try simp only [Act.put, List.setIfInBounds_toArray, List.set_cons_zero, List.set_cons_succ]
                          refine anyH_take 5 146 (.pointer (some ⟨b, off + j * 4, none⟩)) rfl rfl (by kernel_rfl) (by kernel_rfl) (by kernel_rfl) (fun _ _ _ h => h) (Or.inl ⟨by rfl, by intro w hSw; go_simp⟩) (⟨M.get (.tail _ (.head _)), M.get (.head _), M.below⟩) ?_
                          try simp only [Act.put, List.setIfInBounds_toArray, List.set_cons_zero, List.set_cons_succ]
                          refine anyH_take 6 147 (ex ht vt ot gt) rfl rfl (by kernel_rfl) (by kernel_rfl) (by kernel_rfl) (fun _ _ _ h => h) (Or.inl ⟨by rfl, fun X hSw => exec_load23x rfl b (off + j * 4) ⟨ht, vt, ot, gt⟩ rfl X (KR X hSw.2.2)⟩) (⟨M.get (.tail _ (.head _)), M.get (.head _), M.below⟩) ?_
                          try simp only [Act.put, List.setIfInBounds_toArray, List.set_cons_zero, List.set_cons_succ]
                          refine anyH_take 7 148 (.slice (some ⟨b, off, none⟩) n cap) rfl rfl (by kernel_rfl) (by kernel_rfl) (by kernel_rfl) (fun _ _ _ h => h) (Or.inl ⟨by rfl, by intro w hSw; go_simp⟩) (⟨M.get (.tail _ (.head _)), M.get (.head _), M.below⟩) ?_
                          try simp only [Act.put, List.setIfInBounds_toArray, List.set_cons_zero, List.set_cons_succ]
                          refine anyH_take 8 149 (.int .i64 (j : Int)) rfl rfl (by kernel_rfl) (by kernel_rfl) (by kernel_rfl) (fun _ _ _ h => h) (Or.inl ⟨by rfl, by intro w hSw; go_simp⟩) (⟨M.get (.tail _ (.head _)), M.get (.head _), M.below⟩) ?_
                          try simp only [Act.put, List.setIfInBounds_toArray, List.set_cons_zero, List.set_cons_succ]
                          refine anyH_take 9 150 (.pointer (some ⟨b, off + j * 4, none⟩)) rfl rfl (by kernel_rfl) (by kernel_rfl) (by kernel_rfl) (fun _ _ _ h => h) (Or.inl ⟨by rfl, by intro w hSw; go_simp⟩) (⟨M.get (.tail _ (.head _)), M.get (.head _), M.below⟩) ?_
                          try simp only [Act.put, List.setIfInBounds_toArray, List.set_cons_zero, List.set_cons_succ]
                          refine anyH_take 10 151 (ex ht vt ot gt) rfl rfl (by kernel_rfl) (by kernel_rfl) (by kernel_rfl) (fun _ _ _ h => h) (Or.inl ⟨by rfl, fun X hSw => exec_load23x rfl b (off + j * 4) ⟨ht, vt, ot, gt⟩ rfl X (KR X hSw.2.2)⟩) (⟨M.get (.tail _ (.head _)), M.get (.head _), M.below⟩) ?_
                          try simp only [Act.put, List.setIfInBounds_toArray, List.set_cons_zero, List.set_cons_succ]
                          refine wpAnyH_ready (rs := [11, 15, 16]) (by kernel_rfl) (by simp) ?_
                          refine (AllReadyH.cons rfl (fun K hK => ?_) (AllReadyH.cons rfl (fun K hK => ?_) (AllReadyH.cons rfl (fun K hK => ?_) AllReadyH.nil)))
                          · go_simp
                            go_wp2_with (go_at_call 22; refine (K22 _).mono ?_; rintro e w1 ⟨rfl, b1⟩; replace M := M.later b1; clear b1)
                            refine hK.out _ _ (⟨M.get (.tail _ (.head _)), M.get (.head _), M.below⟩) (fun hS => ?_)
                            clear hK
                            try simp only [Act.put, List.setIfInBounds_toArray, List.set_cons_zero, List.set_cons_succ]
                            refine anyH_take 12 140 (.tuple #[ex hu vu ou gu, ex hv vv ov gv]) rfl rfl (by kernel_rfl) (by kernel_rfl) (by kernel_rfl) (fun _ _ _ h => h) (Or.inl ⟨by rfl, by intro w hSw; go_simp⟩) (⟨M.get (.tail _ (.head _)), M.get (.head _), M.below⟩) ?_
                            try simp only [Act.put, List.setIfInBounds_toArray, List.set_cons_zero, List.set_cons_succ]
                            refine anyH_take 13 153 (ex hu vu ou gu) rfl rfl (by kernel_rfl) (by kernel_rfl) (by kernel_rfl) (fun _ _ _ h => h) (Or.inl ⟨by rfl, by intro w hSw; go_simp⟩) (⟨M.get (.tail _ (.head _)), M.get (.head _), M.below⟩) ?_
                            try simp only [Act.put, List.setIfInBounds_toArray, List.set_cons_zero, List.set_cons_succ]
                            refine anyH_take 14 154 (ex hv vv ov gv) rfl rfl (by kernel_rfl) (by kernel_rfl) (by kernel_rfl) (fun _ _ _ h => h) (Or.inl ⟨by rfl, by intro w hSw; go_simp⟩) (⟨M.get (.tail _ (.head _)), M.get (.head _), M.below⟩) ?_
                            try simp only [Act.put, List.setIfInBounds_toArray, List.set_cons_zero, List.set_cons_succ]
                            refine wpAnyH_ready (rs := [15, 16]) (by kernel_rfl) (by simp) ?_
                            refine (AllReadyH.cons rfl (fun K hK => ?_) (AllReadyH.cons rfl (fun K hK => ?_) AllReadyH.nil))
                            · rw [if_pos (by rfl)]
                              refine wp_allocd M rfl 17 rfl ?_
                              clear M
                              intro k17 W M
                              refine hK.out _ _ (⟨M.get (.tail _ (.tail _ (.head _))), M.get (.tail _ (.head _)), M.below⟩) (fun hS => ?_)
                              clear hK
                              try simp only [Act.put, List.setIfInBounds_toArray, List.set_cons_zero, List.set_cons_succ]
                              refine wpAnyH_ready (rs := [16]) (by kernel_rfl) (by simp) ?_
                              refine (AllReadyH.cons rfl (fun K hK => ?_) AllReadyH.nil)
                              rw [if_pos (by rfl)]
                              refine wp_allocd M rfl 18 rfl ?_
                              clear M
                              intro k18 W M
                              refine hK.out _ _ (⟨M.get (.tail _ (.tail _ (.tail _ (.head _)))), M.get (.tail _ (.tail _ (.head _))), M.below⟩) (fun hS => ?_)
                              clear hK
                              try simp only [Act.put, List.setIfInBounds_toArray, List.set_cons_zero, List.set_cons_succ]
                              refine wpAnyH_ready (rs := [17]) (by kernel_rfl) (by simp) ?_
                              refine AllReadyH.cons rfl (fun K hK => ?_) AllReadyH.nil
                              rw [if_pos (by rfl)]
                              refine wp_putd M _ _ rfl rfl 1 _ _ _ _ rfl rfl rfl ?_
                              clear M
                              intro W M
                              simp only [List.set_cons_zero, List.set_cons_succ] at M
                              refine hK.out _ _ (⟨M.get (.tail _ (.tail _ (.tail _ (.head _)))), M.get (.tail _ (.tail _ (.head _))), M.below⟩) (fun hS => ?_)
                              clear hK
                              refine wpAnyH_ready (rs := [18]) (by kernel_rfl) (by simp) ?_
                              refine AllReadyH.cons rfl (fun K hK => ?_) AllReadyH.nil
                              rw [if_pos (by rfl)]
                              refine wp_putd M _ _ rfl rfl 0 _ _ _ _ rfl rfl rfl ?_
                              clear M
                              intro W M
                              simp only [List.set_cons_zero, List.set_cons_succ] at M
                              refine hK.out _ _ (⟨M.get (.tail _ (.tail _ (.tail _ (.head _)))), M.get (.tail _ (.tail _ (.head _))), M.below⟩) (fun hS => ?_)
                              clear hK
                              refine wpAnyH_done (by kernel_rfl) ?_ _
                              go_wp2_with (fail)
                              go_meet
                              exact ⟨k17, k18, rfl, rfl, M⟩
                            · rw [if_pos (by rfl)]
                              refine wp_allocd M rfl 18 rfl ?_
                              clear M
                              intro k18 W M
                              refine hK.out _ _ (⟨M.get (.tail _ (.tail _ (.head _))), M.get (.tail _ (.head _)), M.below⟩) (fun hS => ?_)
                              clear hK
                              try simp only [Act.put, List.setIfInBounds_toArray, List.set_cons_zero, List.set_cons_succ]
                              refine wpAnyH_ready (rs := [15]) (by kernel_rfl) (by simp) ?_
                              refine (AllReadyH.cons rfl (fun K hK => ?_) AllReadyH.nil)
                              rw [if_pos (by rfl)]
                              refine wp_allocd M rfl 17 rfl ?_
                              clear M
                              intro k17 W M
                              refine hK.out _ _ (⟨M.get (.tail _ (.tail _ (.tail _ (.head _)))), M.get (.tail _ (.tail _ (.head _))), M.below⟩) (fun hS => ?_)
                              clear hK
                              try simp only [Act.put, List.setIfInBounds_toArray, List.set_cons_zero, List.set_cons_succ]
                              refine wpAnyH_ready (rs := [17]) (by kernel_rfl) (by simp) ?_
                              refine AllReadyH.cons rfl (fun K hK => ?_) AllReadyH.nil
                              rw [if_pos (by rfl)]
                              refine wp_putd M _ _ rfl rfl 0 _ _ _ _ rfl rfl rfl ?_
                              clear M
                              intro W M
                              simp only [List.set_cons_zero, List.set_cons_succ] at M
                              refine hK.out _ _ (⟨M.get (.tail _ (.tail _ (.tail _ (.head _)))), M.get (.tail _ (.tail _ (.head _))), M.below⟩) (fun hS => ?_)
                              clear hK
                              refine wpAnyH_ready (rs := [18]) (by kernel_rfl) (by simp) ?_
                              refine AllReadyH.cons rfl (fun K hK => ?_) AllReadyH.nil
                              rw [if_pos (by rfl)]
                              refine wp_putd M _ _ rfl rfl 1 _ _ _ _ rfl rfl rfl ?_
                              clear M
                              intro W M
                              simp only [List.set_cons_zero, List.set_cons_succ] at M
                              refine hK.out _ _ (⟨M.get (.tail _ (.tail _ (.tail _ (.head _)))), M.get (.tail _ (.tail _ (.head _))), M.below⟩) (fun hS => ?_)
                              clear hK
                              refine wpAnyH_done (by kernel_rfl) ?_ _
                              go_wp2_with (fail)
                              go_meet
                              exact ⟨k17, k18, rfl, rfl, M.swap⟩
                          · rw [if_pos (by rfl)]
                            refine wp_allocd M rfl 17 rfl ?_
                            clear M
                            intro k17 W M
                            refine hK.out _ _ (⟨M.get (.tail _ (.tail _ (.head _))), M.get (.tail _ (.head _)), M.below⟩) (fun hS => ?_)
                            clear hK
                            try simp only [Act.put, List.setIfInBounds_toArray, List.set_cons_zero, List.set_cons_succ]
                            refine wpAnyH_ready (rs := [11, 16]) (by kernel_rfl) (by simp) ?_
                            refine (AllReadyH.cons rfl (fun K hK => ?_) (AllReadyH.cons rfl (fun K hK => ?_) AllReadyH.nil))
                            · go_simp
                              go_wp2_with (go_at_call 22; refine (K22 _).mono ?_; rintro e w1 ⟨rfl, b1⟩; replace M := M.later b1; clear b1)
                              refine hK.out _ _ (⟨M.get (.tail _ (.tail _ (.head _))), M.get (.tail _ (.head _)), M.below⟩) (fun hS => ?_)
                              clear hK
                              try simp only [Act.put, List.setIfInBounds_toArray, List.set_cons_zero, List.set_cons_succ]
                              refine anyH_take 12 140 (.tuple #[ex hu vu ou gu, ex hv vv ov gv]) rfl rfl (by kernel_rfl) (by kernel_rfl) (by kernel_rfl) (fun _ _ _ h => h) (Or.inl ⟨by rfl, by intro w hSw; go_simp⟩) (⟨M.get (.tail _ (.tail _ (.head _))), M.get (.tail _ (.head _)), M.below⟩) ?_
                              try simp only [Act.put, List.setIfInBounds_toArray, List.set_cons_zero, List.set_cons_succ]
                              refine anyH_take 13 153 (ex hu vu ou gu) rfl rfl (by kernel_rfl) (by kernel_rfl) (by kernel_rfl) (fun _ _ _ h => h) (Or.inl ⟨by rfl, by intro w hSw; go_simp⟩) (⟨M.get (.tail _ (.tail _ (.head _))), M.get (.tail _ (.head _)), M.below⟩) ?_
                              try simp only [Act.put, List.setIfInBounds_toArray, List.set_cons_zero, List.set_cons_succ]
                              refine anyH_take 14 154 (ex hv vv ov gv) rfl rfl (by kernel_rfl) (by kernel_rfl) (by kernel_rfl) (fun _ _ _ h => h) (Or.inl ⟨by rfl, by intro w hSw; go_simp⟩) (⟨M.get (.tail _ (.tail _ (.head _))), M.get (.tail _ (.head _)), M.below⟩) ?_
                              try simp only [Act.put, List.setIfInBounds_toArray, List.set_cons_zero, List.set_cons_succ]
                              refine wpAnyH_ready (rs := [16]) (by kernel_rfl) (by simp) ?_
                              refine (AllReadyH.cons rfl (fun K hK => ?_) AllReadyH.nil)
                              rw [if_pos (by rfl)]
                              refine wp_allocd M rfl 18 rfl ?_
                              clear M
                              intro k18 W M
                              refine hK.out _ _ (⟨M.get (.tail _ (.tail _ (.tail _ (.head _)))), M.get (.tail _ (.tail _ (.head _))), M.below⟩) (fun hS => ?_)
                              clear hK
                              try simp only [Act.put, List.setIfInBounds_toArray, List.set_cons_zero, List.set_cons_succ]
                              refine wpAnyH_ready (rs := [17]) (by kernel_rfl) (by simp) ?_
                              refine AllReadyH.cons rfl (fun K hK => ?_) AllReadyH.nil
                              rw [if_pos (by rfl)]
                              refine wp_putd M _ _ rfl rfl 1 _ _ _ _ rfl rfl rfl ?_
                              clear M
                              intro W M
                              simp only [List.set_cons_zero, List.set_cons_succ] at M
                              refine hK.out _ _ (⟨M.get (.tail _ (.tail _ (.tail _ (.head _)))), M.get (.tail _ (.tail _ (.head _))), M.below⟩) (fun hS => ?_)
                              clear hK
                              refine wpAnyH_ready (rs := [18]) (by kernel_rfl) (by simp) ?_
                              refine AllReadyH.cons rfl (fun K hK => ?_) AllReadyH.nil
                              rw [if_pos (by rfl)]
                              refine wp_putd M _ _ rfl rfl 0 _ _ _ _ rfl rfl rfl ?_
                              clear M
                              intro W M
                              simp only [List.set_cons_zero, List.set_cons_succ] at M
                              refine hK.out _ _ (⟨M.get (.tail _ (.tail _ (.tail _ (.head _)))), M.get (.tail _ (.tail _ (.head _))), M.below⟩) (fun hS => ?_)
                              clear hK
                              refine wpAnyH_done (by kernel_rfl) ?_ _
                              go_wp2_with (fail)
                              go_meet
                              exact ⟨k17, k18, rfl, rfl, M⟩
                            · rw [if_pos (by rfl)]
                              refine wp_allocd M rfl 18 rfl ?_
                              clear M
                              intro k18 W M
                              refine hK.out _ _ (⟨M.get (.tail _ (.tail _ (.tail _ (.head _)))), M.get (.tail _ (.tail _ (.head _))), M.below⟩) (fun hS => ?_)
                              clear hK
                              try simp only [Act.put, List.setIfInBounds_toArray, List.set_cons_zero, List.set_cons_succ]
                              refine wpAnyH_ready (rs := [11]) (by kernel_rfl) (by simp) ?_
                              refine (AllReadyH.cons rfl (fun K hK => ?_) AllReadyH.nil)
                              go_simp
                              go_wp2_with (go_at_call 22; refine (K22 _).mono ?_; rintro e w1 ⟨rfl, b1⟩; replace M := M.later b1; clear b1)
                              refine hK.out _ _ (⟨M.get (.tail _ (.tail _ (.tail _ (.head _)))), M.get (.tail _ (.tail _ (.head _))), M.below⟩) (fun hS => ?_)
                              clear hK
                              try simp only [Act.put, List.setIfInBounds_toArray, List.set_cons_zero, List.set_cons_succ]
                              refine anyH_take 12 140 (.tuple #[ex hu vu ou gu, ex hv vv ov gv]) rfl rfl (by kernel_rfl) (by kernel_rfl) (by kernel_rfl) (fun _ _ _ h => h) (Or.inl ⟨by rfl, by intro w hSw; go_simp⟩) (⟨M.get (.tail _ (.tail _ (.tail _ (.head _)))), M.get (.tail _ (.tail _ (.head _))), M.below⟩) ?_
                              try simp only [Act.put, List.setIfInBounds_toArray, List.set_cons_zero, List.set_cons_succ]
                              refine anyH_take 13 153 (ex hu vu ou gu) rfl rfl (by kernel_rfl) (by kernel_rfl) (by kernel_rfl) (fun _ _ _ h => h) (Or.inl ⟨by rfl, by intro w hSw; go_simp⟩) (⟨M.get (.tail _ (.tail _ (.tail _ (.head _)))), M.get (.tail _ (.tail _ (.head _))), M.below⟩) ?_
                              try simp only [Act.put, List.setIfInBounds_toArray, List.set_cons_zero, List.set_cons_succ]
                              refine anyH_take 14 154 (ex hv vv ov gv) rfl rfl (by kernel_rfl) (by kernel_rfl) (by kernel_rfl) (fun _ _ _ h => h) (Or.inl ⟨by rfl, by intro w hSw; go_simp⟩) (⟨M.get (.tail _ (.tail _ (.tail _ (.head _)))), M.get (.tail _ (.tail _ (.head _))), M.below⟩) ?_
                              try simp only [Act.put, List.setIfInBounds_toArray, List.set_cons_zero, List.set_cons_succ]
                              refine wpAnyH_ready (rs := [17]) (by kernel_rfl) (by simp) ?_
                              refine AllReadyH.cons rfl (fun K hK => ?_) AllReadyH.nil
                              rw [if_pos (by rfl)]
                              refine wp_putd M _ _ rfl rfl 1 _ _ _ _ rfl rfl rfl ?_
                              clear M
                              intro W M
                              simp only [List.set_cons_zero, List.set_cons_succ] at M
                              refine hK.out _ _ (⟨M.get (.tail _ (.tail _ (.tail _ (.head _)))), M.get (.tail _ (.tail _ (.head _))), M.below⟩) (fun hS => ?_)
                              clear hK
                              refine wpAnyH_ready (rs := [18]) (by kernel_rfl) (by simp) ?_
                              refine AllReadyH.cons rfl (fun K hK => ?_) AllReadyH.nil
                              rw [if_pos (by rfl)]
                              refine wp_putd M _ _ rfl rfl 0 _ _ _ _ rfl rfl rfl ?_
                              clear M
                              intro W M
                              simp only [List.set_cons_zero, List.set_cons_succ] at M
                              refine hK.out _ _ (⟨M.get (.tail _ (.tail _ (.tail _ (.head _)))), M.get (.tail _ (.tail _ (.head _))), M.below⟩) (fun hS => ?_)
                              clear hK
                              refine wpAnyH_done (by kernel_rfl) ?_ _
                              go_wp2_with (fail)
                              go_meet
                              exact ⟨k17, k18, rfl, rfl, M⟩
                          · rw [if_pos (by rfl)]
                            refine wp_allocd M rfl 18 rfl ?_
                            clear M
                            intro k18 W M
                            refine hK.out _ _ (⟨M.get (.tail _ (.tail _ (.head _))), M.get (.tail _ (.head _)), M.below⟩) (fun hS => ?_)
                            clear hK
                            try simp only [Act.put, List.setIfInBounds_toArray, List.set_cons_zero, List.set_cons_succ]
                            refine wpAnyH_ready (rs := [11, 15]) (by kernel_rfl) (by simp) ?_
                            refine (AllReadyH.cons rfl (fun K hK => ?_) (AllReadyH.cons rfl (fun K hK => ?_) AllReadyH.nil))
                            · go_simp
                              go_wp2_with (go_at_call 22; refine (K22 _).mono ?_; rintro e w1 ⟨rfl, b1⟩; replace M := M.later b1; clear b1)
                              refine hK.out _ _ (⟨M.get (.tail _ (.tail _ (.head _))), M.get (.tail _ (.head _)), M.below⟩) (fun hS => ?_)
                              clear hK
                              try simp only [Act.put, List.setIfInBounds_toArray, List.set_cons_zero, List.set_cons_succ]
                              refine anyH_take 12 140 (.tuple #[ex hu vu ou gu, ex hv vv ov gv]) rfl rfl (by kernel_rfl) (by kernel_rfl) (by kernel_rfl) (fun _ _ _ h => h) (Or.inl ⟨by rfl, by intro w hSw; go_simp⟩) (⟨M.get (.tail _ (.tail _ (.head _))), M.get (.tail _ (.head _)), M.below⟩) ?_
                              try simp only [Act.put, List.setIfInBounds_toArray, List.set_cons_zero, List.set_cons_succ]
                              refine anyH_take 13 153 (ex hu vu ou gu) rfl rfl (by kernel_rfl) (by kernel_rfl) (by kernel_rfl) (fun _ _ _ h => h) (Or.inl ⟨by rfl, by intro w hSw; go_simp⟩) (⟨M.get (.tail _ (.tail _ (.head _))), M.get (.tail _ (.head _)), M.below⟩) ?_
                              try simp only [Act.put, List.setIfInBounds_toArray, List.set_cons_zero, List.set_cons_succ]
                              refine anyH_take 14 154 (ex hv vv ov gv) rfl rfl (by kernel_rfl) (by kernel_rfl) (by kernel_rfl) (fun _ _ _ h => h) (Or.inl ⟨by rfl, by intro w hSw; go_simp⟩) (⟨M.get (.tail _ (.tail _ (.head _))), M.get (.tail _ (.head _)), M.below⟩) ?_
                              try simp only [Act.put, List.setIfInBounds_toArray, List.set_cons_zero, List.set_cons_succ]
                              refine wpAnyH_ready (rs := [15]) (by kernel_rfl) (by simp) ?_
                              refine (AllReadyH.cons rfl (fun K hK => ?_) AllReadyH.nil)
                              rw [if_pos (by rfl)]
                              refine wp_allocd M rfl 17 rfl ?_
                              clear M
                              intro k17 W M
                              refine hK.out _ _ (⟨M.get (.tail _ (.tail _ (.tail _ (.head _)))), M.get (.tail _ (.tail _ (.head _))), M.below⟩) (fun hS => ?_)
                              clear hK
                              try simp only [Act.put, List.setIfInBounds_toArray, List.set_cons_zero, List.set_cons_succ]
                              refine wpAnyH_ready (rs := [17]) (by kernel_rfl) (by simp) ?_
                              refine AllReadyH.cons rfl (fun K hK => ?_) AllReadyH.nil
                              rw [if_pos (by rfl)]
                              refine wp_putd M _ _ rfl rfl 0 _ _ _ _ rfl rfl rfl ?_
                              clear M
                              intro W M
                              simp only [List.set_cons_zero, List.set_cons_succ] at M
                              refine hK.out _ _ (⟨M.get (.tail _ (.tail _ (.tail _ (.head _)))), M.get (.tail _ (.tail _ (.head _))), M.below⟩) (fun hS => ?_)
                              clear hK
                              refine wpAnyH_ready (rs := [18]) (by kernel_rfl) (by simp) ?_
                              refine AllReadyH.cons rfl (fun K hK => ?_) AllReadyH.nil
                              rw [if_pos (by rfl)]
                              refine wp_putd M _ _ rfl rfl 1 _ _ _ _ rfl rfl rfl ?_
                              clear M
                              intro W M
                              simp only [List.set_cons_zero, List.set_cons_succ] at M
                              refine hK.out _ _ (⟨M.get (.tail _ (.tail _ (.tail _ (.head _)))), M.get (.tail _ (.tail _ (.head _))), M.below⟩) (fun hS => ?_)
                              clear hK
                              refine wpAnyH_done (by kernel_rfl) ?_ _
                              go_wp2_with (fail)
                              go_meet
                              exact ⟨k17, k18, rfl, rfl, M.swap⟩
                            · rw [if_pos (by rfl)]
                              refine wp_allocd M rfl 17 rfl ?_
                              clear M
                              intro k17 W M
                              refine hK.out _ _ (⟨M.get (.tail _ (.tail _ (.tail _ (.head _)))), M.get (.tail _ (.tail _ (.head _))), M.below⟩) (fun hS => ?_)
                              clear hK
                              try simp only [Act.put, List.setIfInBounds_toArray, List.set_cons_zero, List.set_cons_succ]
                              refine wpAnyH_ready (rs := [11]) (by kernel_rfl) (by simp) ?_
                              refine (AllReadyH.cons rfl (fun K hK => ?_) AllReadyH.nil)
                              go_simp
                              go_wp2_with (go_at_call 22; refine (K22 _).mono ?_; rintro e w1 ⟨rfl, b1⟩; replace M := M.later b1; clear b1)
                              refine hK.out _ _ (⟨M.get (.tail _ (.tail _ (.tail _ (.head _)))), M.get (.tail _ (.tail _ (.head _))), M.below⟩) (fun hS => ?_)
                              clear hK
                              try simp only [Act.put, List.setIfInBounds_toArray, List.set_cons_zero, List.set_cons_succ]
                              refine anyH_take 12 140 (.tuple #[ex hu vu ou gu, ex hv vv ov gv]) rfl rfl (by kernel_rfl) (by kernel_rfl) (by kernel_rfl) (fun _ _ _ h => h) (Or.inl ⟨by rfl, by intro w hSw; go_simp⟩) (⟨M.get (.tail _ (.tail _ (.tail _ (.head _)))), M.get (.tail _ (.tail _ (.head _))), M.below⟩) ?_
                              try simp only [Act.put, List.setIfInBounds_toArray, List.set_cons_zero, List.set_cons_succ]
                              refine anyH_take 13 153 (ex hu vu ou gu) rfl rfl (by kernel_rfl) (by kernel_rfl) (by kernel_rfl) (fun _ _ _ h => h) (Or.inl ⟨by rfl, by intro w hSw; go_simp⟩) (⟨M.get (.tail _ (.tail _ (.tail _ (.head _)))), M.get (.tail _ (.tail _ (.head _))), M.below⟩) ?_
                              try simp only [Act.put, List.setIfInBounds_toArray, List.set_cons_zero, List.set_cons_succ]
                              refine anyH_take 14 154 (ex hv vv ov gv) rfl rfl (by kernel_rfl) (by kernel_rfl) (by kernel_rfl) (fun _ _ _ h => h) (Or.inl ⟨by rfl, by intro w hSw; go_simp⟩) (⟨M.get (.tail _ (.tail _ (.tail _ (.head _)))), M.get (.tail _ (.tail _ (.head _))), M.below⟩) ?_
                              try simp only [Act.put, List.setIfInBounds_toArray, List.set_cons_zero, List.set_cons_succ]
                              refine wpAnyH_ready (rs := [17]) (by kernel_rfl) (by simp) ?_
                              refine AllReadyH.cons rfl (fun K hK => ?_) AllReadyH.nil
                              rw [if_pos (by rfl)]
                              refine wp_putd M _ _ rfl rfl 0 _ _ _ _ rfl rfl rfl ?_
                              clear M
                              intro W M
                              simp only [List.set_cons_zero, List.set_cons_succ] at M
                              refine hK.out _ _ (⟨M.get (.tail _ (.tail _ (.tail _ (.head _)))), M.get (.tail _ (.tail _ (.head _))), M.below⟩) (fun hS => ?_)
                              clear hK
                              refine wpAnyH_ready (rs := [18]) (by kernel_rfl) (by simp) ?_
                              refine AllReadyH.cons rfl (fun K hK => ?_) AllReadyH.nil
                              rw [if_pos (by rfl)]
                              refine wp_putd M _ _ rfl rfl 1 _ _ _ _ rfl rfl rfl ?_
                              clear M
                              intro W M
                              simp only [List.set_cons_zero, List.set_cons_succ] at M
                              refine hK.out _ _ (⟨M.get (.tail _ (.tail _ (.tail _ (.head _)))), M.get (.tail _ (.tail _ (.head _))), M.below⟩) (fun hS => ?_)
                              clear hK
                              refine wpAnyH_done (by kernel_rfl) ?_ _
                              go_wp2_with (fail)
                              go_meet
                              exact ⟨k17, k18, rfl, rfl, M.swap⟩
                        case rest =>
                          obtain ⟨k17, k18, rfl, rfl, M9⟩ := hcut
                          clear M
                          have M := M9
                          clear M9
                          obtain ⟨o1', o2'⟩ := HUo.out
                          clear HUo
                          rcases (by cases h : sameX ⟨hu, vu, ou, gu⟩ ⟨hx, vx, ox, gx⟩ with | true => exact .inl ((sameX_eq _ _).1 h) | false => exact .inr rfl : (⟨hu, vu, ou, gu⟩ : EX) = ⟨hx, vx, ox, gx⟩ ∨ sameX ⟨hu, vu, ou, gu⟩ ⟨hx, vx, ox, gx⟩ = false) with ue | nu
                          · cases ue
                            clear o1'
                            rcases (by cases h : sameX ⟨hv, vv, ov, gv⟩ ⟨hy, vy, oy, gy⟩ with | true => exact .inl ((sameX_eq _ _).1 h) | false => exact .inr rfl : (⟨hv, vv, ov, gv⟩ : EX) = ⟨hy, vy, oy, gy⟩ ∨ sameX ⟨hv, vv, ov, gv⟩ ⟨hy, vy, oy, gy⟩ = false) with ve | nv
                            · cases ve
                              clear o2'
                              go_wp2_with (fail)
                              refine wp_region_any (by kernel_rfl) ?_
                              change wpAny _ _ _ _ _ _ _ (World.drew _)
                              replace M := M.drew
                              generalize World.drew _ = WD at M ⊢
                              refine wpAny_narrow (fun W' => Mem w W' [(k18, ⟨hy, vy, oy, gy⟩), (k17, ⟨hx, vx, ox, gx⟩), (k14, ⟨hy, vy, oy, gy⟩), (k13, ⟨hx, vx, ox, gx⟩), (k10, ⟨h2, v2, o2, g2⟩), (k9, ⟨h1, v1, o1, g1⟩)]) _ _ _ _ ?_
                              refine anyH_take 0 155 (ex hx vx ox gx) rfl rfl (by kernel_rfl) (by kernel_rfl) (by kernel_rfl) (fun _ _ _ h => h) (Or.inl ⟨by rfl, fun X hSw => exec_load23 rfl rfl (hSw.get (.tail _ (.head _)))⟩) (M) ?_
                              try simp only [Act.put, List.setIfInBounds_toArray, List.set_cons_zero, List.set_cons_succ]
                              refine anyH_take 1 156 (ex hx vx ox gx) rfl rfl (by kernel_rfl) (by kernel_rfl) (by kernel_rfl) (fun _ _ _ h => h) (Or.inl ⟨by rfl, fun X hSw => exec_load23 rfl rfl (hSw.get (.tail _ (.tail _ (.tail _ (.head _)))))⟩) (M) ?_
                              try simp only [Act.put, List.setIfInBounds_toArray, List.set_cons_zero, List.set_cons_succ]
                              refine anyH_take 2 157 (.bool (!sameX ⟨hx, vx, ox, gx⟩ ⟨hx, vx, ox, gx⟩)) rfl rfl (by kernel_rfl) (by kernel_rfl) (by kernel_rfl) (fun _ _ _ h => h) (Or.inl ⟨by rfl, fun X hSw => exec_neq23 rfl ⟨hx, vx, ox, gx⟩ ⟨hx, vx, ox, gx⟩ rfl rfl X⟩) (M) ?_
                              try simp only [Act.put, List.setIfInBounds_toArray, List.set_cons_zero, List.set_cons_succ]
                              rw [sameX_self]
                              rw [Bool.not_true]
                              refine anyH_take 3 158 (.bool false) rfl rfl (by kernel_rfl) (by kernel_rfl) (by kernel_rfl) (fun _ _ _ h => h) (Or.inl ⟨by rfl, by intro w hSw; go_simp⟩) (M) ?_
                              try simp only [Act.put, List.setIfInBounds_toArray, List.set_cons_zero, List.set_cons_succ]
                              refine anyH_take 4 159 (undef) rfl rfl (by kernel_rfl) (by kernel_rfl) (by kernel_rfl) (fun _ _ _ h => h) (Or.inr ⟨by rfl, rfl⟩) (M) ?_
                              try simp only [Act.put, List.setIfInBounds_toArray, List.set_cons_zero, List.set_cons_succ]
                              refine anyH_take 5 160 (undef) rfl rfl (by kernel_rfl) (by kernel_rfl) (by kernel_rfl) (fun _ _ _ h => h) (Or.inr ⟨by rfl, rfl⟩) (M) ?_
                              try simp only [Act.put, List.setIfInBounds_toArray, List.set_cons_zero, List.set_cons_succ]
                              refine anyH_take 6 161 (undef) rfl rfl (by kernel_rfl) (by kernel_rfl) (by kernel_rfl) (fun _ _ _ h => h) (Or.inr ⟨by rfl, rfl⟩) (M) ?_
                              try simp only [Act.put, List.setIfInBounds_toArray, List.set_cons_zero, List.set_cons_succ]
                              refine anyH_take 7 162 (undef) rfl rfl (by kernel_rfl) (by kernel_rfl) (by kernel_rfl) (fun _ _ _ h => h) (Or.inr ⟨by rfl, rfl⟩) (M) ?_
                              try simp only [Act.put, List.setIfInBounds_toArray, List.set_cons_zero, List.set_cons_succ]
                              refine anyH_take 8 163 (undef) rfl rfl (by kernel_rfl) (by kernel_rfl) (by kernel_rfl) (fun _ _ _ h => h) (Or.inr ⟨by rfl, rfl⟩) (M) ?_
                              try simp only [Act.put, List.setIfInBounds_toArray, List.set_cons_zero, List.set_cons_succ]
                              refine anyH_take 9 164 (undef) rfl rfl (by kernel_rfl) (by kernel_rfl) (by kernel_rfl) (fun _ _ _ h => h) (Or.inr ⟨by rfl, rfl⟩) (M) ?_
                              try simp only [Act.put, List.setIfInBounds_toArray, List.set_cons_zero, List.set_cons_succ]
                              refine anyH_take 10 165 (.bool false) rfl rfl (by kernel_rfl) (by kernel_rfl) (by kernel_rfl) (fun _ _ _ h => h) (Or.inl ⟨by rfl, by intro w hSw; go_simp⟩) (M) ?_
                              try simp only [Act.put, List.setIfInBounds_toArray, List.set_cons_zero, List.set_cons_succ]
                              refine anyH_take 11 166 (.bool false) rfl rfl (by kernel_rfl) (by kernel_rfl) (by kernel_rfl) (fun _ _ _ h => h) (Or.inl ⟨by rfl, by intro w hSw; go_simp⟩) (M) ?_
                              try simp only [Act.put, List.setIfInBounds_toArray, List.set_cons_zero, List.set_cons_succ]
                              refine anyH_take 12 167 (ex hy vy oy gy) rfl rfl (by kernel_rfl) (by kernel_rfl) (by kernel_rfl) (fun _ _ _ h => h) (Or.inl ⟨by rfl, fun X hSw => exec_load23 rfl rfl (hSw.get (.head _))⟩) (M) ?_
                              try simp only [Act.put, List.setIfInBounds_toArray, List.set_cons_zero, List.set_cons_succ]
                              refine anyH_take 13 168 (ex hy vy oy gy) rfl rfl (by kernel_rfl) (by kernel_rfl) (by kernel_rfl) (fun _ _ _ h => h) (Or.inl ⟨by rfl, fun X hSw => exec_load23 rfl rfl (hSw.get (.tail _ (.tail _ (.head _))))⟩) (M) ?_
                              try simp only [Act.put, List.setIfInBounds_toArray, List.set_cons_zero, List.set_cons_succ]
                              refine anyH_take 14 169 (.bool (!sameX ⟨hy, vy, oy, gy⟩ ⟨hy, vy, oy, gy⟩)) rfl rfl (by kernel_rfl) (by kernel_rfl) (by kernel_rfl) (fun _ _ _ h => h) (Or.inl ⟨by rfl, fun X hSw => exec_neq23 rfl ⟨hy, vy, oy, gy⟩ ⟨hy, vy, oy, gy⟩ rfl rfl X⟩) (M) ?_
                              try simp only [Act.put, List.setIfInBounds_toArray, List.set_cons_zero, List.set_cons_succ]
                              rw [sameX_self]
                              rw [Bool.not_true]
                              refine anyH_take 15 170 (.bool false) rfl rfl (by kernel_rfl) (by kernel_rfl) (by kernel_rfl) (fun _ _ _ h => h) (Or.inl ⟨by rfl, by intro w hSw; go_simp⟩) (M) ?_
                              try simp only [Act.put, List.setIfInBounds_toArray, List.set_cons_zero, List.set_cons_succ]
                              refine anyH_take 16 171 (undef) rfl rfl (by kernel_rfl) (by kernel_rfl) (by kernel_rfl) (fun _ _ _ h => h) (Or.inr ⟨by rfl, rfl⟩) (M) ?_
                              try simp only [Act.put, List.setIfInBounds_toArray, List.set_cons_zero, List.set_cons_succ]
                              refine anyH_take 17 172 (undef) rfl rfl (by kernel_rfl) (by kernel_rfl) (by kernel_rfl) (fun _ _ _ h => h) (Or.inr ⟨by rfl, rfl⟩) (M) ?_
                              try simp only [Act.put, List.setIfInBounds_toArray, List.set_cons_zero, List.set_cons_succ]
                              refine anyH_take 18 173 (undef) rfl rfl (by kernel_rfl) (by kernel_rfl) (by kernel_rfl) (fun _ _ _ h => h) (Or.inr ⟨by rfl, rfl⟩) (M) ?_
                              try simp only [Act.put, List.setIfInBounds_toArray, List.set_cons_zero, List.set_cons_succ]
                              refine anyH_take 19 174 (undef) rfl rfl (by kernel_rfl) (by kernel_rfl) (by kernel_rfl) (fun _ _ _ h => h) (Or.inr ⟨by rfl, rfl⟩) (M) ?_
                              try simp only [Act.put, List.setIfInBounds_toArray, List.set_cons_zero, List.set_cons_succ]
                              refine anyH_take 20 175 (undef) rfl rfl (by kernel_rfl) (by kernel_rfl) (by kernel_rfl) (fun _ _ _ h => h) (Or.inr ⟨by rfl, rfl⟩) (M) ?_
                              try simp only [Act.put, List.setIfInBounds_toArray, List.set_cons_zero, List.set_cons_succ]
                              refine anyH_take 21 176 (undef) rfl rfl (by kernel_rfl) (by kernel_rfl) (by kernel_rfl) (fun _ _ _ h => h) (Or.inr ⟨by rfl, rfl⟩) (M) ?_
                              try simp only [Act.put, List.setIfInBounds_toArray, List.set_cons_zero, List.set_cons_succ]
                              refine anyH_take 22 177 (.bool false) rfl rfl (by kernel_rfl) (by kernel_rfl) (by kernel_rfl) (fun _ _ _ h => h) (Or.inl ⟨by rfl, by intro w hSw; go_simp⟩) (M) ?_
                              try simp only [Act.put, List.setIfInBounds_toArray, List.set_cons_zero, List.set_cons_succ]
                              refine anyH_take 23 178 (.bool false) rfl rfl (by kernel_rfl) (by kernel_rfl) (by kernel_rfl) (fun _ _ _ h => h) (Or.inl ⟨by rfl, by intro w hSw; go_simp⟩) (M) ?_
                              try simp only [Act.put, List.setIfInBounds_toArray, List.set_cons_zero, List.set_cons_succ]
                              refine wpAnyH_done (by kernel_rfl) ?_ _
                              go_wp2_with (fail)
                              refine wp_region_any (by kernel_rfl) ?_
                              change wpAny _ _ _ _ _ _ _ (World.drew _)
                              replace M := M.drew
                              generalize World.drew _ = WD at M ⊢
                              refine wpAny_narrow (fun W' => At W' k17 ⟨hx, vx, ox, gx⟩ ∧ At W' k18 ⟨hy, vy, oy, gy⟩) _ _ _ _ ?_
                              refine anyH_take 0 179 (ex hx vx ox gx) rfl rfl (by kernel_rfl) (by kernel_rfl) (by kernel_rfl) (fun _ _ _ h => h) (Or.inl ⟨by rfl, fun X hSw => exec_load23 rfl rfl hSw.1⟩) (⟨M.get (.tail _ (.head _)), M.get (.head _)⟩) ?_
                              try simp only [Act.put, List.setIfInBounds_toArray, List.set_cons_zero, List.set_cons_succ]
                              refine anyH_take 1 180 (ex hy vy oy gy) rfl rfl (by kernel_rfl) (by kernel_rfl) (by kernel_rfl) (fun _ _ _ h => h) (Or.inl ⟨by rfl, fun X hSw => exec_load23 rfl rfl hSw.2⟩) (⟨M.get (.tail _ (.head _)), M.get (.head _)⟩) ?_
                              try simp only [Act.put, List.setIfInBounds_toArray, List.set_cons_zero, List.set_cons_succ]
                              refine wpAnyH_ready (rs := [2]) (by kernel_rfl) (by simp) ?_
                              refine AllReadyH.cons rfl (fun K hK => ?_) AllReadyH.nil
                              rw [if_pos (by rfl)]
                              refine wp_putd M _ _ rfl rfl 3 _ _ _ _ rfl rfl rfl ?_
                              clear M
                              intro W M
                              simp only [List.set_cons_zero, List.set_cons_succ] at M
                              refine hK.out _ _ (⟨M.get (.tail _ (.head _)), M.get (.head _)⟩) (fun hS => ?_)
                              clear hK
                              refine wpAnyH_ready (rs := [3]) (by kernel_rfl) (by simp) ?_
                              refine AllReadyH.cons rfl (fun K hK => ?_) AllReadyH.nil
                              rw [if_pos (by rfl)]
                              refine wp_putd M _ _ rfl rfl 2 _ _ _ _ rfl rfl rfl ?_
                              clear M
                              intro W M
                              simp only [List.set_cons_zero, List.set_cons_succ] at M
                              refine hK.out _ _ (⟨M.get (.tail _ (.head _)), M.get (.head _)⟩) (fun hS => ?_)
                              clear hK
                              refine wpAnyH_done (by kernel_rfl) ?_ _
                              go_wp2_with (fail)
                              replace M : Mem w _ [(k14, ⟨hy, vy, oy, gy⟩), (k13, ⟨hx, vx, ox, gx⟩), (k10, ⟨h2, v2, o2, g2⟩), (k9, ⟨h1, v1, o1, g1⟩)] := M.tail.tail
                              go_roundg (gk - 1)
                              case measure => omega
                              case rel => exact ⟨j + 1, _, _, by first | rfl | go_num, by omega, by omega, HU.out.1, HU.out.2, M⟩
                            · rcases o2' with e | e
                              · rw [e, sameX_self] at nv
                                cases nv
                              · cases e
                                go_wp2_with (fail)
                                refine wp_region_any (by kernel_rfl) ?_
                                change wpAny _ _ _ _ _ _ _ (World.drew _)
                                replace M := M.drew
                                generalize World.drew _ = WD at M ⊢
                                refine wpAny_narrow (fun W' => Mem w W' [(k18, ⟨ht, vt, ot, gt⟩), (k17, ⟨hx, vx, ox, gx⟩), (k14, ⟨hy, vy, oy, gy⟩), (k13, ⟨hx, vx, ox, gx⟩), (k10, ⟨h2, v2, o2, g2⟩), (k9, ⟨h1, v1, o1, g1⟩)]) _ _ _ _ ?_
                                refine anyH_take 0 155 (ex hx vx ox gx) rfl rfl (by kernel_rfl) (by kernel_rfl) (by kernel_rfl) (fun _ _ _ h => h) (Or.inl ⟨by rfl, fun X hSw => exec_load23 rfl rfl (hSw.get (.tail _ (.head _)))⟩) (M) ?_
                                try simp only [Act.put, List.setIfInBounds_toArray, List.set_cons_zero, List.set_cons_succ]
                                refine anyH_take 1 156 (ex hx vx ox gx) rfl rfl (by kernel_rfl) (by kernel_rfl) (by kernel_rfl) (fun _ _ _ h => h) (Or.inl ⟨by rfl, fun X hSw => exec_load23 rfl rfl (hSw.get (.tail _ (.tail _ (.tail _ (.head _)))))⟩) (M) ?_
                                try simp only [Act.put, List.setIfInBounds_toArray, List.set_cons_zero, List.set_cons_succ]
                                refine anyH_take 2 157 (.bool (!sameX ⟨hx, vx, ox, gx⟩ ⟨hx, vx, ox, gx⟩)) rfl rfl (by kernel_rfl) (by kernel_rfl) (by kernel_rfl) (fun _ _ _ h => h) (Or.inl ⟨by rfl, fun X hSw => exec_neq23 rfl ⟨hx, vx, ox, gx⟩ ⟨hx, vx, ox, gx⟩ rfl rfl X⟩) (M) ?_
                                try simp only [Act.put, List.setIfInBounds_toArray, List.set_cons_zero, List.set_cons_succ]
                                rw [sameX_self]
                                rw [Bool.not_true]
                                refine anyH_take 3 158 (.bool false) rfl rfl (by kernel_rfl) (by kernel_rfl) (by kernel_rfl) (fun _ _ _ h => h) (Or.inl ⟨by rfl, by intro w hSw; go_simp⟩) (M) ?_
                                try simp only [Act.put, List.setIfInBounds_toArray, List.set_cons_zero, List.set_cons_succ]
                                refine anyH_take 4 159 (undef) rfl rfl (by kernel_rfl) (by kernel_rfl) (by kernel_rfl) (fun _ _ _ h => h) (Or.inr ⟨by rfl, rfl⟩) (M) ?_
                                try simp only [Act.put, List.setIfInBounds_toArray, List.set_cons_zero, List.set_cons_succ]
                                refine anyH_take 5 160 (undef) rfl rfl (by kernel_rfl) (by kernel_rfl) (by kernel_rfl) (fun _ _ _ h => h) (Or.inr ⟨by rfl, rfl⟩) (M) ?_
                                try simp only [Act.put, List.setIfInBounds_toArray, List.set_cons_zero, List.set_cons_succ]
                                refine anyH_take 6 161 (undef) rfl rfl (by kernel_rfl) (by kernel_rfl) (by kernel_rfl) (fun _ _ _ h => h) (Or.inr ⟨by rfl, rfl⟩) (M) ?_
                                try simp only [Act.put, List.setIfInBounds_toArray, List.set_cons_zero, List.set_cons_succ]
                                refine anyH_take 7 162 (undef) rfl rfl (by kernel_rfl) (by kernel_rfl) (by kernel_rfl) (fun _ _ _ h => h) (Or.inr ⟨by rfl, rfl⟩) (M) ?_
                                try simp only [Act.put, List.setIfInBounds_toArray, List.set_cons_zero, List.set_cons_succ]
                                refine anyH_take 8 163 (undef) rfl rfl (by kernel_rfl) (by kernel_rfl) (by kernel_rfl) (fun _ _ _ h => h) (Or.inr ⟨by rfl, rfl⟩) (M) ?_
                                try simp only [Act.put, List.setIfInBounds_toArray, List.set_cons_zero, List.set_cons_succ]
                                refine anyH_take 9 164 (undef) rfl rfl (by kernel_rfl) (by kernel_rfl) (by kernel_rfl) (fun _ _ _ h => h) (Or.inr ⟨by rfl, rfl⟩) (M) ?_
                                try simp only [Act.put, List.setIfInBounds_toArray, List.set_cons_zero, List.set_cons_succ]
                                refine anyH_take 10 165 (.bool false) rfl rfl (by kernel_rfl) (by kernel_rfl) (by kernel_rfl) (fun _ _ _ h => h) (Or.inl ⟨by rfl, by intro w hSw; go_simp⟩) (M) ?_
                                try simp only [Act.put, List.setIfInBounds_toArray, List.set_cons_zero, List.set_cons_succ]
                                refine anyH_take 11 166 (.bool false) rfl rfl (by kernel_rfl) (by kernel_rfl) (by kernel_rfl) (fun _ _ _ h => h) (Or.inl ⟨by rfl, by intro w hSw; go_simp⟩) (M) ?_
                                try simp only [Act.put, List.setIfInBounds_toArray, List.set_cons_zero, List.set_cons_succ]
                                refine anyH_take 12 167 (ex ht vt ot gt) rfl rfl (by kernel_rfl) (by kernel_rfl) (by kernel_rfl) (fun _ _ _ h => h) (Or.inl ⟨by rfl, fun X hSw => exec_load23 rfl rfl (hSw.get (.head _))⟩) (M) ?_
                                try simp only [Act.put, List.setIfInBounds_toArray, List.set_cons_zero, List.set_cons_succ]
                                refine anyH_take 13 168 (ex hy vy oy gy) rfl rfl (by kernel_rfl) (by kernel_rfl) (by kernel_rfl) (fun _ _ _ h => h) (Or.inl ⟨by rfl, fun X hSw => exec_load23 rfl rfl (hSw.get (.tail _ (.tail _ (.head _))))⟩) (M) ?_
                                try simp only [Act.put, List.setIfInBounds_toArray, List.set_cons_zero, List.set_cons_succ]
                                refine anyH_take 14 169 (.bool (!sameX ⟨ht, vt, ot, gt⟩ ⟨hy, vy, oy, gy⟩)) rfl rfl (by kernel_rfl) (by kernel_rfl) (by kernel_rfl) (fun _ _ _ h => h) (Or.inl ⟨by rfl, fun X hSw => exec_neq23 rfl ⟨ht, vt, ot, gt⟩ ⟨hy, vy, oy, gy⟩ rfl rfl X⟩) (M) ?_
                                try simp only [Act.put, List.setIfInBounds_toArray, List.set_cons_zero, List.set_cons_succ]
                                rw [nv]
                                rw [Bool.not_false]
                                refine anyH_take 15 170 (.bool true) rfl rfl (by kernel_rfl) (by kernel_rfl) (by kernel_rfl) (fun _ _ _ h => h) (Or.inl ⟨by rfl, by intro w hSw; go_simp⟩) (M) ?_
                                try simp only [Act.put, List.setIfInBounds_toArray, List.set_cons_zero, List.set_cons_succ]
                                refine anyH_take 16 171 (ex ht vt ot gt) rfl rfl (by kernel_rfl) (by kernel_rfl) (by kernel_rfl) (fun _ _ _ h => h) (Or.inl ⟨by rfl, fun X hSw => exec_load23 rfl rfl (hSw.get (.head _))⟩) (M) ?_
                                try simp only [Act.put, List.setIfInBounds_toArray, List.set_cons_zero, List.set_cons_succ]
                                refine anyH_take 17 172 (.slice (some ⟨b, off, none⟩) n cap) rfl rfl (by kernel_rfl) (by kernel_rfl) (by kernel_rfl) (fun _ _ _ h => h) (Or.inl ⟨by rfl, by intro w hSw; go_simp⟩) (M) ?_
                                try simp only [Act.put, List.setIfInBounds_toArray, List.set_cons_zero, List.set_cons_succ]
                                refine anyH_take 18 173 (.int .i64 (j : Int)) rfl rfl (by kernel_rfl) (by kernel_rfl) (by kernel_rfl) (fun _ _ _ h => h) (Or.inl ⟨by rfl, by intro w hSw; go_simp⟩) (M) ?_
                                try simp only [Act.put, List.setIfInBounds_toArray, List.set_cons_zero, List.set_cons_succ]
                                refine anyH_take 19 174 (.pointer (some ⟨b, off + j * 4, none⟩)) rfl rfl (by kernel_rfl) (by kernel_rfl) (by kernel_rfl) (fun _ _ _ h => h) (Or.inl ⟨by rfl, by intro w hSw; go_simp⟩) (M) ?_
                                try simp only [Act.put, List.setIfInBounds_toArray, List.set_cons_zero, List.set_cons_succ]
                                refine anyH_take 20 175 (ex ht vt ot gt) rfl rfl (by kernel_rfl) (by kernel_rfl) (by kernel_rfl) (fun _ _ _ h => h) (Or.inl ⟨by rfl, fun X hSw => exec_load23x rfl b (off + j * 4) ⟨ht, vt, ot, gt⟩ rfl X (KR X hSw.below)⟩) (M) ?_
                                try simp only [Act.put, List.setIfInBounds_toArray, List.set_cons_zero, List.set_cons_succ]
                                refine anyH_take 21 176 (.bool (!sameX ⟨ht, vt, ot, gt⟩ ⟨ht, vt, ot, gt⟩)) rfl rfl (by kernel_rfl) (by kernel_rfl) (by kernel_rfl) (fun _ _ _ h => h) (Or.inl ⟨by rfl, fun X hSw => exec_neq23 rfl ⟨ht, vt, ot, gt⟩ ⟨ht, vt, ot, gt⟩ rfl rfl X⟩) (M) ?_
                                try simp only [Act.put, List.setIfInBounds_toArray, List.set_cons_zero, List.set_cons_succ]
                                rw [sameX_self]
                                rw [Bool.not_true]
                                refine anyH_take 22 177 (.bool false) rfl rfl (by kernel_rfl) (by kernel_rfl) (by kernel_rfl) (fun _ _ _ h => h) (Or.inl ⟨by rfl, by intro w hSw; go_simp⟩) (M) ?_
                                try simp only [Act.put, List.setIfInBounds_toArray, List.set_cons_zero, List.set_cons_succ]
                                refine anyH_take 23 178 (.bool false) rfl rfl (by kernel_rfl) (by kernel_rfl) (by kernel_rfl) (fun _ _ _ h => h) (Or.inl ⟨by rfl, by intro w hSw; go_simp⟩) (M) ?_
                                try simp only [Act.put, List.setIfInBounds_toArray, List.set_cons_zero, List.set_cons_succ]
                                refine wpAnyH_done (by kernel_rfl) ?_ _
                                go_wp2_with (fail)
                                refine wp_region_any (by kernel_rfl) ?_
                                change wpAny _ _ _ _ _ _ _ (World.drew _)
                                replace M := M.drew
                                generalize World.drew _ = WD at M ⊢
                                refine wpAny_narrow (fun W' => At W' k17 ⟨hx, vx, ox, gx⟩ ∧ At W' k18 ⟨ht, vt, ot, gt⟩) _ _ _ _ ?_
                                refine anyH_take 0 179 (ex hx vx ox gx) rfl rfl (by kernel_rfl) (by kernel_rfl) (by kernel_rfl) (fun _ _ _ h => h) (Or.inl ⟨by rfl, fun X hSw => exec_load23 rfl rfl hSw.1⟩) (⟨M.get (.tail _ (.head _)), M.get (.head _)⟩) ?_
                                try simp only [Act.put, List.setIfInBounds_toArray, List.set_cons_zero, List.set_cons_succ]
                                refine anyH_take 1 180 (ex ht vt ot gt) rfl rfl (by kernel_rfl) (by kernel_rfl) (by kernel_rfl) (fun _ _ _ h => h) (Or.inl ⟨by rfl, fun X hSw => exec_load23 rfl rfl hSw.2⟩) (⟨M.get (.tail _ (.head _)), M.get (.head _)⟩) ?_
                                try simp only [Act.put, List.setIfInBounds_toArray, List.set_cons_zero, List.set_cons_succ]
                                refine wpAnyH_ready (rs := [2]) (by kernel_rfl) (by simp) ?_
                                refine AllReadyH.cons rfl (fun K hK => ?_) AllReadyH.nil
                                rw [if_pos (by rfl)]
                                refine wp_putd M _ _ rfl rfl 3 _ _ _ _ rfl rfl rfl ?_
                                clear M
                                intro W M
                                simp only [List.set_cons_zero, List.set_cons_succ] at M
                                refine hK.out _ _ (⟨M.get (.tail _ (.head _)), M.get (.head _)⟩) (fun hS => ?_)
                                clear hK
                                refine wpAnyH_ready (rs := [3]) (by kernel_rfl) (by simp) ?_
                                refine AllReadyH.cons rfl (fun K hK => ?_) AllReadyH.nil
                                rw [if_pos (by rfl)]
                                refine wp_putd M _ _ rfl rfl 2 _ _ _ _ rfl rfl rfl ?_
                                clear M
                                intro W M
                                simp only [List.set_cons_zero, List.set_cons_succ] at M
                                refine hK.out _ _ (⟨M.get (.tail _ (.head _)), M.get (.head _)⟩) (fun hS => ?_)
                                clear hK
                                refine wpAnyH_done (by kernel_rfl) ?_ _
                                go_wp2_with (fail)
                                replace M : Mem w _ [(k14, ⟨ht, vt, ot, gt⟩), (k13, ⟨hx, vx, ox, gx⟩), (k10, ⟨h2, v2, o2, g2⟩), (k9, ⟨h1, v1, o1, g1⟩)] := M.tail.tail
                                go_roundg (gk - 1)
                                case measure => omega
                                case rel => exact ⟨j + 1, _, _, by first | rfl | go_num, by omega, by omega, HU.out.1, HU.out.2, M⟩
                          · rcases o1' with e | e
                            · rw [e, sameX_self] at nu
                              cases nu
                            · cases e
                              rcases (by cases h : sameX ⟨hv, vv, ov, gv⟩ ⟨hy, vy, oy, gy⟩ with | true => exact .inl ((sameX_eq _ _).1 h) | false => exact .inr rfl : (⟨hv, vv, ov, gv⟩ : EX) = ⟨hy, vy, oy, gy⟩ ∨ sameX ⟨hv, vv, ov, gv⟩ ⟨hy, vy, oy, gy⟩ = false) with ve | nv
                              · cases ve
                                clear o2'
                                go_wp2_with (fail)
                                refine wp_region_any (by kernel_rfl) ?_
                                change wpAny _ _ _ _ _ _ _ (World.drew _)
                                replace M := M.drew
                                generalize World.drew _ = WD at M ⊢
                                refine wpAny_narrow (fun W' => Mem w W' [(k18, ⟨hy, vy, oy, gy⟩), (k17, ⟨ht, vt, ot, gt⟩), (k14, ⟨hy, vy, oy, gy⟩), (k13, ⟨hx, vx, ox, gx⟩), (k10, ⟨h2, v2, o2, g2⟩), (k9, ⟨h1, v1, o1, g1⟩)]) _ _ _ _ ?_
                                refine anyH_take 0 155 (ex ht vt ot gt) rfl rfl (by kernel_rfl) (by kernel_rfl) (by kernel_rfl) (fun _ _ _ h => h) (Or.inl ⟨by rfl, fun X hSw => exec_load23 rfl rfl (hSw.get (.tail _ (.head _)))⟩) (M) ?_
                                try simp only [Act.put, List.setIfInBounds_toArray, List.set_cons_zero, List.set_cons_succ]
                                refine anyH_take 1 156 (ex hx vx ox gx) rfl rfl (by kernel_rfl) (by kernel_rfl) (by kernel_rfl) (fun _ _ _ h => h) (Or.inl ⟨by rfl, fun X hSw => exec_load23 rfl rfl (hSw.get (.tail _ (.tail _ (.tail _ (.head _)))))⟩) (M) ?_
                                try simp only [Act.put, List.setIfInBounds_toArray, List.set_cons_zero, List.set_cons_succ]
                                refine anyH_take 2 157 (.bool (!sameX ⟨ht, vt, ot, gt⟩ ⟨hx, vx, ox, gx⟩)) rfl rfl (by kernel_rfl) (by kernel_rfl) (by kernel_rfl) (fun _ _ _ h => h) (Or.inl ⟨by rfl, fun X hSw => exec_neq23 rfl ⟨ht, vt, ot, gt⟩ ⟨hx, vx, ox, gx⟩ rfl rfl X⟩) (M) ?_
                                try simp only [Act.put, List.setIfInBounds_toArray, List.set_cons_zero, List.set_cons_succ]
                                rw [nu]
                                rw [Bool.not_false]
                                refine anyH_take 3 158 (.bool true) rfl rfl (by kernel_rfl) (by kernel_rfl) (by kernel_rfl) (fun _ _ _ h => h) (Or.inl ⟨by rfl, by intro w hSw; go_simp⟩) (M) ?_
                                try simp only [Act.put, List.setIfInBounds_toArray, List.set_cons_zero, List.set_cons_succ]
                                refine anyH_take 4 159 (ex ht vt ot gt) rfl rfl (by kernel_rfl) (by kernel_rfl) (by kernel_rfl) (fun _ _ _ h => h) (Or.inl ⟨by rfl, fun X hSw => exec_load23 rfl rfl (hSw.get (.tail _ (.head _)))⟩) (M) ?_
                                try simp only [Act.put, List.setIfInBounds_toArray, List.set_cons_zero, List.set_cons_succ]
                                refine anyH_take 5 160 (.slice (some ⟨b, off, none⟩) n cap) rfl rfl (by kernel_rfl) (by kernel_rfl) (by kernel_rfl) (fun _ _ _ h => h) (Or.inl ⟨by rfl, by intro w hSw; go_simp⟩) (M) ?_
                                try simp only [Act.put, List.setIfInBounds_toArray, List.set_cons_zero, List.set_cons_succ]
                                refine anyH_take 6 161 (.int .i64 (j : Int)) rfl rfl (by kernel_rfl) (by kernel_rfl) (by kernel_rfl) (fun _ _ _ h => h) (Or.inl ⟨by rfl, by intro w hSw; go_simp⟩) (M) ?_
                                try simp only [Act.put, List.setIfInBounds_toArray, List.set_cons_zero, List.set_cons_succ]
                                refine anyH_take 7 162 (.pointer (some ⟨b, off + j * 4, none⟩)) rfl rfl (by kernel_rfl) (by kernel_rfl) (by kernel_rfl) (fun _ _ _ h => h) (Or.inl ⟨by rfl, by intro w hSw; go_simp⟩) (M) ?_
                                try simp only [Act.put, List.setIfInBounds_toArray, List.set_cons_zero, List.set_cons_succ]
                                refine anyH_take 8 163 (ex ht vt ot gt) rfl rfl (by kernel_rfl) (by kernel_rfl) (by kernel_rfl) (fun _ _ _ h => h) (Or.inl ⟨by rfl, fun X hSw => exec_load23x rfl b (off + j * 4) ⟨ht, vt, ot, gt⟩ rfl X (KR X hSw.below)⟩) (M) ?_
                                try simp only [Act.put, List.setIfInBounds_toArray, List.set_cons_zero, List.set_cons_succ]
                                refine anyH_take 9 164 (.bool (!sameX ⟨ht, vt, ot, gt⟩ ⟨ht, vt, ot, gt⟩)) rfl rfl (by kernel_rfl) (by kernel_rfl) (by kernel_rfl) (fun _ _ _ h => h) (Or.inl ⟨by rfl, fun X hSw => exec_neq23 rfl ⟨ht, vt, ot, gt⟩ ⟨ht, vt, ot, gt⟩ rfl rfl X⟩) (M) ?_
                                try simp only [Act.put, List.setIfInBounds_toArray, List.set_cons_zero, List.set_cons_succ]
                                rw [sameX_self]
                                rw [Bool.not_true]
                                refine anyH_take 10 165 (.bool false) rfl rfl (by kernel_rfl) (by kernel_rfl) (by kernel_rfl) (fun _ _ _ h => h) (Or.inl ⟨by rfl, by intro w hSw; go_simp⟩) (M) ?_
                                try simp only [Act.put, List.setIfInBounds_toArray, List.set_cons_zero, List.set_cons_succ]
                                refine anyH_take 11 166 (.bool false) rfl rfl (by kernel_rfl) (by kernel_rfl) (by kernel_rfl) (fun _ _ _ h => h) (Or.inl ⟨by rfl, by intro w hSw; go_simp⟩) (M) ?_
                                try simp only [Act.put, List.setIfInBounds_toArray, List.set_cons_zero, List.set_cons_succ]
                                refine anyH_take 12 167 (ex hy vy oy gy) rfl rfl (by kernel_rfl) (by kernel_rfl) (by kernel_rfl) (fun _ _ _ h => h) (Or.inl ⟨by rfl, fun X hSw => exec_load23 rfl rfl (hSw.get (.head _))⟩) (M) ?_
                                try simp only [Act.put, List.setIfInBounds_toArray, List.set_cons_zero, List.set_cons_succ]
                                refine anyH_take 13 168 (ex hy vy oy gy) rfl rfl (by kernel_rfl) (by kernel_rfl) (by kernel_rfl) (fun _ _ _ h => h) (Or.inl ⟨by rfl, fun X hSw => exec_load23 rfl rfl (hSw.get (.tail _ (.tail _ (.head _))))⟩) (M) ?_
                                try simp only [Act.put, List.setIfInBounds_toArray, List.set_cons_zero, List.set_cons_succ]
                                refine anyH_take 14 169 (.bool (!sameX ⟨hy, vy, oy, gy⟩ ⟨hy, vy, oy, gy⟩)) rfl rfl (by kernel_rfl) (by kernel_rfl) (by kernel_rfl) (fun _ _ _ h => h) (Or.inl ⟨by rfl, fun X hSw => exec_neq23 rfl ⟨hy, vy, oy, gy⟩ ⟨hy, vy, oy, gy⟩ rfl rfl X⟩) (M) ?_
                                try simp only [Act.put, List.setIfInBounds_toArray, List.set_cons_zero, List.set_cons_succ]
                                rw [sameX_self]
                                rw [Bool.not_true]
                                refine anyH_take 15 170 (.bool false) rfl rfl (by kernel_rfl) (by kernel_rfl) (by kernel_rfl) (fun _ _ _ h => h) (Or.inl ⟨by rfl, by intro w hSw; go_simp⟩) (M) ?_
                                try simp only [Act.put, List.setIfInBounds_toArray, List.set_cons_zero, List.set_cons_succ]
                                refine anyH_take 16 171 (undef) rfl rfl (by kernel_rfl) (by kernel_rfl) (by kernel_rfl) (fun _ _ _ h => h) (Or.inr ⟨by rfl, rfl⟩) (M) ?_
                                try simp only [Act.put, List.setIfInBounds_toArray, List.set_cons_zero, List.set_cons_succ]
                                refine anyH_take 17 172 (undef) rfl rfl (by kernel_rfl) (by kernel_rfl) (by kernel_rfl) (fun _ _ _ h => h) (Or.inr ⟨by rfl, rfl⟩) (M) ?_
                                try simp only [Act.put, List.setIfInBounds_toArray, List.set_cons_zero, List.set_cons_succ]
                                refine anyH_take 18 173 (undef) rfl rfl (by kernel_rfl) (by kernel_rfl) (by kernel_rfl) (fun _ _ _ h => h) (Or.inr ⟨by rfl, rfl⟩) (M) ?_
                                try simp only [Act.put, List.setIfInBounds_toArray, List.set_cons_zero, List.set_cons_succ]
                                refine anyH_take 19 174 (undef) rfl rfl (by kernel_rfl) (by kernel_rfl) (by kernel_rfl) (fun _ _ _ h => h) (Or.inr ⟨by rfl, rfl⟩) (M) ?_
                                try simp only [Act.put, List.setIfInBounds_toArray, List.set_cons_zero, List.set_cons_succ]
                                refine anyH_take 20 175 (undef) rfl rfl (by kernel_rfl) (by kernel_rfl) (by kernel_rfl) (fun _ _ _ h => h) (Or.inr ⟨by rfl, rfl⟩) (M) ?_
                                try simp only [Act.put, List.setIfInBounds_toArray, List.set_cons_zero, List.set_cons_succ]
                                refine anyH_take 21 176 (undef) rfl rfl (by kernel_rfl) (by kernel_rfl) (by kernel_rfl) (fun _ _ _ h => h) (Or.inr ⟨by rfl, rfl⟩) (M) ?_
                                try simp only [Act.put, List.setIfInBounds_toArray, List.set_cons_zero, List.set_cons_succ]
                                refine anyH_take 22 177 (.bool false) rfl rfl (by kernel_rfl) (by kernel_rfl) (by kernel_rfl) (fun _ _ _ h => h) (Or.inl ⟨by rfl, by intro w hSw; go_simp⟩) (M) ?_
                                try simp only [Act.put, List.setIfInBounds_toArray, List.set_cons_zero, List.set_cons_succ]
                                refine anyH_take 23 178 (.bool false) rfl rfl (by kernel_rfl) (by kernel_rfl) (by kernel_rfl) (fun _ _ _ h => h) (Or.inl ⟨by rfl, by intro w hSw; go_simp⟩) (M) ?_
                                try simp only [Act.put, List.setIfInBounds_toArray, List.set_cons_zero, List.set_cons_succ]
                                refine wpAnyH_done (by kernel_rfl) ?_ _
                                go_wp2_with (fail)
                                refine wp_region_any (by kernel_rfl) ?_
                                change wpAny _ _ _ _ _ _ _ (World.drew _)
                                replace M := M.drew
                                generalize World.drew _ = WD at M ⊢
                                refine wpAny_narrow (fun W' => At W' k17 ⟨ht, vt, ot, gt⟩ ∧ At W' k18 ⟨hy, vy, oy, gy⟩) _ _ _ _ ?_
                                refine anyH_take 0 179 (ex ht vt ot gt) rfl rfl (by kernel_rfl) (by kernel_rfl) (by kernel_rfl) (fun _ _ _ h => h) (Or.inl ⟨by rfl, fun X hSw => exec_load23 rfl rfl hSw.1⟩) (⟨M.get (.tail _ (.head _)), M.get (.head _)⟩) ?_
                                try simp only [Act.put, List.setIfInBounds_toArray, List.set_cons_zero, List.set_cons_succ]
                                refine anyH_take 1 180 (ex hy vy oy gy) rfl rfl (by kernel_rfl) (by kernel_rfl) (by kernel_rfl) (fun _ _ _ h => h) (Or.inl ⟨by rfl, fun X hSw => exec_load23 rfl rfl hSw.2⟩) (⟨M.get (.tail _ (.head _)), M.get (.head _)⟩) ?_
                                try simp only [Act.put, List.setIfInBounds_toArray, List.set_cons_zero, List.set_cons_succ]
                                refine wpAnyH_ready (rs := [2]) (by kernel_rfl) (by simp) ?_
                                refine AllReadyH.cons rfl (fun K hK => ?_) AllReadyH.nil
                                rw [if_pos (by rfl)]
                                refine wp_putd M _ _ rfl rfl 3 _ _ _ _ rfl rfl rfl ?_
                                clear M
                                intro W M
                                simp only [List.set_cons_zero, List.set_cons_succ] at M
                                refine hK.out _ _ (⟨M.get (.tail _ (.head _)), M.get (.head _)⟩) (fun hS => ?_)
                                clear hK
                                refine wpAnyH_ready (rs := [3]) (by kernel_rfl) (by simp) ?_
                                refine AllReadyH.cons rfl (fun K hK => ?_) AllReadyH.nil
                                rw [if_pos (by rfl)]
                                refine wp_putd M _ _ rfl rfl 2 _ _ _ _ rfl rfl rfl ?_
                                clear M
                                intro W M
                                simp only [List.set_cons_zero, List.set_cons_succ] at M
                                refine hK.out _ _ (⟨M.get (.tail _ (.head _)), M.get (.head _)⟩) (fun hS => ?_)
                                clear hK
                                refine wpAnyH_done (by kernel_rfl) ?_ _
                                go_wp2_with (fail)
                                replace M : Mem w _ [(k14, ⟨hy, vy, oy, gy⟩), (k13, ⟨ht, vt, ot, gt⟩), (k10, ⟨h2, v2, o2, g2⟩), (k9, ⟨h1, v1, o1, g1⟩)] := M.tail.tail
                                go_roundg (gk - 1)
                                case measure => omega
                                case rel => exact ⟨j + 1, _, _, by first | rfl | go_num, by omega, by omega, HU.out.1, HU.out.2, M⟩
                              · rcases o2' with e | e
                                · rw [e, sameX_self] at nv
                                  cases nv
                                · cases e
                                  go_wp2_with (fail)
                                  refine wp_region_any (by kernel_rfl) ?_
                                  change wpAny _ _ _ _ _ _ _ (World.drew _)
                                  replace M := M.drew
                                  generalize World.drew _ = WD at M ⊢
                                  refine wpAny_narrow (fun W' => Mem w W' [(k18, ⟨ht, vt, ot, gt⟩), (k17, ⟨ht, vt, ot, gt⟩), (k14, ⟨hy, vy, oy, gy⟩), (k13, ⟨hx, vx, ox, gx⟩), (k10, ⟨h2, v2, o2, g2⟩), (k9, ⟨h1, v1, o1, g1⟩)]) _ _ _ _ ?_
                                  refine anyH_take 0 155 (ex ht vt ot gt) rfl rfl (by kernel_rfl) (by kernel_rfl) (by kernel_rfl) (fun _ _ _ h => h) (Or.inl ⟨by rfl, fun X hSw => exec_load23 rfl rfl (hSw.get (.tail _ (.head _)))⟩) (M) ?_
                                  try simp only [Act.put, List.setIfInBounds_toArray, List.set_cons_zero, List.set_cons_succ]
                                  refine anyH_take 1 156 (ex hx vx ox gx) rfl rfl (by kernel_rfl) (by kernel_rfl) (by kernel_rfl) (fun _ _ _ h => h) (Or.inl ⟨by rfl, fun X hSw => exec_load23 rfl rfl (hSw.get (.tail _ (.tail _ (.tail _ (.head _)))))⟩) (M) ?_
                                  try simp only [Act.put, List.setIfInBounds_toArray, List.set_cons_zero, List.set_cons_succ]
                                  refine anyH_take 2 157 (.bool (!sameX ⟨ht, vt, ot, gt⟩ ⟨hx, vx, ox, gx⟩)) rfl rfl (by kernel_rfl) (by kernel_rfl) (by kernel_rfl) (fun _ _ _ h => h) (Or.inl ⟨by rfl, fun X hSw => exec_neq23 rfl ⟨ht, vt, ot, gt⟩ ⟨hx, vx, ox, gx⟩ rfl rfl X⟩) (M) ?_
                                  try simp only [Act.put, List.setIfInBounds_toArray, List.set_cons_zero, List.set_cons_succ]
                                  rw [nu]
                                  rw [Bool.not_false]
                                  refine anyH_take 3 158 (.bool true) rfl rfl (by kernel_rfl) (by kernel_rfl) (by kernel_rfl) (fun _ _ _ h => h) (Or.inl ⟨by rfl, by intro w hSw; go_simp⟩) (M) ?_
                                  try simp only [Act.put, List.setIfInBounds_toArray, List.set_cons_zero, List.set_cons_succ]
                                  refine anyH_take 4 159 (ex ht vt ot gt) rfl rfl (by kernel_rfl) (by kernel_rfl) (by kernel_rfl) (fun _ _ _ h => h) (Or.inl ⟨by rfl, fun X hSw => exec_load23 rfl rfl (hSw.get (.tail _ (.head _)))⟩) (M) ?_
                                  try simp only [Act.put, List.setIfInBounds_toArray, List.set_cons_zero, List.set_cons_succ]
                                  refine anyH_take 5 160 (.slice (some ⟨b, off, none⟩) n cap) rfl rfl (by kernel_rfl) (by kernel_rfl) (by kernel_rfl) (fun _ _ _ h => h) (Or.inl ⟨by rfl, by intro w hSw; go_simp⟩) (M) ?_
                                  try simp only [Act.put, List.setIfInBounds_toArray, List.set_cons_zero, List.set_cons_succ]
                                  refine anyH_take 6 161 (.int .i64 (j : Int)) rfl rfl (by kernel_rfl) (by kernel_rfl) (by kernel_rfl) (fun _ _ _ h => h) (Or.inl ⟨by rfl, by intro w hSw; go_simp⟩) (M) ?_
                                  try simp only [Act.put, List.setIfInBounds_toArray, List.set_cons_zero, List.set_cons_succ]
                                  refine anyH_take 7 162 (.pointer (some ⟨b, off + j * 4, none⟩)) rfl rfl (by kernel_rfl) (by kernel_rfl) (by kernel_rfl) (fun _ _ _ h => h) (Or.inl ⟨by rfl, by intro w hSw; go_simp⟩) (M) ?_
                                  try simp only [Act.put, List.setIfInBounds_toArray, List.set_cons_zero, List.set_cons_succ]
                                  refine anyH_take 8 163 (ex ht vt ot gt) rfl rfl (by kernel_rfl) (by kernel_rfl) (by kernel_rfl) (fun _ _ _ h => h) (Or.inl ⟨by rfl, fun X hSw => exec_load23x rfl b (off + j * 4) ⟨ht, vt, ot, gt⟩ rfl X (KR X hSw.below)⟩) (M) ?_
                                  try simp only [Act.put, List.setIfInBounds_toArray, List.set_cons_zero, List.set_cons_succ]
                                  refine anyH_take 9 164 (.bool (!sameX ⟨ht, vt, ot, gt⟩ ⟨ht, vt, ot, gt⟩)) rfl rfl (by kernel_rfl) (by kernel_rfl) (by kernel_rfl) (fun _ _ _ h => h) (Or.inl ⟨by rfl, fun X hSw => exec_neq23 rfl ⟨ht, vt, ot, gt⟩ ⟨ht, vt, ot, gt⟩ rfl rfl X⟩) (M) ?_
                                  try simp only [Act.put, List.setIfInBounds_toArray, List.set_cons_zero, List.set_cons_succ]
                                  rw [sameX_self]
                                  rw [Bool.not_true]
                                  refine anyH_take 10 165 (.bool false) rfl rfl (by kernel_rfl) (by kernel_rfl) (by kernel_rfl) (fun _ _ _ h => h) (Or.inl ⟨by rfl, by intro w hSw; go_simp⟩) (M) ?_
                                  try simp only [Act.put, List.setIfInBounds_toArray, List.set_cons_zero, List.set_cons_succ]
                                  refine anyH_take 11 166 (.bool false) rfl rfl (by kernel_rfl) (by kernel_rfl) (by kernel_rfl) (fun _ _ _ h => h) (Or.inl ⟨by rfl, by intro w hSw; go_simp⟩) (M) ?_
                                  try simp only [Act.put, List.setIfInBounds_toArray, List.set_cons_zero, List.set_cons_succ]
                                  refine anyH_take 12 167 (ex ht vt ot gt) rfl rfl (by kernel_rfl) (by kernel_rfl) (by kernel_rfl) (fun _ _ _ h => h) (Or.inl ⟨by rfl, fun X hSw => exec_load23 rfl rfl (hSw.get (.head _))⟩) (M) ?_
                                  try simp only [Act.put, List.setIfInBounds_toArray, List.set_cons_zero, List.set_cons_succ]
                                  refine anyH_take 13 168 (ex hy vy oy gy) rfl rfl (by kernel_rfl) (by kernel_rfl) (by kernel_rfl) (fun _ _ _ h => h) (Or.inl ⟨by rfl, fun X hSw => exec_load23 rfl rfl (hSw.get (.tail _ (.tail _ (.head _))))⟩) (M) ?_
                                  try simp only [Act.put, List.setIfInBounds_toArray, List.set_cons_zero, List.set_cons_succ]
                                  refine anyH_take 14 169 (.bool (!sameX ⟨ht, vt, ot, gt⟩ ⟨hy, vy, oy, gy⟩)) rfl rfl (by kernel_rfl) (by kernel_rfl) (by kernel_rfl) (fun _ _ _ h => h) (Or.inl ⟨by rfl, fun X hSw => exec_neq23 rfl ⟨ht, vt, ot, gt⟩ ⟨hy, vy, oy, gy⟩ rfl rfl X⟩) (M) ?_
                                  try simp only [Act.put, List.setIfInBounds_toArray, List.set_cons_zero, List.set_cons_succ]
                                  rw [nv]
                                  rw [Bool.not_false]
                                  refine anyH_take 15 170 (.bool true) rfl rfl (by kernel_rfl) (by kernel_rfl) (by kernel_rfl) (fun _ _ _ h => h) (Or.inl ⟨by rfl, by intro w hSw; go_simp⟩) (M) ?_
                                  try simp only [Act.put, List.setIfInBounds_toArray, List.set_cons_zero, List.set_cons_succ]
                                  refine anyH_take 16 171 (ex ht vt ot gt) rfl rfl (by kernel_rfl) (by kernel_rfl) (by kernel_rfl) (fun _ _ _ h => h) (Or.inl ⟨by rfl, fun X hSw => exec_load23 rfl rfl (hSw.get (.head _))⟩) (M) ?_
                                  try simp only [Act.put, List.setIfInBounds_toArray, List.set_cons_zero, List.set_cons_succ]
                                  refine anyH_take 17 172 (.slice (some ⟨b, off, none⟩) n cap) rfl rfl (by kernel_rfl) (by kernel_rfl) (by kernel_rfl) (fun _ _ _ h => h) (Or.inl ⟨by rfl, by intro w hSw; go_simp⟩) (M) ?_
                                  try simp only [Act.put, List.setIfInBounds_toArray, List.set_cons_zero, List.set_cons_succ]
                                  refine anyH_take 18 173 (.int .i64 (j : Int)) rfl rfl (by kernel_rfl) (by kernel_rfl) (by kernel_rfl) (fun _ _ _ h => h) (Or.inl ⟨by rfl, by intro w hSw; go_simp⟩) (M) ?_
                                  try simp only [Act.put, List.setIfInBounds_toArray, List.set_cons_zero, List.set_cons_succ]
                                  refine anyH_take 19 174 (.pointer (some ⟨b, off + j * 4, none⟩)) rfl rfl (by kernel_rfl) (by kernel_rfl) (by kernel_rfl) (fun _ _ _ h => h) (Or.inl ⟨by rfl, by intro w hSw; go_simp⟩) (M) ?_
                                  try simp only [Act.put, List.setIfInBounds_toArray, List.set_cons_zero, List.set_cons_succ]
                                  refine anyH_take 20 175 (ex ht vt ot gt) rfl rfl (by kernel_rfl) (by kernel_rfl) (by kernel_rfl) (fun _ _ _ h => h) (Or.inl ⟨by rfl, fun X hSw => exec_load23x rfl b (off + j * 4) ⟨ht, vt, ot, gt⟩ rfl X (KR X hSw.below)⟩) (M) ?_
                                  try simp only [Act.put, List.setIfInBounds_toArray, List.set_cons_zero, List.set_cons_succ]
                                  refine anyH_take 21 176 (.bool (!sameX ⟨ht, vt, ot, gt⟩ ⟨ht, vt, ot, gt⟩)) rfl rfl (by kernel_rfl) (by kernel_rfl) (by kernel_rfl) (fun _ _ _ h => h) (Or.inl ⟨by rfl, fun X hSw => exec_neq23 rfl ⟨ht, vt, ot, gt⟩ ⟨ht, vt, ot, gt⟩ rfl rfl X⟩) (M) ?_
                                  try simp only [Act.put, List.setIfInBounds_toArray, List.set_cons_zero, List.set_cons_succ]
                                  rw [sameX_self]
                                  rw [Bool.not_true]
                                  refine anyH_take 22 177 (.bool false) rfl rfl (by kernel_rfl) (by kernel_rfl) (by kernel_rfl) (fun _ _ _ h => h) (Or.inl ⟨by rfl, by intro w hSw; go_simp⟩) (M) ?_
                                  try simp only [Act.put, List.setIfInBounds_toArray, List.set_cons_zero, List.set_cons_succ]
                                  refine anyH_take 23 178 (.bool false) rfl rfl (by kernel_rfl) (by kernel_rfl) (by kernel_rfl) (fun _ _ _ h => h) (Or.inl ⟨by rfl, by intro w hSw; go_simp⟩) (M) ?_
                                  try simp only [Act.put, List.setIfInBounds_toArray, List.set_cons_zero, List.set_cons_succ]
                                  refine wpAnyH_done (by kernel_rfl) ?_ _
                                  go_wp2_with (fail)
                                  refine wp_region_any (by kernel_rfl) ?_
                                  change wpAny _ _ _ _ _ _ _ (World.drew _)
                                  replace M := M.drew
                                  generalize World.drew _ = WD at M ⊢
                                  refine wpAny_narrow (fun W' => At W' k17 ⟨ht, vt, ot, gt⟩ ∧ At W' k18 ⟨ht, vt, ot, gt⟩) _ _ _ _ ?_
                                  refine anyH_take 0 179 (ex ht vt ot gt) rfl rfl (by kernel_rfl) (by kernel_rfl) (by kernel_rfl) (fun _ _ _ h => h) (Or.inl ⟨by rfl, fun X hSw => exec_load23 rfl rfl hSw.1⟩) (⟨M.get (.tail _ (.head _)), M.get (.head _)⟩) ?_
                                  try simp only [Act.put, List.setIfInBounds_toArray, List.set_cons_zero, List.set_cons_succ]
                                  refine anyH_take 1 180 (ex ht vt ot gt) rfl rfl (by kernel_rfl) (by kernel_rfl) (by kernel_rfl) (fun _ _ _ h => h) (Or.inl ⟨by rfl, fun X hSw => exec_load23 rfl rfl hSw.2⟩) (⟨M.get (.tail _ (.head _)), M.get (.head _)⟩) ?_
                                  try simp only [Act.put, List.setIfInBounds_toArray, List.set_cons_zero, List.set_cons_succ]
                                  refine wpAnyH_ready (rs := [2]) (by kernel_rfl) (by simp) ?_
                                  refine AllReadyH.cons rfl (fun K hK => ?_) AllReadyH.nil
                                  rw [if_pos (by rfl)]
                                  refine wp_putd M _ _ rfl rfl 3 _ _ _ _ rfl rfl rfl ?_
                                  clear M
                                  intro W M
                                  simp only [List.set_cons_zero, List.set_cons_succ] at M
                                  refine hK.out _ _ (⟨M.get (.tail _ (.head _)), M.get (.head _)⟩) (fun hS => ?_)
                                  clear hK
                                  refine wpAnyH_ready (rs := [3]) (by kernel_rfl) (by simp) ?_
                                  refine AllReadyH.cons rfl (fun K hK => ?_) AllReadyH.nil
                                  rw [if_pos (by rfl)]
                                  refine wp_putd M _ _ rfl rfl 2 _ _ _ _ rfl rfl rfl ?_
                                  clear M
                                  intro W M
                                  simp only [List.set_cons_zero, List.set_cons_succ] at M
                                  refine hK.out _ _ (⟨M.get (.tail _ (.head _)), M.get (.head _)⟩) (fun hS => ?_)
                                  clear hK
                                  refine wpAnyH_done (by kernel_rfl) ?_ _
                                  go_wp2_with (fail)
                                  replace M : Mem w _ [(k14, ⟨ht, vt, ot, gt⟩), (k13, ⟨ht, vt, ot, gt⟩), (k10, ⟨h2, v2, o2, g2⟩), (k9, ⟨h1, v1, o1, g1⟩)] := M.tail.tail
                                  go_roundg (gk - 1)
                                  case measure => omega
                                  case rel => exact ⟨j + 1, _, _, by first | rfl | go_num, by omega, by omega, HU.out.1, HU.out.2, M⟩
                    case neg =>
                      have ci : ¬ (j : Int) < (n : Int) := by omega
                      go_wp2_with (first
      | (go_at_call 13; refine (awake_any _).mono ?_; rintro e w1 ⟨rfl, b1⟩; replace M := M.later b1; clear b1))
                      go_ret
                      exact ⟨rfl, M.below⟩
end Go.Proofs.Ytnnapooochfnhaa
