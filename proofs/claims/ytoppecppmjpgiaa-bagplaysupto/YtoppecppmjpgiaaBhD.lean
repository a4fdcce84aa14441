/-
  Package bag: the document's severed.
-/
import Derived.Test.YtoppecppmjpgiaaBhC
namespace Go.Proofs.Ytoppecppmjpgiaa
open Go.ChangeShapes Go.WideShapes Go.ChangeAt Go.RowKit Go.Maps
set_option linter.unusedVariables false
set_option linter.unusedSimpArgs false

def eqK (q p : LK) : Bool := (p.fst == q.fst) && ((p.snd == q.snd) && true)
/-- Where the first one is. -/
def idxK (p : LK → Bool) (ls : List LK) : Int := match ls.findIdx? p with | some i => (i : Int) | none => -1
theorem idxK_some {p : LK → Bool} {ls : List LK} {i : Nat} {d : LK} (h : ∀ e ∈ ls.take i, p e = false) (hd : ls[i]? = some d) (hp : p d = true) : idxK p ls = (i : Int) := by
  have : ls.findIdx? p = some i := by
    rw [List.findIdx?_eq_some_iff_getElem]
    obtain ⟨hl, e⟩ := List.getElem?_eq_some_iff.1 hd
    refine ⟨hl, by rw [e]; exact hp, fun j hj => ?_⟩
    have := h ls[j] (List.mem_iff_getElem.2 ⟨j, by rw [List.length_take]; omega, by simp⟩)
    simp [this]
  unfold idxK
  rw [this]
theorem idxK_none {p : LK → Bool} {ls : List LK} (h : ∀ e ∈ ls, p e = false) : idxK p ls = -1 := by
  have : ls.findIdx? p = none := by rw [List.findIdx?_eq_none_iff]; exact h
  unfold idxK
  rw [this]
theorem takeK_more {p : LK → Bool} {ls : List LK} {i : Nat} {d : LK} (h : ∀ e ∈ ls.take i, p e = false) (hd : ls[i]? = some d) (hp : p d = false) : ∀ e ∈ ls.take (i + 1), p e = false := by
  intro e he
  rw [List.take_add_one, hd] at he
  rcases List.mem_append.1 he with he | he
  · exact h e he
  · simp at he; subst he; exact hp
theorem eql65k (w : World) (a0 a1 b0 b1 : Int) : (binOp .eql 65 (.agg #[.int .i64 a0, .int .i64 a1]) (.agg #[.int .i64 b0, .int .i64 b1])).run Try.prog w = .ok (.bool ((a0 == b0) && ((a1 == b1) && true))) w := by
  rw [run_eql_struct, show (10000 : Nat) = 9998 + 2 from rfl, eq65]
  rfl
theorem exec_eql65k {o : Oper} {ρ : Operand → Value} {x y : Operand} (ho : o.op = .binOp .eql 65 x y 65) (a0 a1 b0 b1 : Int) (hx : ρ x = .agg #[.int .i64 a0, .int .i64 a1]) (hy : ρ y = .agg #[.int .i64 b0, .int .i64 b1]) (X : World) : (execOp ρ o).run Try.prog X = .ok (.value (.bool ((a0 == b0) && ((a1 == b1) && true)))) X := by
  have hm : Try.prog.eqGuardType Try.prog.depth 65 = false := by kernel_rfl
  unfold execOp
  simp only [ho, hx, hy, Sem.run_bind, run_eqGuard_agg _ _ _ _ _ _ _ hm, eql65k, Result.andThen_ok, Sem.run_pure]
set_option maxHeartbeats 4000000 in
theorem severed_any (r : Nat) (next : Int) (a : Option Addr) (n c : Nat) (ds : List DG) (la : Option Addr) (m lc : Nat) (ls : List LK) (x y : Int) (w : World) (R : RAt w r next a n c ds la m lc ls) :
    Calls Try.prog 46 #[.pointer (some ⟨r, 0, none⟩), .int .i64 x, .int .i64 y] w fun e w' => e = .returned (.int .i64 (idxK (eqK ⟨min x y, max x y⟩) ls)) ∧ Below w.heap.size w w' := by
  have c2 := row_cell R.obj 2 (.slice la m lc) rfl
  have L := R.lks
  have hb : Hid (m ≤ 9223372036854775807) := ⟨by have := L.le; have := L.max; omega⟩
  have hs := L.size
  go_enter Try.func46, Try.ntmps46
  go_wp2
  clear c2
  go_loopg [7] m (fun gk v7 wr => ∃ i : Nat, v7 = .int .i64 (i : Int) ∧ i + gk = m ∧ Hid (Below w.heap.size w wr) ∧ Hid (∀ e ∈ ls.take i, eqK ⟨min x y, max x y⟩ e = false))
  case atStart => exact ⟨0, by first | rfl | go_num, by omega, ⟨Below.refl _ _⟩, ⟨by simp⟩⟩
  case round =>
    obtain ⟨i, rfl, hg, HB, HP⟩ := hrel
    have c2 := row_cell ((HB.out.block r (row_lt R.obj)).trans R.obj) 2 (.slice la m lc) rfl
    by_cases hi : i < m
    · have hiI : (i : Int) < (m : Int) := by omega
      obtain ⟨g, off, rfl, hlt, hr⟩ := L.mem.resolve_left (by have := L.le; omega)
      replace hr := hr i hi
      have hd := get_z ls i (by omega)
      obtain ⟨d, hdd⟩ : ∃ d, ls.getD i LK.z = d := ⟨_, rfl⟩
      rw [hdd] at hr hd
      clear hdd
      cases hx0 : eqK ⟨min x y, max x y⟩ d with
      | true =>
        have hx1 : ((d.fst == min x y) && ((d.snd == max x y) && true)) = true := hx0
        have hidx := idxK_some HP.out hd hx0
        go_wp2_with (fail)
        refine wp_region_any (by kernel_rfl) ?_
        change wpAny _ _ _ _ _ _ _ (World.drew _)
        refine any_take 0 18 (.pointer (some ⟨r, 0, none⟩)) rfl rfl (by kernel_rfl) (by kernel_rfl) (by kernel_rfl) (fun _ _ _ h => h) (Or.inl ⟨by rfl, by intro w; go_simp⟩) ?_
        try simp only [Act.put, List.setIfInBounds_toArray, List.set_cons_zero, List.set_cons_succ]
        refine any_take 1 19 (.pointer (some ⟨r, 0, none⟩)) rfl rfl (by kernel_rfl) (by kernel_rfl) (by kernel_rfl) (fun _ _ _ h => h) (Or.inl ⟨by rfl, by intro w; go_simp⟩) ?_
        try simp only [Act.put, List.setIfInBounds_toArray, List.set_cons_zero, List.set_cons_succ]
        refine any_take 2 20 (.pointer (some ⟨r, 0, none⟩)) rfl rfl (by kernel_rfl) (by kernel_rfl) (by kernel_rfl) (fun _ _ _ h => h) (Or.inl ⟨by rfl, by intro w; go_simp⟩) ?_
        try simp only [Act.put, List.setIfInBounds_toArray, List.set_cons_zero, List.set_cons_succ]
        refine any_take 3 21 (.pointer (some ⟨r, 2, none⟩)) rfl rfl (by kernel_rfl) (by kernel_rfl) (by kernel_rfl) (fun _ _ _ h => h) (Or.inl ⟨by rfl, by intro w; go_simp⟩) ?_
        try simp only [Act.put, List.setIfInBounds_toArray, List.set_cons_zero, List.set_cons_succ]
        refine any_take 5 23 (.int .i64 (i : Int)) rfl rfl (by kernel_rfl) (by kernel_rfl) (by kernel_rfl) (fun _ _ _ h => h) (Or.inl ⟨by rfl, by intro w; go_simp⟩) ?_
        try simp only [Act.put, List.setIfInBounds_toArray, List.set_cons_zero, List.set_cons_succ]
        refine any_take 8 26 (.int .i64 x) rfl rfl (by kernel_rfl) (by kernel_rfl) (by kernel_rfl) (fun _ _ _ h => h) (Or.inl ⟨by rfl, by intro w; go_simp⟩) ?_
        try simp only [Act.put, List.setIfInBounds_toArray, List.set_cons_zero, List.set_cons_succ]
        refine any_take 9 27 (.int .i64 y) rfl rfl (by kernel_rfl) (by kernel_rfl) (by kernel_rfl) (fun _ _ _ h => h) (Or.inl ⟨by rfl, by intro w; go_simp⟩) ?_
        try simp only [Act.put, List.setIfInBounds_toArray, List.set_cons_zero, List.set_cons_succ]
        refine wpAny_narrow (fun W => Below w.heap.size w W) _ _ _ _ ?_
        refine anyH_take 4 22 (.slice (some ⟨g, off, none⟩) m lc) rfl rfl (by kernel_rfl) (by kernel_rfl) (by kernel_rfl) (fun _ _ _ h => h) (Or.inl ⟨by rfl, by intro w hSw; have c2 := row_cell ((hSw.block r (row_lt R.obj)).trans R.obj) 2 (.slice (some ⟨g, off, none⟩) m lc) rfl; go_simp⟩) (HB.out.drew) ?_
        try simp only [Act.put, List.setIfInBounds_toArray, List.set_cons_zero, List.set_cons_succ]
        refine anyH_take 6 24 (.pointer (some ⟨g, off + i * 2, none⟩)) rfl rfl (by kernel_rfl) (by kernel_rfl) (by kernel_rfl) (fun _ _ _ h => h) (Or.inl ⟨by rfl, by intro w hSw; go_simp⟩) (HB.out.drew) ?_
        try simp only [Act.put, List.setIfInBounds_toArray, List.set_cons_zero, List.set_cons_succ]
        refine anyH_take 7 25 (.agg #[.int .i64 d.fst, .int .i64 d.snd]) rfl rfl (by kernel_rfl) (by kernel_rfl) (by kernel_rfl) (fun _ _ _ h => h) (yieldsIf_load_mid (by rfl) 65 _ rfl g (off + i * 2) rfl d.cells _ (fun W hW => range_later hr hlt hW) Try.underlying65 rfl (by show _ = some 2; kernel_rfl)) (HB.out.drew) ?_
        try simp only [Act.put, List.setIfInBounds_toArray, List.set_cons_zero, List.set_cons_succ]
        refine wpAnyH_ready (rs := [10]) (by kernel_rfl) (by simp) ?_
        refine AllReadyH.cons rfl (fun K hK => ?_) AllReadyH.nil
        go_simp
        go_wp2_with (go_at_call 48; go_must (refine (link_any x y _).mono ?_; rintro e w1 ⟨rfl, b1⟩))
        refine hK.out _ _ (HB.out.drew.trans (b1.mono HB.out.drew.size)) (fun hS => ?_)
        clear hK
        refine anyH_take 11 29 (.bool true) rfl rfl (by kernel_rfl) (by kernel_rfl) (by kernel_rfl) (fun _ _ _ h => h) (Or.inl ⟨by rfl, fun W hW => by rw [exec_eql65k rfl d.fst d.snd (min x y) (max x y) rfl rfl W, hx1]⟩) hS ?_
        try simp only [Act.put, List.setIfInBounds_toArray, List.set_cons_zero, List.set_cons_succ]
        refine wpAnyH_done (by kernel_rfl) ?_ _
        go_wp2
        go_ret
        exact ⟨by rw [hidx]; rfl, hS⟩
      | false =>
        have hx1 : ((d.fst == min x y) && ((d.snd == max x y) && true)) = false := hx0
        go_wp2_with (fail)
        refine wp_region_any (by kernel_rfl) ?_
        change wpAny _ _ _ _ _ _ _ (World.drew _)
        refine any_take 0 18 (.pointer (some ⟨r, 0, none⟩)) rfl rfl (by kernel_rfl) (by kernel_rfl) (by kernel_rfl) (fun _ _ _ h => h) (Or.inl ⟨by rfl, by intro w; go_simp⟩) ?_
        try simp only [Act.put, List.setIfInBounds_toArray, List.set_cons_zero, List.set_cons_succ]
        refine any_take 1 19 (.pointer (some ⟨r, 0, none⟩)) rfl rfl (by kernel_rfl) (by kernel_rfl) (by kernel_rfl) (fun _ _ _ h => h) (Or.inl ⟨by rfl, by intro w; go_simp⟩) ?_
        try simp only [Act.put, List.setIfInBounds_toArray, List.set_cons_zero, List.set_cons_succ]
        refine any_take 2 20 (.pointer (some ⟨r, 0, none⟩)) rfl rfl (by kernel_rfl) (by kernel_rfl) (by kernel_rfl) (fun _ _ _ h => h) (Or.inl ⟨by rfl, by intro w; go_simp⟩) ?_
        try simp only [Act.put, List.setIfInBounds_toArray, List.set_cons_zero, List.set_cons_succ]
        refine any_take 3 21 (.pointer (some ⟨r, 2, none⟩)) rfl rfl (by kernel_rfl) (by kernel_rfl) (by kernel_rfl) (fun _ _ _ h => h) (Or.inl ⟨by rfl, by intro w; go_simp⟩) ?_
        try simp only [Act.put, List.setIfInBounds_toArray, List.set_cons_zero, List.set_cons_succ]
        refine any_take 5 23 (.int .i64 (i : Int)) rfl rfl (by kernel_rfl) (by kernel_rfl) (by kernel_rfl) (fun _ _ _ h => h) (Or.inl ⟨by rfl, by intro w; go_simp⟩) ?_
        try simp only [Act.put, List.setIfInBounds_toArray, List.set_cons_zero, List.set_cons_succ]
        refine any_take 8 26 (.int .i64 x) rfl rfl (by kernel_rfl) (by kernel_rfl) (by kernel_rfl) (fun _ _ _ h => h) (Or.inl ⟨by rfl, by intro w; go_simp⟩) ?_
        try simp only [Act.put, List.setIfInBounds_toArray, List.set_cons_zero, List.set_cons_succ]
        refine any_take 9 27 (.int .i64 y) rfl rfl (by kernel_rfl) (by kernel_rfl) (by kernel_rfl) (fun _ _ _ h => h) (Or.inl ⟨by rfl, by intro w; go_simp⟩) ?_
        try simp only [Act.put, List.setIfInBounds_toArray, List.set_cons_zero, List.set_cons_succ]
        refine wpAny_narrow (fun W => Below w.heap.size w W) _ _ _ _ ?_
        refine anyH_take 4 22 (.slice (some ⟨g, off, none⟩) m lc) rfl rfl (by kernel_rfl) (by kernel_rfl) (by kernel_rfl) (fun _ _ _ h => h) (Or.inl ⟨by rfl, by intro w hSw; have c2 := row_cell ((hSw.block r (row_lt R.obj)).trans R.obj) 2 (.slice (some ⟨g, off, none⟩) m lc) rfl; go_simp⟩) (HB.out.drew) ?_
        try simp only [Act.put, List.setIfInBounds_toArray, List.set_cons_zero, List.set_cons_succ]
        refine anyH_take 6 24 (.pointer (some ⟨g, off + i * 2, none⟩)) rfl rfl (by kernel_rfl) (by kernel_rfl) (by kernel_rfl) (fun _ _ _ h => h) (Or.inl ⟨by rfl, by intro w hSw; go_simp⟩) (HB.out.drew) ?_
        try simp only [Act.put, List.setIfInBounds_toArray, List.set_cons_zero, List.set_cons_succ]
        refine anyH_take 7 25 (.agg #[.int .i64 d.fst, .int .i64 d.snd]) rfl rfl (by kernel_rfl) (by kernel_rfl) (by kernel_rfl) (fun _ _ _ h => h) (yieldsIf_load_mid (by rfl) 65 _ rfl g (off + i * 2) rfl d.cells _ (fun W hW => range_later hr hlt hW) Try.underlying65 rfl (by show _ = some 2; kernel_rfl)) (HB.out.drew) ?_
        try simp only [Act.put, List.setIfInBounds_toArray, List.set_cons_zero, List.set_cons_succ]
        refine wpAnyH_ready (rs := [10]) (by kernel_rfl) (by simp) ?_
        refine AllReadyH.cons rfl (fun K hK => ?_) AllReadyH.nil
        go_simp
        go_wp2_with (go_at_call 48; go_must (refine (link_any x y _).mono ?_; rintro e w1 ⟨rfl, b1⟩))
        refine hK.out _ _ (HB.out.drew.trans (b1.mono HB.out.drew.size)) (fun hS => ?_)
        clear hK
        refine anyH_take 11 29 (.bool false) rfl rfl (by kernel_rfl) (by kernel_rfl) (by kernel_rfl) (fun _ _ _ h => h) (Or.inl ⟨by rfl, fun W hW => by rw [exec_eql65k rfl d.fst d.snd (min x y) (max x y) rfl rfl W, hx1]⟩) hS ?_
        try simp only [Act.put, List.setIfInBounds_toArray, List.set_cons_zero, List.set_cons_succ]
        refine wpAnyH_done (by kernel_rfl) ?_ _
        go_wp2
        go_roundg (gk - 1)
        case measure => omega
        case rel => exact ⟨i + 1, by rw [IntWalk.wrap64_in _ (by have := hb.out; omega)]; go_num, by omega, ⟨hS⟩, ⟨takeK_more HP.out hd hx0⟩⟩
    · have e : i = m := by omega
      subst e
      have hidx : idxK (eqK ⟨min x y, max x y⟩) ls = -1 := idxK_none (by have := HP.out; rwa [List.take_of_length_le (by omega)] at this)
      go_wp2
      go_ret
      exact ⟨by rw [hidx]; rfl, HB.out⟩
end Go.Proofs.Ytoppecppmjpgiaa
