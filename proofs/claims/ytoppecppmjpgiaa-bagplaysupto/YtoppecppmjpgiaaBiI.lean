/-
  Package bag: the document's Sever.
-/
import Derived.Test.YtoppecppmjpgiaaBiH
import Derived.Test.YtoppecppmjpgiaaBiC
namespace Go.Proofs.Ytoppecppmjpgiaa
open Go.ChangeShapes Go.WideShapes Go.ChangeAt Go.RowKit Go.Maps
set_option linter.unusedVariables false
set_option linter.unusedSimpArgs false
theorem exec_load65x {o : Oper} {ρ : Operand → Value} {x : Operand} (ho : o.op = .load 65 x) (g off : Nat) (q : LK) (hx : ρ x = .pointer (some ⟨g, off, none⟩)) (X : World) (hc : X.rangeAt g off q.cells) : (execOp ρ o).run Try.prog X = .ok (.value q.v) X := by
  unfold execOp
  simp only [ho, hx, Instr.loadAt, Instr.sureAddr, Sem.run_bind, Sem.run_pure, Result.andThen_ok, run_loadVar_mid X g off 65 q.cells _ hc Try.underlying65 rfl (by kernel_rfl)]
  rfl
theorem wpList_more_none {ops : Array Oper} {rest : List Oper} {o : Oper} {A : Act} {W : World} {Q : Exit → Act → World → Prop} (hgd : o.guard = none) (s x : Operand) (ho : o.op = .call { callee := .builtin .append, args := #[s, x], argTypes := #[23, 23] }) {base k : Nat} {v : Value} {xs : List Value}
    (hs : A.eval s = v) (hx : A.eval x = .slice none 0 0) (hown : W.ownsRow base 65 2 v k xs) (h : wpList Try.prog ops Q rest (A.put o.dst v) W) : wpList Try.prog ops Q (o :: rest) A W := by
  obtain ⟨i0, hi, hz0, hz1, hz2⟩ := info_parts info65
  have hrun := run_append_owned_none (P := Try.prog) (w := W) base 23 o.type 65 i0 2 Try.underlying23 hi v k xs hown
  refine wpList_plain hgd fun K hK => ?_
  unfold Oper.wp
  simp [execOp, ho, resolve, invoke, builtin, hs, hx, hrun, Result.andThen]
  exact hK _ _ h
theorem wpList_one65 {ops : Array Oper} {rest : List Oper} {o : Oper} {A : Act} {W : World} {Q : Exit → Act → World → Prop} (hgd : o.guard = none) (x : Operand) (ho : o.op = .buildSlice 23 1 #[(0, x)]) (d : LK) (hx : A.eval x = d.v)
    (h : wpList Try.prog ops Q rest (A.put o.dst (.slice (some ⟨W.heap.size, 0, none⟩) 1 1)) (W.alloc (.cells d.cells.toArray 65))) : wpList Try.prog ops Q (o :: rest) A W := by
  obtain ⟨i0, hi, hz0, hz1, hz2⟩ := info_parts info65
  refine wpList_buildSlice hgd 23 65 1 _ ho d.cells.toArray i0 _ Try.underlying23 hi hz0 (by rw [hz1]; decide) (by rw [hz1]; decide) ?_ h
  rw [hz1]
  have e : Array.range (1 * 2) = #[0, 1] := by decide
  rw [e]
  simp [Instr.fill, hx, LK.v, Value.cells, LK.cells]
/-- What Sever leaves: the links first, then the packets. -/
def RSev (w : World) (r : Nat) (next : Int) (a : Option Addr) (n cap : Nat) (ds : List DG) (es : List LK) (fs : List DG) (e : Ending) (w' : World) : Prop :=
  ∃ w1 la' lc', Only (at1 r) w w1 ∧ RAt w1 r next a n cap ds la' es.length lc' es ∧ (∀ g off, la' = some ⟨g, off, none⟩ → w.heap.size ≤ g) ∧ RLost w1 r next n fs la' es.length lc' es e w'
/-- How many stand ahead. -/
def ahd (p : LK) (ls : List LK) : Nat := (ls.takeWhile (fun q => lessK q p)).length
theorem ahd_le (p : LK) (ls : List LK) : ahd p ls ≤ ls.length := by unfold ahd; exact (List.takeWhile_prefix _).length_le
theorem ahd_of {p : LK} {ls : List LK} {k : Nat} (h : ∀ j, j < k → lessK (ls.getD j LK.z) p = true) (hk : k ≤ ls.length) (he : k = ls.length ∨ lessK (ls.getD k LK.z) p = false) : ahd p ls = k := by
  induction ls generalizing k with
  | nil => simp at hk; subst hk; rfl
  | cons q ls ih =>
    cases k with
    | zero =>
      rcases he with he | he
      · simp at he
      · have he' : lessK q p = false := by simpa using he
        simp [ahd, List.takeWhile_cons, he']
    | succ k =>
      have h0 : lessK q p = true := by simpa using h 0 (by omega)
      have := ih (k := k) (fun j hj => by simpa using h (j + 1) (by omega)) (by simpa using hk) (by simpa using he)
      unfold ahd at this ⊢
      simp [List.takeWhile_cons, h0, this]
set_option maxRecDepth 100000 in
set_option maxHeartbeats 30000000 in
theorem rsever_some (r : Nat) (next : Int) (a : Option Addr) (n cap : Nat) (ds : List DG) (g off m lc : Nat) (ls : List LK) (x y : Int) (w : World) (R : RAt w r next a n cap ds (some ⟨g, off, none⟩) m lc ls) (hxy : x ≠ y) (hc : idxK (eqK ⟨min x y, max x y⟩) ls = -1) (hm : (m + 1) * 16 ≤ 140737488355328) (hn : n ≤ 65536) :
    Calls Try.prog 31 #[.pointer (some ⟨r, 0, none⟩), .int .i64 x, .int .i64 y] w fun e w' => ∃ es, es = ls.take (ahd ⟨min x y, max x y⟩ ls) ++ [⟨min x y, max x y⟩] ++ ls.drop (ahd ⟨min x y, max x y⟩ ls) ∧ RSev w r next a n cap ds es (ds.filter (fun d => !lostP false true x y d)) e w' := by
  have K := severed_any r next a n cap ds _ m lc ls x y w R
  rw [hc] at K
  clear hc
  have hxy' : (x == y) = false := by simpa using hxy
  have hls := R.lks.size
  have hle := R.lks.le
  have HM : Hid ((m + 1) * 16 ≤ 140737488355328) := ⟨hm⟩
  obtain ⟨hgl, hr⟩ : g < w.heap.size ∧ ∀ i, i < m → w.rangeAt g (off + i * 2) (ls.getD i LK.z).cells := by
    rcases R.lks.mem with ⟨e, _⟩ | ⟨g', off', e, hl, h⟩
    · cases e
    · cases e; exact ⟨hl, h⟩
  have HR : Hid (∀ i, i < m → w.rangeAt g (off + i * 2) (ls.getD i LK.z).cells) := ⟨hr⟩
  clear hm hr hxy
  go_enter Try.func31, Try.ntmps31
  go_wp2_with (go_at_call 46; go_must (refine K.mono ?_; rintro e w0 ⟨rfl, b0⟩; clear K))
  go_loopg [8] m (fun g v8 wr => ∃ k : Nat, v8 = .int .i64 (k : Int) ∧ k + g = m ∧ Below w.heap.size w wr ∧ Hid (∀ j, j < k → lessK (ls.getD j LK.z) ⟨min x y, max x y⟩ = true))
  case atStart => exact ⟨0, by first | rfl | go_num, by omega, b0, ⟨fun j h => by omega⟩⟩
  case round =>
    clear b0
    obtain ⟨k, rfl, hg, hbw, HK⟩ := hrel
    by_cases hk : k < m
    · have hkI : (k : Int) < (m : Int) := by omega
      have hk0 : (0 : Int) ≤ (k : Int) := by omega
      obtain ⟨q, hqk⟩ : ∃ q, ls.getD k LK.z = q := ⟨_, rfl⟩
      have hrk : wr.rangeAt g (off + k * 2) q.cells := by rw [← hqk]; exact range_later (HR.out k hk) hgl hbw
      have hgl0 := hgl
      replace hgl := Nat.lt_of_lt_of_le hgl hbw.size
      cases hq : lessK q ⟨min x y, max x y⟩ with
      | true =>
        have hinc : IntKind.i64.wrap ((k : Int) + 1) = (k : Int) + 1 := by rw [IntKind.wrap_i64]; have := HM.out; omega
        go_wp2
        refine wp_region_any (by kernel_rfl) ?_
        change wpAny _ _ _ _ _ _ _ (World.drew _)
        refine wpAny_narrow (fun W' => Below wr.heap.size wr W') _ _ _ _ ?_
        refine anyH_take 0 17 (.int .i64 (k : Int)) rfl rfl (by kernel_rfl) (by kernel_rfl) (by kernel_rfl) (fun _ _ _ h => h) (Or.inl ⟨by rfl, by intro w hSw; go_simp⟩) ((Below.refl _ _).drew) ?_
        try simp only [Act.put, List.setIfInBounds_toArray, List.set_cons_zero, List.set_cons_succ]
        refine anyH_take 1 18 (.pointer (some ⟨r, 0, none⟩)) rfl rfl (by kernel_rfl) (by kernel_rfl) (by kernel_rfl) (fun _ _ _ h => h) (Or.inl ⟨by rfl, by intro w hSw; go_simp⟩) ((Below.refl _ _).drew) ?_
        try simp only [Act.put, List.setIfInBounds_toArray, List.set_cons_zero, List.set_cons_succ]
        refine anyH_take 2 19 (.pointer (some ⟨r, 0, none⟩)) rfl rfl (by kernel_rfl) (by kernel_rfl) (by kernel_rfl) (fun _ _ _ h => h) (Or.inl ⟨by rfl, by intro w hSw; go_simp⟩) ((Below.refl _ _).drew) ?_
        try simp only [Act.put, List.setIfInBounds_toArray, List.set_cons_zero, List.set_cons_succ]
        refine anyH_take 3 20 (.pointer (some ⟨r, 0, none⟩)) rfl rfl (by kernel_rfl) (by kernel_rfl) (by kernel_rfl) (fun _ _ _ h => h) (Or.inl ⟨by rfl, by intro w hSw; go_simp⟩) ((Below.refl _ _).drew) ?_
        try simp only [Act.put, List.setIfInBounds_toArray, List.set_cons_zero, List.set_cons_succ]
        refine anyH_take 4 21 (.pointer (some ⟨r, 2, none⟩)) rfl rfl (by kernel_rfl) (by kernel_rfl) (by kernel_rfl) (fun _ _ _ h => h) (Or.inl ⟨by rfl, by intro w hSw; go_simp⟩) ((Below.refl _ _).drew) ?_
        try simp only [Act.put, List.setIfInBounds_toArray, List.set_cons_zero, List.set_cons_succ]
        refine anyH_take 5 22 (.slice (some ⟨g, off, none⟩) m lc) rfl rfl (by kernel_rfl) (by kernel_rfl) (by kernel_rfl) (fun _ _ _ h => h) (Or.inl ⟨by rfl, by intro w hSw; have k0 := row_cell (R.below (hbw.trans (hSw.mono hbw.size))).obj 2 (.slice (some ⟨g, off, none⟩) m lc) rfl; go_simp⟩) ((Below.refl _ _).drew) ?_
        try simp only [Act.put, List.setIfInBounds_toArray, List.set_cons_zero, List.set_cons_succ]
        refine anyH_take 6 23 (.int .i64 (m : Int)) rfl rfl (by kernel_rfl) (by kernel_rfl) (by kernel_rfl) (fun _ _ _ h => h) (Or.inl ⟨by rfl, by intro w hSw; go_simp⟩) ((Below.refl _ _).drew) ?_
        try simp only [Act.put, List.setIfInBounds_toArray, List.set_cons_zero, List.set_cons_succ]
        refine anyH_take 7 24 (.bool true) rfl rfl (by kernel_rfl) (by kernel_rfl) (by kernel_rfl) (fun _ _ _ h => h) (Or.inl ⟨by rfl, by intro w hSw; go_simp⟩) ((Below.refl _ _).drew) ?_
        try simp only [Act.put, List.setIfInBounds_toArray, List.set_cons_zero, List.set_cons_succ]
        refine anyH_take 8 25 (.bool true) rfl rfl (by kernel_rfl) (by kernel_rfl) (by kernel_rfl) (fun _ _ _ h => h) (Or.inl ⟨by rfl, by intro w hSw; go_simp⟩) ((Below.refl _ _).drew) ?_
        try simp only [Act.put, List.setIfInBounds_toArray, List.set_cons_zero, List.set_cons_succ]
        refine anyH_take 9 26 (.pointer (some ⟨r, 0, none⟩)) rfl rfl (by kernel_rfl) (by kernel_rfl) (by kernel_rfl) (fun _ _ _ h => h) (Or.inl ⟨by rfl, by intro w hSw; go_simp⟩) ((Below.refl _ _).drew) ?_
        try simp only [Act.put, List.setIfInBounds_toArray, List.set_cons_zero, List.set_cons_succ]
        refine anyH_take 10 27 (.pointer (some ⟨r, 0, none⟩)) rfl rfl (by kernel_rfl) (by kernel_rfl) (by kernel_rfl) (fun _ _ _ h => h) (Or.inl ⟨by rfl, by intro w hSw; go_simp⟩) ((Below.refl _ _).drew) ?_
        try simp only [Act.put, List.setIfInBounds_toArray, List.set_cons_zero, List.set_cons_succ]
        refine anyH_take 11 28 (.pointer (some ⟨r, 0, none⟩)) rfl rfl (by kernel_rfl) (by kernel_rfl) (by kernel_rfl) (fun _ _ _ h => h) (Or.inl ⟨by rfl, by intro w hSw; go_simp⟩) ((Below.refl _ _).drew) ?_
        try simp only [Act.put, List.setIfInBounds_toArray, List.set_cons_zero, List.set_cons_succ]
        refine anyH_take 12 29 (.pointer (some ⟨r, 2, none⟩)) rfl rfl (by kernel_rfl) (by kernel_rfl) (by kernel_rfl) (fun _ _ _ h => h) (Or.inl ⟨by rfl, by intro w hSw; go_simp⟩) ((Below.refl _ _).drew) ?_
        try simp only [Act.put, List.setIfInBounds_toArray, List.set_cons_zero, List.set_cons_succ]
        refine anyH_take 13 30 (.slice (some ⟨g, off, none⟩) m lc) rfl rfl (by kernel_rfl) (by kernel_rfl) (by kernel_rfl) (fun _ _ _ h => h) (Or.inl ⟨by rfl, by intro w hSw; have k0 := row_cell (R.below (hbw.trans (hSw.mono hbw.size))).obj 2 (.slice (some ⟨g, off, none⟩) m lc) rfl; go_simp⟩) ((Below.refl _ _).drew) ?_
        try simp only [Act.put, List.setIfInBounds_toArray, List.set_cons_zero, List.set_cons_succ]
        refine anyH_take 14 31 (.int .i64 (k : Int)) rfl rfl (by kernel_rfl) (by kernel_rfl) (by kernel_rfl) (fun _ _ _ h => h) (Or.inl ⟨by rfl, by intro w hSw; go_simp⟩) ((Below.refl _ _).drew) ?_
        try simp only [Act.put, List.setIfInBounds_toArray, List.set_cons_zero, List.set_cons_succ]
        refine anyH_take 15 32 (.pointer (some ⟨g, off + k * 2, none⟩)) rfl rfl (by kernel_rfl) (by kernel_rfl) (by kernel_rfl) (fun _ _ _ h => h) (Or.inl ⟨by rfl, by intro w hSw; go_simp⟩) ((Below.refl _ _).drew) ?_
        try simp only [Act.put, List.setIfInBounds_toArray, List.set_cons_zero, List.set_cons_succ]
        refine anyH_take 16 33 (q.v) rfl rfl (by kernel_rfl) (by kernel_rfl) (by kernel_rfl) (fun _ _ _ h => h) (Or.inl ⟨by rfl, fun X hSw => exec_load65x rfl g (off + k * 2) q rfl X (range_later hrk hgl hSw)⟩) ((Below.refl _ _).drew) ?_
        try simp only [Act.put, List.setIfInBounds_toArray, List.set_cons_zero, List.set_cons_succ]
        refine anyH_take 17 34 (.int .i64 x) rfl rfl (by kernel_rfl) (by kernel_rfl) (by kernel_rfl) (fun _ _ _ h => h) (Or.inl ⟨by rfl, by intro w hSw; go_simp⟩) ((Below.refl _ _).drew) ?_
        try simp only [Act.put, List.setIfInBounds_toArray, List.set_cons_zero, List.set_cons_succ]
        refine anyH_take 18 35 (.int .i64 y) rfl rfl (by kernel_rfl) (by kernel_rfl) (by kernel_rfl) (fun _ _ _ h => h) (Or.inl ⟨by rfl, by intro w hSw; go_simp⟩) ((Below.refl _ _).drew) ?_
        try simp only [Act.put, List.setIfInBounds_toArray, List.set_cons_zero, List.set_cons_succ]
        refine wpAnyH_ready (rs := [19]) (by kernel_rfl) (by simp) ?_
        refine AllReadyH.cons rfl (fun K hK => ?_) AllReadyH.nil
        go_simp
        go_wp2_with (go_at_call 48; refine (link_any x y _).mono ?_; rintro e x1 ⟨rfl, b1⟩)
        refine hK.out _ _ ((Below.refl _ _).drew.trans b1) (fun hS => ?_)
        clear hK
        refine wpAnyH_ready (rs := [20]) (by kernel_rfl) (by simp) ?_
        refine AllReadyH.cons rfl (fun K hK => ?_) AllReadyH.nil
        go_simp
        go_wp2_with (go_at_call 25; refine (less_any q _ _).mono ?_; rintro e x2 ⟨rfl, b2⟩; rw [hq])
        refine hK.out _ _ (hS.trans (b2.mono hS.size)) (fun hS => ?_)
        clear hK
        refine anyH_take 21 38 (.bool true) rfl rfl (by kernel_rfl) (by kernel_rfl) (by kernel_rfl) (fun _ _ _ h => h) (Or.inl ⟨by rfl, by intro w hSw; go_simp⟩) (hS) ?_
        try simp only [Act.put, List.setIfInBounds_toArray, List.set_cons_zero, List.set_cons_succ]
        refine wpAnyH_done (by kernel_rfl) ?_ _
        replace hbw := hbw.trans (hS.mono hbw.size)
        have HK2 : Hid (∀ j, j < k + 1 → lessK (ls.getD j LK.z) ⟨min x y, max x y⟩ = true) := ⟨fun j hj => by
          by_cases e : j = k
          · subst e; rw [hqk]; exact hq
          · exact HK.out j (by omega)⟩
        clear hS hrk
        go_wp2
        go_roundg (gk - 1)
        case measure => omega
        case rel => exact ⟨k + 1, by first | rfl | go_num, by omega, hbw, HK2⟩
      | false =>
        have HA : Hid (ahd ⟨min x y, max x y⟩ ls = k) := ⟨ahd_of HK.out (by omega) (.inr (by rw [hqk]; exact hq))⟩
        go_wp2
        refine wp_region_any (by kernel_rfl) ?_
        change wpAny _ _ _ _ _ _ _ (World.drew _)
        refine wpAny_narrow (fun W' => Below wr.heap.size wr W') _ _ _ _ ?_
        refine anyH_take 0 17 (.int .i64 (k : Int)) rfl rfl (by kernel_rfl) (by kernel_rfl) (by kernel_rfl) (fun _ _ _ h => h) (Or.inl ⟨by rfl, by intro w hSw; go_simp⟩) ((Below.refl _ _).drew) ?_
        try simp only [Act.put, List.setIfInBounds_toArray, List.set_cons_zero, List.set_cons_succ]
        refine anyH_take 1 18 (.pointer (some ⟨r, 0, none⟩)) rfl rfl (by kernel_rfl) (by kernel_rfl) (by kernel_rfl) (fun _ _ _ h => h) (Or.inl ⟨by rfl, by intro w hSw; go_simp⟩) ((Below.refl _ _).drew) ?_
        try simp only [Act.put, List.setIfInBounds_toArray, List.set_cons_zero, List.set_cons_succ]
        refine anyH_take 2 19 (.pointer (some ⟨r, 0, none⟩)) rfl rfl (by kernel_rfl) (by kernel_rfl) (by kernel_rfl) (fun _ _ _ h => h) (Or.inl ⟨by rfl, by intro w hSw; go_simp⟩) ((Below.refl _ _).drew) ?_
        try simp only [Act.put, List.setIfInBounds_toArray, List.set_cons_zero, List.set_cons_succ]
        refine anyH_take 3 20 (.pointer (some ⟨r, 0, none⟩)) rfl rfl (by kernel_rfl) (by kernel_rfl) (by kernel_rfl) (fun _ _ _ h => h) (Or.inl ⟨by rfl, by intro w hSw; go_simp⟩) ((Below.refl _ _).drew) ?_
        try simp only [Act.put, List.setIfInBounds_toArray, List.set_cons_zero, List.set_cons_succ]
        refine anyH_take 4 21 (.pointer (some ⟨r, 2, none⟩)) rfl rfl (by kernel_rfl) (by kernel_rfl) (by kernel_rfl) (fun _ _ _ h => h) (Or.inl ⟨by rfl, by intro w hSw; go_simp⟩) ((Below.refl _ _).drew) ?_
        try simp only [Act.put, List.setIfInBounds_toArray, List.set_cons_zero, List.set_cons_succ]
        refine anyH_take 5 22 (.slice (some ⟨g, off, none⟩) m lc) rfl rfl (by kernel_rfl) (by kernel_rfl) (by kernel_rfl) (fun _ _ _ h => h) (Or.inl ⟨by rfl, by intro w hSw; have k0 := row_cell (R.below (hbw.trans (hSw.mono hbw.size))).obj 2 (.slice (some ⟨g, off, none⟩) m lc) rfl; go_simp⟩) ((Below.refl _ _).drew) ?_
        try simp only [Act.put, List.setIfInBounds_toArray, List.set_cons_zero, List.set_cons_succ]
        refine anyH_take 6 23 (.int .i64 (m : Int)) rfl rfl (by kernel_rfl) (by kernel_rfl) (by kernel_rfl) (fun _ _ _ h => h) (Or.inl ⟨by rfl, by intro w hSw; go_simp⟩) ((Below.refl _ _).drew) ?_
        try simp only [Act.put, List.setIfInBounds_toArray, List.set_cons_zero, List.set_cons_succ]
        refine anyH_take 7 24 (.bool true) rfl rfl (by kernel_rfl) (by kernel_rfl) (by kernel_rfl) (fun _ _ _ h => h) (Or.inl ⟨by rfl, by intro w hSw; go_simp⟩) ((Below.refl _ _).drew) ?_
        try simp only [Act.put, List.setIfInBounds_toArray, List.set_cons_zero, List.set_cons_succ]
        refine anyH_take 8 25 (.bool true) rfl rfl (by kernel_rfl) (by kernel_rfl) (by kernel_rfl) (fun _ _ _ h => h) (Or.inl ⟨by rfl, by intro w hSw; go_simp⟩) ((Below.refl _ _).drew) ?_
        try simp only [Act.put, List.setIfInBounds_toArray, List.set_cons_zero, List.set_cons_succ]
        refine anyH_take 9 26 (.pointer (some ⟨r, 0, none⟩)) rfl rfl (by kernel_rfl) (by kernel_rfl) (by kernel_rfl) (fun _ _ _ h => h) (Or.inl ⟨by rfl, by intro w hSw; go_simp⟩) ((Below.refl _ _).drew) ?_
        try simp only [Act.put, List.setIfInBounds_toArray, List.set_cons_zero, List.set_cons_succ]
        refine anyH_take 10 27 (.pointer (some ⟨r, 0, none⟩)) rfl rfl (by kernel_rfl) (by kernel_rfl) (by kernel_rfl) (fun _ _ _ h => h) (Or.inl ⟨by rfl, by intro w hSw; go_simp⟩) ((Below.refl _ _).drew) ?_
        try simp only [Act.put, List.setIfInBounds_toArray, List.set_cons_zero, List.set_cons_succ]
        refine anyH_take 11 28 (.pointer (some ⟨r, 0, none⟩)) rfl rfl (by kernel_rfl) (by kernel_rfl) (by kernel_rfl) (fun _ _ _ h => h) (Or.inl ⟨by rfl, by intro w hSw; go_simp⟩) ((Below.refl _ _).drew) ?_
        try simp only [Act.put, List.setIfInBounds_toArray, List.set_cons_zero, List.set_cons_succ]
        refine anyH_take 12 29 (.pointer (some ⟨r, 2, none⟩)) rfl rfl (by kernel_rfl) (by kernel_rfl) (by kernel_rfl) (fun _ _ _ h => h) (Or.inl ⟨by rfl, by intro w hSw; go_simp⟩) ((Below.refl _ _).drew) ?_
        try simp only [Act.put, List.setIfInBounds_toArray, List.set_cons_zero, List.set_cons_succ]
        refine anyH_take 13 30 (.slice (some ⟨g, off, none⟩) m lc) rfl rfl (by kernel_rfl) (by kernel_rfl) (by kernel_rfl) (fun _ _ _ h => h) (Or.inl ⟨by rfl, by intro w hSw; have k0 := row_cell (R.below (hbw.trans (hSw.mono hbw.size))).obj 2 (.slice (some ⟨g, off, none⟩) m lc) rfl; go_simp⟩) ((Below.refl _ _).drew) ?_
        try simp only [Act.put, List.setIfInBounds_toArray, List.set_cons_zero, List.set_cons_succ]
        refine anyH_take 14 31 (.int .i64 (k : Int)) rfl rfl (by kernel_rfl) (by kernel_rfl) (by kernel_rfl) (fun _ _ _ h => h) (Or.inl ⟨by rfl, by intro w hSw; go_simp⟩) ((Below.refl _ _).drew) ?_
        try simp only [Act.put, List.setIfInBounds_toArray, List.set_cons_zero, List.set_cons_succ]
        refine anyH_take 15 32 (.pointer (some ⟨g, off + k * 2, none⟩)) rfl rfl (by kernel_rfl) (by kernel_rfl) (by kernel_rfl) (fun _ _ _ h => h) (Or.inl ⟨by rfl, by intro w hSw; go_simp⟩) ((Below.refl _ _).drew) ?_
        try simp only [Act.put, List.setIfInBounds_toArray, List.set_cons_zero, List.set_cons_succ]
        refine anyH_take 16 33 (q.v) rfl rfl (by kernel_rfl) (by kernel_rfl) (by kernel_rfl) (fun _ _ _ h => h) (Or.inl ⟨by rfl, fun X hSw => exec_load65x rfl g (off + k * 2) q rfl X (range_later hrk hgl hSw)⟩) ((Below.refl _ _).drew) ?_
        try simp only [Act.put, List.setIfInBounds_toArray, List.set_cons_zero, List.set_cons_succ]
        refine anyH_take 17 34 (.int .i64 x) rfl rfl (by kernel_rfl) (by kernel_rfl) (by kernel_rfl) (fun _ _ _ h => h) (Or.inl ⟨by rfl, by intro w hSw; go_simp⟩) ((Below.refl _ _).drew) ?_
        try simp only [Act.put, List.setIfInBounds_toArray, List.set_cons_zero, List.set_cons_succ]
        refine anyH_take 18 35 (.int .i64 y) rfl rfl (by kernel_rfl) (by kernel_rfl) (by kernel_rfl) (fun _ _ _ h => h) (Or.inl ⟨by rfl, by intro w hSw; go_simp⟩) ((Below.refl _ _).drew) ?_
        try simp only [Act.put, List.setIfInBounds_toArray, List.set_cons_zero, List.set_cons_succ]
        refine wpAnyH_ready (rs := [19]) (by kernel_rfl) (by simp) ?_
        refine AllReadyH.cons rfl (fun K hK => ?_) AllReadyH.nil
        go_simp
        go_wp2_with (go_at_call 48; refine (link_any x y _).mono ?_; rintro e x1 ⟨rfl, b1⟩)
        refine hK.out _ _ ((Below.refl _ _).drew.trans b1) (fun hS => ?_)
        clear hK
        refine wpAnyH_ready (rs := [20]) (by kernel_rfl) (by simp) ?_
        refine AllReadyH.cons rfl (fun K hK => ?_) AllReadyH.nil
        go_simp
        go_wp2_with (go_at_call 25; refine (less_any q _ _).mono ?_; rintro e x2 ⟨rfl, b2⟩; rw [hq])
        refine hK.out _ _ (hS.trans (b2.mono hS.size)) (fun hS => ?_)
        clear hK
        refine anyH_take 21 38 (.bool false) rfl rfl (by kernel_rfl) (by kernel_rfl) (by kernel_rfl) (fun _ _ _ h => h) (Or.inl ⟨by rfl, by intro w hSw; go_simp⟩) (hS) ?_
        try simp only [Act.put, List.setIfInBounds_toArray, List.set_cons_zero, List.set_cons_succ]
        refine wpAnyH_done (by kernel_rfl) ?_ _
        replace hbw := hbw.trans (hS.mono hbw.size)
        clear hS hrk hgl
        have hgl := hgl0
        have hkm : k ≤ m := by omega
        have hkI2 : (k : Int) ≤ (m : Int) := by omega
        have hkl : (k : Int) ≤ (lc : Int) := by omega
        have hkz : (0 : Int) ≤ (k : Int) := by omega
        have hca := Lks.cells_at (cap := lc) hls HR.out
        have hAt : ∀ W, Below w.heap.size w W → ∀ j u, (lcs ls)[j]? = some u → W.cell? ⟨g, off + j, none⟩ = some u := fun W b j u hj => (World.cell?_of_block (a := ⟨g, off + j, none⟩) (b.block g hgl)).trans (hca j u hj)
        have HT : Hid (∀ W, Below w.heap.size w W → ∀ j u, (lcs (ls.take k))[j]? = some u → W.cell? ⟨g, off + j, none⟩ = some u) := ⟨fun W b j u hj => hAt W b j u (lcs_take_at hj)⟩
        have HZ : Hid (∀ W, Below w.heap.size w W → ∀ j u, (lcs (ls.drop k))[j]? = some u → W.cell? ⟨g, off + k * 2 + j, none⟩ = some u) := ⟨fun W b j u hj => by
          rw [lcs_drop_at] at hj
          have := hAt W b _ u hj
          rwa [show off + (2 * k + j) = off + k * 2 + j by omega] at this⟩
        have l1 : (ls.take k).length = k := by rw [List.length_take]; omega
        have l2 : (ls.drop k).length = m - k := by rw [List.length_drop]; omega
        have l3 : (ls.take k ++ [(⟨min x y, max x y⟩ : LK)] ++ ls.drop k).length = k + 1 + (m - k) := by rw [List.length_append, List.length_append, l1, l2]; rfl
        have HES : Hid (ls.take (ahd ⟨min x y, max x y⟩ ls) ++ [⟨min x y, max x y⟩] ++ ls.drop (ahd ⟨min x y, max x y⟩ ls) = ls.take k ++ [⟨min x y, max x y⟩] ++ ls.drop k) := ⟨by rw [HA.out]⟩
        have c2 := row_cell (R.below hbw).obj 2 (.slice (some ⟨g, off, none⟩) m lc) rfl
        clear hca hAt HA HK HR
        go_wp2_with (first
          | ((with_reducible show wpList _ _ _ (Oper.mk _ (Op.call { callee := Callee.builtin Builtin.append, args := #[Operand.tmp 41, Operand.tmp 48], argTypes := _ }) _ _ _ _ :: _) _ _); go_must (refine wpList_more_lks rfl _ _ rfl (base := w.heap.size) (k := 0) (es := []) (ls := ls.take k) rfl rfl (World.ownsRow_nil _ _ 65 2) l1 (HT.out _ hbw) (by have := HM.out; omega) hbw.size ?_; intro v1 w2 O2 b2; have b12 := hbw.trans b2))
          | (go_at_call 48; go_must (refine (link_any x y _).mono ?_; rintro e w4 ⟨rfl, b4⟩; have O4 := owns_of_block O2 (fun q hq => b4.block q (O2.lt q hq).2); have b14 := b12.trans (b4.mono b12.size)))
          | ((with_reducible show wpList _ _ _ (Oper.mk _ (Op.buildSlice 23 1 _) _ _ _ _ :: _) _ _); go_must (refine wpList_one65 rfl _ rfl ⟨min x y, max x y⟩ rfl ?_))
          | ((with_reducible show wpList _ _ _ (Oper.mk _ (Op.call { callee := Callee.builtin Builtin.append, args := #[Operand.tmp 50, Operand.tmp 54], argTypes := _ }) _ _ _ _ :: _) _ _); go_must (refine wpList_more_lks rfl _ _ rfl (base := w.heap.size) (k := 0 + k) (es := [] ++ ls.take k) (ls := [(⟨min x y, max x y⟩ : LK)]) (g := w4.heap.size) (off := 0) rfl rfl (O4.alloc _) rfl (fun j u hj => (by rw [Nat.zero_add]; exact row_cell (World.alloc_heap_new w4 _) j u (by simpa [lcs] using hj))) (by have := HM.out; omega) (by have := b14.size; simp; omega) ?_; intro v5 w5 O5 b5; have b15 := (b14.alloc b14.size _).trans b5; have c5 := row_cell (R.below b15).obj 2 (.slice (some ⟨g, off, none⟩) m lc) rfl))
          | ((with_reducible show wpList _ _ _ (Oper.mk _ (Op.call { callee := Callee.builtin Builtin.append, args := #[Operand.tmp 57, Operand.tmp 64], argTypes := _ }) _ _ _ _ :: _) _ _); go_must (refine wpList_more_lks rfl _ _ rfl (base := w.heap.size) (k := 0 + k + 1) (es := [] ++ ls.take k ++ [(⟨min x y, max x y⟩ : LK)]) (ls := ls.drop k) (g := g) (off := off + k * 2) rfl rfl O5 l2 (HZ.out _ b15) (by have := HM.out; omega) b15.size ?_; intro v6 w6 O6 b6; have b16 := b15.trans b6; rw [List.nil_append, Nat.zero_add] at O6; obtain ⟨la', lc', rfl, K6, hnew⟩ := own_lks O6 l3; have R6 := R.below b16; have e2 := row_cell R6.obj 2 (.slice (some ⟨g, off, none⟩) m lc) rfl; have f2 := row_free R6.obj 2; have RD := rlinks_done R b16 l3 O6; obtain ⟨oD, la1, lc1, RA, hn1⟩ := RD; have KL := rlose_way r next a n cap ds la1 _ lc1 _ x y _ RA hn))
          | (go_at_call 49; go_must (refine KL.mono ?_; clear KL; rintro e w7 hL; have HLL := hL; obtain ⟨rfl, _⟩ := hL)))
        all_goals go_ret
        all_goals exact ⟨_, HES.out.symm, _, la1, lc1, oD, RA, hn1, HLL⟩
    · have hkm : k = m := by omega
      have HA : Hid (ahd ⟨min x y, max x y⟩ ls = k) := ⟨ahd_of HK.out (by omega) (.inl (by omega))⟩
      have hkI : ¬ (k : Int) < (m : Int) := by omega
      have hkN : m ≤ k := by omega
      clear hkm hk
      go_wp2
      refine wp_region_any (by kernel_rfl) ?_
      change wpAny _ _ _ _ _ _ _ (World.drew _)
      refine wpAny_narrow (fun W' => Below wr.heap.size wr W') _ _ _ _ ?_
      refine anyH_take 0 17 (.int .i64 (k : Int)) rfl rfl (by kernel_rfl) (by kernel_rfl) (by kernel_rfl) (fun _ _ _ h => h) (Or.inl ⟨by rfl, by intro w hSw; go_simp⟩) ((Below.refl _ _).drew) ?_
      try simp only [Act.put, List.setIfInBounds_toArray, List.set_cons_zero, List.set_cons_succ]
      refine anyH_take 1 18 (.pointer (some ⟨r, 0, none⟩)) rfl rfl (by kernel_rfl) (by kernel_rfl) (by kernel_rfl) (fun _ _ _ h => h) (Or.inl ⟨by rfl, by intro w hSw; go_simp⟩) ((Below.refl _ _).drew) ?_
      try simp only [Act.put, List.setIfInBounds_toArray, List.set_cons_zero, List.set_cons_succ]
      refine anyH_take 2 19 (.pointer (some ⟨r, 0, none⟩)) rfl rfl (by kernel_rfl) (by kernel_rfl) (by kernel_rfl) (fun _ _ _ h => h) (Or.inl ⟨by rfl, by intro w hSw; go_simp⟩) ((Below.refl _ _).drew) ?_
      try simp only [Act.put, List.setIfInBounds_toArray, List.set_cons_zero, List.set_cons_succ]
      refine anyH_take 3 20 (.pointer (some ⟨r, 0, none⟩)) rfl rfl (by kernel_rfl) (by kernel_rfl) (by kernel_rfl) (fun _ _ _ h => h) (Or.inl ⟨by rfl, by intro w hSw; go_simp⟩) ((Below.refl _ _).drew) ?_
      try simp only [Act.put, List.setIfInBounds_toArray, List.set_cons_zero, List.set_cons_succ]
      refine anyH_take 4 21 (.pointer (some ⟨r, 2, none⟩)) rfl rfl (by kernel_rfl) (by kernel_rfl) (by kernel_rfl) (fun _ _ _ h => h) (Or.inl ⟨by rfl, by intro w hSw; go_simp⟩) ((Below.refl _ _).drew) ?_
      try simp only [Act.put, List.setIfInBounds_toArray, List.set_cons_zero, List.set_cons_succ]
      refine anyH_take 5 22 (.slice (some ⟨g, off, none⟩) m lc) rfl rfl (by kernel_rfl) (by kernel_rfl) (by kernel_rfl) (fun _ _ _ h => h) (Or.inl ⟨by rfl, by intro w hSw; have k0 := row_cell (R.below (hbw.trans (hSw.mono hbw.size))).obj 2 (.slice (some ⟨g, off, none⟩) m lc) rfl; go_simp⟩) ((Below.refl _ _).drew) ?_
      try simp only [Act.put, List.setIfInBounds_toArray, List.set_cons_zero, List.set_cons_succ]
      refine anyH_take 6 23 (.int .i64 (m : Int)) rfl rfl (by kernel_rfl) (by kernel_rfl) (by kernel_rfl) (fun _ _ _ h => h) (Or.inl ⟨by rfl, by intro w hSw; go_simp⟩) ((Below.refl _ _).drew) ?_
      try simp only [Act.put, List.setIfInBounds_toArray, List.set_cons_zero, List.set_cons_succ]
      refine anyH_take 7 24 (.bool false) rfl rfl (by kernel_rfl) (by kernel_rfl) (by kernel_rfl) (fun _ _ _ h => h) (Or.inl ⟨by rfl, by intro w hSw; go_simp⟩) ((Below.refl _ _).drew) ?_
      try simp only [Act.put, List.setIfInBounds_toArray, List.set_cons_zero, List.set_cons_succ]
      refine anyH_take 8 25 (.bool false) rfl rfl (by kernel_rfl) (by kernel_rfl) (by kernel_rfl) (fun _ _ _ h => h) (Or.inl ⟨by rfl, by intro w hSw; go_simp⟩) ((Below.refl _ _).drew) ?_
      try simp only [Act.put, List.setIfInBounds_toArray, List.set_cons_zero, List.set_cons_succ]
      refine anyH_take 9 26 (undef) rfl rfl (by kernel_rfl) (by kernel_rfl) (by kernel_rfl) (fun _ _ _ h => h) (Or.inr ⟨by rfl, rfl⟩) ((Below.refl _ _).drew) ?_
      try simp only [Act.put, List.setIfInBounds_toArray, List.set_cons_zero, List.set_cons_succ]
      refine anyH_take 10 27 (undef) rfl rfl (by kernel_rfl) (by kernel_rfl) (by kernel_rfl) (fun _ _ _ h => h) (Or.inr ⟨by rfl, rfl⟩) ((Below.refl _ _).drew) ?_
      try simp only [Act.put, List.setIfInBounds_toArray, List.set_cons_zero, List.set_cons_succ]
      refine anyH_take 11 28 (undef) rfl rfl (by kernel_rfl) (by kernel_rfl) (by kernel_rfl) (fun _ _ _ h => h) (Or.inr ⟨by rfl, rfl⟩) ((Below.refl _ _).drew) ?_
      try simp only [Act.put, List.setIfInBounds_toArray, List.set_cons_zero, List.set_cons_succ]
      refine anyH_take 12 29 (undef) rfl rfl (by kernel_rfl) (by kernel_rfl) (by kernel_rfl) (fun _ _ _ h => h) (Or.inr ⟨by rfl, rfl⟩) ((Below.refl _ _).drew) ?_
      try simp only [Act.put, List.setIfInBounds_toArray, List.set_cons_zero, List.set_cons_succ]
      refine anyH_take 13 30 (undef) rfl rfl (by kernel_rfl) (by kernel_rfl) (by kernel_rfl) (fun _ _ _ h => h) (Or.inr ⟨by rfl, rfl⟩) ((Below.refl _ _).drew) ?_
      try simp only [Act.put, List.setIfInBounds_toArray, List.set_cons_zero, List.set_cons_succ]
      refine anyH_take 14 31 (undef) rfl rfl (by kernel_rfl) (by kernel_rfl) (by kernel_rfl) (fun _ _ _ h => h) (Or.inr ⟨by rfl, rfl⟩) ((Below.refl _ _).drew) ?_
      try simp only [Act.put, List.setIfInBounds_toArray, List.set_cons_zero, List.set_cons_succ]
      refine anyH_take 15 32 (undef) rfl rfl (by kernel_rfl) (by kernel_rfl) (by kernel_rfl) (fun _ _ _ h => h) (Or.inr ⟨by rfl, rfl⟩) ((Below.refl _ _).drew) ?_
      try simp only [Act.put, List.setIfInBounds_toArray, List.set_cons_zero, List.set_cons_succ]
      refine anyH_take 16 33 (undef) rfl rfl (by kernel_rfl) (by kernel_rfl) (by kernel_rfl) (fun _ _ _ h => h) (Or.inr ⟨by rfl, rfl⟩) ((Below.refl _ _).drew) ?_
      try simp only [Act.put, List.setIfInBounds_toArray, List.set_cons_zero, List.set_cons_succ]
      refine anyH_take 17 34 (undef) rfl rfl (by kernel_rfl) (by kernel_rfl) (by kernel_rfl) (fun _ _ _ h => h) (Or.inr ⟨by rfl, rfl⟩) ((Below.refl _ _).drew) ?_
      try simp only [Act.put, List.setIfInBounds_toArray, List.set_cons_zero, List.set_cons_succ]
      refine anyH_take 18 35 (undef) rfl rfl (by kernel_rfl) (by kernel_rfl) (by kernel_rfl) (fun _ _ _ h => h) (Or.inr ⟨by rfl, rfl⟩) ((Below.refl _ _).drew) ?_
      try simp only [Act.put, List.setIfInBounds_toArray, List.set_cons_zero, List.set_cons_succ]
      refine anyH_take 19 36 (undef) rfl rfl (by kernel_rfl) (by kernel_rfl) (by kernel_rfl) (fun _ _ _ h => h) (Or.inr ⟨by rfl, rfl⟩) ((Below.refl _ _).drew) ?_
      try simp only [Act.put, List.setIfInBounds_toArray, List.set_cons_zero, List.set_cons_succ]
      refine anyH_take 20 37 (undef) rfl rfl (by kernel_rfl) (by kernel_rfl) (by kernel_rfl) (fun _ _ _ h => h) (Or.inr ⟨by rfl, rfl⟩) ((Below.refl _ _).drew) ?_
      try simp only [Act.put, List.setIfInBounds_toArray, List.set_cons_zero, List.set_cons_succ]
      refine anyH_take 21 38 (.bool false) rfl rfl (by kernel_rfl) (by kernel_rfl) (by kernel_rfl) (fun _ _ _ h => h) (Or.inl ⟨by rfl, by intro w hSw; go_simp⟩) ((Below.refl _ _).drew) ?_
      try simp only [Act.put, List.setIfInBounds_toArray, List.set_cons_zero, List.set_cons_succ]
      refine wpAnyH_done (by kernel_rfl) ?_ _
      have hb9 : Below w.heap.size w (World.drew wr) := hbw.drew
      generalize World.drew wr = W9 at *
      have hkm : m = k := by omega
      subst hkm
      by_cases hlc : m < lc
      · have hlcI : (m : Int) < (lc : Int) := by omega
        clear hkI hkN
        have hkm : m ≤ m := by omega
        have hkI2 : (m : Int) ≤ (m : Int) := by omega
        have hkl : (m : Int) ≤ (lc : Int) := by omega
        have hkz : (0 : Int) ≤ (m : Int) := by omega
        have hca := Lks.cells_at (cap := lc) hls HR.out
        have hAt : ∀ W, Below w.heap.size w W → ∀ j u, (lcs ls)[j]? = some u → W.cell? ⟨g, off + j, none⟩ = some u := fun W b j u hj => (World.cell?_of_block (a := ⟨g, off + j, none⟩) (b.block g hgl)).trans (hca j u hj)
        have HT : Hid (∀ W, Below w.heap.size w W → ∀ j u, (lcs (ls.take m))[j]? = some u → W.cell? ⟨g, off + j, none⟩ = some u) := ⟨fun W b j u hj => hAt W b j u (lcs_take_at hj)⟩
        have HZ : Hid (∀ W, Below w.heap.size w W → ∀ j u, (lcs (ls.drop m))[j]? = some u → W.cell? ⟨g, off + m * 2 + j, none⟩ = some u) := ⟨fun W b j u hj => by
          rw [List.drop_of_length_le (by omega)] at hj
          cases hj⟩
        have l1 : (ls.take m).length = m := by rw [List.length_take]; omega
        have l2 : (ls.drop m).length = 0 := by rw [List.length_drop]; omega
        have l3 : (ls.take m ++ [(⟨min x y, max x y⟩ : LK)] ++ ls.drop m).length = m + 1 + 0 := by rw [List.length_append, List.length_append, l1, l2]; rfl
        have HES : Hid (ls.take (ahd ⟨min x y, max x y⟩ ls) ++ [⟨min x y, max x y⟩] ++ ls.drop (ahd ⟨min x y, max x y⟩ ls) = ls.take m ++ [⟨min x y, max x y⟩] ++ ls.drop m) := ⟨by rw [HA.out]⟩
        have c2 := row_cell (R.below hb9).obj 2 (.slice (some ⟨g, off, none⟩) m lc) rfl
        clear hca hAt HA HK HR
        go_wp2_with (first
          | ((with_reducible show wpList _ _ _ (Oper.mk _ (Op.call { callee := Callee.builtin Builtin.append, args := #[Operand.tmp 41, Operand.tmp 48], argTypes := _ }) _ _ _ _ :: _) _ _); go_must (refine wpList_more_lks rfl _ _ rfl (base := w.heap.size) (k := 0) (es := []) (ls := ls.take m) rfl rfl (World.ownsRow_nil _ _ 65 2) l1 (HT.out _ hb9) (by have := HM.out; omega) hb9.size ?_; intro v1 w2 O2 b2; have b12 := hb9.trans b2))
          | (go_at_call 48; go_must (refine (link_any x y _).mono ?_; rintro e w4 ⟨rfl, b4⟩; have O4 := owns_of_block O2 (fun q hq => b4.block q (O2.lt q hq).2); have b14 := b12.trans (b4.mono b12.size)))
          | ((with_reducible show wpList _ _ _ (Oper.mk _ (Op.buildSlice 23 1 _) _ _ _ _ :: _) _ _); go_must (refine wpList_one65 rfl _ rfl ⟨min x y, max x y⟩ rfl ?_))
          | ((with_reducible show wpList _ _ _ (Oper.mk _ (Op.call { callee := Callee.builtin Builtin.append, args := #[Operand.tmp 50, Operand.tmp 54], argTypes := _ }) _ _ _ _ :: _) _ _); go_must (refine wpList_more_lks rfl _ _ rfl (base := w.heap.size) (k := 0 + m) (es := [] ++ ls.take m) (ls := [(⟨min x y, max x y⟩ : LK)]) (g := w4.heap.size) (off := 0) rfl rfl (O4.alloc _) rfl (fun j u hj => (by rw [Nat.zero_add]; exact row_cell (World.alloc_heap_new w4 _) j u (by simpa [lcs] using hj))) (by have := HM.out; omega) (by have := b14.size; simp; omega) ?_; intro v5 w5 O5 b5; have b15 := (b14.alloc b14.size _).trans b5; have c5 := row_cell (R.below b15).obj 2 (.slice (some ⟨g, off, none⟩) m lc) rfl))
          | ((with_reducible show wpList _ _ _ (Oper.mk _ (Op.call { callee := Callee.builtin Builtin.append, args := #[Operand.tmp 57, Operand.tmp 64], argTypes := _ }) _ _ _ _ :: _) _ _); go_must (refine wpList_more_lks rfl _ _ rfl (base := w.heap.size) (k := 0 + m + 1) (es := [] ++ ls.take m ++ [(⟨min x y, max x y⟩ : LK)]) (ls := ls.drop m) (g := g) (off := off + m * 2) rfl rfl O5 l2 (HZ.out _ b15) (by have := HM.out; omega) b15.size ?_; intro v6 w6 O6 b6; have b16 := b15.trans b6; rw [List.nil_append, Nat.zero_add] at O6; obtain ⟨la', lc', rfl, K6, hnew⟩ := own_lks O6 l3; have R6 := R.below b16; have e2 := row_cell R6.obj 2 (.slice (some ⟨g, off, none⟩) m lc) rfl; have f2 := row_free R6.obj 2; have RD := rlinks_done R b16 l3 O6; obtain ⟨oD, la1, lc1, RA, hn1⟩ := RD; have KL := rlose_way r next a n cap ds la1 _ lc1 _ x y _ RA hn))
          | (go_at_call 49; go_must (refine KL.mono ?_; clear KL; rintro e w7 hL; have HLL := hL; obtain ⟨rfl, _⟩ := hL)))
        all_goals go_ret
        all_goals exact ⟨_, HES.out.symm, _, la1, lc1, oD, RA, hn1, HLL⟩
      · have hlc2 : m = lc := by omega
        clear hlc
        subst hlc2
        clear hkI hkN
        have hkm : m ≤ m := by omega
        have hkI2 : (m : Int) ≤ (m : Int) := by omega
        have hkl : (m : Int) ≤ (m : Int) := by omega
        have hkz : (0 : Int) ≤ (m : Int) := by omega
        have hca := Lks.cells_at (cap := m) hls HR.out
        have hAt : ∀ W, Below w.heap.size w W → ∀ j u, (lcs ls)[j]? = some u → W.cell? ⟨g, off + j, none⟩ = some u := fun W b j u hj => (World.cell?_of_block (a := ⟨g, off + j, none⟩) (b.block g hgl)).trans (hca j u hj)
        have HT : Hid (∀ W, Below w.heap.size w W → ∀ j u, (lcs (ls.take m))[j]? = some u → W.cell? ⟨g, off + j, none⟩ = some u) := ⟨fun W b j u hj => hAt W b j u (lcs_take_at hj)⟩
        have HZ : Hid (∀ W, Below w.heap.size w W → ∀ j u, (lcs (ls.drop m))[j]? = some u → W.cell? ⟨g, off + j, none⟩ = some u) := ⟨fun W b j u hj => by
          rw [List.drop_of_length_le (by omega)] at hj
          cases hj⟩
        have l1 : (ls.take m).length = m := by rw [List.length_take]; omega
        have l2 : (ls.drop m).length = 0 := by rw [List.length_drop]; omega
        have l3 : (ls.take m ++ [(⟨min x y, max x y⟩ : LK)] ++ ls.drop m).length = m + 1 + 0 := by rw [List.length_append, List.length_append, l1, l2]; rfl
        have HES : Hid (ls.take (ahd ⟨min x y, max x y⟩ ls) ++ [⟨min x y, max x y⟩] ++ ls.drop (ahd ⟨min x y, max x y⟩ ls) = ls.take m ++ [⟨min x y, max x y⟩] ++ ls.drop m) := ⟨by rw [HA.out]⟩
        have c2 := row_cell (R.below hb9).obj 2 (.slice (some ⟨g, off, none⟩) m m) rfl
        clear hca hAt HA HK HR
        go_wp2_with (first
          | ((with_reducible show wpList _ _ _ (Oper.mk _ (Op.call { callee := Callee.builtin Builtin.append, args := #[Operand.tmp 41, Operand.tmp 48], argTypes := _ }) _ _ _ _ :: _) _ _); go_must (refine wpList_more_lks rfl _ _ rfl (base := w.heap.size) (k := 0) (es := []) (ls := ls.take m) rfl rfl (World.ownsRow_nil _ _ 65 2) l1 (HT.out _ hb9) (by have := HM.out; omega) hb9.size ?_; intro v1 w2 O2 b2; have b12 := hb9.trans b2))
          | (go_at_call 48; go_must (refine (link_any x y _).mono ?_; rintro e w4 ⟨rfl, b4⟩; have O4 := owns_of_block O2 (fun q hq => b4.block q (O2.lt q hq).2); have b14 := b12.trans (b4.mono b12.size)))
          | ((with_reducible show wpList _ _ _ (Oper.mk _ (Op.buildSlice 23 1 _) _ _ _ _ :: _) _ _); go_must (refine wpList_one65 rfl _ rfl ⟨min x y, max x y⟩ rfl ?_))
          | ((with_reducible show wpList _ _ _ (Oper.mk _ (Op.call { callee := Callee.builtin Builtin.append, args := #[Operand.tmp 50, Operand.tmp 54], argTypes := _ }) _ _ _ _ :: _) _ _); go_must (refine wpList_more_lks rfl _ _ rfl (base := w.heap.size) (k := 0 + m) (es := [] ++ ls.take m) (ls := [(⟨min x y, max x y⟩ : LK)]) (g := w4.heap.size) (off := 0) rfl rfl (O4.alloc _) rfl (fun j u hj => (by rw [Nat.zero_add]; exact row_cell (World.alloc_heap_new w4 _) j u (by simpa [lcs] using hj))) (by have := HM.out; omega) (by have := b14.size; simp; omega) ?_; intro v5 w5 O5 b5; have b15 := (b14.alloc b14.size _).trans b5; have c5 := row_cell (R.below b15).obj 2 (.slice (some ⟨g, off, none⟩) m m) rfl))
          | ((with_reducible show wpList _ _ _ (Oper.mk _ (Op.call { callee := Callee.builtin Builtin.append, args := #[Operand.tmp 57, Operand.tmp 64], argTypes := _ }) _ _ _ _ :: _) _ _); go_must (refine wpList_more_lks rfl _ _ rfl (base := w.heap.size) (k := 0 + m + 1) (es := [] ++ ls.take m ++ [(⟨min x y, max x y⟩ : LK)]) (ls := ls.drop m) (g := g) (off := off) rfl rfl O5 l2 (HZ.out _ b15) (by have := HM.out; omega) b15.size ?_; intro v6 w6 O6 b6; have b16 := b15.trans b6; rw [List.nil_append, Nat.zero_add] at O6; obtain ⟨la', m', rfl, K6, hnew⟩ := own_lks O6 l3; have R6 := R.below b16; have e2 := row_cell R6.obj 2 (.slice (some ⟨g, off, none⟩) m m) rfl; have f2 := row_free R6.obj 2; have RD := rlinks_done R b16 l3 O6; obtain ⟨oD, la1, lc1, RA, hn1⟩ := RD; have KL := rlose_way r next a n cap ds la1 _ lc1 _ x y _ RA hn))
          | (go_at_call 49; go_must (refine KL.mono ?_; clear KL; rintro e w7 hL; have HLL := hL; obtain ⟨rfl, _⟩ := hL)))
        all_goals go_ret
        all_goals exact ⟨_, HES.out.symm, _, la1, lc1, oD, RA, hn1, HLL⟩
end Go.Proofs.Ytoppecppmjpgiaa
