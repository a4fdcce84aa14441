/-
  Package dir: learn.
-/
import Derived.Test.YtoeebofappbneaaGreatP4b
namespace Go.Proofs.YtoeebofappbneaaGreat
open Go.ChangeShapes Go.WideShapes Go.ChangeAt Go.RowKit Go.Maps Go.Shelf
set_option linter.unusedVariables false
set_option linter.unusedSimpArgs false
attribute [local go_sem] Oper.semAt_some

theorem exec_new {o : Oper} {t : TypeId} {v : Value} {X : World} {ρ : Operand → Value} (ho : o.op = .alloc t) (hz : ∀ W, (zeroValue t).run Tryz.prog W = .ok v W) (hv : v.cells = #[v]) : (execOp ρ o).run Tryz.prog X = .ok (.value (.pointer (some ⟨X.heap.size, 0, none⟩))) (X.alloc (.cells #[v] t)) := by
  unfold execOp
  simp only [ho, Sem.run_bind, Instr.alloc, hz, Result.andThen_ok, newVar, newRow, run_newObj_alloc, Sem.run_pure, hv]
theorem zero24 (W : World) : (zeroValue 44).run Tryz.prog W = .ok (.slice none 0 0) W := by kernel_rfl
theorem zero3 (W : World) : (zeroValue 3).run Tryz.prog W = .ok (.int .i64 0) W := by kernel_rfl
theorem at_putObj {W : World} {k : Nat} {c : Array Value} {t : TypeId} (h : At W k c t) {l : Nat} (hl : l < k) (o : Obj) : At (W.putObj l o) k c t := (World.putObj_heap_other (by omega)).trans h
theorem wpIn_cell3 {F : Fence} {n : Nat} {o : Oper} {A : Act} {w W : World} {l : List Blk} {Q : Exit → Act → World → Prop} {N : Nat} {C : Nat → Prop} {K : Act → World → Prop} (M : MemG N C w W l) (x : Operand) (ho : o.op = .load 3 x) {k i : Nat} {c : Array Value} {T : TypeId} (m : Int) (hx : A.eval x = .pointer (some ⟨k, i, none⟩)) (hk : (k, c, T) ∈ l) (hv : c[i]? = some (.int .i64 m))
    (H : K (A.put o.dst (.int .i64 m)) W) : o.wpIn F n Tryz.prog A W K Q := by
  have hc := row_cell (M.get hk) i _ hv
  have hr : (execOp A.eval o).run Tryz.prog W = .ok (.value (.int .i64 m)) W := by
    unfold execOp
    simp only [ho, hx]
    go_simp
  exact wpIn_plain (by simp [Oper.about, ho]) (by rw [ho]; intro c h; cases h) hr H
/-- What learn returns. -/
def AnsL (w : World) (l : List CH) (x : Int) (e : Ending) (w' : World) : Prop := ∃ a' cap', e = .returned (.tuple #[.slice a' l.length cap', .int .i64 x]) ∧ LstC w' a' l.length cap' l ∧ (∀ g off, a' = some ⟨g, off, none⟩ → w.heap.size ≤ g) ∧ Below w.heap.size w w'
theorem GL_len (z : List (FO × FO)) : ∀ r, (GL r z).length ≤ z.length := by
  induction z with
  | nil => intro r; exact Nat.le_refl _
  | cons x z ih =>
    intro r
    rw [GL_cons, List.length_append]
    have := ih (rm x.1 x.2 r)
    have h2 : (std x r).toList.length ≤ 1 := by cases std x r <;> simp
    simp only [List.length_cons]
    omega
theorem zp_len : ∀ (f : Nat) (l m : List CH), (zp f l m).length ≤ f
  | 0, l, m => by simp [zp]
  | f + 1, [], [] => by simp [zp]
  | f + 1, a :: at9, [] => by simp only [zp, List.length_cons]; have := zp_len f at9 []; omega
  | f + 1, [], b :: bs => by simp only [zp, List.length_cons]; have := zp_len f [] bs; omega
  | f + 1, a :: at9, b :: bs => by
    simp only [zp]
    have h1 := zp_len f at9 (b :: bs)
    have h2 := zp_len f (a :: at9) bs
    have h3 := zp_len f at9 bs
    split
    · simp only [List.length_cons]; omega
    · split <;> (simp only [List.length_cons]; omega)
theorem Z_len (l m : List CH) : (Z l m).length ≤ l.length + m.length := zp_len _ _ _
theorem rm_le (x y : FO) (r : Int) : rm x y r ≤ r ∧ r - 1 ≤ rm x y r := by
  unfold rm
  split
  · split <;> omega
  · omega
theorem rmK_rng : ∀ (z : List (FO × FO)) (r : Int), rmK r z ≤ r ∧ r - z.length ≤ rmK r z
  | [], r => by simp [rmK]
  | x :: z, r => by
    have h1 := rm_le x.1 x.2 r
    have h2 := rmK_rng z (rm x.1 x.2 r)
    simp only [rmK, List.length_cons]
    omega
set_option maxRecDepth 100000 in
set_option maxHeartbeats 8000000 in
theorem learn_any (a : Option Addr) (n cap : Nat) (l : List CH) (a' : Option Addr) (n' cap' : Nat) (m : List CH) (w : World) (hr : RdC w a n cap l) (hr' : RdC w a' n' cap' m) (hn : n ≤ 1000) (hn' : n' ≤ 1000) :
    Calls Tryz.prog 86 #[.slice a n cap, .slice a' n' cap'] w (AnsL w (GL (8 - (n : Int)) (Z l m)) (GW (8 - (n : Int)) 0 (Z l m))) := by
  have HLn : Hid (l.length = n) := hr.size
  have HLm : Hid (m.length = n') := hr'.size
  have HN : Hid (n ≤ 1000 ∧ n' ≤ 1000) := ⟨hn, hn'⟩
  have M := Mem.nil w
  have hw8 : IntKind.i64.wrap (8 - (n : Int)) = 8 - (n : Int) := by rw [IntKind.wrap_i64]; omega
  obtain ⟨L, hLL⟩ : ∃ L, GL (8 - (n : Int)) (Z l m) = L := ⟨_, rfl⟩
  obtain ⟨X, hXX⟩ : ∃ X, GW (8 - (n : Int)) 0 (Z l m) = X := ⟨_, rfl⟩
  rw [hLL, hXX]
  have HLL : Hid (GL (8 - (n : Int)) (Z l m) = L) := hLL
  have HXX : Hid (GW (8 - (n : Int)) 0 (Z l m) = X) := hXX
  clear hn hn' hLL hXX
  refine (callsIn_wide (n := 2)).1 ?_
  refine callsIn_of_wp_marks Tryz.func86 rfl trivial ?_
  simp only [Tryz.ntmps86, List.size_toArray, List.length_cons, List.length_nil, Nat.reduceAdd, Nat.reduceSub, Array.replicate_succ, Array.replicate_zero, List.push_toArray, List.append_toArray, List.nil_append, List.cons_append]
  gi_wp2_with (first
      | ((with_reducible show wpListIn _ _ _ _ _ (Oper.mk (some 6) (Op.alloc 44) _ _ _ _ :: _) _ _); refine wpListIn_new M rfl (.slice none 0 0) rfl (fun ρ X => exec_new rfl zero24 rfl) ?_; clear M; intro k6 W6 M)
      | ((with_reducible show wpListIn _ _ _ _ _ (Oper.mk (some 7) (Op.alloc 3) _ _ _ _ :: _) _ _); refine wpListIn_new M rfl (.int .i64 0) rfl (fun ρ X => exec_new rfl zero3 rfl) ?_; clear M; intro k7 W7 M)
      | ((with_reducible show wpListIn _ _ _ _ _ (Oper.mk (some 8) (Op.alloc 3) _ _ _ _ :: _) _ _); refine wpListIn_new M rfl (.int .i64 0) rfl (fun ρ X => exec_new rfl zero3 rfl) ?_; clear M; intro k8 W8 M)
      | ((with_reducible show wpListIn _ _ _ _ _ (Oper.mk _ (Op.store 3 (Operand.tmp 7) _) _ _ _ _ :: _) _ _); refine wpListIn_set3 M rfl _ _ rfl 1 _ _ rfl rfl rfl (by rfl) ?_; clear M; intro W9 M; simp only [List.set_cons_zero, List.set_cons_succ, List.setIfInBounds_toArray] at M)
      | ((with_reducible show wpListIn _ _ _ _ _ (Oper.mk _ (Op.store 3 (Operand.tmp 8) _) _ _ _ _ :: _) _ _); refine wpListIn_set3 M rfl _ _ rfl 0 _ _ rfl rfl rfl (by rfl) ?_; clear M; intro W9 M; simp only [List.set_cons_zero, List.set_cons_succ, List.setIfInBounds_toArray] at M)
      | (refine ⟨trivial, ?_⟩; gi_at_call 105; refine (callsIn_wide.2 (bynameM_any M a a' n n' cap cap')).mono ?_; clear M; rintro e WR ⟨f1, f2, rfl, M⟩))
  have lt8 := M.lt (k := k8) (.tail _ (.tail _ (.head _)))
  have lt7 := M.lt (k := k7) (.tail _ (.tail _ (.tail _ (.head _))))
  have lt6 := M.lt (k := k6) (.tail _ (.tail _ (.tail _ (.tail _ (.head _)))))
  have ltf1 := M.lt (k := f1) (.tail _ (.head _))
  have ltf2 := M.lt (k := f2) (.head _)
  have hsR : w.heap.size ≤ WR.heap.size := M.below.size
  have HL : Hid (f1 < WR.heap.size ∧ f2 < WR.heap.size ∧ k6 < WR.heap.size ∧ k7 < WR.heap.size ∧ k8 < WR.heap.size ∧ w.heap.size ≤ WR.heap.size) := ⟨ltf1, ltf2, lt6, lt7, lt8, hsR⟩
  have L0 : LI w f1 f2 k6 k7 k8 (.slice a n cap) (.slice a' n' cap') (8 - (n : Int)) (Z l m) 0 (fun _ => False) WR := by
    refine ⟨Nat.zero_le _, .slice none 0 0, ?_, World.ownsRow_nil _ _ _ _, fun g => ⟨fun h => h.elim, fun h => by cases h⟩⟩
    have nd := M.nd
    simp only [List.map_cons, List.map_nil, List.nodup_cons, List.mem_cons, List.not_mem_nil, or_false, not_or, List.nodup_nil, and_true, not_false_eq_true] at nd
    refine ⟨M.same, M.ns, M.cb, fun p hp => M.at_ p (by simp only [List.mem_cons, List.not_mem_nil, or_false] at hp ⊢; rcases hp with rfl | rfl | rfl | rfl | rfl <;> simp [GW, rmK]), ?_⟩
    simp only [List.map_cons, List.map_nil, List.nodup_cons, List.mem_cons, List.not_mem_nil, or_false, not_or, List.nodup_nil, and_true, not_false_eq_true]
    omega
  have HZL : Hid ((Z l m).length ≤ n + n') := by show _ ≤ _; have := Z_len l m; rw [HLn.out, HLm.out] at this; exact this
  clear M lt8 lt7 lt6 ltf1 ltf2 hsR
  refine range_turns (gf := 113) (lb := #[.pointer (some ⟨f1, 0, none⟩), .pointer (some ⟨f2, 0, none⟩)]) (by first | rfl | simp) (enters_of Tryz.func113 (by kernel_rfl) rfl)
    (byname_gives w f1 f2 a n cap l a' n' cap' m WR hr hr') (Below.refl _ _) (fun _ => rfl)
    (LI w f1 f2 k6 k7 k8 (.slice a n cap) (.slice a' n' cap') (8 - (n : Int)) (Z l m))
    (fun c C W => False)
    (fun k C A h => h.keep)
    (fun k C A B h s => h.same s HL.out.2.2.2.2.2 HL.out.1 HL.out.2.1 HL.out.2.2.1 HL.out.2.2.2.1 HL.out.2.2.2.2.1)
    (fun c C A B h s => h)
    L0
    (fun x a2 W => ∃ k9 k10, a2 = { tmps := #[.slice a n cap, .slice a' n' cap', undef, undef, .slice none 0 0, .int .i64 0, .pointer (some ⟨k6, 0, none⟩), .pointer (some ⟨k7, 0, none⟩), .pointer (some ⟨k8, 0, none⟩), .pointer (some ⟨k9, 0, none⟩), .pointer (some ⟨k10, 0, none⟩), undef, .slice a n cap, .int .i64 (n : Int), .int .i64 (8 - (n : Int)), .slice a n cap, .slice a' n' cap', .func (.func 113) #[] #[.pointer (some ⟨f1, 0, none⟩), .pointer (some ⟨f2, 0, none⟩)], .agg (fcs x.1), .agg (fcs x.2), undef, undef, undef, undef, undef, undef, undef, undef, undef, undef, undef, undef, undef, undef, undef, undef, undef, undef, undef, undef, undef, undef, undef, undef, undef, undef], defers := [] } ∧ At W k9 (fcs x.1) 125 ∧ At W k10 (fcs x.2) 125 ∧ k9 ≠ k10 ∧ WR.heap.size + 2 ≤ k9 ∧ WR.heap.size + 2 ≤ k10)
    ?putObj ?assign ?body ?done ?stop
  case putObj =>
    rintro x a2 A o ⟨k9, k10, h1, h2, h3, h4, h5, h6⟩
    exact ⟨k9, k10, h1, at_putObj h2 (by omega) o, at_putObj h3 (by omega) o, h4, h5, h6⟩
  case assign =>
    rintro k x W C K hi hs' hK
    have M := Mem.nil W
    simp only [encF, List.zip_toArray, List.zip_cons_cons, List.zip_nil_right, List.zip_nil_left, List.foldl_toArray, List.foldl_toArray', List.foldl_cons, List.foldl_nil, List.size_toArray, List.length_cons, List.length_nil, List.setIfInBounds_toArray, List.set_cons_zero, List.set_cons_succ]
    gi_wp2_with (first
      | ((with_reducible show wpListIn _ _ _ _ _ (Oper.mk (some 9) (Op.alloc 125) _ _ _ _ :: _) _ _); refine wpListIn_alloc M rfl rfl rt68 ?_; clear M; intro k9 W9 M)
      | ((with_reducible show wpListIn _ _ _ _ _ (Oper.mk (some 10) (Op.alloc 125) _ _ _ _ :: _) _ _); refine wpListIn_alloc M rfl rfl rt68 ?_; clear M; intro k10 W9 M)
      | ((with_reducible show wpListIn _ _ _ _ _ (Oper.mk _ (Op.store 125 _ _) _ _ _ _ :: _) _ _); refine wpListIn_put M rfl _ _ rfl rt68 0 _ rfl rfl rfl (by first | rfl | exact fcs_size _) (by first | rfl | exact fcs_size _) (by first | exact fcs_one _ | simp [Value.oneCell']) ?_; clear M; intro W9 M; simp only [List.set_cons_zero, List.set_cons_succ, List.setIfInBounds_toArray] at M))
    have nd := M.nd
    simp only [List.map_cons, List.map_nil, List.nodup_cons, List.mem_cons, List.not_mem_nil, or_false, not_or, List.nodup_nil, and_true, not_false_eq_true] at nd
    refine hK _ _ ⟨k9, k10, rfl, M.get (.tail _ (.head _)), M.get (.head _), fun e => nd e.symm, ?_, ?_⟩ M.below
    · have := M.ge (k := k9) (.tail _ (.head _)); omega
    · have := M.ge (k := k10) (.head _); omega
  case body =>
    rintro k x C a2 W hLI ⟨k9, k10, rfl, h9, h10, h4, h5, h6⟩ hx hs' hC
    have hk1 : k < (Z l m).length := (List.getElem?_eq_some_iff.1 hx).1
    obtain ⟨v, M, O, hc⟩ := hLI.open HL.out.2.2.1 HL.out.2.2.2.1 HL.out.2.2.2.2.1 h9 h10 (by omega) (by omega) h4
    have hrng := rmK_rng ((Z l m).take k) (8 - (n : Int))
    obtain ⟨r, hrr⟩ : ∃ r, rmK (8 - (n : Int)) ((Z l m).take k) = r := ⟨_, rfl⟩
    obtain ⟨wh, hwh⟩ : ∃ wh, GW (8 - (n : Int)) 0 ((Z l m).take k) = wh := ⟨_, rfl⟩
    obtain ⟨ds, hds⟩ : ∃ ds, GL (8 - (n : Int)) ((Z l m).take k) = ds := ⟨_, rfl⟩
    have hdl : ds.length ≤ 2000 := by
      have h7 := GL_len ((Z l m).take k) (8 - (n : Int))
      rw [hds, List.length_take] at h7
      have := HZL.out; have := HN.out; omega
    obtain ⟨av, cv, rfl⟩ : ∃ av cv, v = .slice av ds.length cv := by
      rw [hds] at O
      rcases O.2 with ⟨e, h0⟩ | ⟨g, cp, cur, e, _⟩
      · exact ⟨_, _, by rw [e, h0]⟩
      · exact ⟨_, _, e⟩
    have HDL : Hid (ds.length ≤ 2000) := hdl
    have FIN := fun (W' : World) (v' : Value) (wh' r' : Int) (ds' : List CH) (M' : MemG 0 (fun b => rndC W k6 k7 k8 k9 k10 b ∧ ¬ C b) W W' [(k10, fcs x.2, 125), (k9, fcs x.1, 125), (k8, #[.int .i64 wh'], 3), (k7, #[.int .i64 r'], 3), (k6, #[v'], 44)]) O' p1 p2 p3 p4 => LI.fin (v' := v') (wh := wh') (r := r') (ds := ds') hLI HL.out.2.2.2.2.2 HL.out.1 HL.out.2.1 HL.out.2.2.1 HL.out.2.2.2.1 HL.out.2.2.2.2.1 h9 h10 (by omega) (by omega) (fun b hb => ⟨by have := (hC b hb).1; omega, (hC b hb).2⟩) hx M' O' p1 p2 p3 p4
    rw [hrr, hwh, hds] at FIN
    rw [hrr, hwh] at M
    rw [hds] at O
    rw [hrr] at hrng
    have hOB : ∀ g, (Value.slice av ds.length cv).ownBlock = some g → ∀ q, q = k10 ∨ q = k9 ∨ q = k8 ∨ q = k7 ∨ q = k6 → q ≠ g := fun g hg q hq => by
      refine Ne.symm ?_
      rcases hq with rfl | rfl | rfl | rfl | rfl
      · exact owns_at O hg (M.get (.head _)) (by decide)
      · exact owns_at O hg (M.get (.tail _ (.head _))) (by decide)
      · exact owns_at O hg (M.get (.tail _ (.tail _ (.head _)))) (by decide)
      · exact owns_at O hg (M.get (.tail _ (.tail _ (.tail _ (.head _))))) (by decide)
      · exact owns_at O hg (M.get (.tail _ (.tail _ (.tail _ (.tail _ (.head _)))))) (by decide)
    have hOD : ∀ g, (Value.slice av ds.length cv).ownBlock = some g → rndC W k6 k7 k8 k9 k10 g := fun g hg => by
      have h7 := hOB g hg
      exact ⟨(O.lt g hg).2, fun e => h7 g (by simp [e]) rfl, fun e => h7 g (by simp [e]) rfl, fun e => h7 g (by simp [e]) rfl, fun e => h7 g (by simp [e]) rfl, fun e => h7 g (by simp [e]) rfl⟩
    have hO2 : ∀ (X : World) (y : FO) k11 W0 D, MemG 0 D W0 X [(k11, fcs y, 125), (k10, fcs x.2, 125), (k9, fcs x.1, 125), (k8, #[.int .i64 wh], 3), (k7, #[.int .i64 r], 3), (k6, #[.slice av ds.length cv], 44)] → True := fun _ _ _ _ _ _ => trivial
    clear hO2
    have HOB : Hid (∀ g, (Value.slice av ds.length cv).ownBlock = some g → ∀ q, q = k10 ∨ q = k9 ∨ q = k8 ∨ q = k7 ∨ q = k6 → q ≠ g) := hOB
    have HOD : Hid (∀ g, (Value.slice av ds.length cv).ownBlock = some g → rndC W k6 k7 k8 k9 k10 g) := hOD
    have HFI : Hid (∀ (W' : World) (v' : Value) (wh' r' : Int) (ds' : List CH), MemG 0 (fun b => rndC W k6 k7 k8 k9 k10 b ∧ ¬ C b) W W' [(k10, fcs x.2, 125), (k9, fcs x.1, 125), (k8, #[.int .i64 wh'], 3), (k7, #[.int .i64 r'], 3), (k6, #[v'], 44)] → W'.ownsRow w.heap.size 47 6 v' ds'.length (csC ds') → wh' = whx x r wh → r' = rm x.1 x.2 r → ds' = ds ++ (std x r).toList → (∀ g, v'.ownBlock = some g → C g ∨ W.heap.size ≤ g) → ∃ C', LI w f1 f2 k6 k7 k8 (.slice a n cap) (.slice a' n' cap') (8 - (n : Int)) (Z l m) (k + 1) C' W' ∧ Turn WR.heap.size C C' W W') := FIN
    have HC : Hid (∀ g, C g ↔ (Value.slice av ds.length cv).ownBlock = some g) := hc
    have HWS : Hid (w.heap.size ≤ W.heap.size) := by show _ ≤ _; have := HL.out; omega
    have HR9 : Hid (r ≤ 8 ∧ -10000 ≤ r) := by show _ ∧ _; have h7 := hrng; rw [List.length_take] at h7; have := HZL.out; have := HN.out; omega
    have hwr : IntKind.i64.wrap (r - 1) = r - 1 := by rw [IntKind.wrap_i64]; have := HR9.out; omega
    clear hrng hrr hwh hds hdl FIN hOB hOD hc hLI h9 h10 h4 h5 h6 hx hs' hC hk1 hr hr' L0
    obtain ⟨x1, x2⟩ := x
    dsimp only at M HFI ⊢
    have NOAPP : ∀ (W' : World) (wh' r' : Int) (k11 : Nat) (c11 : Array Value), MemG 0 (rndC W k6 k7 k8 k9 k10) W W' [(k11, c11, 125), (k10, fcs x2, 125), (k9, fcs x1, 125), (k8, #[.int .i64 wh'], 3), (k7, #[.int .i64 r'], 3), (k6, #[.slice av ds.length cv], 44)] → wh' = whx (x1, x2) r wh → r' = rm x1 x2 r → std (x1, x2) r = none → ∃ C', LI w f1 f2 k6 k7 k8 (.slice a n cap) (.slice a' n' cap') (8 - (n : Int)) (Z l m) (k + 1) C' W' ∧ Turn WR.heap.size C C' W W' := fun W' wh' r' k11 c11 M' p1 p2 p3 =>
      HFI.out W' _ wh' r' ds (M'.tail.weak (fun b h => h.1)) (owns_of_block O (fun g hg => M'.same.block g (O.lt g hg).2 (.inr (HOD.out g hg)))) p1 p2 (by rw [p3]; simp) (fun g hg => .inl ((HC.out g).2 hg))
    have APP : ∀ (y : CH) (wh' r' : Int), wh' = whx (x1, x2) r wh → r' = rm x1 x2 r → std (x1, x2) r = some y → ∀ (W' : World) (g cap2 : Nat), MemG 0 (fun b => rndC W k6 k7 k8 k9 k10 b ∧ ¬ (Value.slice av ds.length cv).ownBlock = some b) W W' [(k10, fcs x2, 125), (k9, fcs x1, 125), (k8, #[.int .i64 wh'], 3), (k7, #[.int .i64 r'], 3), (k6, #[.slice (some ⟨g, 0, none⟩) (ds.length + 1) cap2], 44)] → W'.ownsRow w.heap.size 47 6 (.slice (some ⟨g, 0, none⟩) (ds.length + 1) cap2) (ds.length + 1) (csC ds ++ y.cells) → (∀ g', (Value.slice (some ⟨g, 0, none⟩) (ds.length + 1) cap2).ownBlock = some g' → (Value.slice av ds.length cv).ownBlock = some g' ∨ W.heap.size ≤ g') → ∃ C', LI w f1 f2 k6 k7 k8 (.slice a n cap) (.slice a' n' cap') (8 - (n : Int)) (Z l m) (k + 1) C' W' ∧ Turn WR.heap.size C C' W W' := fun y wh' r' p1 p2 p3 W' g cap2 M' O' hv' =>
      HFI.out W' _ wh' r' (ds ++ [y]) (M'.weak (fun b h => ⟨h.1, fun e => h.2 ((HC.out b).2 e)⟩)) (by rw [csC_snoc, List.length_append]; exact O') p1 p2 (by rw [p3]; rfl) (fun g' hg' => (hv' g' hg').imp (fun e => (HC.out g').2 e) _root_.id)
    have HNO : Hid (∀ (W' : World) (wh' r' : Int) (k11 : Nat) (c11 : Array Value), MemG 0 (rndC W k6 k7 k8 k9 k10) W W' [(k11, c11, 125), (k10, fcs x2, 125), (k9, fcs x1, 125), (k8, #[.int .i64 wh'], 3), (k7, #[.int .i64 r'], 3), (k6, #[.slice av ds.length cv], 44)] → wh' = whx (x1, x2) r wh → r' = rm x1 x2 r → std (x1, x2) r = none → ∃ C', LI w f1 f2 k6 k7 k8 (.slice a n cap) (.slice a' n' cap') (8 - (n : Int)) (Z l m) (k + 1) C' W' ∧ Turn WR.heap.size C C' W W') := NOAPP
    have HAP : Hid (∀ (y : CH) (wh' r' : Int), wh' = whx (x1, x2) r wh → r' = rm x1 x2 r → std (x1, x2) r = some y → ∀ (W' : World) (g cap2 : Nat), MemG 0 (fun b => rndC W k6 k7 k8 k9 k10 b ∧ ¬ (Value.slice av ds.length cv).ownBlock = some b) W W' [(k10, fcs x2, 125), (k9, fcs x1, 125), (k8, #[.int .i64 wh'], 3), (k7, #[.int .i64 r'], 3), (k6, #[.slice (some ⟨g, 0, none⟩) (ds.length + 1) cap2], 44)] → W'.ownsRow w.heap.size 47 6 (.slice (some ⟨g, 0, none⟩) (ds.length + 1) cap2) (ds.length + 1) (csC ds ++ y.cells) → (∀ g', (Value.slice (some ⟨g, 0, none⟩) (ds.length + 1) cap2).ownBlock = some g' → (Value.slice av ds.length cv).ownBlock = some g' ∨ W.heap.size ≤ g') → ∃ C', LI w f1 f2 k6 k7 k8 (.slice a n cap) (.slice a' n' cap') (8 - (n : Int)) (Z l m) (k + 1) C' W' ∧ Turn WR.heap.size C C' W W') := APP
    clear NOAPP APP HFI HC
    cases x2 with
    | none =>
      cases x1 with
      | none =>
        gi_wp2_with (first
      | ((with_reducible show wpListIn _ _ _ _ _ (Oper.mk _ (Op.load 125 _) _ _ _ _ :: _) _ _); refine wpListIn_load M rfl _ rfl rt68 rfl (by first | exact .head _ | exact .tail _ (.head _) | exact .tail _ (.tail _ (.head _)) | exact .tail _ (.tail _ (.tail _ (.head _))) | exact .tail _ (.tail _ (.tail _ (.tail _ (.head _)))) | exact .tail _ (.tail _ (.tail _ (.tail _ (.tail _ (.head _)))))) (by first | rfl | exact fcs_size _) ?_)
      | ((with_reducible show wpListIn _ _ _ _ _ (Oper.mk (some 11) (Op.alloc 125) _ _ _ _ :: _) _ _); refine wpListIn_alloc M rfl rfl rt68 ?_; clear M; intro k11 W9 M)
      | ((with_reducible show wpListIn _ _ _ _ _ (Oper.mk _ (Op.store 125 _ _) _ _ _ _ :: _) _ _); refine wpListIn_put M rfl _ _ rfl rt68 0 _ rfl rfl rfl (by first | rfl | exact fcs_size _) (by first | rfl | exact fcs_size _) (by first | exact fcs_one _ | simp [Value.oneCell']) ?_; clear M; intro W9 M; simp only [List.set_cons_zero, List.set_cons_succ, List.setIfInBounds_toArray] at M)
      | ((with_reducible show wpListIn _ _ _ _ _ (Oper.mk _ (Op.load 4 _) _ _ _ _ :: _) _ _); refine wpListIn_cell4 M rfl _ rfl _ rfl (by first | exact .head _ | exact .tail _ (.head _) | exact .tail _ (.tail _ (.head _)) | exact .tail _ (.tail _ (.tail _ (.head _))) | exact .tail _ (.tail _ (.tail _ (.tail _ (.head _)))) | exact .tail _ (.tail _ (.tail _ (.tail _ (.tail _ (.head _)))))) (by rfl) ?_)
      | ((with_reducible show wpListIn _ _ _ _ _ (Oper.mk _ (Op.load 3 _) _ _ _ _ :: _) _ _); refine wpListIn_cell3 M rfl _ rfl _ rfl (by first | exact .head _ | exact .tail _ (.head _) | exact .tail _ (.tail _ (.head _)) | exact .tail _ (.tail _ (.tail _ (.head _))) | exact .tail _ (.tail _ (.tail _ (.tail _ (.head _)))) | exact .tail _ (.tail _ (.tail _ (.tail _ (.tail _ (.head _)))))) (by rfl) ?_)
      | ((with_reducible show wpListIn _ _ _ _ _ (Oper.mk _ (Op.store 3 (Operand.tmp 8) _) _ _ _ _ :: _) _ _); refine wpListIn_set3 M rfl _ _ rfl 3 _ _ rfl rfl rfl (by rfl) ?_; clear M; intro W9 M; simp only [List.set_cons_zero, List.set_cons_succ, List.setIfInBounds_toArray] at M)
      | ((with_reducible show wpListIn _ _ _ _ _ (Oper.mk _ (Op.store 3 (Operand.tmp 7) _) _ _ _ _ :: _) _ _); refine wpListIn_set3 M rfl _ _ rfl 4 _ _ rfl rfl rfl (by rfl) ?_; clear M; intro W9 M; simp only [List.set_cons_zero, List.set_cons_succ, List.setIfInBounds_toArray] at M))
        exact HNO.out _ _ _ _ _ M (by rfl) (by rfl) (by first | rfl | exact if_pos HV.out.2 | exact if_neg (by have := HV.out.2; omega) | exact if_neg (by rw [HV.out.2]; decide))
      | some y =>
        obtain ⟨nm, ep, mr, al, kd, sc⟩ := y
        gi_wp2_with (first
      | ((with_reducible show wpListIn _ _ _ _ _ (Oper.mk _ (Op.load 125 _) _ _ _ _ :: _) _ _); refine wpListIn_load M rfl _ rfl rt68 rfl (by first | exact .head _ | exact .tail _ (.head _) | exact .tail _ (.tail _ (.head _)) | exact .tail _ (.tail _ (.tail _ (.head _))) | exact .tail _ (.tail _ (.tail _ (.tail _ (.head _)))) | exact .tail _ (.tail _ (.tail _ (.tail _ (.tail _ (.head _)))))) (by first | rfl | exact fcs_size _) ?_)
      | ((with_reducible show wpListIn _ _ _ _ _ (Oper.mk (some 11) (Op.alloc 125) _ _ _ _ :: _) _ _); refine wpListIn_alloc M rfl rfl rt68 ?_; clear M; intro k11 W9 M)
      | ((with_reducible show wpListIn _ _ _ _ _ (Oper.mk _ (Op.store 125 _ _) _ _ _ _ :: _) _ _); refine wpListIn_put M rfl _ _ rfl rt68 0 _ rfl rfl rfl (by first | rfl | exact fcs_size _) (by first | rfl | exact fcs_size _) (by first | exact fcs_one _ | simp [Value.oneCell']) ?_; clear M; intro W9 M; simp only [List.set_cons_zero, List.set_cons_succ, List.setIfInBounds_toArray] at M)
      | ((with_reducible show wpListIn _ _ _ _ _ (Oper.mk _ (Op.load 4 _) _ _ _ _ :: _) _ _); refine wpListIn_cell4 M rfl _ rfl _ rfl (by first | exact .head _ | exact .tail _ (.head _) | exact .tail _ (.tail _ (.head _)) | exact .tail _ (.tail _ (.tail _ (.head _))) | exact .tail _ (.tail _ (.tail _ (.tail _ (.head _)))) | exact .tail _ (.tail _ (.tail _ (.tail _ (.tail _ (.head _)))))) (by rfl) ?_)
      | ((with_reducible show wpListIn _ _ _ _ _ (Oper.mk _ (Op.load 3 _) _ _ _ _ :: _) _ _); refine wpListIn_cell3 M rfl _ rfl _ rfl (by first | exact .head _ | exact .tail _ (.head _) | exact .tail _ (.tail _ (.head _)) | exact .tail _ (.tail _ (.tail _ (.head _))) | exact .tail _ (.tail _ (.tail _ (.tail _ (.head _)))) | exact .tail _ (.tail _ (.tail _ (.tail _ (.tail _ (.head _)))))) (by rfl) ?_)
      | ((with_reducible show wpListIn _ _ _ _ _ (Oper.mk _ (Op.store 3 (Operand.tmp 8) _) _ _ _ _ :: _) _ _); refine wpListIn_set3 M rfl _ _ rfl 3 _ _ rfl rfl rfl (by rfl) ?_; clear M; intro W9 M; simp only [List.set_cons_zero, List.set_cons_succ, List.setIfInBounds_toArray] at M)
      | ((with_reducible show wpListIn _ _ _ _ _ (Oper.mk _ (Op.store 3 (Operand.tmp 7) _) _ _ _ _ :: _) _ _); refine wpListIn_set3 M rfl _ _ rfl 4 _ _ rfl rfl rfl (by rfl) ?_; clear M; intro W9 M; simp only [List.set_cons_zero, List.set_cons_succ, List.setIfInBounds_toArray] at M)
      | (refine app16 _ (fun c a w h => h) nm ep mr al kd sc M O HOD.out (fun g hg q hq => ?_) (by have := HDL.out; omega) HWS.out (fun a3 W3 g3 c3 M3 O3 h3 => HAP.out ⟨nm, ep, mr, al, kd, sc⟩ _ _ (by rfl) (by rfl) (by first | rfl | exact if_pos HV.out.2 | exact if_neg (by have := HV.out.2; omega) | exact if_neg (by rw [HV.out.2]; decide)) W3 g3 c3 M3 O3 h3); simp only [List.mem_cons, List.not_mem_nil, or_false] at hq; rcases hq with rfl | hq; exact owns_at (owns_of_block O (fun g' hg' => M.same.block g' (O.lt g' hg').2 (.inr (HOD.out g' hg')))) hg (M.get (.head _)) (by decide) |>.symm; exact HOB.out g hg q hq))
    | some y =>
      obtain ⟨nm', ep', mr', al', kd', sc'⟩ := y
      have KV := fun w => verdict_any x1 ⟨nm', ep', mr', al', kd', sc'⟩ r w
      rw [fv_fcs, fv_fcs] at KV
      cases x1 with
      | none =>
        by_cases h0 : 0 < r
        · have hv : vd none (some ⟨nm', ep', mr', al', kd', sc'⟩) r = 4 := by simp [vd, h0]
          rw [hv] at KV
          have HV : Hid (vd none (some ⟨nm', ep', mr', al', kd', sc'⟩) r = 4 ∧ 0 < r) := ⟨hv, h0⟩
          clear hv h0
          gi_wp2_with (first
      | ((with_reducible show wpListIn _ _ _ _ _ (Oper.mk _ (Op.load 125 _) _ _ _ _ :: _) _ _); refine wpListIn_load M rfl _ rfl rt68 rfl (by first | exact .head _ | exact .tail _ (.head _) | exact .tail _ (.tail _ (.head _)) | exact .tail _ (.tail _ (.tail _ (.head _))) | exact .tail _ (.tail _ (.tail _ (.tail _ (.head _)))) | exact .tail _ (.tail _ (.tail _ (.tail _ (.tail _ (.head _)))))) (by first | rfl | exact fcs_size _) ?_)
      | ((with_reducible show wpListIn _ _ _ _ _ (Oper.mk (some 11) (Op.alloc 125) _ _ _ _ :: _) _ _); refine wpListIn_alloc M rfl rfl rt68 ?_; clear M; intro k11 W9 M)
      | ((with_reducible show wpListIn _ _ _ _ _ (Oper.mk _ (Op.store 125 _ _) _ _ _ _ :: _) _ _); refine wpListIn_put M rfl _ _ rfl rt68 0 _ rfl rfl rfl (by first | rfl | exact fcs_size _) (by first | rfl | exact fcs_size _) (by first | exact fcs_one _ | simp [Value.oneCell']) ?_; clear M; intro W9 M; simp only [List.set_cons_zero, List.set_cons_succ, List.setIfInBounds_toArray] at M)
      | ((with_reducible show wpListIn _ _ _ _ _ (Oper.mk _ (Op.load 4 _) _ _ _ _ :: _) _ _); refine wpListIn_cell4 M rfl _ rfl _ rfl (by first | exact .head _ | exact .tail _ (.head _) | exact .tail _ (.tail _ (.head _)) | exact .tail _ (.tail _ (.tail _ (.head _))) | exact .tail _ (.tail _ (.tail _ (.tail _ (.head _)))) | exact .tail _ (.tail _ (.tail _ (.tail _ (.tail _ (.head _)))))) (by rfl) ?_)
      | ((with_reducible show wpListIn _ _ _ _ _ (Oper.mk _ (Op.load 3 _) _ _ _ _ :: _) _ _); refine wpListIn_cell3 M rfl _ rfl _ rfl (by first | exact .head _ | exact .tail _ (.head _) | exact .tail _ (.tail _ (.head _)) | exact .tail _ (.tail _ (.tail _ (.head _))) | exact .tail _ (.tail _ (.tail _ (.tail _ (.head _)))) | exact .tail _ (.tail _ (.tail _ (.tail _ (.tail _ (.head _)))))) (by rfl) ?_)
      | ((with_reducible show wpListIn _ _ _ _ _ (Oper.mk _ (Op.store 3 (Operand.tmp 8) _) _ _ _ _ :: _) _ _); refine wpListIn_set3 M rfl _ _ rfl 3 _ _ rfl rfl rfl (by rfl) ?_; clear M; intro W9 M; simp only [List.set_cons_zero, List.set_cons_succ, List.setIfInBounds_toArray] at M)
      | ((with_reducible show wpListIn _ _ _ _ _ (Oper.mk _ (Op.store 3 (Operand.tmp 7) _) _ _ _ _ :: _) _ _); refine wpListIn_set3 M rfl _ _ rfl 4 _ _ rfl rfl rfl (by rfl) ?_; clear M; intro W9 M; simp only [List.set_cons_zero, List.set_cons_succ, List.setIfInBounds_toArray] at M)
      | (refine ⟨trivial, ?_⟩; gi_at_call 106; refine (CallsIn.inRound _ (callsIn_wide.2 (KV _))).mono ?_; rintro e w7 ⟨rfl, b7⟩; replace M := M.later b7; clear b7)
      | (refine app16 _ (fun c a w h => h) nm' ep' mr' al' kd' sc' M O HOD.out (fun g hg q hq => ?_) (by have := HDL.out; omega) HWS.out (fun a3 W3 g3 c3 M3 O3 h3 => HAP.out ⟨nm', ep', mr', al', kd', sc'⟩ _ _ (by exact HV.out.1.symm) (by exact (if_pos HV.out.2).symm) (by first | rfl | exact if_pos HV.out.2 | exact if_neg (by have := HV.out.2; omega) | exact if_neg (by rw [HV.out.2]; decide)) W3 g3 c3 M3 O3 h3); simp only [List.mem_cons, List.not_mem_nil, or_false] at hq; rcases hq with rfl | hq; exact owns_at (owns_of_block O (fun g' hg' => M.same.block g' (O.lt g' hg').2 (.inr (HOD.out g' hg')))) hg (M.get (.head _)) (by decide) |>.symm; exact HOB.out g hg q hq))
        · have hv : vd none (some ⟨nm', ep', mr', al', kd', sc'⟩) r = 5 := by simp [vd, h0]
          rw [hv] at KV
          have HV : Hid (vd none (some ⟨nm', ep', mr', al', kd', sc'⟩) r = 5 ∧ ¬ 0 < r) := ⟨hv, h0⟩
          clear hv h0
          gi_wp2_with (first
      | ((with_reducible show wpListIn _ _ _ _ _ (Oper.mk _ (Op.load 125 _) _ _ _ _ :: _) _ _); refine wpListIn_load M rfl _ rfl rt68 rfl (by first | exact .head _ | exact .tail _ (.head _) | exact .tail _ (.tail _ (.head _)) | exact .tail _ (.tail _ (.tail _ (.head _))) | exact .tail _ (.tail _ (.tail _ (.tail _ (.head _)))) | exact .tail _ (.tail _ (.tail _ (.tail _ (.tail _ (.head _)))))) (by first | rfl | exact fcs_size _) ?_)
      | ((with_reducible show wpListIn _ _ _ _ _ (Oper.mk (some 11) (Op.alloc 125) _ _ _ _ :: _) _ _); refine wpListIn_alloc M rfl rfl rt68 ?_; clear M; intro k11 W9 M)
      | ((with_reducible show wpListIn _ _ _ _ _ (Oper.mk _ (Op.store 125 _ _) _ _ _ _ :: _) _ _); refine wpListIn_put M rfl _ _ rfl rt68 0 _ rfl rfl rfl (by first | rfl | exact fcs_size _) (by first | rfl | exact fcs_size _) (by first | exact fcs_one _ | simp [Value.oneCell']) ?_; clear M; intro W9 M; simp only [List.set_cons_zero, List.set_cons_succ, List.setIfInBounds_toArray] at M)
      | ((with_reducible show wpListIn _ _ _ _ _ (Oper.mk _ (Op.load 4 _) _ _ _ _ :: _) _ _); refine wpListIn_cell4 M rfl _ rfl _ rfl (by first | exact .head _ | exact .tail _ (.head _) | exact .tail _ (.tail _ (.head _)) | exact .tail _ (.tail _ (.tail _ (.head _))) | exact .tail _ (.tail _ (.tail _ (.tail _ (.head _)))) | exact .tail _ (.tail _ (.tail _ (.tail _ (.tail _ (.head _)))))) (by rfl) ?_)
      | ((with_reducible show wpListIn _ _ _ _ _ (Oper.mk _ (Op.load 3 _) _ _ _ _ :: _) _ _); refine wpListIn_cell3 M rfl _ rfl _ rfl (by first | exact .head _ | exact .tail _ (.head _) | exact .tail _ (.tail _ (.head _)) | exact .tail _ (.tail _ (.tail _ (.head _))) | exact .tail _ (.tail _ (.tail _ (.tail _ (.head _)))) | exact .tail _ (.tail _ (.tail _ (.tail _ (.tail _ (.head _)))))) (by rfl) ?_)
      | ((with_reducible show wpListIn _ _ _ _ _ (Oper.mk _ (Op.store 3 (Operand.tmp 8) _) _ _ _ _ :: _) _ _); refine wpListIn_set3 M rfl _ _ rfl 3 _ _ rfl rfl rfl (by rfl) ?_; clear M; intro W9 M; simp only [List.set_cons_zero, List.set_cons_succ, List.setIfInBounds_toArray] at M)
      | ((with_reducible show wpListIn _ _ _ _ _ (Oper.mk _ (Op.store 3 (Operand.tmp 7) _) _ _ _ _ :: _) _ _); refine wpListIn_set3 M rfl _ _ rfl 4 _ _ rfl rfl rfl (by rfl) ?_; clear M; intro W9 M; simp only [List.set_cons_zero, List.set_cons_succ, List.setIfInBounds_toArray] at M)
      | (refine ⟨trivial, ?_⟩; gi_at_call 106; refine (CallsIn.inRound _ (callsIn_wide.2 (KV _))).mono ?_; rintro e w7 ⟨rfl, b7⟩; replace M := M.later b7; clear b7))
          exact HNO.out _ _ _ _ _ M (by exact HV.out.1.symm) (by exact (if_neg (by have := HV.out.2; omega)).symm) (by first | rfl | exact if_pos HV.out.2 | exact if_neg (by have := HV.out.2; omega) | exact if_neg (by rw [HV.out.2]; decide))
      | some z =>
        obtain ⟨nm, ep, mr, al, kd, sc⟩ := z
        cases h1 : CH.nw ⟨nm', ep', mr', al', kd', sc'⟩ ⟨nm, ep, mr, al, kd, sc⟩ with
        | true =>
          have hv : vd (some ⟨nm, ep, mr, al, kd, sc⟩) (some ⟨nm', ep', mr', al', kd', sc'⟩) r = 3 := by simp [vd, h1]
          rw [hv] at KV
          have HV : Hid (vd (some ⟨nm, ep, mr, al, kd, sc⟩) (some ⟨nm', ep', mr', al', kd', sc'⟩) r = 3 ∧ CH.nw ⟨nm', ep', mr', al', kd', sc'⟩ ⟨nm, ep, mr, al, kd, sc⟩ = true) := ⟨hv, h1⟩
          clear hv h1
          gi_wp2_with (first
      | ((with_reducible show wpListIn _ _ _ _ _ (Oper.mk _ (Op.load 125 _) _ _ _ _ :: _) _ _); refine wpListIn_load M rfl _ rfl rt68 rfl (by first | exact .head _ | exact .tail _ (.head _) | exact .tail _ (.tail _ (.head _)) | exact .tail _ (.tail _ (.tail _ (.head _))) | exact .tail _ (.tail _ (.tail _ (.tail _ (.head _)))) | exact .tail _ (.tail _ (.tail _ (.tail _ (.tail _ (.head _)))))) (by first | rfl | exact fcs_size _) ?_)
      | ((with_reducible show wpListIn _ _ _ _ _ (Oper.mk (some 11) (Op.alloc 125) _ _ _ _ :: _) _ _); refine wpListIn_alloc M rfl rfl rt68 ?_; clear M; intro k11 W9 M)
      | ((with_reducible show wpListIn _ _ _ _ _ (Oper.mk _ (Op.store 125 _ _) _ _ _ _ :: _) _ _); refine wpListIn_put M rfl _ _ rfl rt68 0 _ rfl rfl rfl (by first | rfl | exact fcs_size _) (by first | rfl | exact fcs_size _) (by first | exact fcs_one _ | simp [Value.oneCell']) ?_; clear M; intro W9 M; simp only [List.set_cons_zero, List.set_cons_succ, List.setIfInBounds_toArray] at M)
      | ((with_reducible show wpListIn _ _ _ _ _ (Oper.mk _ (Op.load 4 _) _ _ _ _ :: _) _ _); refine wpListIn_cell4 M rfl _ rfl _ rfl (by first | exact .head _ | exact .tail _ (.head _) | exact .tail _ (.tail _ (.head _)) | exact .tail _ (.tail _ (.tail _ (.head _))) | exact .tail _ (.tail _ (.tail _ (.tail _ (.head _)))) | exact .tail _ (.tail _ (.tail _ (.tail _ (.tail _ (.head _)))))) (by rfl) ?_)
      | ((with_reducible show wpListIn _ _ _ _ _ (Oper.mk _ (Op.load 3 _) _ _ _ _ :: _) _ _); refine wpListIn_cell3 M rfl _ rfl _ rfl (by first | exact .head _ | exact .tail _ (.head _) | exact .tail _ (.tail _ (.head _)) | exact .tail _ (.tail _ (.tail _ (.head _))) | exact .tail _ (.tail _ (.tail _ (.tail _ (.head _)))) | exact .tail _ (.tail _ (.tail _ (.tail _ (.tail _ (.head _)))))) (by rfl) ?_)
      | ((with_reducible show wpListIn _ _ _ _ _ (Oper.mk _ (Op.store 3 (Operand.tmp 8) _) _ _ _ _ :: _) _ _); refine wpListIn_set3 M rfl _ _ rfl 3 _ _ rfl rfl rfl (by rfl) ?_; clear M; intro W9 M; simp only [List.set_cons_zero, List.set_cons_succ, List.setIfInBounds_toArray] at M)
      | ((with_reducible show wpListIn _ _ _ _ _ (Oper.mk _ (Op.store 3 (Operand.tmp 7) _) _ _ _ _ :: _) _ _); refine wpListIn_set3 M rfl _ _ rfl 4 _ _ rfl rfl rfl (by rfl) ?_; clear M; intro W9 M; simp only [List.set_cons_zero, List.set_cons_succ, List.setIfInBounds_toArray] at M)
      | (refine ⟨trivial, ?_⟩; gi_at_call 106; refine (CallsIn.inRound _ (callsIn_wide.2 (KV _))).mono ?_; rintro e w7 ⟨rfl, b7⟩; replace M := M.later b7; clear b7)
      | (refine app16 _ (fun c a w h => h) nm' ep' mr' al' kd' sc' M O HOD.out (fun g hg q hq => ?_) (by have := HDL.out; omega) HWS.out (fun a3 W3 g3 c3 M3 O3 h3 => HAP.out ⟨nm', ep', mr', al', kd', sc'⟩ _ _ (by exact HV.out.1.symm) (by rfl) (by first | rfl | exact if_pos HV.out.2 | exact if_neg (by have := HV.out.2; omega) | exact if_neg (by rw [HV.out.2]; decide)) W3 g3 c3 M3 O3 h3); simp only [List.mem_cons, List.not_mem_nil, or_false] at hq; rcases hq with rfl | hq; exact owns_at (owns_of_block O (fun g' hg' => M.same.block g' (O.lt g' hg').2 (.inr (HOD.out g' hg')))) hg (M.get (.head _)) (by decide) |>.symm; exact HOB.out g hg q hq))
        | false =>
          cases h2 : CH.nw ⟨nm, ep, mr, al, kd, sc⟩ ⟨nm', ep', mr', al', kd', sc'⟩ with
          | true =>
            have hv : vd (some ⟨nm, ep, mr, al, kd, sc⟩) (some ⟨nm', ep', mr', al', kd', sc'⟩) r = 1 := by simp [vd, h1, h2]
            rw [hv] at KV
            have HV : Hid (vd (some ⟨nm, ep, mr, al, kd, sc⟩) (some ⟨nm', ep', mr', al', kd', sc'⟩) r = 1 ∧ CH.nw ⟨nm', ep', mr', al', kd', sc'⟩ ⟨nm, ep, mr, al, kd, sc⟩ = false) := ⟨hv, h1⟩
            clear hv h1 h2
            gi_wp2_with (first
      | ((with_reducible show wpListIn _ _ _ _ _ (Oper.mk _ (Op.load 125 _) _ _ _ _ :: _) _ _); refine wpListIn_load M rfl _ rfl rt68 rfl (by first | exact .head _ | exact .tail _ (.head _) | exact .tail _ (.tail _ (.head _)) | exact .tail _ (.tail _ (.tail _ (.head _))) | exact .tail _ (.tail _ (.tail _ (.tail _ (.head _)))) | exact .tail _ (.tail _ (.tail _ (.tail _ (.tail _ (.head _)))))) (by first | rfl | exact fcs_size _) ?_)
      | ((with_reducible show wpListIn _ _ _ _ _ (Oper.mk (some 11) (Op.alloc 125) _ _ _ _ :: _) _ _); refine wpListIn_alloc M rfl rfl rt68 ?_; clear M; intro k11 W9 M)
      | ((with_reducible show wpListIn _ _ _ _ _ (Oper.mk _ (Op.store 125 _ _) _ _ _ _ :: _) _ _); refine wpListIn_put M rfl _ _ rfl rt68 0 _ rfl rfl rfl (by first | rfl | exact fcs_size _) (by first | rfl | exact fcs_size _) (by first | exact fcs_one _ | simp [Value.oneCell']) ?_; clear M; intro W9 M; simp only [List.set_cons_zero, List.set_cons_succ, List.setIfInBounds_toArray] at M)
      | ((with_reducible show wpListIn _ _ _ _ _ (Oper.mk _ (Op.load 4 _) _ _ _ _ :: _) _ _); refine wpListIn_cell4 M rfl _ rfl _ rfl (by first | exact .head _ | exact .tail _ (.head _) | exact .tail _ (.tail _ (.head _)) | exact .tail _ (.tail _ (.tail _ (.head _))) | exact .tail _ (.tail _ (.tail _ (.tail _ (.head _)))) | exact .tail _ (.tail _ (.tail _ (.tail _ (.tail _ (.head _)))))) (by rfl) ?_)
      | ((with_reducible show wpListIn _ _ _ _ _ (Oper.mk _ (Op.load 3 _) _ _ _ _ :: _) _ _); refine wpListIn_cell3 M rfl _ rfl _ rfl (by first | exact .head _ | exact .tail _ (.head _) | exact .tail _ (.tail _ (.head _)) | exact .tail _ (.tail _ (.tail _ (.head _))) | exact .tail _ (.tail _ (.tail _ (.tail _ (.head _)))) | exact .tail _ (.tail _ (.tail _ (.tail _ (.tail _ (.head _)))))) (by rfl) ?_)
      | ((with_reducible show wpListIn _ _ _ _ _ (Oper.mk _ (Op.store 3 (Operand.tmp 8) _) _ _ _ _ :: _) _ _); refine wpListIn_set3 M rfl _ _ rfl 3 _ _ rfl rfl rfl (by rfl) ?_; clear M; intro W9 M; simp only [List.set_cons_zero, List.set_cons_succ, List.setIfInBounds_toArray] at M)
      | ((with_reducible show wpListIn _ _ _ _ _ (Oper.mk _ (Op.store 3 (Operand.tmp 7) _) _ _ _ _ :: _) _ _); refine wpListIn_set3 M rfl _ _ rfl 4 _ _ rfl rfl rfl (by rfl) ?_; clear M; intro W9 M; simp only [List.set_cons_zero, List.set_cons_succ, List.setIfInBounds_toArray] at M)
      | (refine ⟨trivial, ?_⟩; gi_at_call 106; refine (CallsIn.inRound _ (callsIn_wide.2 (KV _))).mono ?_; rintro e w7 ⟨rfl, b7⟩; replace M := M.later b7; clear b7)
      | (refine app16 _ (fun c a w h => h) nm ep mr al kd sc M O HOD.out (fun g hg q hq => ?_) (by have := HDL.out; omega) HWS.out (fun a3 W3 g3 c3 M3 O3 h3 => HAP.out ⟨nm, ep, mr, al, kd, sc⟩ _ _ (by exact HV.out.1.symm) (by rfl) (by first | rfl | exact if_pos HV.out.2 | exact if_neg (by have := HV.out.2; omega) | exact if_neg (by rw [HV.out.2]; decide)) W3 g3 c3 M3 O3 h3); simp only [List.mem_cons, List.not_mem_nil, or_false] at hq; rcases hq with rfl | hq; exact owns_at (owns_of_block O (fun g' hg' => M.same.block g' (O.lt g' hg').2 (.inr (HOD.out g' hg')))) hg (M.get (.head _)) (by decide) |>.symm; exact HOB.out g hg q hq))
          | false =>
            have hv : vd (some ⟨nm, ep, mr, al, kd, sc⟩) (some ⟨nm', ep', mr', al', kd', sc'⟩) r = 2 := by simp [vd, h1, h2]
            rw [hv] at KV
            have HV : Hid (vd (some ⟨nm, ep, mr, al, kd, sc⟩) (some ⟨nm', ep', mr', al', kd', sc'⟩) r = 2 ∧ CH.nw ⟨nm', ep', mr', al', kd', sc'⟩ ⟨nm, ep, mr, al, kd, sc⟩ = false) := ⟨hv, h1⟩
            clear hv h1 h2
            gi_wp2_with (first
      | ((with_reducible show wpListIn _ _ _ _ _ (Oper.mk _ (Op.load 125 _) _ _ _ _ :: _) _ _); refine wpListIn_load M rfl _ rfl rt68 rfl (by first | exact .head _ | exact .tail _ (.head _) | exact .tail _ (.tail _ (.head _)) | exact .tail _ (.tail _ (.tail _ (.head _))) | exact .tail _ (.tail _ (.tail _ (.tail _ (.head _)))) | exact .tail _ (.tail _ (.tail _ (.tail _ (.tail _ (.head _)))))) (by first | rfl | exact fcs_size _) ?_)
      | ((with_reducible show wpListIn _ _ _ _ _ (Oper.mk (some 11) (Op.alloc 125) _ _ _ _ :: _) _ _); refine wpListIn_alloc M rfl rfl rt68 ?_; clear M; intro k11 W9 M)
      | ((with_reducible show wpListIn _ _ _ _ _ (Oper.mk _ (Op.store 125 _ _) _ _ _ _ :: _) _ _); refine wpListIn_put M rfl _ _ rfl rt68 0 _ rfl rfl rfl (by first | rfl | exact fcs_size _) (by first | rfl | exact fcs_size _) (by first | exact fcs_one _ | simp [Value.oneCell']) ?_; clear M; intro W9 M; simp only [List.set_cons_zero, List.set_cons_succ, List.setIfInBounds_toArray] at M)
      | ((with_reducible show wpListIn _ _ _ _ _ (Oper.mk _ (Op.load 4 _) _ _ _ _ :: _) _ _); refine wpListIn_cell4 M rfl _ rfl _ rfl (by first | exact .head _ | exact .tail _ (.head _) | exact .tail _ (.tail _ (.head _)) | exact .tail _ (.tail _ (.tail _ (.head _))) | exact .tail _ (.tail _ (.tail _ (.tail _ (.head _)))) | exact .tail _ (.tail _ (.tail _ (.tail _ (.tail _ (.head _)))))) (by rfl) ?_)
      | ((with_reducible show wpListIn _ _ _ _ _ (Oper.mk _ (Op.load 3 _) _ _ _ _ :: _) _ _); refine wpListIn_cell3 M rfl _ rfl _ rfl (by first | exact .head _ | exact .tail _ (.head _) | exact .tail _ (.tail _ (.head _)) | exact .tail _ (.tail _ (.tail _ (.head _))) | exact .tail _ (.tail _ (.tail _ (.tail _ (.head _)))) | exact .tail _ (.tail _ (.tail _ (.tail _ (.tail _ (.head _)))))) (by rfl) ?_)
      | ((with_reducible show wpListIn _ _ _ _ _ (Oper.mk _ (Op.store 3 (Operand.tmp 8) _) _ _ _ _ :: _) _ _); refine wpListIn_set3 M rfl _ _ rfl 3 _ _ rfl rfl rfl (by rfl) ?_; clear M; intro W9 M; simp only [List.set_cons_zero, List.set_cons_succ, List.setIfInBounds_toArray] at M)
      | ((with_reducible show wpListIn _ _ _ _ _ (Oper.mk _ (Op.store 3 (Operand.tmp 7) _) _ _ _ _ :: _) _ _); refine wpListIn_set3 M rfl _ _ rfl 4 _ _ rfl rfl rfl (by rfl) ?_; clear M; intro W9 M; simp only [List.set_cons_zero, List.set_cons_succ, List.setIfInBounds_toArray] at M)
      | (refine ⟨trivial, ?_⟩; gi_at_call 106; refine (CallsIn.inRound _ (callsIn_wide.2 (KV _))).mono ?_; rintro e w7 ⟨rfl, b7⟩; replace M := M.later b7; clear b7)
      | (refine app16 _ (fun c a w h => h) nm ep mr al kd sc M O HOD.out (fun g hg q hq => ?_) (by have := HDL.out; omega) HWS.out (fun a3 W3 g3 c3 M3 O3 h3 => HAP.out ⟨nm, ep, mr, al, kd, sc⟩ _ _ (by exact HV.out.1.symm) (by rfl) (by first | rfl | exact if_pos HV.out.2 | exact if_neg (by have := HV.out.2; omega) | exact if_neg (by rw [HV.out.2]; decide)) W3 g3 c3 M3 O3 h3); simp only [List.mem_cons, List.not_mem_nil, or_false] at hq; rcases hq with rfl | hq; exact owns_at (owns_of_block O (fun g' hg' => M.same.block g' (O.lt g' hg').2 (.inr (HOD.out g' hg')))) hg (M.get (.head _)) (by decide) |>.symm; exact HOB.out g hg q hq))
  case done =>
    rintro C W hLI hK9 hC
    obtain ⟨_, v, MM, O, hc⟩ := hLI
    rw [List.take_length] at MM O
    rw [HLL.out] at O
    rw [HXX.out] at MM
    obtain ⟨av, cv, rfl, hL, hge⟩ := own_lstC O rfl
    have hng : ∀ g off, av = some ⟨g, off, none⟩ → g ≠ WR.heap.size := fun g off e e2 => by
      have h7 : (Value.slice av L.length cv).ownBlock = some g := by
        rcases O.2 with ⟨e3, h0⟩ | ⟨g2, cp, cur, e3, _⟩
        · injection e3 with q1
          rw [q1] at e
          cases e
        · injection e3 with q1
          rw [q1] at e ⊢
          injection e with e
          injection e with e
          rw [← e]
          rfl
      have := (hC g ((hc g).2 h7)).1
      omega
    clear HLL HXX hc hC O HLn HLm HZL L0 hr hr'
    gi_wp2_with (fail)
    refine region_heldIn (fun _ => True) (by kernel_rfl) ?_
    replace MM := MM.drew
    have hbel := MM.below
    refine anyInH_two 0 1 (by kernel_rfl) rfl rfl (by rfl) (by rfl) (fun K hK => ?_) (fun K hK => ?_)
    · refine wpIn_cell24 MM _ rfl av _ cv rfl (.tail _ (.tail _ (.head _))) rfl ?_
      refine hK.out _ _ trivial (fun hS => ?_)
      clear hK hS
      try simp only [Act.put, List.setIfInBounds_toArray, List.set_cons_zero, List.set_cons_succ]
      refine anyInH_two 1 2 (by kernel_rfl) rfl rfl (by rfl) (by rfl) (fun K hK => ?_) (fun K hK => ?_)
      · refine wpIn_cell3 MM _ rfl _ rfl (.head _) rfl ?_
        refine hK.out _ _ trivial (fun hS => ?_)
        clear hK hS
        try simp only [Act.put, List.setIfInBounds_toArray, List.set_cons_zero, List.set_cons_succ]
        refine anyInH_one 2 (by kernel_rfl) rfl (by rfl) (fun K hK => ?_)
        go_simp
        refine hK.out _ _ trivial (fun hS => ?_)
        clear hK hS
        try simp only [Act.put, List.setIfInBounds_toArray, List.set_cons_zero, List.set_cons_succ]
        refine anyInH_one 3 (by kernel_rfl) rfl (by rfl) (fun K hK => ?_)
        go_simp
        refine hK.out _ _ trivial (fun hS => ?_)
        clear hK hS
        try simp only [Act.put, List.setIfInBounds_toArray, List.set_cons_zero, List.set_cons_succ]
        refine anyInH_done (by kernel_rfl) ?_ _
        gi_wp2
        refine ⟨by simp, .inl ⟨_, _, rfl, run_takeDeferred hK9, ?_⟩⟩
        exact ⟨_, results_tmp2 rfl _ _ _, av, cv, rfl, (by exact LstC.of_block hL (fun g off e => World.putObj_heap_other (w := W.drew) (hng g off e))), hge, below_putObj hbel HL.out.2.2.2.2.2 _⟩
      · go_simp
        refine hK.out _ _ trivial (fun hS => ?_)
        clear hK hS
        try simp only [Act.put, List.setIfInBounds_toArray, List.set_cons_zero, List.set_cons_succ]
        refine anyInH_one 1 (by kernel_rfl) rfl (by rfl) (fun K hK => ?_)
        refine wpIn_cell3 MM _ rfl _ rfl (.head _) rfl ?_
        refine hK.out _ _ trivial (fun hS => ?_)
        clear hK hS
        try simp only [Act.put, List.setIfInBounds_toArray, List.set_cons_zero, List.set_cons_succ]
        refine anyInH_one 3 (by kernel_rfl) rfl (by rfl) (fun K hK => ?_)
        go_simp
        refine hK.out _ _ trivial (fun hS => ?_)
        clear hK hS
        try simp only [Act.put, List.setIfInBounds_toArray, List.set_cons_zero, List.set_cons_succ]
        refine anyInH_done (by kernel_rfl) ?_ _
        gi_wp2
        refine ⟨by simp, .inl ⟨_, _, rfl, run_takeDeferred hK9, ?_⟩⟩
        exact ⟨_, results_tmp2 rfl _ _ _, av, cv, rfl, (by exact LstC.of_block hL (fun g off e => World.putObj_heap_other (w := W.drew) (hng g off e))), hge, below_putObj hbel HL.out.2.2.2.2.2 _⟩
    · refine wpIn_cell3 MM _ rfl _ rfl (.head _) rfl ?_
      refine hK.out _ _ trivial (fun hS => ?_)
      clear hK hS
      try simp only [Act.put, List.setIfInBounds_toArray, List.set_cons_zero, List.set_cons_succ]
      refine anyInH_one 0 (by kernel_rfl) rfl (by rfl) (fun K hK => ?_)
      refine wpIn_cell24 MM _ rfl av _ cv rfl (.tail _ (.tail _ (.head _))) rfl ?_
      refine hK.out _ _ trivial (fun hS => ?_)
      clear hK hS
      try simp only [Act.put, List.setIfInBounds_toArray, List.set_cons_zero, List.set_cons_succ]
      refine anyInH_one 2 (by kernel_rfl) rfl (by rfl) (fun K hK => ?_)
      go_simp
      refine hK.out _ _ trivial (fun hS => ?_)
      clear hK hS
      try simp only [Act.put, List.setIfInBounds_toArray, List.set_cons_zero, List.set_cons_succ]
      refine anyInH_one 3 (by kernel_rfl) rfl (by rfl) (fun K hK => ?_)
      go_simp
      refine hK.out _ _ trivial (fun hS => ?_)
      clear hK hS
      try simp only [Act.put, List.setIfInBounds_toArray, List.set_cons_zero, List.set_cons_succ]
      refine anyInH_done (by kernel_rfl) ?_ _
      gi_wp2
      refine ⟨by simp, .inl ⟨_, _, rfl, run_takeDeferred hK9, ?_⟩⟩
      exact ⟨_, results_tmp2 rfl _ _ _, av, cv, rfl, (by exact LstC.of_block hL (fun g off e => World.putObj_heap_other (w := W.drew) (hng g off e))), hge, below_putObj hbel HL.out.2.2.2.2.2 _⟩
  case stop =>
    rintro c C W h _ _
    exact h.elim
end Go.Proofs.YtoeebofappbneaaGreat
