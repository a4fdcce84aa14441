/-
  Package shake: put.
-/
import Derived.Test.YteoiogjaecpddaaS7
namespace Go.Proofs.Yteoiogjaecpddaa
open Go.ChangeShapes Go.WideShapes Go.ChangeAt Go.RowKit
set_option linter.unusedVariables false
set_option linter.unusedSimpArgs false

/-- A new list that is a function's answer. -/
def Ans (w : World) (l : List SN) (e : Ending) (w' : World) : Prop := ∃ a' cap', e = .returned (.slice a' l.length cap') ∧ LstS w' a' l.length cap' l ∧ (∀ g off, a' = some ⟨g, off, none⟩ → w.heap.size ≤ g) ∧ Below w.heap.size w w'
def toT (k : Int) (l : List SN) : Nat := if hitS k l = true then posS k l + 1 else posS k l
theorem toT_N (k : Int) (l : List SN) : toN (posS k l) (hitS k l) = (toT k l : Int) := by
  unfold toN toT
  cases hitS k l <;> simp
theorem toT_le (k : Int) (l : List SN) : posS k l ≤ toT k l ∧ toT k l ≤ l.length := by
  have h1 := pos_le (fun x : SN => ltI x.peer k) l
  unfold toT
  cases e : hitS k l with
  | true => have h2 : posS k l < l.length := hit_lt e; rw [if_pos rfl]; omega
  | false => simp; exact h1
theorem ins_cut (s : SN) (l : List SN) : insS s l = l.take (posS s.peer l) ++ [s] ++ l.drop (toT s.peer l) := insS_cut s l
theorem rd_one {W : World} {g : Nat} {s : SN} (h : W.heap[g]? = some (.cells s.cells.toArray 33 (0, 0))) : RdS W (some ⟨g, 0, none⟩) 1 1 [s] :=
  ⟨rfl, Nat.le_refl _, by omega, .inr (.inr ⟨g, 0, rfl, row_lt h, by have := range_rowS h; simpa [csS] using this⟩)⟩
set_option maxRecDepth 100000 in
set_option maxHeartbeats 8000000 in
theorem sput_any (s : SN) (a : Option Addr) (n cap : Nat) (l : List SN) (w : World) (hr : RdS w a n cap l) (hn : n ≤ 65000) : Calls Try.prog 42 #[.slice a n cap, s.val] w (Ans w (insS s l)) := by
  obtain ⟨peer, boot, life, mine⟩ := s
  have b0 : Below w.heap.size w (w.alloc (.cells #[.int .i64 peer, .int .i64 boot, .int .i64 life, .int .i64 mine] 33)) := (Below.refl _ _).alloc (Nat.le_refl _) _
  have T0 : (w.alloc (.cells #[.int .i64 peer, .int .i64 boot, .int .i64 life, .int .i64 mine] 33)).heap[w.heap.size]? = some (.cells (SN.cells ⟨peer, boot, life, mine⟩).toArray 33 (0, 0)) := heap_new rfl
  have K := place_any a n cap l peer _ (hr.below b0)
  rw [toT_N] at K
  have HI : Hid (insS ⟨peer, boot, life, mine⟩ l = l.take (posS peer l) ++ [⟨peer, boot, life, mine⟩] ++ l.drop (toT peer l)) := ins_cut _ l
  have HT := toT_le peer l
  obtain ⟨p, hp⟩ : ∃ p, posS peer l = p := ⟨_, rfl⟩
  obtain ⟨t, ht⟩ : ∃ t, toT peer l = t := ⟨_, rfl⟩
  rw [hp, ht] at K HI HT
  rw [hr.size] at HT
  have HPT : Hid (p ≤ t ∧ t ≤ n) := HT
  have HN : Hid (n ≤ 65000) := hn
  have hle := hr.le
  have HPC : Hid (p ≤ cap) := by show p ≤ cap; omega
  have HTN : Hid (t ≤ n) := HT.2
  have HL : Hid (l.length = n) := hr.size
  obtain ⟨a9, ha9⟩ : ∃ a9, (if cap = t then a else a.map (·.add (t * 4))) = a9 := ⟨_, rfl⟩
  have R1 := hr.to p (by omega)
  have R3 := hr.from t HT.2
  rw [ha9] at R3
  have HA9 : Hid ((if cap = t then a else a.map (·.add (t * 4))) = a9) := ha9
  dsimp only [SN.val]
  clear hp ht HT hn hle ha9 hr
  go_enter Try.func42, Try.ntmps42
  go_wp2_with (first | (go_at_call 44; refine K.mono ?_; rintro e w1 ⟨rfl, b1⟩) | fail)
  have B1 := b0.trans (b1.mono b0.size)
  have T1 := (b1.block _ (row_lt T0)).trans T0
  clear K
  have kx : ∀ X, Below w1.heap.size w1 X → X.rangeAt w.heap.size 0 (SN.cells ⟨peer, boot, life, mine⟩) := fun X h => range_rowS ((h.block _ (row_lt T1)).trans T1)
  refine wp_region_any (by kernel_rfl) ?_
  change wpAny _ _ _ _ _ _ _ (World.drew _)
  refine wpAny_narrow (fun W' => Below w1.heap.size w1 W') _ _ _ _ ?_
  refine anyH_take 0 14 (.slice a n cap) rfl rfl (by kernel_rfl) (by kernel_rfl) (by kernel_rfl) (fun _ _ _ h => h) (Or.inl ⟨by rfl, by intro w hSw; go_simp⟩) ((Below.refl _ _).drew) ?_
  try simp only [Act.put, List.setIfInBounds_toArray, List.set_cons_zero, List.set_cons_succ]
  refine anyH_take 1 15 (.int .i64 (p : Int)) rfl rfl (by kernel_rfl) (by kernel_rfl) (by kernel_rfl) (fun _ _ _ h => h) (Or.inl ⟨by rfl, by intro w hSw; go_simp⟩) ((Below.refl _ _).drew) ?_
  try simp only [Act.put, List.setIfInBounds_toArray, List.set_cons_zero, List.set_cons_succ]
  refine anyH_take 2 16 (.slice a p cap) rfl rfl (by kernel_rfl) (by kernel_rfl) (by kernel_rfl) (fun _ _ _ h => h) (Or.inl ⟨by rfl, fun X hSw => exec_toS rfl rfl rfl HPC.out⟩) ((Below.refl _ _).drew) ?_
  try simp only [Act.put, List.setIfInBounds_toArray, List.set_cons_zero, List.set_cons_succ]
  refine anyH_take 3 17 (.agg #[.int .i64 peer, .int .i64 boot, .int .i64 life, .int .i64 mine]) rfl rfl (by kernel_rfl) (by kernel_rfl) (by kernel_rfl) (fun _ _ _ h => h) (Or.inl ⟨by rfl, fun X hSw => exec_load33 rfl w.heap.size 0 ⟨peer, boot, life, mine⟩ rfl (kx X hSw)⟩) ((Below.refl _ _).drew) ?_
  try simp only [Act.put, List.setIfInBounds_toArray, List.set_cons_zero, List.set_cons_succ]
  refine anyH_take 5 19 (.slice a n cap) rfl rfl (by kernel_rfl) (by kernel_rfl) (by kernel_rfl) (fun _ _ _ h => h) (Or.inl ⟨by rfl, by intro w hSw; go_simp⟩) ((Below.refl _ _).drew) ?_
  try simp only [Act.put, List.setIfInBounds_toArray, List.set_cons_zero, List.set_cons_succ]
  refine anyH_take 6 20 (.int .i64 (t : Int)) rfl rfl (by kernel_rfl) (by kernel_rfl) (by kernel_rfl) (fun _ _ _ h => h) (Or.inl ⟨by rfl, by intro w hSw; go_simp⟩) ((Below.refl _ _).drew) ?_
  try simp only [Act.put, List.setIfInBounds_toArray, List.set_cons_zero, List.set_cons_succ]
  refine anyH_take 7 21 (.slice a9 (n - t) (cap - t)) rfl rfl (by kernel_rfl) (by kernel_rfl) (by kernel_rfl) (fun _ _ _ h => h) (Or.inl ⟨by rfl, fun X hSw => (exec_fromS rfl rfl rfl HTN.out).trans (by rw [HA9.out])⟩) ((Below.refl _ _).drew) ?_
  try simp only [Act.put, List.setIfInBounds_toArray, List.set_cons_zero, List.set_cons_succ]
  refine wpAnyH_ready (rs := [4]) (by kernel_rfl) (by simp) ?_
  refine AllReadyH.cons rfl (fun K hK => ?_) AllReadyH.nil
  go_simp
  have bD : Below w1.heap.size w1 (w1.alloc (.cells #[.int .i64 peer, .int .i64 boot, .int .i64 life, .int .i64 mine] 33)).drew := ((Below.refl _ _).alloc (Nat.le_refl _) _).drew
  refine hK.out _ _ bD (fun hS => ?_)
  clear hK
  try simp only [Act.put, List.setIfInBounds_toArray, List.set_cons_zero, List.set_cons_succ]
  have TD : ((w1.alloc (.cells #[.int .i64 peer, .int .i64 boot, .int .i64 life, .int .i64 mine] 33)).drew).heap[w1.heap.size]? = some (.cells (SN.cells ⟨peer, boot, life, mine⟩).toArray 33 (0, 0)) := heap_new (w := w1) rfl
  obtain ⟨wD, hwD⟩ : ∃ wD, (w1.alloc (.cells #[.int .i64 peer, .int .i64 boot, .int .i64 life, .int .i64 mine] 33)).drew = wD := ⟨_, rfl⟩
  rw [hwD] at bD TD hS ⊢
  refine wpAnyH_ready (rs := [8]) (by kernel_rfl) (by simp) ?_
  refine AllReadyH.cons rfl (fun K hK => ?_) AllReadyH.nil
  go_simp
  have BE : Below w1.heap.size w1 (wD.alloc (.cells #[.slice a p cap, .slice (some ⟨w1.heap.size, 0, none⟩) 1 1, .slice a9 (n - t) (cap - t)] 22)) := bD.alloc bD.size _
  refine hK.out _ _ BE (fun hS2 => ?_)
  clear hK
  try simp only [Act.put, List.setIfInBounds_toArray, List.set_cons_zero, List.set_cons_succ]
  have TE : (wD.alloc (.cells #[.slice a p cap, .slice (some ⟨w1.heap.size, 0, none⟩) 1 1, .slice a9 (n - t) (cap - t)] 22)).heap[wD.heap.size]? = some (.cells #[.slice a p cap, .slice (some ⟨w1.heap.size, 0, none⟩) 1 1, .slice a9 (n - t) (cap - t)] 22 (0, 0)) := heap_new rfl
  have TD2 := heap_old (o := .cells #[.slice a p cap, .slice (some ⟨w1.heap.size, 0, none⟩) 1 1, .slice a9 (n - t) (cap - t)] 22) (row_lt TD) TD
  have BX := B1.trans (BE.mono B1.size)
  have KC := concat_any a p cap _ w1.heap.size ⟨peer, boot, life, mine⟩ a9 (n - t) (cap - t) _ wD.heap.size _ (R1.below BX) (rd_one TD2) (R3.below BX) TE (by have := HPT.out; have := HN.out; omega)
  refine wpAnyH_ready (rs := [9]) (by kernel_rfl) (by simp) ?_
  refine AllReadyH.cons rfl (fun K hK => ?_) AllReadyH.nil
  go_simp
  go_wp2_with (go_at_call 58; refine KC.mono ?_; rintro e w5 ⟨v5, rfl, O5, b5⟩)
  have BF := BE.trans (b5.mono BE.size)
  refine hK.out _ _ BF (fun hS3 => ?_)
  clear hK
  try simp only [Act.put, List.setIfInBounds_toArray, List.set_cons_zero, List.set_cons_succ]
  refine anyH_take 10 4 (v5) rfl rfl (by kernel_rfl) (by kernel_rfl) (by kernel_rfl) (fun _ _ _ h => h) (Or.inl ⟨by rfl, by intro w hSw; go_simp⟩) (BF) ?_
  try simp only [Act.put, List.setIfInBounds_toArray, List.set_cons_zero, List.set_cons_succ]
  refine wpAnyH_done (by kernel_rfl) ?_ _
  go_wp2
  go_ret
  obtain ⟨a', cap', rfl, L', hb'⟩ := own_lstS O5 (by have := HPT.out; have := HL.out; simp; omega)
  rw [← HI.out] at L'
  have hlen : p + 1 + (n - t) = (insS ⟨peer, boot, life, mine⟩ l).length := by rw [HI.out]; have := HPT.out; have := HL.out; simp; omega
  rw [hlen] at L'
  refine ⟨a', cap', by rw [← hlen]; rfl, L', fun g off e => ?_, B1.trans (BF.mono B1.size)⟩
  have := hb' g off e
  have := B1.size
  have := BE.size
  simp at *
  omega
end Go.Proofs.Yteoiogjaecpddaa
