/-
  Package dir: learn's append.
-/
import Derived.Test.YtoeebofappbneaaGreatP4a
namespace Go.Proofs.YtoeebofappbneaaGreat
open Go.ChangeShapes Go.WideShapes Go.ChangeAt Go.RowKit Go.Maps Go.Shelf
set_option linter.unusedVariables false
set_option linter.unusedSimpArgs false
attribute [local go_sem] Oper.semAt_some

set_option maxRecDepth 100000 in
set_option maxHeartbeats 4000000 in
theorem app16 {id : Nat} {Q : Exit → Act → World → Prop} {W0 W : World} {D : Nat → Prop} {ps : String} {df : List Deferred} (lp : Nat) (hp : ∀ c a w, Q (.panic c) a w → False) {u0 u1 u2 u3 u4 u5 u7 u8 u9 u10 u12 u13 u14 u15 u16 u17 u18 u19 u20 u21 u22 u23 u24 u25 u26 u27 u28 u29 u30 u31 u32 u33 u34 u35 u36 u37 u38 u39 u40 u41 u42 u43 u44 u45 : Value} {k6 k7 k8 k9 k10 k11 base nv cv : Nat} {av : Option Addr} {c7 c8 c9 c10 : Array Value} {xs : List Value} (nm : ByteArray) (ep mr : Int) (al : Bool) (kd sc : Int)
    (M : MemG 0 D W0 W [(k11, fcs (some ⟨nm, ep, mr, al, kd, sc⟩), 125), (k10, c10, 125), (k9, c9, 125), (k8, c8, 3), (k7, c7, 3), (k6, #[.slice av nv cv], 44)])
    (O : W0.ownsRow base 47 6 (.slice av nv cv) nv xs) (hO : ∀ g, (Value.slice av nv cv).ownBlock = some g → D g) (hO2 : ∀ g, (Value.slice av nv cv).ownBlock = some g → ∀ k, k ∈ [k11, k10, k9, k8, k7, k6] → k ≠ g) (hb : (nv + 1) * 56 ≤ 140737488355328) (hbs : base ≤ W0.heap.size)
    (H : ∀ a' W' g cap, MemG 0 (fun b => D b ∧ ¬ (Value.slice av nv cv).ownBlock = some b) W0 W' [(k10, c10, 125), (k9, c9, 125), (k8, c8, 3), (k7, c7, 3), (k6, #[.slice (some ⟨g, 0, none⟩) (nv + 1) cap], 44)] → W'.ownsRow base 47 6 (.slice (some ⟨g, 0, none⟩) (nv + 1) cap) (nv + 1) (xs ++ CH.cells ⟨nm, ep, mr, al, kd, sc⟩) →
      (∀ g', (Value.slice (some ⟨g, 0, none⟩) (nv + 1) cap).ownBlock = some g' → (Value.slice av nv cv).ownBlock = some g' ∨ W0.heap.size ≤ g') → Q .normal a' W') :
    (Code.region id #[{ dst := some 38, op := Op.load 44 (Operand.tmp 6), type := 44, pos := ps, after := #[], guard := none }, { dst := some 39, op := Op.fieldAddr 125 (Operand.tmp 11) 0, type := 0, pos := ps, after := #[], guard := none }, { dst := some 40, op := Op.load 82 (Operand.tmp 39), type := 82, pos := ps, after := #[{ on := 1, ground := Ground.data }], guard := none }, { dst := some 41, op := Op.call { callee := Callee.value (Operand.func 55), args := #[Operand.tmp 40], argTypes := #[82] }, type := 47, pos := ps, after := #[{ on := 2, ground := Ground.data }], guard := none }, { dst := some 42, op := Op.buildSlice 44 1 #[(0, Operand.tmp 41)], type := 44, pos := ps, after := #[{ on := 3, ground := Ground.data }], guard := none }, { dst := some 43, op := Op.call { callee := Callee.builtin Builtin.append, args := #[Operand.tmp 38, Operand.tmp 42], argTypes := #[44, 44] }, type := 44, pos := ps, after := #[{ on := 0, ground := Ground.data }, { on := 4, ground := Ground.data }, { on := 3, ground := Ground.chain }], guard := none }, { dst := none, op := Op.store 44 (Operand.tmp 6) (Operand.tmp 43), type := 0, pos := ps, after := #[{ on := 5, ground := Ground.data }, { on := 5, ground := Ground.chain }, { on := 0, ground := Ground.phase }, { on := 1, ground := Ground.phase }, { on := 2, ground := Ground.phase }, { on := 3, ground := Ground.phase }, { on := 4, ground := Ground.phase }, { on := 5, ground := Ground.phase }], guard := none }] true).wpIn (Fence.wide.inRound lp) 3 Tryz.prog Q { tmps := #[u0, u1, u2, u3, u4, u5, .pointer (some ⟨k6, 0, none⟩), u7, u8, u9, u10, .pointer (some ⟨k11, 0, none⟩), u12, u13, u14, u15, u16, u17, u18, u19, u20, u21, u22, u23, u24, u25, u26, u27, u28, u29, u30, u31, u32, u33, u34, u35, u36, u37, u38, u39, u40, u41, u42, u43, u44, u45], defers := df } W := by
  refine region_heldIn (fun W' => W'.heap[k11]? = some (.cells (fcs (some ⟨nm, ep, mr, al, kd, sc⟩)) 125 (0, 0))) (by kernel_rfl) ?_
  replace M := M.drew
  revert M
  generalize World.drew _ = WD
  intro M
  refine anyInH_take 1 39 (.pointer (some ⟨k11, 0, none⟩)) (by kernel_rfl) rfl rfl (by kernel_rfl) (by kernel_rfl) (by kernel_rfl) (fun c a w h => (hp c _ w h).elim) (Or.inl ⟨by rfl, by intro w hSw; go_simp⟩) (fun w => by simp [Oper.about]) (M.get (.head _)) ?_
  try simp only [Act.put, List.setIfInBounds_toArray, List.set_cons_zero, List.set_cons_succ]
  refine anyInH_take 2 40 (rcv nm ep mr al kd sc) (by kernel_rfl) rfl rfl (by kernel_rfl) (by kernel_rfl) (by kernel_rfl) (fun c a w h => (hp c _ w h).elim) (Or.inl ⟨by rfl, fun X hSw => exec_loadp rfl rt57 [.int .i64 ep, .int .i64 mr, .string nm, .bool al, .int .i64 kd, .int .i64 sc] rfl hSw (by rfl) (by rfl)⟩) (fun w => by simp [Oper.about]) (M.get (.head _)) ?_
  try simp only [Act.put, List.setIfInBounds_toArray, List.set_cons_zero, List.set_cons_succ]
  refine anyInH_two 0 3 (by kernel_rfl) rfl rfl (by rfl) (by rfl) (fun K hK => ?_) (fun K hK => ?_)
  · refine wpIn_cell24 M _ rfl av nv cv rfl ((.tail _ (.tail _ (.tail _ (.tail _ (.tail _ (.head _))))))) rfl ?_
    refine hK.out _ _ (M.get (.head _)) (fun hS => ?_)
    clear hK hS
    try simp only [Act.put, List.setIfInBounds_toArray, List.set_cons_zero, List.set_cons_succ]
    refine anyInH_one 3 (by kernel_rfl) rfl (by rfl) (fun K hK => ?_)
    go_simp
    refine ⟨trivial, ?_⟩
    gi_at_call 55
    refine (CallsIn.inRound _ (callsIn_wide.2 (plain_any nm ep mr al kd sc _))).mono ?_
    rintro e w7 ⟨rfl, b7⟩
    replace M := M.later b7
    clear b7
    refine hK.out _ _ (M.get (.head _)) (fun hS => ?_)
    clear hK hS
    try simp only [Act.put, List.setIfInBounds_toArray, List.set_cons_zero, List.set_cons_succ]
    refine anyInH_one 4 (by kernel_rfl) rfl (by rfl) (fun K hK => ?_)
    have MA := M.add #[.string nm, .int .i64 ep, .int .i64 mr, .bool al, .int .i64 kd, .int .i64 sc] 47
    go_simp
    refine hK.out _ _ (MA.get (.tail _ (.head _))) (fun hS => ?_)
    clear hK hS M
    try simp only [Act.put, List.setIfInBounds_toArray, List.set_cons_zero, List.set_cons_succ]
    revert MA
    generalize World.alloc _ _ = WZ
    generalize Array.size _ = kz
    intro M
    refine anyInH_one 5 (by kernel_rfl) rfl (by rfl) (fun K hK => ?_)
    refine wpIn_append_ch _ _ rfl base (.slice av nv cv) nv xs rfl (owns_of_block O (fun g hg => M.same.block g (O.lt g hg).2 (.inr (hO g hg)))) ⟨kz, 0, none⟩ ⟨nm, ep, mr, al, kd, sc⟩ rfl (fun j u hu => by rw [add_plain, Nat.zero_add]; exact row_cell (M.get (.head _)) j u (by simpa [CH.cells] using hu)) hb (Nat.le_trans hbs M.same.size) ?_
    intro g cap W1 r1 r2 r3
    have M1 := (M.tail.weak (C' := fun b => D b ∧ ¬ (Value.slice av nv cv).ownBlock = some b) (fun b h => h.1)).grown r2 (fun b hb => ⟨Nat.zero_le _, fun h => h.2 hb, fun p hp e => hO2 b hb p.1 (by simp only [List.mem_cons, List.not_mem_nil, or_false] at hp ⊢; rcases hp with rfl | rfl | rfl | rfl | rfl | rfl <;> simp) e⟩)
    have hsz := M.same.size
    clear M
    refine hK.out _ _ (M1.get (.head _)) (fun hS => ?_)
    clear hK hS
    try simp only [Act.put, List.setIfInBounds_toArray, List.set_cons_zero, List.set_cons_succ]
    refine anyInH_one 6 (by kernel_rfl) rfl (by rfl) (fun K hK => ?_)
    refine wpIn_set24 M1 _ _ rfl 5 _ _ _ _ rfl rfl rfl rfl ?_
    intro W2 M2 far
    simp only [List.set_cons_zero, List.set_cons_succ, List.setIfInBounds_toArray] at M2
    refine hK.out _ _ (M2.get (.head _)) (fun hS => ?_)
    clear hK hS
    refine anyInH_done (by kernel_rfl) ?_ _
    refine H _ _ g cap M2.tail (owns_of_block r1 (fun g' hg' => far g' (fun e => ?_))) (fun g' hg' => ?_)
    · have e1 : g = g' := by simpa [Value.ownBlock] using hg'
      exact owns_at r1 (g := g) rfl (M1.get (.tail _ (.tail _ (.tail _ (.tail _ (.tail _ (.head _))))))) (by decide) (e1.trans e)
    · have e1 : g = g' := by simpa [Value.ownBlock] using hg'
      rcases r3 with h | h
      · exact .inl (e1 ▸ h)
      · exact .inr (by rw [← e1, h]; exact hsz)
  · go_simp
    refine ⟨trivial, ?_⟩
    gi_at_call 55
    refine (CallsIn.inRound _ (callsIn_wide.2 (plain_any nm ep mr al kd sc _))).mono ?_
    rintro e w7 ⟨rfl, b7⟩
    replace M := M.later b7
    clear b7
    refine hK.out _ _ (M.get (.head _)) (fun hS => ?_)
    clear hK hS
    try simp only [Act.put, List.setIfInBounds_toArray, List.set_cons_zero, List.set_cons_succ]
    refine anyInH_two 0 4 (by kernel_rfl) rfl rfl (by rfl) (by rfl) (fun K hK => ?_) (fun K hK => ?_)
    · refine wpIn_cell24 M _ rfl av nv cv rfl ((.tail _ (.tail _ (.tail _ (.tail _ (.tail _ (.head _))))))) rfl ?_
      refine hK.out _ _ (M.get (.head _)) (fun hS => ?_)
      clear hK hS
      try simp only [Act.put, List.setIfInBounds_toArray, List.set_cons_zero, List.set_cons_succ]
      refine anyInH_one 4 (by kernel_rfl) rfl (by rfl) (fun K hK => ?_)
      have MA := M.add #[.string nm, .int .i64 ep, .int .i64 mr, .bool al, .int .i64 kd, .int .i64 sc] 47
      go_simp
      refine hK.out _ _ (MA.get (.tail _ (.head _))) (fun hS => ?_)
      clear hK hS M
      try simp only [Act.put, List.setIfInBounds_toArray, List.set_cons_zero, List.set_cons_succ]
      revert MA
      generalize World.alloc _ _ = WZ
      generalize Array.size _ = kz
      intro M
      refine anyInH_one 5 (by kernel_rfl) rfl (by rfl) (fun K hK => ?_)
      refine wpIn_append_ch _ _ rfl base (.slice av nv cv) nv xs rfl (owns_of_block O (fun g hg => M.same.block g (O.lt g hg).2 (.inr (hO g hg)))) ⟨kz, 0, none⟩ ⟨nm, ep, mr, al, kd, sc⟩ rfl (fun j u hu => by rw [add_plain, Nat.zero_add]; exact row_cell (M.get (.head _)) j u (by simpa [CH.cells] using hu)) hb (Nat.le_trans hbs M.same.size) ?_
      intro g cap W1 r1 r2 r3
      have M1 := (M.tail.weak (C' := fun b => D b ∧ ¬ (Value.slice av nv cv).ownBlock = some b) (fun b h => h.1)).grown r2 (fun b hb => ⟨Nat.zero_le _, fun h => h.2 hb, fun p hp e => hO2 b hb p.1 (by simp only [List.mem_cons, List.not_mem_nil, or_false] at hp ⊢; rcases hp with rfl | rfl | rfl | rfl | rfl | rfl <;> simp) e⟩)
      have hsz := M.same.size
      clear M
      refine hK.out _ _ (M1.get (.head _)) (fun hS => ?_)
      clear hK hS
      try simp only [Act.put, List.setIfInBounds_toArray, List.set_cons_zero, List.set_cons_succ]
      refine anyInH_one 6 (by kernel_rfl) rfl (by rfl) (fun K hK => ?_)
      refine wpIn_set24 M1 _ _ rfl 5 _ _ _ _ rfl rfl rfl rfl ?_
      intro W2 M2 far
      simp only [List.set_cons_zero, List.set_cons_succ, List.setIfInBounds_toArray] at M2
      refine hK.out _ _ (M2.get (.head _)) (fun hS => ?_)
      clear hK hS
      refine anyInH_done (by kernel_rfl) ?_ _
      refine H _ _ g cap M2.tail (owns_of_block r1 (fun g' hg' => far g' (fun e => ?_))) (fun g' hg' => ?_)
      · have e1 : g = g' := by simpa [Value.ownBlock] using hg'
        exact owns_at r1 (g := g) rfl (M1.get (.tail _ (.tail _ (.tail _ (.tail _ (.tail _ (.head _))))))) (by decide) (e1.trans e)
      · have e1 : g = g' := by simpa [Value.ownBlock] using hg'
        rcases r3 with h | h
        · exact .inl (e1 ▸ h)
        · exact .inr (by rw [← e1, h]; exact hsz)
    · have MA := M.add #[.string nm, .int .i64 ep, .int .i64 mr, .bool al, .int .i64 kd, .int .i64 sc] 47
      go_simp
      refine hK.out _ _ (MA.get (.tail _ (.head _))) (fun hS => ?_)
      clear hK hS M
      try simp only [Act.put, List.setIfInBounds_toArray, List.set_cons_zero, List.set_cons_succ]
      revert MA
      generalize World.alloc _ _ = WZ
      generalize Array.size _ = kz
      intro M
      refine anyInH_one 0 (by kernel_rfl) rfl (by rfl) (fun K hK => ?_)
      refine wpIn_cell24 M _ rfl av nv cv rfl ((.tail _ (.tail _ (.tail _ (.tail _ (.tail _ (.tail _ (.head _)))))))) rfl ?_
      refine hK.out _ _ (M.get (.tail _ (.head _))) (fun hS => ?_)
      clear hK hS
      try simp only [Act.put, List.setIfInBounds_toArray, List.set_cons_zero, List.set_cons_succ]
      refine anyInH_one 5 (by kernel_rfl) rfl (by rfl) (fun K hK => ?_)
      refine wpIn_append_ch _ _ rfl base (.slice av nv cv) nv xs rfl (owns_of_block O (fun g hg => M.same.block g (O.lt g hg).2 (.inr (hO g hg)))) ⟨kz, 0, none⟩ ⟨nm, ep, mr, al, kd, sc⟩ rfl (fun j u hu => by rw [add_plain, Nat.zero_add]; exact row_cell (M.get (.head _)) j u (by simpa [CH.cells] using hu)) hb (Nat.le_trans hbs M.same.size) ?_
      intro g cap W1 r1 r2 r3
      have M1 := (M.tail.weak (C' := fun b => D b ∧ ¬ (Value.slice av nv cv).ownBlock = some b) (fun b h => h.1)).grown r2 (fun b hb => ⟨Nat.zero_le _, fun h => h.2 hb, fun p hp e => hO2 b hb p.1 (by simp only [List.mem_cons, List.not_mem_nil, or_false] at hp ⊢; rcases hp with rfl | rfl | rfl | rfl | rfl | rfl <;> simp) e⟩)
      have hsz := M.same.size
      clear M
      refine hK.out _ _ (M1.get (.head _)) (fun hS => ?_)
      clear hK hS
      try simp only [Act.put, List.setIfInBounds_toArray, List.set_cons_zero, List.set_cons_succ]
      refine anyInH_one 6 (by kernel_rfl) rfl (by rfl) (fun K hK => ?_)
      refine wpIn_set24 M1 _ _ rfl 5 _ _ _ _ rfl rfl rfl rfl ?_
      intro W2 M2 far
      simp only [List.set_cons_zero, List.set_cons_succ, List.setIfInBounds_toArray] at M2
      refine hK.out _ _ (M2.get (.head _)) (fun hS => ?_)
      clear hK hS
      refine anyInH_done (by kernel_rfl) ?_ _
      refine H _ _ g cap M2.tail (owns_of_block r1 (fun g' hg' => far g' (fun e => ?_))) (fun g' hg' => ?_)
      · have e1 : g = g' := by simpa [Value.ownBlock] using hg'
        exact owns_at r1 (g := g) rfl (M1.get (.tail _ (.tail _ (.tail _ (.tail _ (.tail _ (.head _))))))) (by decide) (e1.trans e)
      · have e1 : g = g' := by simpa [Value.ownBlock] using hg'
        rcases r3 with h | h
        · exact .inl (e1 ▸ h)
        · exact .inr (by rw [← e1, h]; exact hsz)
end Go.Proofs.YtoeebofappbneaaGreat
