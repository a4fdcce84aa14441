/-
  Package shake: the iterator over what was seen.
-/
import Derived.Test.YteoiogjaecpddaaS0
namespace Go.Proofs.Yteoiogjaecpddaa
open Go.ChangeShapes Go.WideShapes Go.ChangeAt Go.RowKit Go.Maps Go.Shelf
set_option linter.unusedVariables false
set_option linter.unusedSimpArgs false
attribute [local go_sem] Oper.semAt_some

abbrev encS (x : SN) : Array Value := #[.agg #[.int .i64 x.peer, .int .i64 x.boot, .int .i64 x.life], .int .i64 x.mine]
set_option maxRecDepth 100000 in
set_option maxHeartbeats 8000000 in
theorem noted_gives (w0 : World) (fb : Nat) (a : Option Addr) (n cap : Nat) (l : List SN) (w : World) (hr : RdS w0 a n cap l) :
    Gives Try.prog 56 #[.pointer (some ⟨fb, 0, none⟩)] encS l w (KeepI w0 fb (.slice a n cap)) := by
  intro lp J Jx W hbW hJ hJx hKeep hY h0
  have K0 := hKeep _ _ _ h0
  obtain ⟨o0, of0, oz0⟩ := id K0.ptr
  have HN : Hid (n ≤ 140737488355328) := hr.small
  have HL : Hid (l.length = n) := hr.size
  refine (callsIn_wide (n := 2)).1 ?_
  refine callsIn_of_wp Try.func56 rfl trivial ?_
  simp only [Try.ntmps56, List.size_toArray, List.length_cons, List.length_nil, Nat.reduceAdd, Nat.reduceSub, Array.replicate_succ, Array.replicate_zero, List.push_toArray, List.append_toArray, List.nil_append, List.cons_append]
  gi_wp2
  gi_loopg [7] n (fun g v7 wr => ∃ (i : Nat) (C : Nat → Prop), v7 = .int .i64 (i : Int) ∧ i + g = n ∧ J i C wr ∧ (∀ c, C c → W.heap.size ≤ c ∧ c < wr.heap.size) ∧ W.heap.size ≤ wr.heap.size)
  case atStart =>
    exact ⟨0, fun _ => False, by first | rfl | go_num, by omega, h0, fun c h => h.elim, Nat.le_refl _⟩
  case round =>
    obtain ⟨i, C, rfl, hg, hJi, hCw, hWs⟩ := hrel
    have Kr := hKeep _ _ _ hJi
    by_cases hi : i < n
    · have hiI : (i : Int) < (n : Int) := by omega
      obtain ⟨b, off, rfl, hb, hd, hra⟩ := (hr.below Kr.below).at i hi
      obtain ⟨⟨peer, boot, life, mine⟩, hri⟩ : ∃ r, l.getD i SN.z = r := ⟨_, rfl⟩
      rw [hri] at hra hd
      have HD : Hid (l[i]? = some ⟨peer, boot, life, mine⟩) := hd
      have bA : Below wr.heap.size wr (wr.alloc (.cells #[.int .i64 peer, .int .i64 boot, .int .i64 life, .int .i64 mine] 33)) := (Below.refl _ _).alloc (Nat.le_refl _) _
      have T : (wr.alloc (.cells #[.int .i64 peer, .int .i64 boot, .int .i64 life, .int .i64 mine] 33)).heap[wr.heap.size]? = some (.cells (SN.cells ⟨peer, boot, life, mine⟩).toArray 33 (0, 0)) := heap_new rfl
      have JA := hJ _ _ _ _ hJi (Same.of_below (n := W.heap.size) (C := C) bA)
      have hwr : IntKind.i64.wrap ((i : Int) + 1) = (i : Int) + 1 := by rw [IntKind.wrap_i64]; have := HN.out; omega
      clear hd hri
      gi_wp2_with (first
        | ((with_reducible show wpListIn _ _ _ _ _ (Oper.mk _ (Op.load 33 (Operand.tmp 9)) _ _ _ _ :: _) _ _); refine wpListIn_load33x rfl _ rfl b (off + i * 4) peer boot life mine rfl hra ?_)
        | fail)
      obtain ⟨w6, hw6⟩ : ∃ w6, wr.alloc (.cells #[.int .i64 peer, .int .i64 boot, .int .i64 life, .int .i64 mine] 33) = w6 := ⟨_, rfl⟩
      rw [hw6] at bA T JA ⊢
      have hz6 : wr.heap.size < w6.heap.size := row_lt T
      obtain ⟨qx, hqx⟩ : ∃ q : Nat, wr.heap.size = q := ⟨_, rfl⟩
      rw [hqx] at T hz6
      simp only [hqx]
      have HCQ : Hid (¬ C qx ∧ W.heap.size ≤ qx) := by
        show _ ∧ _
        exact ⟨fun h => by have := (hCw _ h).2; omega, by omega⟩
      have HQZ : Hid (qx < w6.heap.size) := hz6
      have HBZ : Hid (Below wr.heap.size wr w6) := bA
      clear hw6 hqx bA hra Kr K0 o0 of0 hz6
      refine region_heldIn (fun W' => W'.heap[qx]? = some (.cells (SN.cells ⟨peer, boot, life, mine⟩).toArray 33 (0, 0))) (by kernel_rfl) ?_
      refine anyInH_take 0 11 (.func (.yield lp) #[] #[]) (by kernel_rfl) rfl rfl (by kernel_rfl) (by kernel_rfl) (by kernel_rfl) (fun _ _ _ h => h) (Or.inl ⟨by rfl, by intro w hSw; go_simp⟩) (fun w => by simp [Oper.about]) T ?_
      try simp only [Act.put, List.setIfInBounds_toArray, List.set_cons_zero, List.set_cons_succ]
      refine anyInH_take 3 14 (.pointer (some ⟨qx, 3, none⟩)) (by kernel_rfl) rfl rfl (by kernel_rfl) (by kernel_rfl) (by kernel_rfl) (fun _ _ _ h => h) (Or.inl ⟨by rfl, by intro w hSw; go_simp⟩) (fun w => by simp [Oper.about]) T ?_
      try simp only [Act.put, List.setIfInBounds_toArray, List.set_cons_zero, List.set_cons_succ]
      refine anyInH_take 1 12 (.agg #[.int .i64 peer, .int .i64 boot, .int .i64 life, .int .i64 mine]) (by kernel_rfl) rfl rfl (by kernel_rfl) (by kernel_rfl) (by kernel_rfl) (fun _ _ _ h => h) (Or.inl ⟨by rfl, fun X hSw => exec_load33 rfl qx 0 ⟨peer, boot, life, mine⟩ rfl (range_rowS hSw)⟩) (fun w => by simp [Oper.about]) T ?_
      try simp only [Act.put, List.setIfInBounds_toArray, List.set_cons_zero, List.set_cons_succ]
      refine anyInH_take 4 15 (.int .i64 mine) (by kernel_rfl) rfl rfl (by kernel_rfl) (by kernel_rfl) (by kernel_rfl) (fun _ _ _ h => h) (Or.inl ⟨by rfl, by intro w hSw; have s1 : w.cell? ⟨qx, 3, none⟩ = some (.int .i64 mine) := row_cell hSw 3 _ rfl; go_simp⟩) (fun w => by simp [Oper.about]) T ?_
      try simp only [Act.put, List.setIfInBounds_toArray, List.set_cons_zero, List.set_cons_succ]
      refine anyInH_one 2 (by kernel_rfl) rfl (by rfl) (fun K hK => ?_)
      go_simp
      refine ⟨trivial, ?_⟩
      gi_at_call 51
      refine (callsIn_wide.2 (latest_any ⟨peer, boot, life, mine⟩ _)).mono ?_
      rintro e w7 ⟨rfl, b7⟩
      dsimp only
      have b67 : Below w6.heap.size w6 w7 := (Below.refl _ _).drew.trans b7
      have hX7 : w7.heap[qx]? = some (.cells (SN.cells ⟨peer, boot, life, mine⟩).toArray 33 (0, 0)) := (b67.block _ HQZ.out).trans T
      refine hK _ _ hX7 (fun hS7 => ?_)
      clear hK
      try simp only [Act.put, List.setIfInBounds_toArray, List.set_cons_zero, List.set_cons_succ]
      have J7 := hJ _ _ _ _ JA (Same.of_below (n := W.heap.size) (C := C) b67)
      have hz7 := b67.size
      have hzz7 := HBZ.out.size
      obtain ⟨fn1, tmps, assign, body, hy, hR⟩ := hY _ C ⟨peer, boot, life, mine⟩ _ J7 (by omega) (fun c hc => ⟨(hCw c hc).1, by have := (hCw c hc).2; omega⟩) HD.out
      dsimp only [encS] at hy hR
      refine anyInH_one 5 (by kernel_rfl) rfl (by rfl) (fun K hK => ?_)
      go_simp
      refine (RoundIn.wideAny hR).mono ?_
      clear hR hy hY
      rintro e W3 (⟨rfl, C', hJ3, t3⟩ | ⟨rfl, C', hx3, t3⟩)
      · have hX3 := (t3.keep qx HCQ.out.2 (Nat.lt_of_lt_of_le HQZ.out hz7) HCQ.out.1).trans hX7
        refine hK _ _ hX3 (fun hS3 => ?_)
        clear hK
        try simp only [Act.put, List.setIfInBounds_toArray, List.set_cons_zero, List.set_cons_succ]
        refine anyInH_take 6 17 (.bool false) (by kernel_rfl) rfl rfl (by kernel_rfl) (by kernel_rfl) (by kernel_rfl) (fun _ _ _ h => h) (Or.inl ⟨by rfl, by intro w hSw; go_simp⟩) (fun w => by simp [Oper.about]) hX3 ?_
        try simp only [Act.put, List.setIfInBounds_toArray, List.set_cons_zero, List.set_cons_succ]
        refine anyInH_done (by kernel_rfl) ?_ _
        have hs3 := t3.size
        have hC3 : ∀ c, C' c → W.heap.size ≤ c ∧ c < W3.heap.size := fun c hc => ⟨(t3.mine c hc).1, (t3.mine c hc).2.1⟩
        have hs4 : W.heap.size ≤ W3.heap.size := by omega
        clear hs3 t3 hX3 hX7 hS7 hS3 T hz7 hzz7
        gi_wp2
        gi_roundg (gk - 1)
        case measure => omega
        case rel => exact ⟨i + 1, C', by first | rfl | go_num, by omega, hJ3, hC3, hs4⟩
      · have hX3 := (t3.keep qx HCQ.out.2 (Nat.lt_of_lt_of_le HQZ.out hz7) HCQ.out.1).trans hX7
        refine hK _ _ hX3 (fun hS3 => ?_)
        clear hK
        try simp only [Act.put, List.setIfInBounds_toArray, List.set_cons_zero, List.set_cons_succ]
        refine anyInH_take 6 17 (.bool true) (by kernel_rfl) rfl rfl (by kernel_rfl) (by kernel_rfl) (by kernel_rfl) (fun _ _ _ h => h) (Or.inl ⟨by rfl, by intro w hSw; go_simp⟩) (fun w => by simp [Oper.about]) hX3 ?_
        try simp only [Act.put, List.setIfInBounds_toArray, List.set_cons_zero, List.set_cons_succ]
        refine anyInH_done (by kernel_rfl) ?_ _
        gi_wp2
        exact bodyPost_ret (v := .tuple #[]) (by simp [results, Try.results56, go_sem]) rfl ⟨⟨_, rfl⟩, C', fun b hb => ⟨(t3.mine b hb).1, (t3.mine b hb).2.1⟩, .inr hx3⟩
    · have hin : i = n := by omega
      have HI : Hid (i = n) := hin
      clear hin
      gi_wp2
      exact bodyPost_end (v := .tuple #[]) (by simp [results, Try.results56, go_sem]) rfl ⟨⟨_, rfl⟩, C, hCw, .inl (by rw [HL.out, ← HI.out]; exact hJi)⟩
end Go.Proofs.Yteoiogjaecpddaa
