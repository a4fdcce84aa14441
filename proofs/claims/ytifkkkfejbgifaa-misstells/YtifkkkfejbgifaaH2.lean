/-
  Lines and half-edges compared: slices.Equal, and the document's SameOne.
-/
import Derived.Test.YtifkkkfejbgifaaH1
namespace Go.Proofs.Ytifkkkfejbgifaa
open Go.ChangeShapes Go.WideShapes Go.ChangeAt Go.RowKit
set_option linter.unusedVariables false
set_option linter.unusedSimpArgs false


set_option maxRecDepth 100000 in
set_option maxHeartbeats 2000000 in
theorem one_0 (pe1 bo1 li1 : Int) (pd1 : Bool) (mi1 : Int) (pe2 bo2 li2 : Int) (pd2 : Bool) (mi2 : Int) (a b : Option Addr) (n m c d : Nat) (w : World)  (h0 : (pe1 == pe2) = false) : Calls Try.prog 37 #[.agg #[.int .i64 pe1, .int .i64 bo1, .int .i64 li1, .slice a n c, .bool pd1, .int .i64 mi1], .agg #[.int .i64 pe2, .int .i64 bo2, .int .i64 li2, .slice b m d, .bool pd2, .int .i64 mi2]] w fun e w' => e = .returned (.bool false) ∧ Below w.heap.size w w' := by
  have g0 : (pe1 != pe2) = true := by rw [bne, h0]; rfl
  go_enter Try.func37, Try.ntmps37
  go_wp2
  go_ret
  exact ⟨rfl, by go_grown⟩

set_option maxRecDepth 100000 in
set_option maxHeartbeats 2000000 in
theorem one_1 (pe1 bo1 li1 : Int) (pd1 : Bool) (mi1 : Int) (pe2 bo2 li2 : Int) (pd2 : Bool) (mi2 : Int) (a b : Option Addr) (n m c d : Nat) (w : World) (h0 : (pe1 == pe2) = true) (h1 : (bo1 == bo2) = false) : Calls Try.prog 37 #[.agg #[.int .i64 pe1, .int .i64 bo1, .int .i64 li1, .slice a n c, .bool pd1, .int .i64 mi1], .agg #[.int .i64 pe2, .int .i64 bo2, .int .i64 li2, .slice b m d, .bool pd2, .int .i64 mi2]] w fun e w' => e = .returned (.bool false) ∧ Below w.heap.size w w' := by
  obtain rfl : pe1 = pe2 := by simpa using h0
  have g1 : (bo1 != bo2) = true := by rw [bne, h1]; rfl
  go_enter Try.func37, Try.ntmps37
  go_wp2
  go_ret
  exact ⟨rfl, by go_grown⟩

set_option maxRecDepth 100000 in
set_option maxHeartbeats 2000000 in
theorem one_2 (pe1 bo1 li1 : Int) (pd1 : Bool) (mi1 : Int) (pe2 bo2 li2 : Int) (pd2 : Bool) (mi2 : Int) (a b : Option Addr) (n m c d : Nat) (w : World) (h0 : (pe1 == pe2) = true) (h1 : (bo1 == bo2) = true) (h2 : (li1 == li2) = false) : Calls Try.prog 37 #[.agg #[.int .i64 pe1, .int .i64 bo1, .int .i64 li1, .slice a n c, .bool pd1, .int .i64 mi1], .agg #[.int .i64 pe2, .int .i64 bo2, .int .i64 li2, .slice b m d, .bool pd2, .int .i64 mi2]] w fun e w' => e = .returned (.bool false) ∧ Below w.heap.size w w' := by
  obtain rfl : pe1 = pe2 := by simpa using h0
  obtain rfl : bo1 = bo2 := by simpa using h1
  have g2 : (li1 != li2) = true := by rw [bne, h2]; rfl
  go_enter Try.func37, Try.ntmps37
  go_wp2
  go_ret
  exact ⟨rfl, by go_grown⟩

set_option maxRecDepth 100000 in
set_option maxHeartbeats 2000000 in
theorem one_3 (pe1 bo1 li1 : Int) (pd1 : Bool) (mi1 : Int) (pe2 bo2 li2 : Int) (pd2 : Bool) (mi2 : Int) (a b : Option Addr) (n m c d : Nat) (w : World) (h0 : (pe1 == pe2) = true) (h1 : (bo1 == bo2) = true) (h2 : (li1 == li2) = true) (h3 : (pd1 == pd2) = false) : Calls Try.prog 37 #[.agg #[.int .i64 pe1, .int .i64 bo1, .int .i64 li1, .slice a n c, .bool pd1, .int .i64 mi1], .agg #[.int .i64 pe2, .int .i64 bo2, .int .i64 li2, .slice b m d, .bool pd2, .int .i64 mi2]] w fun e w' => e = .returned (.bool false) ∧ Below w.heap.size w w' := by
  obtain rfl : pe1 = pe2 := by simpa using h0
  obtain rfl : bo1 = bo2 := by simpa using h1
  obtain rfl : li1 = li2 := by simpa using h2
  have g3 : (pd1 != pd2) = true := by rw [bne, h3]; rfl
  go_enter Try.func37, Try.ntmps37
  go_wp2
  go_ret
  exact ⟨rfl, by go_grown⟩

set_option maxRecDepth 100000 in
set_option maxHeartbeats 2000000 in
theorem one_4 (pe1 bo1 li1 : Int) (pd1 : Bool) (mi1 : Int) (pe2 bo2 li2 : Int) (pd2 : Bool) (mi2 : Int) (a b : Option Addr) (n m c d : Nat) (w : World) (h0 : (pe1 == pe2) = true) (h1 : (bo1 == bo2) = true) (h2 : (li1 == li2) = true) (h3 : (pd1 == pd2) = true) (h4 : (mi1 == mi2) = false) : Calls Try.prog 37 #[.agg #[.int .i64 pe1, .int .i64 bo1, .int .i64 li1, .slice a n c, .bool pd1, .int .i64 mi1], .agg #[.int .i64 pe2, .int .i64 bo2, .int .i64 li2, .slice b m d, .bool pd2, .int .i64 mi2]] w fun e w' => e = .returned (.bool false) ∧ Below w.heap.size w w' := by
  obtain rfl : pe1 = pe2 := by simpa using h0
  obtain rfl : bo1 = bo2 := by simpa using h1
  obtain rfl : li1 = li2 := by simpa using h2
  obtain rfl : pd1 = pd2 := by simpa using h3
  have g4 : (mi1 != mi2) = true := by rw [bne, h4]; rfl
  go_enter Try.func37, Try.ntmps37
  go_wp2
  go_ret
  exact ⟨rfl, by go_grown⟩

set_option maxRecDepth 100000 in
set_option maxHeartbeats 2000000 in
theorem one_5 (pe1 bo1 li1 : Int) (pd1 : Bool) (mi1 : Int) (pe2 bo2 li2 : Int) (pd2 : Bool) (mi2 : Int) (a b : Option Addr) (n m c d : Nat) (w : World) (h0 : (pe1 == pe2) = true) (h1 : (bo1 == bo2) = true) (h2 : (li1 == li2) = true) (h3 : (pd1 == pd2) = true) (h4 : (mi1 == mi2) = true) (h5 : n ≠ m) : Calls Try.prog 37 #[.agg #[.int .i64 pe1, .int .i64 bo1, .int .i64 li1, .slice a n c, .bool pd1, .int .i64 mi1], .agg #[.int .i64 pe2, .int .i64 bo2, .int .i64 li2, .slice b m d, .bool pd2, .int .i64 mi2]] w fun e w' => e = .returned (.bool false) ∧ Below w.heap.size w w' := by
  obtain rfl : pe1 = pe2 := by simpa using h0
  obtain rfl : bo1 = bo2 := by simpa using h1
  obtain rfl : li1 = li2 := by simpa using h2
  obtain rfl : pd1 = pd2 := by simpa using h3
  obtain rfl : mi1 = mi2 := by simpa using h4
  have h6 : ((n : Int) == (m : Int)) = false := by simp; omega
  have g6 : ((n : Int) != (m : Int)) = true := by rw [bne, h6]; rfl
  have g7 : ¬ (n : Int) = (m : Int) := by omega
  go_enter Try.func37, Try.ntmps37
  go_wp2
  go_ret
  exact ⟨rfl, by go_grown⟩

set_option maxRecDepth 100000 in
set_option maxHeartbeats 4000000 in
theorem one_loop (pe1 bo1 li1 : Int) (pd1 : Bool) (mi1 : Int) (a b : Option Addr) (c d : Nat) (ls ms : List LS) (w : World) (R : RdL w a ls.length c ls) (Q : RdL w b ls.length d ms) : Calls Try.prog 37 #[.agg #[.int .i64 pe1, .int .i64 bo1, .int .i64 li1, .slice a ls.length c, .bool pd1, .int .i64 mi1], .agg #[.int .i64 pe1, .int .i64 bo1, .int .i64 li1, .slice b ls.length d, .bool pd1, .int .i64 mi1]] w fun e w' => e = .returned (.bool (eqLs ls ms)) ∧ Below w.heap.size w w' := by
  have HSM : Hid (ls.length ≤ 140737488355328) := R.small
  have HLM : Hid (ls.length = ms.length) := Q.size.symm
  have C0 := ((Bx.nil w).add rfl (.cells #[.int .i64 pe1, .int .i64 bo1, .int .i64 li1, .slice a ls.length c, .bool pd1, .int .i64 mi1] 24)).add (by simp) (.cells #[.int .i64 pe1, .int .i64 bo1, .int .i64 li1, .slice b ls.length d, .bool pd1, .int .i64 mi1] 24)
  go_enter Try.func37, Try.ntmps37
  go_wp2
  go_loopg [5] ls.length (fun gk v5 wr => ∃ i : Nat, v5 = .int .i64 (i : Int) ∧ i + gk = ls.length ∧ Bx w [.cells #[.int .i64 pe1, .int .i64 bo1, .int .i64 li1, .slice a ls.length c, .bool pd1, .int .i64 mi1] 24, .cells #[.int .i64 pe1, .int .i64 bo1, .int .i64 li1, .slice b ls.length d, .bool pd1, .int .i64 mi1] 24] wr ∧ ∀ j, j < i → eqL (ls.getD j LS.z) (ms.getD j LS.z) = true)
  case atStart => exact ⟨0, by first | rfl | go_num, by omega, C0, fun j hj => by omega⟩
  case round =>
    obtain ⟨i, rfl, hgk, C, hok⟩ := hrel
    have HOK : Hid (∀ j, j < i → eqL (ls.getD j LS.z) (ms.getD j LS.z) = true) := hok
    clear hok
    have z0 := (cel6 (C.at0 _ rfl)).c3
    by_cases hi : i < ls.length
    case pos =>
      have ka0 : ∀ X, Below wr.heap.size wr X → X.cell? ⟨w.heap.size, 3, none⟩ = some (.slice a ls.length c) := fun X k => (cel6 ((C.later k).at0 _ rfl)).c3
      have kb0 : ∀ X, Below wr.heap.size wr X → X.cell? ⟨w.heap.size + 1, 3, none⟩ = some (.slice b ls.length d) := fun X k => (cel6 ((C.later k).at_ 1 _ rfl)).c3
      have HI : Hid (i < ls.length) := hi
      have hiI : (i : Int) < (ls.length : Int) := by omega
      have hwr : IntKind.i64.wrap ((i : Int) + 1) = (i : Int) + 1 := by rw [IntKind.wrap_i64]; have := HSM.out; omega
      obtain ⟨g1, o1, rfl, k10, _, r10⟩ := R.at i hi
      obtain ⟨g2, o2, rfl, k20, _, r20⟩ := Q.at i hi
      obtain ⟨⟨n1, v1, p1, f1⟩, e1⟩ : ∃ x, ls.getD i LS.z = x := ⟨_, rfl⟩
      obtain ⟨⟨n2, v2, p2, f2⟩, e2⟩ : ∃ x, ms.getD i LS.z = x := ⟨_, rfl⟩
      rw [e1] at r10
      rw [e2] at r20
      have r1 := range_later r10 k10 C.below
      have r2 := range_later r20 k20 C.below
      have k1 := Nat.lt_of_lt_of_le k10 (Below.size C.below)
      have k2 := Nat.lt_of_lt_of_le k20 (Below.size C.below)
      have ka := ka0
      have kb := kb0
      clear ka0 kb0
      have HE : Hid (ls.getD i LS.z = ⟨n1, v1, p1, f1⟩ ∧ ms.getD i LS.z = ⟨n2, v2, p2, f2⟩) := ⟨e1, e2⟩
      clear e1 e2 r10 r20
      cases heq : eqL ⟨n1, v1, p1, f1⟩ ⟨n2, v2, p2, f2⟩ with
      | true =>
        have HQ : Hid (eqL (ls.getD i LS.z) (ms.getD i LS.z) = true) := by show _ = _; rw [HE.out.1, HE.out.2]; exact heq
        go_wp2_with (fail)
        refine wp_region_any (by kernel_rfl) ?_
        change wpAny _ _ _ _ _ _ _ (World.drew _)
        refine wpAny_narrow (fun W' => Below wr.heap.size wr W') _ _ _ _ ?_
        refine anyH_take 0 55 (.pointer (some ⟨w.heap.size, 3, none⟩)) rfl rfl (by kernel_rfl) (by kernel_rfl) (by kernel_rfl) (fun _ _ _ h => h) (Or.inl ⟨by rfl, by intro w hSw; go_simp⟩) ((Below.refl _ _).drew) ?_
        try simp only [Act.put, List.setIfInBounds_toArray, List.set_cons_zero, List.set_cons_succ]
        refine anyH_take 1 56 (.slice (some ⟨g1, o1, none⟩) ls.length c) rfl rfl (by kernel_rfl) (by kernel_rfl) (by kernel_rfl) (fun _ _ _ h => h) (Or.inl ⟨by rfl, by intro w hSw; have z1 := ka _ hSw; go_simp⟩) ((Below.refl _ _).drew) ?_
        try simp only [Act.put, List.setIfInBounds_toArray, List.set_cons_zero, List.set_cons_succ]
        refine anyH_take 2 57 (.int .i64 (i : Int)) rfl rfl (by kernel_rfl) (by kernel_rfl) (by kernel_rfl) (fun _ _ _ h => h) (Or.inl ⟨by rfl, by intro w hSw; go_simp⟩) ((Below.refl _ _).drew) ?_
        try simp only [Act.put, List.setIfInBounds_toArray, List.set_cons_zero, List.set_cons_succ]
        refine anyH_take 3 58 (.pointer (some ⟨g1, o1 + i * 4, none⟩)) rfl rfl (by kernel_rfl) (by kernel_rfl) (by kernel_rfl) (fun _ _ _ h => h) (Or.inl ⟨by rfl, by intro w hSw; go_simp⟩) ((Below.refl _ _).drew) ?_
        try simp only [Act.put, List.setIfInBounds_toArray, List.set_cons_zero, List.set_cons_succ]
        refine anyH_take 4 59 (.agg #[.string n1, .int .i64 v1, .int .i64 p1, .int .i64 f1]) rfl rfl (by kernel_rfl) (by kernel_rfl) (by kernel_rfl) (fun _ _ _ h => h) (Or.inl ⟨by rfl, fun X hSw => exec_load44 rfl g1 (o1 + i * 4) ⟨n1, v1, p1, f1⟩ rfl (range_later r1 k1 hSw)⟩) ((Below.refl _ _).drew) ?_
        try simp only [Act.put, List.setIfInBounds_toArray, List.set_cons_zero, List.set_cons_succ]
        refine anyH_take 5 60 (.pointer (some ⟨w.heap.size + 1, 3, none⟩)) rfl rfl (by kernel_rfl) (by kernel_rfl) (by kernel_rfl) (fun _ _ _ h => h) (Or.inl ⟨by rfl, by intro w hSw; go_simp⟩) ((Below.refl _ _).drew) ?_
        try simp only [Act.put, List.setIfInBounds_toArray, List.set_cons_zero, List.set_cons_succ]
        refine anyH_take 6 61 (.slice (some ⟨g2, o2, none⟩) ls.length d) rfl rfl (by kernel_rfl) (by kernel_rfl) (by kernel_rfl) (fun _ _ _ h => h) (Or.inl ⟨by rfl, by intro w hSw; have z1 := kb _ hSw; go_simp⟩) ((Below.refl _ _).drew) ?_
        try simp only [Act.put, List.setIfInBounds_toArray, List.set_cons_zero, List.set_cons_succ]
        refine anyH_take 7 62 (.int .i64 (i : Int)) rfl rfl (by kernel_rfl) (by kernel_rfl) (by kernel_rfl) (fun _ _ _ h => h) (Or.inl ⟨by rfl, by intro w hSw; go_simp⟩) ((Below.refl _ _).drew) ?_
        try simp only [Act.put, List.setIfInBounds_toArray, List.set_cons_zero, List.set_cons_succ]
        refine anyH_take 8 63 (.pointer (some ⟨g2, o2 + i * 4, none⟩)) rfl rfl (by kernel_rfl) (by kernel_rfl) (by kernel_rfl) (fun _ _ _ h => h) (Or.inl ⟨by rfl, by intro w hSw; go_simp⟩) ((Below.refl _ _).drew) ?_
        try simp only [Act.put, List.setIfInBounds_toArray, List.set_cons_zero, List.set_cons_succ]
        refine anyH_take 9 64 (.agg #[.string n2, .int .i64 v2, .int .i64 p2, .int .i64 f2]) rfl rfl (by kernel_rfl) (by kernel_rfl) (by kernel_rfl) (fun _ _ _ h => h) (Or.inl ⟨by rfl, fun X hSw => exec_load44 rfl g2 (o2 + i * 4) ⟨n2, v2, p2, f2⟩ rfl (range_later r2 k2 hSw)⟩) ((Below.refl _ _).drew) ?_
        try simp only [Act.put, List.setIfInBounds_toArray, List.set_cons_zero, List.set_cons_succ]
        refine anyH_take 10 65 (.bool (!eqL ⟨n1, v1, p1, f1⟩ ⟨n2, v2, p2, f2⟩)) rfl rfl (by kernel_rfl) (by kernel_rfl) (by kernel_rfl) (fun _ _ _ h => h) (Or.inl ⟨by rfl, fun X hSw => exec_neq44 rfl n1 v1 p1 f1 n2 v2 p2 f2 rfl rfl X⟩) ((Below.refl _ _).drew) ?_
        try simp only [Act.put, List.setIfInBounds_toArray, List.set_cons_zero, List.set_cons_succ]
        rw [heq]
        refine wpAnyH_done (by kernel_rfl) ?_ _
        have hS : Below wr.heap.size wr wr.drew := (Below.refl _ _).drew
        go_wp2
        go_roundg (gk - 1)
        case measure => omega
        case rel => exact ⟨i + 1, by first | rfl | go_num, by omega, C.later hS, fun j hj => (Nat.lt_succ_iff_lt_or_eq.1 hj).elim (HOK.out j) (fun e => by rw [e]; exact HQ.out)⟩
      | false =>
        have HQ : Hid (eqLs ls ms = false) := eqLs_no HI.out (by rw [HE.out.1, HE.out.2]; exact heq)
        go_wp2_with (fail)
        refine wp_region_any (by kernel_rfl) ?_
        change wpAny _ _ _ _ _ _ _ (World.drew _)
        refine wpAny_narrow (fun W' => Below wr.heap.size wr W') _ _ _ _ ?_
        refine anyH_take 0 55 (.pointer (some ⟨w.heap.size, 3, none⟩)) rfl rfl (by kernel_rfl) (by kernel_rfl) (by kernel_rfl) (fun _ _ _ h => h) (Or.inl ⟨by rfl, by intro w hSw; go_simp⟩) ((Below.refl _ _).drew) ?_
        try simp only [Act.put, List.setIfInBounds_toArray, List.set_cons_zero, List.set_cons_succ]
        refine anyH_take 1 56 (.slice (some ⟨g1, o1, none⟩) ls.length c) rfl rfl (by kernel_rfl) (by kernel_rfl) (by kernel_rfl) (fun _ _ _ h => h) (Or.inl ⟨by rfl, by intro w hSw; have z1 := ka _ hSw; go_simp⟩) ((Below.refl _ _).drew) ?_
        try simp only [Act.put, List.setIfInBounds_toArray, List.set_cons_zero, List.set_cons_succ]
        refine anyH_take 2 57 (.int .i64 (i : Int)) rfl rfl (by kernel_rfl) (by kernel_rfl) (by kernel_rfl) (fun _ _ _ h => h) (Or.inl ⟨by rfl, by intro w hSw; go_simp⟩) ((Below.refl _ _).drew) ?_
        try simp only [Act.put, List.setIfInBounds_toArray, List.set_cons_zero, List.set_cons_succ]
        refine anyH_take 3 58 (.pointer (some ⟨g1, o1 + i * 4, none⟩)) rfl rfl (by kernel_rfl) (by kernel_rfl) (by kernel_rfl) (fun _ _ _ h => h) (Or.inl ⟨by rfl, by intro w hSw; go_simp⟩) ((Below.refl _ _).drew) ?_
        try simp only [Act.put, List.setIfInBounds_toArray, List.set_cons_zero, List.set_cons_succ]
        refine anyH_take 4 59 (.agg #[.string n1, .int .i64 v1, .int .i64 p1, .int .i64 f1]) rfl rfl (by kernel_rfl) (by kernel_rfl) (by kernel_rfl) (fun _ _ _ h => h) (Or.inl ⟨by rfl, fun X hSw => exec_load44 rfl g1 (o1 + i * 4) ⟨n1, v1, p1, f1⟩ rfl (range_later r1 k1 hSw)⟩) ((Below.refl _ _).drew) ?_
        try simp only [Act.put, List.setIfInBounds_toArray, List.set_cons_zero, List.set_cons_succ]
        refine anyH_take 5 60 (.pointer (some ⟨w.heap.size + 1, 3, none⟩)) rfl rfl (by kernel_rfl) (by kernel_rfl) (by kernel_rfl) (fun _ _ _ h => h) (Or.inl ⟨by rfl, by intro w hSw; go_simp⟩) ((Below.refl _ _).drew) ?_
        try simp only [Act.put, List.setIfInBounds_toArray, List.set_cons_zero, List.set_cons_succ]
        refine anyH_take 6 61 (.slice (some ⟨g2, o2, none⟩) ls.length d) rfl rfl (by kernel_rfl) (by kernel_rfl) (by kernel_rfl) (fun _ _ _ h => h) (Or.inl ⟨by rfl, by intro w hSw; have z1 := kb _ hSw; go_simp⟩) ((Below.refl _ _).drew) ?_
        try simp only [Act.put, List.setIfInBounds_toArray, List.set_cons_zero, List.set_cons_succ]
        refine anyH_take 7 62 (.int .i64 (i : Int)) rfl rfl (by kernel_rfl) (by kernel_rfl) (by kernel_rfl) (fun _ _ _ h => h) (Or.inl ⟨by rfl, by intro w hSw; go_simp⟩) ((Below.refl _ _).drew) ?_
        try simp only [Act.put, List.setIfInBounds_toArray, List.set_cons_zero, List.set_cons_succ]
        refine anyH_take 8 63 (.pointer (some ⟨g2, o2 + i * 4, none⟩)) rfl rfl (by kernel_rfl) (by kernel_rfl) (by kernel_rfl) (fun _ _ _ h => h) (Or.inl ⟨by rfl, by intro w hSw; go_simp⟩) ((Below.refl _ _).drew) ?_
        try simp only [Act.put, List.setIfInBounds_toArray, List.set_cons_zero, List.set_cons_succ]
        refine anyH_take 9 64 (.agg #[.string n2, .int .i64 v2, .int .i64 p2, .int .i64 f2]) rfl rfl (by kernel_rfl) (by kernel_rfl) (by kernel_rfl) (fun _ _ _ h => h) (Or.inl ⟨by rfl, fun X hSw => exec_load44 rfl g2 (o2 + i * 4) ⟨n2, v2, p2, f2⟩ rfl (range_later r2 k2 hSw)⟩) ((Below.refl _ _).drew) ?_
        try simp only [Act.put, List.setIfInBounds_toArray, List.set_cons_zero, List.set_cons_succ]
        refine anyH_take 10 65 (.bool (!eqL ⟨n1, v1, p1, f1⟩ ⟨n2, v2, p2, f2⟩)) rfl rfl (by kernel_rfl) (by kernel_rfl) (by kernel_rfl) (fun _ _ _ h => h) (Or.inl ⟨by rfl, fun X hSw => exec_neq44 rfl n1 v1 p1 f1 n2 v2 p2 f2 rfl rfl X⟩) ((Below.refl _ _).drew) ?_
        try simp only [Act.put, List.setIfInBounds_toArray, List.set_cons_zero, List.set_cons_succ]
        rw [heq]
        refine wpAnyH_done (by kernel_rfl) ?_ _
        have hS : Below wr.heap.size wr wr.drew := (Below.refl _ _).drew
        go_wp2
        go_ret
        exact ⟨ret_bool (by rw [HQ.out]), (C.later hS).below⟩
    case neg =>
      have hiI : ¬ (i : Int) < (ls.length : Int) := by omega
      have HV : Hid (eqLs ls ms = true) := eqLs_yes HLM.out (fun j hj => HOK.out j (by omega))
      go_wp2
      go_ret
      exact ⟨ret_bool (by rw [HV.out]), C.below⟩
/-- The document's SameOne. -/
theorem sone_any (x y : HS) (a b : Option Addr) (c d : Nat) (w : World) (R : RdO w x a c) (Q : RdO w y b d) : Calls Try.prog 37 #[(x.on a c).val, (y.on b d).val] w fun e w' => e = .returned (.bool (x.eq1 y)) ∧ Below w.heap.size w w' := by
  obtain ⟨pe1, bo1, li1, ls, pd1, mi1⟩ := x
  obtain ⟨pe2, bo2, li2, ms, pd2, mi2⟩ := y
  have go : ∀ r, HS.eq1 ⟨pe1, bo1, li1, ls, pd1, mi1⟩ ⟨pe2, bo2, li2, ms, pd2, mi2⟩ = r → (Calls Try.prog 37 #[.agg #[.int .i64 pe1, .int .i64 bo1, .int .i64 li1, .slice a ls.length c, .bool pd1, .int .i64 mi1], .agg #[.int .i64 pe2, .int .i64 bo2, .int .i64 li2, .slice b ms.length d, .bool pd2, .int .i64 mi2]] w fun e w' => e = .returned (.bool r) ∧ Below w.heap.size w w') → Calls Try.prog 37 #[((HS.mk pe1 bo1 li1 ls pd1 mi1).on a c).val, ((HS.mk pe2 bo2 li2 ms pd2 mi2).on b d).val] w fun e w' => e = .returned (.bool (HS.eq1 ⟨pe1, bo1, li1, ls, pd1, mi1⟩ ⟨pe2, bo2, li2, ms, pd2, mi2⟩)) ∧ Below w.heap.size w w' := fun r e h => by rw [e]; exact h
  cases h0 : (pe1 == pe2) with
  | false => exact go _ (by simp at h0; simp [HS.eq1, h0]) (one_0 pe1 bo1 li1 pd1 mi1 pe2 bo2 li2 pd2 mi2 a b ls.length ms.length c d w h0)
  | true =>
  cases h1 : (bo1 == bo2) with
  | false => exact go _ (by simp at h1; simp [HS.eq1, h1]) (one_1 pe1 bo1 li1 pd1 mi1 pe2 bo2 li2 pd2 mi2 a b ls.length ms.length c d w h0 h1)
  | true =>
  cases h2 : (li1 == li2) with
  | false => exact go _ (by simp at h2; simp [HS.eq1, h2]) (one_2 pe1 bo1 li1 pd1 mi1 pe2 bo2 li2 pd2 mi2 a b ls.length ms.length c d w h0 h1 h2)
  | true =>
  cases h3 : (pd1 == pd2) with
  | false => exact go _ (by have : ¬ pd1 = pd2 := by simpa using h3
                            simp [HS.eq1, this]) (one_3 pe1 bo1 li1 pd1 mi1 pe2 bo2 li2 pd2 mi2 a b ls.length ms.length c d w h0 h1 h2 h3)
  | true =>
  cases h4 : (mi1 == mi2) with
  | false => exact go _ (by simp at h4; simp [HS.eq1, h4]) (one_4 pe1 bo1 li1 pd1 mi1 pe2 bo2 li2 pd2 mi2 a b ls.length ms.length c d w h0 h1 h2 h3 h4)
  | true =>
  by_cases h5 : ls.length = ms.length
  · obtain rfl : pe1 = pe2 := by simpa using h0
    obtain rfl : bo1 = bo2 := by simpa using h1
    obtain rfl : li1 = li2 := by simpa using h2
    obtain rfl : pd1 = pd2 := by simpa using h3
    obtain rfl : mi1 = mi2 := by simpa using h4
    refine go (eqLs ls ms) (by simp [HS.eq1]) ?_
    have Q' : RdL w b ms.length d ms := Q
    rw [← h5] at Q' ⊢
    exact one_loop pe1 bo1 li1 pd1 mi1 a b c d ls ms w R Q'
  · exact go _ (by simp [HS.eq1, eqLs, h5]) (one_5 pe1 bo1 li1 pd1 mi1 pe2 bo2 li2 pd2 mi2 a b ls.length ms.length c d w h0 h1 h2 h3 h4 h5)
end Go.Proofs.Ytifkkkfejbgifaa
