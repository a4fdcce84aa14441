/-
  Lists of half-edges compared: Same, and the document's own.
-/
import Derived.Test.YtacefkchhcpgaaaH2
namespace Go.Proofs.Ytacefkchhcpgaaa
open Go.ChangeShapes Go.WideShapes Go.ChangeAt Go.RowKit
set_option linter.unusedVariables false
set_option linter.unusedSimpArgs false

def eqHs (a b : List HS) : Bool := decide (a.length = b.length) && (List.range a.length).all (fun i => (a.getD i HS.z).eq1 (b.getD i HS.z))
theorem eqHs_no {a b : List HS} {i : Nat} (hi : i < a.length) (h : (a.getD i HS.z).eq1 (b.getD i HS.z) = false) : eqHs a b = false := by
  unfold eqHs
  rw [List.all_eq_false.2 ⟨i, List.mem_range.2 hi, by rw [h]; decide⟩, Bool.and_false]
theorem eqHs_yes {a b : List HS} (hl : a.length = b.length) (h : ∀ j, j < a.length → (a.getD j HS.z).eq1 (b.getD j HS.z) = true) : eqHs a b = true := by
  unfold eqHs
  rw [decide_eq_true hl, List.all_eq_true.2 fun j hj => h j (List.mem_range.1 hj)]
  rfl

set_option maxRecDepth 100000 in
set_option maxHeartbeats 2000000 in
theorem same_0 (pe1 bo1 li1 : Int) (pd1 : Bool) (mi1 : Int) (pe2 bo2 li2 : Int) (pd2 : Bool) (mi2 : Int) (a b : Option Addr) (c d : Nat) (ls ms : List LS) (w : World) (R : RdL w a ls.length c ls) (Q : RdL w b ms.length d ms) (h0 : (pe1 == pe2) = false) : Calls Try.prog 48 #[.agg #[.int .i64 pe1, .int .i64 bo1, .int .i64 li1, .slice a ls.length c, .bool pd1, .int .i64 mi1], .agg #[.int .i64 pe2, .int .i64 bo2, .int .i64 li2, .slice b ms.length d, .bool pd2, .int .i64 mi2]] w fun e w' => e = .returned (.bool false) ∧ Below w.heap.size w w' := by
  have C0 := ((Bx.nil w).add rfl (.cells #[.int .i64 pe1, .int .i64 bo1, .int .i64 li1, .slice a ls.length c, .bool pd1, .int .i64 mi1] 24)).add (by simp) (.cells #[.int .i64 pe2, .int .i64 bo2, .int .i64 li2, .slice b ms.length d, .bool pd2, .int .i64 mi2] 24)
  have K63 := fun W (h : Below w.heap.size w W) => equal_any a b c d ls ms W (R.below h) (Q.below h)
  go_enter Try.func48, Try.ntmps48
  go_wp2
  go_ret
  exact ⟨rfl, C0.below⟩

set_option maxRecDepth 100000 in
set_option maxHeartbeats 2000000 in
theorem same_1 (pe1 bo1 li1 : Int) (pd1 : Bool) (mi1 : Int) (pe2 bo2 li2 : Int) (pd2 : Bool) (mi2 : Int) (a b : Option Addr) (c d : Nat) (ls ms : List LS) (w : World) (R : RdL w a ls.length c ls) (Q : RdL w b ms.length d ms) (h0 : (pe1 == pe2) = true) (h1 : (bo1 == bo2) = false) : Calls Try.prog 48 #[.agg #[.int .i64 pe1, .int .i64 bo1, .int .i64 li1, .slice a ls.length c, .bool pd1, .int .i64 mi1], .agg #[.int .i64 pe2, .int .i64 bo2, .int .i64 li2, .slice b ms.length d, .bool pd2, .int .i64 mi2]] w fun e w' => e = .returned (.bool false) ∧ Below w.heap.size w w' := by
  obtain rfl : pe1 = pe2 := by simpa using h0
  clear h0
  have C0 := ((Bx.nil w).add rfl (.cells #[.int .i64 pe1, .int .i64 bo1, .int .i64 li1, .slice a ls.length c, .bool pd1, .int .i64 mi1] 24)).add (by simp) (.cells #[.int .i64 pe1, .int .i64 bo2, .int .i64 li2, .slice b ms.length d, .bool pd2, .int .i64 mi2] 24)
  have K63 := fun W (h : Below w.heap.size w W) => equal_any a b c d ls ms W (R.below h) (Q.below h)
  go_enter Try.func48, Try.ntmps48
  go_wp2
  go_ret
  exact ⟨rfl, C0.below⟩

set_option maxRecDepth 100000 in
set_option maxHeartbeats 2000000 in
theorem same_2 (pe1 bo1 li1 : Int) (pd1 : Bool) (mi1 : Int) (pe2 bo2 li2 : Int) (pd2 : Bool) (mi2 : Int) (a b : Option Addr) (c d : Nat) (ls ms : List LS) (w : World) (R : RdL w a ls.length c ls) (Q : RdL w b ms.length d ms) (h0 : (pe1 == pe2) = true) (h1 : (bo1 == bo2) = true) (h2 : (li1 == li2) = false) : Calls Try.prog 48 #[.agg #[.int .i64 pe1, .int .i64 bo1, .int .i64 li1, .slice a ls.length c, .bool pd1, .int .i64 mi1], .agg #[.int .i64 pe2, .int .i64 bo2, .int .i64 li2, .slice b ms.length d, .bool pd2, .int .i64 mi2]] w fun e w' => e = .returned (.bool false) ∧ Below w.heap.size w w' := by
  obtain rfl : pe1 = pe2 := by simpa using h0
  obtain rfl : bo1 = bo2 := by simpa using h1
  clear h0
  clear h1
  have C0 := ((Bx.nil w).add rfl (.cells #[.int .i64 pe1, .int .i64 bo1, .int .i64 li1, .slice a ls.length c, .bool pd1, .int .i64 mi1] 24)).add (by simp) (.cells #[.int .i64 pe1, .int .i64 bo1, .int .i64 li2, .slice b ms.length d, .bool pd2, .int .i64 mi2] 24)
  have K63 := fun W (h : Below w.heap.size w W) => equal_any a b c d ls ms W (R.below h) (Q.below h)
  go_enter Try.func48, Try.ntmps48
  go_wp2
  go_ret
  exact ⟨rfl, C0.below⟩

set_option maxRecDepth 100000 in
set_option maxHeartbeats 2000000 in
theorem same_3 (pe1 bo1 li1 : Int) (pd1 : Bool) (mi1 : Int) (pe2 bo2 li2 : Int) (pd2 : Bool) (mi2 : Int) (a b : Option Addr) (c d : Nat) (ls ms : List LS) (w : World) (R : RdL w a ls.length c ls) (Q : RdL w b ms.length d ms) (h0 : (pe1 == pe2) = true) (h1 : (bo1 == bo2) = true) (h2 : (li1 == li2) = true) (h3 : eqLs ls ms = false) : Calls Try.prog 48 #[.agg #[.int .i64 pe1, .int .i64 bo1, .int .i64 li1, .slice a ls.length c, .bool pd1, .int .i64 mi1], .agg #[.int .i64 pe2, .int .i64 bo2, .int .i64 li2, .slice b ms.length d, .bool pd2, .int .i64 mi2]] w fun e w' => e = .returned (.bool false) ∧ Below w.heap.size w w' := by
  obtain rfl : pe1 = pe2 := by simpa using h0
  obtain rfl : bo1 = bo2 := by simpa using h1
  obtain rfl : li1 = li2 := by simpa using h2
  clear h0
  clear h1
  clear h2
  have C0 := ((Bx.nil w).add rfl (.cells #[.int .i64 pe1, .int .i64 bo1, .int .i64 li1, .slice a ls.length c, .bool pd1, .int .i64 mi1] 24)).add (by simp) (.cells #[.int .i64 pe1, .int .i64 bo1, .int .i64 li1, .slice b ms.length d, .bool pd2, .int .i64 mi2] 24)
  have K63 := fun W (h : Below w.heap.size w W) => equal_any a b c d ls ms W (R.below h) (Q.below h)
  go_enter Try.func48, Try.ntmps48
  go_wp2_with (go_at_call 63; refine (K63 _ C0.below).mono ?_; rw [h3]; rintro e w1 ⟨rfl, b1⟩; have C1 := C0.later b1; have ⟨p0, p1, p2, p3, p4, p5⟩ := cel6 (C1.at0 _ rfl); have ⟨q0, q1, q2, q3, q4, q5⟩ := cel6 (C1.at_ 1 _ rfl))
  go_ret
  exact ⟨rfl, C1.below⟩

set_option maxRecDepth 100000 in
set_option maxHeartbeats 2000000 in
theorem same_4 (pe1 bo1 li1 : Int) (pd1 : Bool) (mi1 : Int) (pe2 bo2 li2 : Int) (pd2 : Bool) (mi2 : Int) (a b : Option Addr) (c d : Nat) (ls ms : List LS) (w : World) (R : RdL w a ls.length c ls) (Q : RdL w b ms.length d ms) (h0 : (pe1 == pe2) = true) (h1 : (bo1 == bo2) = true) (h2 : (li1 == li2) = true) (h3 : eqLs ls ms = true) (h4 : (pd1 == pd2) = false) : Calls Try.prog 48 #[.agg #[.int .i64 pe1, .int .i64 bo1, .int .i64 li1, .slice a ls.length c, .bool pd1, .int .i64 mi1], .agg #[.int .i64 pe2, .int .i64 bo2, .int .i64 li2, .slice b ms.length d, .bool pd2, .int .i64 mi2]] w fun e w' => e = .returned (.bool false) ∧ Below w.heap.size w w' := by
  obtain rfl : pe1 = pe2 := by simpa using h0
  obtain rfl : bo1 = bo2 := by simpa using h1
  obtain rfl : li1 = li2 := by simpa using h2
  clear h0
  clear h1
  clear h2
  have C0 := ((Bx.nil w).add rfl (.cells #[.int .i64 pe1, .int .i64 bo1, .int .i64 li1, .slice a ls.length c, .bool pd1, .int .i64 mi1] 24)).add (by simp) (.cells #[.int .i64 pe1, .int .i64 bo1, .int .i64 li1, .slice b ms.length d, .bool pd2, .int .i64 mi2] 24)
  have K63 := fun W (h : Below w.heap.size w W) => equal_any a b c d ls ms W (R.below h) (Q.below h)
  go_enter Try.func48, Try.ntmps48
  go_wp2_with (go_at_call 63; refine (K63 _ C0.below).mono ?_; rw [h3]; rintro e w1 ⟨rfl, b1⟩; have C1 := C0.later b1; have ⟨p0, p1, p2, p3, p4, p5⟩ := cel6 (C1.at0 _ rfl); have ⟨q0, q1, q2, q3, q4, q5⟩ := cel6 (C1.at_ 1 _ rfl))
  go_ret
  exact ⟨rfl, C1.below⟩

set_option maxRecDepth 100000 in
set_option maxHeartbeats 2000000 in
theorem same_5 (pe1 bo1 li1 : Int) (pd1 : Bool) (mi1 : Int) (pe2 bo2 li2 : Int) (pd2 : Bool) (mi2 : Int) (a b : Option Addr) (c d : Nat) (ls ms : List LS) (w : World) (R : RdL w a ls.length c ls) (Q : RdL w b ms.length d ms) (h0 : (pe1 == pe2) = true) (h1 : (bo1 == bo2) = true) (h2 : (li1 == li2) = true) (h3 : eqLs ls ms = true) (h4 : (pd1 == pd2) = true) (h5 : (mi1 == mi2) = false) : Calls Try.prog 48 #[.agg #[.int .i64 pe1, .int .i64 bo1, .int .i64 li1, .slice a ls.length c, .bool pd1, .int .i64 mi1], .agg #[.int .i64 pe2, .int .i64 bo2, .int .i64 li2, .slice b ms.length d, .bool pd2, .int .i64 mi2]] w fun e w' => e = .returned (.bool false) ∧ Below w.heap.size w w' := by
  obtain rfl : pe1 = pe2 := by simpa using h0
  obtain rfl : bo1 = bo2 := by simpa using h1
  obtain rfl : li1 = li2 := by simpa using h2
  obtain rfl : pd1 = pd2 := by simpa using h4
  clear h0
  clear h1
  clear h2
  clear h4
  have C0 := ((Bx.nil w).add rfl (.cells #[.int .i64 pe1, .int .i64 bo1, .int .i64 li1, .slice a ls.length c, .bool pd1, .int .i64 mi1] 24)).add (by simp) (.cells #[.int .i64 pe1, .int .i64 bo1, .int .i64 li1, .slice b ms.length d, .bool pd1, .int .i64 mi2] 24)
  have K63 := fun W (h : Below w.heap.size w W) => equal_any a b c d ls ms W (R.below h) (Q.below h)
  go_enter Try.func48, Try.ntmps48
  go_wp2_with (go_at_call 63; refine (K63 _ C0.below).mono ?_; rw [h3]; rintro e w1 ⟨rfl, b1⟩; have C1 := C0.later b1; have ⟨p0, p1, p2, p3, p4, p5⟩ := cel6 (C1.at0 _ rfl); have ⟨q0, q1, q2, q3, q4, q5⟩ := cel6 (C1.at_ 1 _ rfl))
  go_ret
  exact ⟨rfl, C1.below⟩

set_option maxRecDepth 100000 in
set_option maxHeartbeats 2000000 in
theorem same_6 (pe1 bo1 li1 : Int) (pd1 : Bool) (mi1 : Int) (pe2 bo2 li2 : Int) (pd2 : Bool) (mi2 : Int) (a b : Option Addr) (c d : Nat) (ls ms : List LS) (w : World) (R : RdL w a ls.length c ls) (Q : RdL w b ms.length d ms) (h0 : (pe1 == pe2) = true) (h1 : (bo1 == bo2) = true) (h2 : (li1 == li2) = true) (h3 : eqLs ls ms = true) (h4 : (pd1 == pd2) = true) (h5 : (mi1 == mi2) = true) : Calls Try.prog 48 #[.agg #[.int .i64 pe1, .int .i64 bo1, .int .i64 li1, .slice a ls.length c, .bool pd1, .int .i64 mi1], .agg #[.int .i64 pe2, .int .i64 bo2, .int .i64 li2, .slice b ms.length d, .bool pd2, .int .i64 mi2]] w fun e w' => e = .returned (.bool true) ∧ Below w.heap.size w w' := by
  obtain rfl : pe1 = pe2 := by simpa using h0
  obtain rfl : bo1 = bo2 := by simpa using h1
  obtain rfl : li1 = li2 := by simpa using h2
  obtain rfl : pd1 = pd2 := by simpa using h4
  obtain rfl : mi1 = mi2 := by simpa using h5
  clear h0
  clear h1
  clear h2
  clear h4
  clear h5
  have C0 := ((Bx.nil w).add rfl (.cells #[.int .i64 pe1, .int .i64 bo1, .int .i64 li1, .slice a ls.length c, .bool pd1, .int .i64 mi1] 24)).add (by simp) (.cells #[.int .i64 pe1, .int .i64 bo1, .int .i64 li1, .slice b ms.length d, .bool pd1, .int .i64 mi1] 24)
  have K63 := fun W (h : Below w.heap.size w W) => equal_any a b c d ls ms W (R.below h) (Q.below h)
  go_enter Try.func48, Try.ntmps48
  go_wp2_with (go_at_call 63; refine (K63 _ C0.below).mono ?_; rw [h3]; rintro e w1 ⟨rfl, b1⟩; have C1 := C0.later b1; have ⟨p0, p1, p2, p3, p4, p5⟩ := cel6 (C1.at0 _ rfl); have ⟨q0, q1, q2, q3, q4, q5⟩ := cel6 (C1.at_ 1 _ rfl))
  go_ret
  exact ⟨rfl, C1.below⟩

theorem same1_any (x y : HS) (a b : Option Addr) (c d : Nat) (w : World) (R : RdO w x a c) (Q : RdO w y b d) : Calls Try.prog 48 #[(x.on a c).val, (y.on b d).val] w fun e w' => e = .returned (.bool (x.eq1 y)) ∧ Below w.heap.size w w' := by
  obtain ⟨pe1, bo1, li1, ls, pd1, mi1⟩ := x
  obtain ⟨pe2, bo2, li2, ms, pd2, mi2⟩ := y
  have go : ∀ r, HS.eq1 ⟨pe1, bo1, li1, ls, pd1, mi1⟩ ⟨pe2, bo2, li2, ms, pd2, mi2⟩ = r → (Calls Try.prog 48 #[.agg #[.int .i64 pe1, .int .i64 bo1, .int .i64 li1, .slice a ls.length c, .bool pd1, .int .i64 mi1], .agg #[.int .i64 pe2, .int .i64 bo2, .int .i64 li2, .slice b ms.length d, .bool pd2, .int .i64 mi2]] w fun e w' => e = .returned (.bool r) ∧ Below w.heap.size w w') → Calls Try.prog 48 #[((HS.mk pe1 bo1 li1 ls pd1 mi1).on a c).val, ((HS.mk pe2 bo2 li2 ms pd2 mi2).on b d).val] w fun e w' => e = .returned (.bool (HS.eq1 ⟨pe1, bo1, li1, ls, pd1, mi1⟩ ⟨pe2, bo2, li2, ms, pd2, mi2⟩)) ∧ Below w.heap.size w w' := fun r e h => by rw [e]; exact h
  cases h0 : (pe1 == pe2) with
  | false => exact go _ (by simp at h0; simp [HS.eq1, h0]) (same_0 pe1 bo1 li1 pd1 mi1 pe2 bo2 li2 pd2 mi2 a b c d ls ms w R Q h0)
  | true =>
  cases h1 : (bo1 == bo2) with
  | false => exact go _ (by simp at h1; simp [HS.eq1, h1]) (same_1 pe1 bo1 li1 pd1 mi1 pe2 bo2 li2 pd2 mi2 a b c d ls ms w R Q h0 h1)
  | true =>
  cases h2 : (li1 == li2) with
  | false => exact go _ (by simp at h2; simp [HS.eq1, h2]) (same_2 pe1 bo1 li1 pd1 mi1 pe2 bo2 li2 pd2 mi2 a b c d ls ms w R Q h0 h1 h2)
  | true =>
  cases h3 : eqLs ls ms with
  | false => exact go _ (by simp [HS.eq1, h3]) (same_3 pe1 bo1 li1 pd1 mi1 pe2 bo2 li2 pd2 mi2 a b c d ls ms w R Q h0 h1 h2 h3)
  | true =>
  cases h4 : (pd1 == pd2) with
  | false => exact go _ (by have : ¬ pd1 = pd2 := by simpa using h4
                            simp [HS.eq1, this]) (same_4 pe1 bo1 li1 pd1 mi1 pe2 bo2 li2 pd2 mi2 a b c d ls ms w R Q h0 h1 h2 h3 h4)
  | true =>
  cases h5 : (mi1 == mi2) with
  | false => exact go _ (by simp at h5; simp [HS.eq1, h5]) (same_5 pe1 bo1 li1 pd1 mi1 pe2 bo2 li2 pd2 mi2 a b c d ls ms w R Q h0 h1 h2 h3 h4 h5)
  | true => exact go _ (by simp at h0 h1 h2 h4 h5; simp [HS.eq1, h0, h1, h2, h3, h4, h5]) (same_6 pe1 bo1 li1 pd1 mi1 pe2 bo2 li2 pd2 mi2 a b c d ls ms w R Q h0 h1 h2 h3 h4 h5)

set_option maxRecDepth 100000 in
set_option maxHeartbeats 4000000 in
theorem rsame_same (A A' : Option Addr) (c d : Nat) (hs ks : List HS) (w : World) (P : Hs w A hs.length c hs) (Q : Hs w A' hs.length d ks) : Calls Try.prog 13 #[.slice A hs.length c, .slice A' hs.length d] w fun e w' => e = .returned (.bool (eqHs hs ks)) ∧ Below w.heap.size w w' := by
  have HSM : Hid (hs.length ≤ 140737488355328) := by show _ ≤ _; have := P.small; omega
  have HLM : Hid (hs.length = ks.length) := Q.size.symm
  go_enter Try.func13, Try.ntmps13
  go_wp2
  go_loopg [5] hs.length (fun gk vi wr => ∃ i : Nat, vi = .int .i64 (i : Int) ∧ i + gk = hs.length ∧ Below w.heap.size w wr ∧ ∀ j, j < i → (hs.getD j HS.z).eq1 (ks.getD j HS.z) = true)
  case atStart => exact ⟨0, by first | rfl | go_num, by omega, Below.refl _ _, fun j hj => by omega⟩
  case round =>
    obtain ⟨i, rfl, hgk, B, hok⟩ := hrel
    have HOK : Hid (∀ j, j < i → (hs.getD j HS.z).eq1 (ks.getD j HS.z) = true) := hok
    clear hok
    by_cases hi : i < hs.length
    case pos =>
      have HI : Hid (i < hs.length) := hi
      have hiI : (i : Int) < (hs.length : Int) := by omega
      have hwr : IntKind.i64.wrap ((i : Int) + 1) = (i : Int) + 1 := by rw [IntKind.wrap_i64]; have := HSM.out; omega
      obtain ⟨g1, o1, a1, c1, rfl, k10, r10, R1⟩ := P.at i hi
      obtain ⟨g2, o2, a2, c2, rfl, k20, r20, R2⟩ := Q.at i hi
      obtain ⟨x, e1⟩ : ∃ x, hs.getD i HS.z = x := ⟨_, rfl⟩
      obtain ⟨y, e2⟩ : ∃ x, ks.getD i HS.z = x := ⟨_, rfl⟩
      rw [e1] at r10 R1
      rw [e2] at r20 R2
      have r1 := range_later r10 k10 B
      have r2 := range_later r20 k20 B
      have k1 := Nat.lt_of_lt_of_le k10 B.size
      have k2 := Nat.lt_of_lt_of_le k20 B.size
      have HE : Hid (hs.getD i HS.z = x ∧ ks.getD i HS.z = y) := ⟨e1, e2⟩
      have KC := fun W (h : Below w.heap.size w W) => sone_any x y a1 a2 c1 c2 W (RdL.below R1 h) (RdL.below R2 h)
      clear e1 e2 r10 r20 R1 R2
      cases heq : x.eq1 y with
      | true =>
        have HQ : Hid ((hs.getD i HS.z).eq1 (ks.getD i HS.z) = true) := by show _ = _; rw [HE.out.1, HE.out.2]; exact heq
        go_wp2_with (fail)
        refine wp_region_any (by kernel_rfl) ?_
        change wpAny _ _ _ _ _ _ _ (World.drew _)
        refine wpAny_narrow (fun W' => Below wr.heap.size wr W') _ _ _ _ ?_
        refine anyH_take 0 17 (.slice (some ⟨g1, o1, none⟩) hs.length c) rfl rfl (by kernel_rfl) (by kernel_rfl) (by kernel_rfl) (fun _ _ _ h => h) (Or.inl ⟨by rfl, by intro w hSw; go_simp⟩) ((Below.refl _ _).drew) ?_
        try simp only [Act.put, List.setIfInBounds_toArray, List.set_cons_zero, List.set_cons_succ]
        refine anyH_take 1 18 (.int .i64 (i : Int)) rfl rfl (by kernel_rfl) (by kernel_rfl) (by kernel_rfl) (fun _ _ _ h => h) (Or.inl ⟨by rfl, by intro w hSw; go_simp⟩) ((Below.refl _ _).drew) ?_
        try simp only [Act.put, List.setIfInBounds_toArray, List.set_cons_zero, List.set_cons_succ]
        refine anyH_take 2 19 (.pointer (some ⟨g1, o1 + i * 6, none⟩)) rfl rfl (by kernel_rfl) (by kernel_rfl) (by kernel_rfl) (fun _ _ _ h => h) (Or.inl ⟨by rfl, by intro w hSw; go_simp⟩) ((Below.refl _ _).drew) ?_
        try simp only [Act.put, List.setIfInBounds_toArray, List.set_cons_zero, List.set_cons_succ]
        refine anyH_take 3 20 ((x.on a1 c1).val) rfl rfl (by kernel_rfl) (by kernel_rfl) (by kernel_rfl) (fun _ _ _ h => h) (Or.inl ⟨by rfl, fun X hSw => exec_load24 rfl g1 (o1 + i * 6) (x.on a1 c1) rfl (range_later r1 k1 hSw)⟩) ((Below.refl _ _).drew) ?_
        try simp only [Act.put, List.setIfInBounds_toArray, List.set_cons_zero, List.set_cons_succ]
        refine anyH_take 4 21 (.slice (some ⟨g2, o2, none⟩) hs.length d) rfl rfl (by kernel_rfl) (by kernel_rfl) (by kernel_rfl) (fun _ _ _ h => h) (Or.inl ⟨by rfl, by intro w hSw; go_simp⟩) ((Below.refl _ _).drew) ?_
        try simp only [Act.put, List.setIfInBounds_toArray, List.set_cons_zero, List.set_cons_succ]
        refine anyH_take 5 22 (.int .i64 (i : Int)) rfl rfl (by kernel_rfl) (by kernel_rfl) (by kernel_rfl) (fun _ _ _ h => h) (Or.inl ⟨by rfl, by intro w hSw; go_simp⟩) ((Below.refl _ _).drew) ?_
        try simp only [Act.put, List.setIfInBounds_toArray, List.set_cons_zero, List.set_cons_succ]
        refine anyH_take 6 23 (.pointer (some ⟨g2, o2 + i * 6, none⟩)) rfl rfl (by kernel_rfl) (by kernel_rfl) (by kernel_rfl) (fun _ _ _ h => h) (Or.inl ⟨by rfl, by intro w hSw; go_simp⟩) ((Below.refl _ _).drew) ?_
        try simp only [Act.put, List.setIfInBounds_toArray, List.set_cons_zero, List.set_cons_succ]
        refine anyH_take 7 24 ((y.on a2 c2).val) rfl rfl (by kernel_rfl) (by kernel_rfl) (by kernel_rfl) (fun _ _ _ h => h) (Or.inl ⟨by rfl, fun X hSw => exec_load24 rfl g2 (o2 + i * 6) (y.on a2 c2) rfl (range_later r2 k2 hSw)⟩) ((Below.refl _ _).drew) ?_
        try simp only [Act.put, List.setIfInBounds_toArray, List.set_cons_zero, List.set_cons_succ]
        refine wpAnyH_ready (rs := [8]) (by kernel_rfl) (by simp) ?_
        refine AllReadyH.cons rfl (fun K hK => ?_) AllReadyH.nil
        go_simp
        go_wp2_with (go_at_call 20; refine (KC _ (B.trans ((Below.refl _ _).drew.mono B.size))).mono ?_; rw [heq]; rintro e w5 ⟨rfl, b5⟩)
        refine hK.out _ _ ((Below.refl _ _).drew.trans b5) (fun hS => ?_)
        clear hK
        refine anyH_take 9 26 (.bool false) rfl rfl (by kernel_rfl) (by kernel_rfl) (by kernel_rfl) (fun _ _ _ h => h) (Or.inl ⟨by rfl, by intro w hSw; go_simp⟩) (hS) ?_
        try simp only [Act.put, List.setIfInBounds_toArray, List.set_cons_zero, List.set_cons_succ]
        refine wpAnyH_done (by kernel_rfl) ?_ _
        go_wp2
        go_roundg (gk - 1)
        case measure => omega
        case rel => exact ⟨i + 1, by first | rfl | go_num, by omega, B.trans (hS.mono B.size), fun j hj => (Nat.lt_succ_iff_lt_or_eq.1 hj).elim (HOK.out j) (fun e => by rw [e]; exact HQ.out)⟩
      | false =>
        have HQ : Hid (eqHs hs ks = false) := eqHs_no HI.out (by rw [HE.out.1, HE.out.2]; exact heq)
        go_wp2_with (fail)
        refine wp_region_any (by kernel_rfl) ?_
        change wpAny _ _ _ _ _ _ _ (World.drew _)
        refine wpAny_narrow (fun W' => Below wr.heap.size wr W') _ _ _ _ ?_
        refine anyH_take 0 17 (.slice (some ⟨g1, o1, none⟩) hs.length c) rfl rfl (by kernel_rfl) (by kernel_rfl) (by kernel_rfl) (fun _ _ _ h => h) (Or.inl ⟨by rfl, by intro w hSw; go_simp⟩) ((Below.refl _ _).drew) ?_
        try simp only [Act.put, List.setIfInBounds_toArray, List.set_cons_zero, List.set_cons_succ]
        refine anyH_take 1 18 (.int .i64 (i : Int)) rfl rfl (by kernel_rfl) (by kernel_rfl) (by kernel_rfl) (fun _ _ _ h => h) (Or.inl ⟨by rfl, by intro w hSw; go_simp⟩) ((Below.refl _ _).drew) ?_
        try simp only [Act.put, List.setIfInBounds_toArray, List.set_cons_zero, List.set_cons_succ]
        refine anyH_take 2 19 (.pointer (some ⟨g1, o1 + i * 6, none⟩)) rfl rfl (by kernel_rfl) (by kernel_rfl) (by kernel_rfl) (fun _ _ _ h => h) (Or.inl ⟨by rfl, by intro w hSw; go_simp⟩) ((Below.refl _ _).drew) ?_
        try simp only [Act.put, List.setIfInBounds_toArray, List.set_cons_zero, List.set_cons_succ]
        refine anyH_take 3 20 ((x.on a1 c1).val) rfl rfl (by kernel_rfl) (by kernel_rfl) (by kernel_rfl) (fun _ _ _ h => h) (Or.inl ⟨by rfl, fun X hSw => exec_load24 rfl g1 (o1 + i * 6) (x.on a1 c1) rfl (range_later r1 k1 hSw)⟩) ((Below.refl _ _).drew) ?_
        try simp only [Act.put, List.setIfInBounds_toArray, List.set_cons_zero, List.set_cons_succ]
        refine anyH_take 4 21 (.slice (some ⟨g2, o2, none⟩) hs.length d) rfl rfl (by kernel_rfl) (by kernel_rfl) (by kernel_rfl) (fun _ _ _ h => h) (Or.inl ⟨by rfl, by intro w hSw; go_simp⟩) ((Below.refl _ _).drew) ?_
        try simp only [Act.put, List.setIfInBounds_toArray, List.set_cons_zero, List.set_cons_succ]
        refine anyH_take 5 22 (.int .i64 (i : Int)) rfl rfl (by kernel_rfl) (by kernel_rfl) (by kernel_rfl) (fun _ _ _ h => h) (Or.inl ⟨by rfl, by intro w hSw; go_simp⟩) ((Below.refl _ _).drew) ?_
        try simp only [Act.put, List.setIfInBounds_toArray, List.set_cons_zero, List.set_cons_succ]
        refine anyH_take 6 23 (.pointer (some ⟨g2, o2 + i * 6, none⟩)) rfl rfl (by kernel_rfl) (by kernel_rfl) (by kernel_rfl) (fun _ _ _ h => h) (Or.inl ⟨by rfl, by intro w hSw; go_simp⟩) ((Below.refl _ _).drew) ?_
        try simp only [Act.put, List.setIfInBounds_toArray, List.set_cons_zero, List.set_cons_succ]
        refine anyH_take 7 24 ((y.on a2 c2).val) rfl rfl (by kernel_rfl) (by kernel_rfl) (by kernel_rfl) (fun _ _ _ h => h) (Or.inl ⟨by rfl, fun X hSw => exec_load24 rfl g2 (o2 + i * 6) (y.on a2 c2) rfl (range_later r2 k2 hSw)⟩) ((Below.refl _ _).drew) ?_
        try simp only [Act.put, List.setIfInBounds_toArray, List.set_cons_zero, List.set_cons_succ]
        refine wpAnyH_ready (rs := [8]) (by kernel_rfl) (by simp) ?_
        refine AllReadyH.cons rfl (fun K hK => ?_) AllReadyH.nil
        go_simp
        go_wp2_with (go_at_call 20; refine (KC _ (B.trans ((Below.refl _ _).drew.mono B.size))).mono ?_; rw [heq]; rintro e w5 ⟨rfl, b5⟩)
        refine hK.out _ _ ((Below.refl _ _).drew.trans b5) (fun hS => ?_)
        clear hK
        refine anyH_take 9 26 (.bool true) rfl rfl (by kernel_rfl) (by kernel_rfl) (by kernel_rfl) (fun _ _ _ h => h) (Or.inl ⟨by rfl, by intro w hSw; go_simp⟩) (hS) ?_
        try simp only [Act.put, List.setIfInBounds_toArray, List.set_cons_zero, List.set_cons_succ]
        refine wpAnyH_done (by kernel_rfl) ?_ _
        go_wp2
        go_ret
        exact ⟨ret_bool (by rw [HQ.out]), B.trans (hS.mono B.size)⟩
    case neg =>
      have hiI : ¬ (i : Int) < (hs.length : Int) := by omega
      have HV : Hid (eqHs hs ks = true) := eqHs_yes HLM.out (fun j hj => HOK.out j (by omega))
      go_wp2
      go_ret
      exact ⟨ret_bool (by rw [HV.out]), B⟩

set_option maxHeartbeats 1000000 in
theorem rsame_len (a b : Option Addr) (n m c d : Nat) (w : World) (h : n ≠ m) : Calls Try.prog 13 #[.slice a n c, .slice b m d] w fun e w' => e = .returned (.bool false) ∧ w' = w := by
  have h1 : ((n : Int) == (m : Int)) = false := by simp; omega
  have h3 : ¬ (n : Int) = (m : Int) := by omega
  go_enter Try.func13, Try.ntmps13
  go_wp2
  go_ret
  exact ⟨rfl, rfl⟩

theorem rsame_any (A A' : Option Addr) (c d : Nat) (hs ks : List HS) (w : World) (P : Hs w A hs.length c hs) (Q : Hs w A' ks.length d ks) : Calls Try.prog 13 #[.slice A hs.length c, .slice A' ks.length d] w fun e w' => e = .returned (.bool (eqHs hs ks)) ∧ Below w.heap.size w w' := by
  by_cases h : hs.length = ks.length
  · have Q' := Q
    rw [← h] at Q' ⊢
    exact rsame_same A A' c d hs ks w P Q'
  · refine (rsame_len A A' hs.length ks.length c d w h).mono ?_
    rintro e w' ⟨rfl, hw⟩
    rw [hw, show eqHs hs ks = false by unfold eqHs; rw [decide_eq_false h]; rfl]
    exact ⟨rfl, Below.refl _ _⟩

set_option maxRecDepth 100000 in
set_option maxHeartbeats 4000000 in
theorem equalf_same (A A' : Option Addr) (c d : Nat) (hs ks : List HS) (w : World) (P : Hs w A hs.length c hs) (Q : Hs w A' hs.length d ks) : Calls Try.prog 47 #[.slice A hs.length c, .slice A' hs.length d, .func (.func 48) #[] #[]] w fun e w' => e = .returned (.bool (eqHs hs ks)) ∧ Below w.heap.size w w' := by
  have HSM : Hid (hs.length ≤ 140737488355328) := by show _ ≤ _; have := P.small; omega
  have HLM : Hid (hs.length = ks.length) := Q.size.symm
  go_enter Try.func47, Try.ntmps47
  go_wp2
  go_loopg [17] hs.length (fun gk vi wr => ∃ i : Nat, vi = .int .i64 (i : Int) ∧ i + gk = hs.length ∧ Below w.heap.size w wr ∧ ∀ j, j < i → (hs.getD j HS.z).eq1 (ks.getD j HS.z) = true)
  case atStart => exact ⟨0, by first | rfl | go_num, by omega, Below.refl _ _, fun j hj => by omega⟩
  case round =>
    obtain ⟨i, rfl, hgk, B, hok⟩ := hrel
    have HOK : Hid (∀ j, j < i → (hs.getD j HS.z).eq1 (ks.getD j HS.z) = true) := hok
    clear hok
    by_cases hi : i < hs.length
    case pos =>
      have HI : Hid (i < hs.length) := hi
      have hiI : (i : Int) < (hs.length : Int) := by omega
      have hwr : IntKind.i64.wrap ((i : Int) + 1) = (i : Int) + 1 := by rw [IntKind.wrap_i64]; have := HSM.out; omega
      obtain ⟨g1, o1, a1, c1, rfl, k10, r10, R1⟩ := P.at i hi
      obtain ⟨g2, o2, a2, c2, rfl, k20, r20, R2⟩ := Q.at i hi
      obtain ⟨x, e1⟩ : ∃ x, hs.getD i HS.z = x := ⟨_, rfl⟩
      obtain ⟨y, e2⟩ : ∃ x, ks.getD i HS.z = x := ⟨_, rfl⟩
      rw [e1] at r10 R1
      rw [e2] at r20 R2
      have r1 := range_later r10 k10 B
      have r2 := range_later r20 k20 B
      have k1 := Nat.lt_of_lt_of_le k10 B.size
      have k2 := Nat.lt_of_lt_of_le k20 B.size
      have HE : Hid (hs.getD i HS.z = x ∧ ks.getD i HS.z = y) := ⟨e1, e2⟩
      have KC := fun W (h : Below w.heap.size w W) => same1_any x y a1 a2 c1 c2 W (RdL.below R1 h) (RdL.below R2 h)
      clear e1 e2 r10 r20 R1 R2
      obtain ⟨pe1, bo1, li1, ls, pd1, mi1⟩ := x
      obtain ⟨pe2, bo2, li2, ms, pd2, mi2⟩ := y
      have BB : Below wr.heap.size wr ((wr.alloc (.cells #[.int .i64 pe1, .int .i64 bo1, .int .i64 li1, .slice a1 ls.length c1, .bool pd1, .int .i64 mi1] 24)).alloc (.cells #[.int .i64 pe2, .int .i64 bo2, .int .i64 li2, .slice a2 ms.length c2, .bool pd2, .int .i64 mi2] 24)) := ((Below.refl _ _).alloc (Nat.le_refl _) _).alloc (by simp) _
      have r2' := range_later r2 k2 ((Below.refl _ _).alloc (Nat.le_refl _) (.cells #[.int .i64 pe1, .int .i64 bo1, .int .i64 li1, .slice a1 ls.length c1, .bool pd1, .int .i64 mi1] 24))
      cases heq : HS.eq1 ⟨pe1, bo1, li1, ls, pd1, mi1⟩ ⟨pe2, bo2, li2, ms, pd2, mi2⟩ with
      | true =>
        have HQ : Hid ((hs.getD i HS.z).eq1 (ks.getD i HS.z) = true) := by show _ = _; rw [HE.out.1, HE.out.2]; exact heq
        go_wp2_with (first
          | ((with_reducible show wpList _ _ _ (Oper.mk _ (Op.load 24 (Operand.tmp 20)) _ _ _ _ :: _) _ _); refine wpList_load24x rfl _ rfl g1 (o1 + i * 6) pe1 bo1 li1 a1 ls.length c1 pd1 mi1 rfl r1 ?_)
          | ((with_reducible show wpList _ _ _ (Oper.mk _ (Op.load 24 (Operand.tmp 24)) _ _ _ _ :: _) _ _); refine wpList_load24x rfl _ rfl g2 (o2 + i * 6) pe2 bo2 li2 a2 ms.length c2 pd2 mi2 rfl r2' ?_)
          | (go_at_call 48; refine (KC _ (B.trans (BB.mono B.size))).mono ?_; rw [heq]; rintro e w5 ⟨rfl, b5⟩; have b6 := BB.trans (b5.mono BB.size)))
        go_roundg (gk - 1)
        case measure => omega
        case rel => exact ⟨i + 1, by first | rfl | go_num, by omega, B.trans (b6.mono B.size), fun j hj => (Nat.lt_succ_iff_lt_or_eq.1 hj).elim (HOK.out j) (fun e => by rw [e]; exact HQ.out)⟩
      | false =>
        have HQ : Hid (eqHs hs ks = false) := eqHs_no HI.out (by rw [HE.out.1, HE.out.2]; exact heq)
        go_wp2_with (first
          | ((with_reducible show wpList _ _ _ (Oper.mk _ (Op.load 24 (Operand.tmp 20)) _ _ _ _ :: _) _ _); refine wpList_load24x rfl _ rfl g1 (o1 + i * 6) pe1 bo1 li1 a1 ls.length c1 pd1 mi1 rfl r1 ?_)
          | ((with_reducible show wpList _ _ _ (Oper.mk _ (Op.load 24 (Operand.tmp 24)) _ _ _ _ :: _) _ _); refine wpList_load24x rfl _ rfl g2 (o2 + i * 6) pe2 bo2 li2 a2 ms.length c2 pd2 mi2 rfl r2' ?_)
          | (go_at_call 48; refine (KC _ (B.trans (BB.mono B.size))).mono ?_; rw [heq]; rintro e w5 ⟨rfl, b5⟩; have b6 := BB.trans (b5.mono BB.size)))
        go_ret
        exact ⟨ret_bool (by rw [HQ.out]), B.trans (b6.mono B.size)⟩
    case neg =>
      have hiI : ¬ (i : Int) < (hs.length : Int) := by omega
      have HV : Hid (eqHs hs ks = true) := eqHs_yes HLM.out (fun j hj => HOK.out j (by omega))
      go_wp2
      go_ret
      exact ⟨ret_bool (by rw [HV.out]), B⟩

set_option maxHeartbeats 1000000 in
theorem equalf_len (a b : Option Addr) (n m c d : Nat) (w : World) (h : n ≠ m) : Calls Try.prog 47 #[.slice a n c, .slice b m d, .func (.func 48) #[] #[]] w fun e w' => e = .returned (.bool false) ∧ w' = w := by
  have h1 : ((n : Int) == (m : Int)) = false := by simp; omega
  have h3 : ¬ (n : Int) = (m : Int) := by omega
  go_enter Try.func47, Try.ntmps47
  go_wp2
  go_ret
  exact ⟨rfl, rfl⟩

theorem equalf_any (A A' : Option Addr) (c d : Nat) (hs ks : List HS) (w : World) (P : Hs w A hs.length c hs) (Q : Hs w A' ks.length d ks) : Calls Try.prog 47 #[.slice A hs.length c, .slice A' ks.length d, .func (.func 48) #[] #[]] w fun e w' => e = .returned (.bool (eqHs hs ks)) ∧ Below w.heap.size w w' := by
  by_cases h : hs.length = ks.length
  · have Q' := Q
    rw [← h] at Q' ⊢
    exact equalf_same A A' c d hs ks w P Q'
  · refine (equalf_len A A' hs.length ks.length c d w h).mono ?_
    rintro e w' ⟨rfl, hw⟩
    rw [hw, show eqHs hs ks = false by unfold eqHs; rw [decide_eq_false h]; rfl]
    exact ⟨rfl, Below.refl _ _⟩

set_option maxHeartbeats 1000000 in
/-- Same. -/
theorem hsame_any (A A' : Option Addr) (c d : Nat) (hs ks : List HS) (w : World) (P : Hs w A hs.length c hs) (Q : Hs w A' ks.length d ks) : Calls Try.prog 12 #[.slice A hs.length c, .slice A' ks.length d] w fun e w' => e = .returned (.bool (eqHs hs ks)) ∧ Below w.heap.size w w' := by
  go_enter Try.func12, Try.ntmps12
  go_wp2_with (go_at_call 47; refine (equalf_any A A' c d hs ks _ P Q).mono ?_; rintro e w1 ⟨rfl, b1⟩)
  go_ret
  exact ⟨rfl, b1⟩
end Go.Proofs.Ytacefkchhcpgaaa
