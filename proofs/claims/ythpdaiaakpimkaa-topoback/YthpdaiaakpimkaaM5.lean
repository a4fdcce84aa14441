/-
  Package topo: Next, the program's and the document's.
-/
import Derived.Test.YthpdaiaakpimkaaM4
namespace Go.Proofs.Ythpdaiaakpimkaa
open Go.ChangeShapes Go.WideShapes Go.ChangeAt Go.RowKit
set_option linter.unusedVariables false
set_option linter.unusedSimpArgs false
theorem tmod_nat (a b : Nat) : ((a : Int)).tmod (b : Int) = ((a % b : Nat) : Int) := (Int.ofNat_tmod a b).symm
set_option maxRecDepth 100000 in
set_option maxHeartbeats 2000000 in
theorem next_some (a : Option Addr) (len cap : Nat) (zs : List Int) (t : Nat) (w : World) (R : Row w a len cap zs) (ht : t < len) : Calls Try.prog 18 #[.slice a len cap, .int .i64 (t : Int)] w fun e w' => e = .returned (.tuple #[.int .i64 (zs.getD t 0), .int .i64 (((t + 1) % len : Nat) : Int), .bool true]) ∧ Below w.heap.size w w' := by
  have hm := R.small
  obtain ⟨b, off, rfl, hb, hc⟩ := R.mem.resolve_left (by omega)
  have c0 := hc t ht
  obtain ⟨x, hx⟩ : ∃ x, zs.getD t 0 = x := ⟨_, rfl⟩
  rw [hx] at c0 ⊢
  have hp : (decide (0 ≤ (t : Int)) && decide ((t : Int) < (len : Int))) = true := by simp; omega
  have htI : (t : Int) < (len : Int) := by omega
  have hl0 : ((len : Int) == 0) = false := by simp; omega
  have hl1 : ¬ (len : Int) = 0 := by omega
  have hl2 : ¬ len = 0 := by omega
  have hwk : IntKind.i64.wrap ((t : Int) + 1) = ((t + 1 : Nat) : Int) := by rw [IntKind.wrap_i64]; omega
  have hrm : IntKind.i64.wrap (((t + 1 : Nat) : Int).tmod (len : Int)) = (((t + 1) % len : Nat) : Int) := by
    rw [tmod_nat, IntKind.wrap_i64]
    have := Nat.mod_lt (t + 1) (show len > 0 by omega)
    omega
  have HM : Hid (len ≤ 9223372036854775807) := hm
  clear hc R hx hm
  go_enter Try.func18, Try.ntmps18
  go_wp2_with (go_at_call 25; refine (isPlace_any (some ⟨b, off, none⟩) len cap (t : Int) w).mono ?_; rintro e w1 ⟨rfl, hw⟩; rw [hw, hp]; clear hw w1)
  refine wp_region_any (by kernel_rfl) ?_
  change wpAny _ _ _ _ _ _ _ (World.drew _)
  refine wpAny_narrow (fun W => W.cell? ⟨b, off + t, none⟩ = some (.int .i64 x)) _ _ _ _ ?_
  refine anyH_take 0 12 (.slice (some ⟨b, off, none⟩) len cap) rfl rfl (by kernel_rfl) (by kernel_rfl) (by kernel_rfl) (fun _ _ _ h => h) (Or.inl ⟨by rfl, by intro w hSw; go_simp⟩) (c0) ?_
  try simp only [Act.put, List.setIfInBounds_toArray, List.set_cons_zero, List.set_cons_succ]
  refine anyH_take 1 13 (.int .i64 (t : Int)) rfl rfl (by kernel_rfl) (by kernel_rfl) (by kernel_rfl) (fun _ _ _ h => h) (Or.inl ⟨by rfl, by intro w hSw; go_simp⟩) (c0) ?_
  try simp only [Act.put, List.setIfInBounds_toArray, List.set_cons_zero, List.set_cons_succ]
  refine anyH_take 2 14 (.pointer (some ⟨b, off + t, none⟩)) rfl rfl (by kernel_rfl) (by kernel_rfl) (by kernel_rfl) (fun _ _ _ h => h) (Or.inl ⟨by rfl, by intro w hSw; go_simp⟩) (c0) ?_
  try simp only [Act.put, List.setIfInBounds_toArray, List.set_cons_zero, List.set_cons_succ]
  refine anyH_take 3 15 (.int .i64 x) rfl rfl (by kernel_rfl) (by kernel_rfl) (by kernel_rfl) (fun _ _ _ h => h) (Or.inl ⟨by rfl, by intro w hSw; have s1 := hSw; go_simp⟩) (c0) ?_
  try simp only [Act.put, List.setIfInBounds_toArray, List.set_cons_zero, List.set_cons_succ]
  refine anyH_take 4 16 (.int .i64 (t : Int)) rfl rfl (by kernel_rfl) (by kernel_rfl) (by kernel_rfl) (fun _ _ _ h => h) (Or.inl ⟨by rfl, by intro w hSw; go_simp⟩) (c0) ?_
  try simp only [Act.put, List.setIfInBounds_toArray, List.set_cons_zero, List.set_cons_succ]
  refine anyH_take 5 17 (.int .i64 ((t + 1 : Nat) : Int)) rfl rfl (by kernel_rfl) (by kernel_rfl) (by kernel_rfl) (fun _ _ _ h => h) (Or.inl ⟨by rfl, by intro w hSw; go_simp⟩) (c0) ?_
  try simp only [Act.put, List.setIfInBounds_toArray, List.set_cons_zero, List.set_cons_succ]
  refine anyH_take 6 18 (.slice (some ⟨b, off, none⟩) len cap) rfl rfl (by kernel_rfl) (by kernel_rfl) (by kernel_rfl) (fun _ _ _ h => h) (Or.inl ⟨by rfl, by intro w hSw; go_simp⟩) (c0) ?_
  try simp only [Act.put, List.setIfInBounds_toArray, List.set_cons_zero, List.set_cons_succ]
  refine anyH_take 7 19 (.int .i64 (len : Int)) rfl rfl (by kernel_rfl) (by kernel_rfl) (by kernel_rfl) (fun _ _ _ h => h) (Or.inl ⟨by rfl, by intro w hSw; go_simp⟩) (c0) ?_
  try simp only [Act.put, List.setIfInBounds_toArray, List.set_cons_zero, List.set_cons_succ]
  refine anyH_take 8 20 (.int .i64 (((t + 1) % len : Nat) : Int)) rfl rfl (by kernel_rfl) (by kernel_rfl) (by kernel_rfl) (fun _ _ _ h => h) (Or.inl ⟨by rfl, by intro w hSw; go_simp; exact Int.tmod_eq_emod_of_nonneg (by omega)⟩) (c0) ?_
  try simp only [Act.put, List.setIfInBounds_toArray, List.set_cons_zero, List.set_cons_succ]
  refine anyH_take 9 4 (.int .i64 x) rfl rfl (by kernel_rfl) (by kernel_rfl) (by kernel_rfl) (fun _ _ _ h => h) (Or.inl ⟨by rfl, by intro w hSw; go_simp⟩) (c0) ?_
  try simp only [Act.put, List.setIfInBounds_toArray, List.set_cons_zero, List.set_cons_succ]
  refine anyH_take 10 5 (.int .i64 (((t + 1) % len : Nat) : Int)) rfl rfl (by kernel_rfl) (by kernel_rfl) (by kernel_rfl) (fun _ _ _ h => h) (Or.inl ⟨by rfl, by intro w hSw; go_simp⟩) (c0) ?_
  try simp only [Act.put, List.setIfInBounds_toArray, List.set_cons_zero, List.set_cons_succ]
  refine anyH_take 11 6 (.bool true) rfl rfl (by kernel_rfl) (by kernel_rfl) (by kernel_rfl) (fun _ _ _ h => h) (Or.inl ⟨by rfl, by intro w hSw; go_simp⟩) (c0) ?_
  try simp only [Act.put, List.setIfInBounds_toArray, List.set_cons_zero, List.set_cons_succ]
  refine wpAnyH_done (by kernel_rfl) ?_ _
  go_wp2
  exact bodyPost_ret (v := .tuple #[.int .i64 x, .int .i64 (((t + 1) % len : Nat) : Int), .bool true]) (by simp [results, Try.results18, go_sem]) rfl ⟨rfl, (Below.refl _ _).drew⟩
set_option maxRecDepth 100000 in
theorem next_none (a : Option Addr) (cap : Nat) (t : Nat) (w : World) : Calls Try.prog 18 #[.slice a 0 cap, .int .i64 (t : Int)] w fun e w' => e = .returned (.tuple #[.int .i64 0, .int .i64 (t : Int), .bool false]) ∧ w' = w := by
  have hp : (decide (0 ≤ (t : Int)) && decide ((t : Int) < ((0 : Nat) : Int))) = false := by simp
  go_enter Try.func18, Try.ntmps18
  go_wp2_with (go_at_call 25; refine (isPlace_any a 0 cap (t : Int) w).mono ?_; rintro e w1 ⟨rfl, hw⟩; rw [hw, hp]; clear hw w1)
  exact bodyPost_ret (v := .tuple #[.int .i64 0, .int .i64 (t : Int), .bool false]) (by simp [results, Try.results18, go_sem]) rfl ⟨rfl, rfl⟩
set_option maxRecDepth 100000 in
set_option maxHeartbeats 2000000 in
theorem rnext_some (a : Option Addr) (len cap : Nat) (zs : List Int) (t : Nat) (w : World) (R : Row w a len cap zs) (ht : t < len) : Calls Try.prog 19 #[.slice a len cap, .int .i64 (t : Int)] w fun e w' => e = .returned (.tuple #[.int .i64 (zs.getD t 0), .int .i64 (((t + 1) % len : Nat) : Int), .bool true]) ∧ Below w.heap.size w w' := by
  have hm := R.small
  obtain ⟨b, off, rfl, hb, hc⟩ := R.mem.resolve_left (by omega)
  have c0 := hc t ht
  obtain ⟨x, hx⟩ : ∃ x, zs.getD t 0 = x := ⟨_, rfl⟩
  rw [hx] at c0 ⊢
  have hp : (decide (0 ≤ (t : Int)) && decide ((t : Int) < (len : Int))) = true := by simp; omega
  have htI : (t : Int) < (len : Int) := by omega
  have hl0 : ((len : Int) == 0) = false := by simp; omega
  have hl1 : ¬ (len : Int) = 0 := by omega
  have hl2 : ¬ len = 0 := by omega
  have hwk : IntKind.i64.wrap ((t : Int) + 1) = ((t + 1 : Nat) : Int) := by rw [IntKind.wrap_i64]; omega
  have hrm : IntKind.i64.wrap (((t + 1 : Nat) : Int).tmod (len : Int)) = (((t + 1) % len : Nat) : Int) := by
    rw [tmod_nat, IntKind.wrap_i64]
    have := Nat.mod_lt (t + 1) (show len > 0 by omega)
    omega
  have HM : Hid (len ≤ 9223372036854775807) := hm
  clear hc R hx hm
  go_enter Try.func19, Try.ntmps19
  go_wp2
  refine wp_region_any (by kernel_rfl) ?_
  change wpAny _ _ _ _ _ _ _ (World.drew _)
  refine wpAny_narrow (fun W => W.cell? ⟨b, off + t, none⟩ = some (.int .i64 x)) _ _ _ _ ?_
  refine anyH_take 0 11 (.slice (some ⟨b, off, none⟩) len cap) rfl rfl (by kernel_rfl) (by kernel_rfl) (by kernel_rfl) (fun _ _ _ h => h) (Or.inl ⟨by rfl, by intro w hSw; go_simp⟩) (c0) ?_
  try simp only [Act.put, List.setIfInBounds_toArray, List.set_cons_zero, List.set_cons_succ]
  refine anyH_take 1 12 (.int .i64 (t : Int)) rfl rfl (by kernel_rfl) (by kernel_rfl) (by kernel_rfl) (fun _ _ _ h => h) (Or.inl ⟨by rfl, by intro w hSw; go_simp⟩) (c0) ?_
  try simp only [Act.put, List.setIfInBounds_toArray, List.set_cons_zero, List.set_cons_succ]
  refine anyH_take 2 13 (.pointer (some ⟨b, off + t, none⟩)) rfl rfl (by kernel_rfl) (by kernel_rfl) (by kernel_rfl) (fun _ _ _ h => h) (Or.inl ⟨by rfl, by intro w hSw; go_simp⟩) (c0) ?_
  try simp only [Act.put, List.setIfInBounds_toArray, List.set_cons_zero, List.set_cons_succ]
  refine anyH_take 3 14 (.int .i64 x) rfl rfl (by kernel_rfl) (by kernel_rfl) (by kernel_rfl) (fun _ _ _ h => h) (Or.inl ⟨by rfl, by intro w hSw; have s1 := hSw; go_simp⟩) (c0) ?_
  try simp only [Act.put, List.setIfInBounds_toArray, List.set_cons_zero, List.set_cons_succ]
  refine anyH_take 4 15 (.int .i64 (t : Int)) rfl rfl (by kernel_rfl) (by kernel_rfl) (by kernel_rfl) (fun _ _ _ h => h) (Or.inl ⟨by rfl, by intro w hSw; go_simp⟩) (c0) ?_
  try simp only [Act.put, List.setIfInBounds_toArray, List.set_cons_zero, List.set_cons_succ]
  refine anyH_take 5 16 (.int .i64 ((t + 1 : Nat) : Int)) rfl rfl (by kernel_rfl) (by kernel_rfl) (by kernel_rfl) (fun _ _ _ h => h) (Or.inl ⟨by rfl, by intro w hSw; go_simp⟩) (c0) ?_
  try simp only [Act.put, List.setIfInBounds_toArray, List.set_cons_zero, List.set_cons_succ]
  refine anyH_take 6 17 (.slice (some ⟨b, off, none⟩) len cap) rfl rfl (by kernel_rfl) (by kernel_rfl) (by kernel_rfl) (fun _ _ _ h => h) (Or.inl ⟨by rfl, by intro w hSw; go_simp⟩) (c0) ?_
  try simp only [Act.put, List.setIfInBounds_toArray, List.set_cons_zero, List.set_cons_succ]
  refine anyH_take 7 18 (.int .i64 (len : Int)) rfl rfl (by kernel_rfl) (by kernel_rfl) (by kernel_rfl) (fun _ _ _ h => h) (Or.inl ⟨by rfl, by intro w hSw; go_simp⟩) (c0) ?_
  try simp only [Act.put, List.setIfInBounds_toArray, List.set_cons_zero, List.set_cons_succ]
  refine anyH_take 8 19 (.int .i64 (((t + 1) % len : Nat) : Int)) rfl rfl (by kernel_rfl) (by kernel_rfl) (by kernel_rfl) (fun _ _ _ h => h) (Or.inl ⟨by rfl, by intro w hSw; go_simp; exact Int.tmod_eq_emod_of_nonneg (by omega)⟩) (c0) ?_
  try simp only [Act.put, List.setIfInBounds_toArray, List.set_cons_zero, List.set_cons_succ]
  refine anyH_take 9 4 (.int .i64 x) rfl rfl (by kernel_rfl) (by kernel_rfl) (by kernel_rfl) (fun _ _ _ h => h) (Or.inl ⟨by rfl, by intro w hSw; go_simp⟩) (c0) ?_
  try simp only [Act.put, List.setIfInBounds_toArray, List.set_cons_zero, List.set_cons_succ]
  refine anyH_take 10 5 (.int .i64 (((t + 1) % len : Nat) : Int)) rfl rfl (by kernel_rfl) (by kernel_rfl) (by kernel_rfl) (fun _ _ _ h => h) (Or.inl ⟨by rfl, by intro w hSw; go_simp⟩) (c0) ?_
  try simp only [Act.put, List.setIfInBounds_toArray, List.set_cons_zero, List.set_cons_succ]
  refine anyH_take 11 6 (.bool true) rfl rfl (by kernel_rfl) (by kernel_rfl) (by kernel_rfl) (fun _ _ _ h => h) (Or.inl ⟨by rfl, by intro w hSw; go_simp⟩) (c0) ?_
  try simp only [Act.put, List.setIfInBounds_toArray, List.set_cons_zero, List.set_cons_succ]
  refine wpAnyH_done (by kernel_rfl) ?_ _
  go_wp2
  exact bodyPost_ret (v := .tuple #[.int .i64 x, .int .i64 (((t + 1) % len : Nat) : Int), .bool true]) (by simp [results, Try.results19, go_sem]) rfl ⟨rfl, (Below.refl _ _).drew⟩
set_option maxRecDepth 100000 in
theorem rnext_none (a : Option Addr) (cap : Nat) (t : Nat) (w : World) : Calls Try.prog 19 #[.slice a 0 cap, .int .i64 (t : Int)] w fun e w' => e = .returned (.tuple #[.int .i64 0, .int .i64 (t : Int), .bool false]) ∧ w' = w := by
  have hp : (decide (0 ≤ (t : Int)) && decide ((t : Int) < ((0 : Nat) : Int))) = false := by simp
  go_enter Try.func19, Try.ntmps19
  go_wp2
  exact bodyPost_ret (v := .tuple #[.int .i64 0, .int .i64 (t : Int), .bool false]) (by simp [results, Try.results19, go_sem]) rfl ⟨rfl, rfl⟩
end Go.Proofs.Ythpdaiaakpimkaa
