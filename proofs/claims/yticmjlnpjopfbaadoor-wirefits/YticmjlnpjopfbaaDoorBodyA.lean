/-
  Writing behind bytes: the document's own writers, as the walks are told of them; an extreme value's bytes.
-/
import Derived.Test.YticmjlnpjopfbaaDoorCRefWrite
import Derived.Test.YticmjlnpjopfbaaDoorCFields
import Derived.Test.YticmjlnpjopfbaaDoorWire
import Derived.Test.YticmjlnpjopfbaaDoorSHeld
namespace Go.Proofs.YticmjlnpjopfbaaDoor
open Go.ChangeShapes Go.WideShapes Go.ChangeAt Go.RowKit
open C (Row enc txt flg sg rnumber_any rsigned_any rtext_any rflag_any)
set_option linter.unusedVariables false
set_option linter.unusedSimpArgs false


def Bt (l : List Int) : Prop := ∀ c ∈ l, 0 ≤ c ∧ c < 256
theorem Bt.app {a b : List Int} (h : Bt a) (k : Bt b) : Bt (a ++ b) := fun c hc => (List.mem_append.1 hc).elim (h c) (k c)
theorem bt_enc {x : Int} (h0 : 0 ≤ x) (h1 : x ≤ 18446744073709551615) : Bt (enc x) := C.enc_byte h0 (by omega)
theorem bt_flg (b : Bool) : Bt (flg b) := by intro c hc; cases b <;> simp [flg] at hc <;> omega
theorem bt_txt {s : ByteArray} (h : s.size ≤ 140737488355328) : Bt (txt s) := (bt_enc (by omega) (by omega)).app (C.bytesL_byte s)
/-- Bytes that were written: they lie in memory of their own. -/
structure Wrt (w w' : World) (a : Option Addr) (n c : Nat) (Z : List Int) : Prop where
  row : Row .u8 w' a n c Z
  byt : Bt Z
  own : C.Own w.heap.size w' (.slice a n c) Z
  below : Below w.heap.size w w'
theorem wrt_of {w w' : World} {v : Value} {Z : List Int} (o : C.Own w.heap.size w' v Z) (hb : Bt Z) (b : Below w.heap.size w w') : ∃ a n c, v = .slice a n c ∧ Wrt w w' a n c Z ∧ n = Z.length := by
  obtain ⟨a, c, rfl, r⟩ := o.row hb
  exact ⟨a, _, c, rfl, ⟨r, hb, o, b⟩, rfl⟩
theorem num_w (a : Option Addr) (n c : Nat) (zs : List Int) (x : Int) (w : World) (R : Row .u8 w a n c zs) (hb : Bt zs) (hl : n ≤ 70368744170000) (h0 : 0 ≤ x) (h1 : x ≤ 18446744073709551615) :
    Calls Tryd.prog 38 #[.slice a n c, .int .u64 x] w fun e w' => ∃ a' n' c' Z, e = .returned (.slice a' n' c') ∧ Wrt w w' a' n' c' Z ∧ Hid (Z = zs ++ enc x) ∧ n' ≤ n + 10 := by
  refine (rnumber_any a n c zs x w R hl h0 h1).mono ?_
  rintro e w' ⟨v, rfl, o, b⟩
  obtain ⟨a', n', c', rfl, W, hn⟩ := wrt_of o (hb.app (bt_enc h0 h1)) b
  exact ⟨a', n', c', _, rfl, W, rfl, by have := (C.enc_length x).2; have := R.size; rw [hn, List.length_append]; omega⟩
theorem sgn_w (a : Option Addr) (n c : Nat) (zs : List Int) (x : Int) (w : World) (R : Row .u8 w a n c zs) (hb : Bt zs) (hl : n ≤ 70368744170000) (h0 : -9223372036854775808 ≤ x) (h1 : x ≤ 9223372036854775807) :
    Calls Tryd.prog 61 #[.slice a n c, .int .i64 x] w fun e w' => ∃ a' n' c' Z, e = .returned (.slice a' n' c') ∧ Wrt w w' a' n' c' Z ∧ Hid (Z = zs ++ enc (sg x)) ∧ n' ≤ n + 10 := by
  refine (rsigned_any a n c zs x w R hl h0 h1).mono ?_
  rintro e w' ⟨v, rfl, o, b⟩
  obtain ⟨a', n', c', rfl, W, hn⟩ := wrt_of o (hb.app (bt_enc (C.sg_bd h0 h1).1 (C.sg_bd h0 h1).2)) b
  exact ⟨a', n', c', _, rfl, W, rfl, by have := (C.enc_length (sg x)).2; have := R.size; rw [hn, List.length_append]; omega⟩
theorem txt_w (a : Option Addr) (n c : Nat) (zs : List Int) (s : ByteArray) (w : World) (R : Row .u8 w a n c zs) (hb : Bt zs) (hl : n + s.size ≤ 70368744170000) :
    Calls Tryd.prog 59 #[.slice a n c, .string s] w fun e w' => ∃ a' n' c' Z, e = .returned (.slice a' n' c') ∧ Wrt w w' a' n' c' Z ∧ Hid (Z = zs ++ txt s) ∧ n' ≤ n + s.size + 10 := by
  refine (rtext_any a n c zs s w R hl).mono ?_
  rintro e w' ⟨v, rfl, o, b⟩
  obtain ⟨a', n', c', rfl, W, hn⟩ := wrt_of o (hb.app (bt_txt (by omega))) b
  exact ⟨a', n', c', _, rfl, W, rfl, by have := (C.enc_length (s.size : Int)).2; have := R.size; rw [hn, List.length_append, txt, List.length_append, C.bytesL_length]; omega⟩
theorem flg_w (a : Option Addr) (n c : Nat) (zs : List Int) (x : Bool) (w : World) (R : Row .u8 w a n c zs) (hb : Bt zs) (hl : n ≤ 70368744170000) :
    Calls Tryd.prog 60 #[.slice a n c, .bool x] w fun e w' => ∃ a' n' c' Z, e = .returned (.slice a' n' c') ∧ Wrt w w' a' n' c' Z ∧ Hid (Z = zs ++ flg x) ∧ n' ≤ n + 10 := by
  refine (rflag_any a n c zs x w R hl).mono ?_
  rintro e w' ⟨v, rfl, o, b⟩
  obtain ⟨a', n', c', rfl, W, hn⟩ := wrt_of o (hb.app (bt_flg x)) b
  exact ⟨a', n', c', _, rfl, W, rfl, by have := R.size; rw [hn, List.length_append]; simp [flg]; omega⟩
theorem u64_mod (x : Int) : ∃ u, x % 18446744073709551616 = u ∧ 0 ≤ u ∧ u ≤ 18446744073709551615 ∧ IntKind.u64.wrap x = u :=
  ⟨_, rfl, by omega, by omega, by rw [IntKind.wrap_u64]⟩
/-- The bytes of an extreme value. -/
def extB (e : Ex) : List Int := flg e.has ++ (enc (sg e.value) ++ (enc (e.origin % 18446744073709551616) ++ enc (e.age % 18446744073709551616)))
abbrev exV (e : Ex) : Value := .agg #[.bool e.has, .int .i64 e.value, .int .i64 e.origin, .int .i64 e.age]

set_option maxRecDepth 100000 in
set_option maxHeartbeats 8000000 in
theorem ext_any (a : Option Addr) (n c : Nat) (zs : List Int) (x : Ex) (w : World) (R : Row .u8 w a n c zs) (hb : Bt zs) (hl : n ≤ 70368744100000) (hv0 : -9223372036854775808 ≤ x.value) (hv1 : x.value ≤ 9223372036854775807) :
    Calls Tryd.prog 62 #[.slice a n c, exV x] w fun e w' => ∃ a' n' c' Z, e = .returned (.slice a' n' c') ∧ Wrt w w' a' n' c' Z ∧ Hid (Z = zs ++ extB x) ∧ n' ≤ n + 40 := by
  obtain ⟨u1, hu1, hu1a, hu1b, hw1⟩ := u64_mod x.origin
  obtain ⟨u2, hu2, hu2a, hu2b, hw2⟩ := u64_mod x.age
  have HU1 : Hid (x.origin % 18446744073709551616 = u1) := hu1
  have HU2 : Hid (x.age % 18446744073709551616 = u2) := hu2
  clear hu1 hu2
  go_enter Tryd.func62, Tryd.ntmps62
  go_wp2
  obtain ⟨wd, hwd⟩ : ∃ wd, World.drew (w.alloc (.cells #[.bool x.has, .int .i64 x.value, .int .i64 x.origin, .int .i64 x.age] 36)) = wd := ⟨_, rfl⟩
  have Bd : Below w.heap.size w wd := by rw [← hwd]; exact ((Below.refl _ _).alloc (Nat.le_refl _) _).drew
  have hzd : w.heap.size < wd.heap.size := by rw [← hwd]; simp
  have d0 : wd.cell? ⟨w.heap.size, 0, none⟩ = some (.bool x.has) := by rw [← hwd]; simp
  have d1 : wd.cell? ⟨w.heap.size, 1, none⟩ = some (.int .i64 x.value) := by rw [← hwd]; simp
  have d2 : wd.cell? ⟨w.heap.size, 2, none⟩ = some (.int .i64 x.origin) := by rw [← hwd]; simp
  have d3 : wd.cell? ⟨w.heap.size, 3, none⟩ = some (.int .i64 x.age) := by rw [← hwd]; simp
  have Rd := R.below Bd
  have g0 : ∀ X, Below wd.heap.size wd X → X.cell? ⟨w.heap.size, 0, none⟩ = some (.bool x.has) := fun X h => (h.cell (p := ⟨w.heap.size, 0, none⟩) hzd).trans d0
  have g1 : ∀ X, Below wd.heap.size wd X → X.cell? ⟨w.heap.size, 1, none⟩ = some (.int .i64 x.value) := fun X h => (h.cell (p := ⟨w.heap.size, 1, none⟩) hzd).trans d1
  refine wp_region_any (by kernel_rfl) ?_
  change wpAny _ _ _ _ _ _ _ (World.drew _)
  rw [hwd]
  refine S.wpAny_narrow (fun X => Below wd.heap.size wd X) _ _ _ _ ?_
  refine S.anyH_take 0 5 (.slice a n c) rfl rfl (by kernel_rfl) (by kernel_rfl) (by kernel_rfl) (fun _ _ _ h => h) (Or.inl ⟨by rfl, by intro w hSw; go_simp⟩) (Below.refl _ _) ?_
  try simp only [Act.put, List.setIfInBounds_toArray, List.set_cons_zero, List.set_cons_succ]
  refine S.anyH_take 1 6 (.pointer (some ⟨w.heap.size, 0, none⟩)) rfl rfl (by kernel_rfl) (by kernel_rfl) (by kernel_rfl) (fun _ _ _ h => h) (Or.inl ⟨by rfl, by intro w hSw; go_simp⟩) (Below.refl _ _) ?_
  try simp only [Act.put, List.setIfInBounds_toArray, List.set_cons_zero, List.set_cons_succ]
  refine S.anyH_take 2 7 (.bool x.has) rfl rfl (by kernel_rfl) (by kernel_rfl) (by kernel_rfl) (fun _ _ _ h => h) (Or.inl ⟨by rfl, by intro w hSw; have q := g0 _ hSw; go_simp⟩) (Below.refl _ _) ?_
  try simp only [Act.put, List.setIfInBounds_toArray, List.set_cons_zero, List.set_cons_succ]
  refine S.anyH_take 4 9 (.pointer (some ⟨w.heap.size, 1, none⟩)) rfl rfl (by kernel_rfl) (by kernel_rfl) (by kernel_rfl) (fun _ _ _ h => h) (Or.inl ⟨by rfl, by intro w hSw; go_simp⟩) (Below.refl _ _) ?_
  try simp only [Act.put, List.setIfInBounds_toArray, List.set_cons_zero, List.set_cons_succ]
  refine S.anyH_take 5 10 (.int .i64 x.value) rfl rfl (by kernel_rfl) (by kernel_rfl) (by kernel_rfl) (fun _ _ _ h => h) (Or.inl ⟨by rfl, by intro w hSw; have q := g1 _ hSw; go_simp⟩) (Below.refl _ _) ?_
  try simp only [Act.put, List.setIfInBounds_toArray, List.set_cons_zero, List.set_cons_succ]
  refine wpAnyH_ready (rs := [3]) (by kernel_rfl) (by simp) ?_
  refine AllReadyH.cons rfl (fun K hK => ?_) AllReadyH.nil
  go_simp
  go_wp2_with (go_at_call 60; refine (flg_w _ _ _ _ _ _ Rd hb (by omega)).mono ?_; rintro e w1 ⟨a1, n1, c1, Z1, rfl, W1, HZ1, l1⟩)
  refine hK.out _ _ (W1.below) (fun hS => ?_)
  clear hK
  refine wpAnyH_ready (rs := [6]) (by kernel_rfl) (by simp) ?_
  refine AllReadyH.cons rfl (fun K hK => ?_) AllReadyH.nil
  go_simp
  go_wp2_with (go_at_call 61; refine (sgn_w _ _ _ _ _ _ W1.row W1.byt (by omega) hv0 hv1).mono ?_; rintro e w2 ⟨a2, n2, c2, Z2, rfl, W2, HZ2, l2⟩; have b2 : Below wd.heap.size wd w2 := W1.below.trans (W2.below.mono W1.below.size))
  refine hK.out _ _ (b2) (fun hS => ?_)
  clear hK
  refine S.anyH_take 7 0 (.slice a2 n2 c2) rfl rfl (by kernel_rfl) (by kernel_rfl) (by kernel_rfl) (fun _ _ _ h => h) (Or.inl ⟨by rfl, by intro w hSw; go_simp⟩) (b2) ?_
  try simp only [Act.put, List.setIfInBounds_toArray, List.set_cons_zero, List.set_cons_succ]
  refine wpAnyH_done (by kernel_rfl) ?_ _
  go_wp2
  obtain ⟨we, hwe⟩ : ∃ we, World.drew w2 = we := ⟨_, rfl⟩
  have Be : Below wd.heap.size wd we := by rw [← hwe]; exact b2.drew
  have Re : Row .u8 we a2 n2 c2 Z2 := by rw [← hwe]; exact W2.row.drew
  have y2 := W2.byt
  have f2 := (Be.cell (p := ⟨w.heap.size, 2, none⟩) hzd).trans d2
  have f3 := (Be.cell (p := ⟨w.heap.size, 3, none⟩) hzd).trans d3
  have hze := Nat.lt_of_lt_of_le hzd Be.size
  have j2 : ∀ X, Below we.heap.size we X → X.cell? ⟨w.heap.size, 2, none⟩ = some (.int .i64 x.origin) := fun X h => (h.cell (p := ⟨w.heap.size, 2, none⟩) hze).trans f2
  have j3 : ∀ X, Below we.heap.size we X → X.cell? ⟨w.heap.size, 3, none⟩ = some (.int .i64 x.age) := fun X h => (h.cell (p := ⟨w.heap.size, 3, none⟩) hze).trans f3
  clear W1 W2 b2 d0 d1 d2 d3 Rd R
  refine wp_region_any (by kernel_rfl) ?_
  change wpAny _ _ _ _ _ _ _ (World.drew _)
  rw [hwe]
  refine S.wpAny_narrow (fun X => Below we.heap.size we X) _ _ _ _ ?_
  refine S.anyH_take 0 12 (.slice a2 n2 c2) rfl rfl (by kernel_rfl) (by kernel_rfl) (by kernel_rfl) (fun _ _ _ h => h) (Or.inl ⟨by rfl, by intro w hSw; go_simp⟩) (Below.refl _ _) ?_
  try simp only [Act.put, List.setIfInBounds_toArray, List.set_cons_zero, List.set_cons_succ]
  refine S.anyH_take 1 13 (.pointer (some ⟨w.heap.size, 2, none⟩)) rfl rfl (by kernel_rfl) (by kernel_rfl) (by kernel_rfl) (fun _ _ _ h => h) (Or.inl ⟨by rfl, by intro w hSw; go_simp⟩) (Below.refl _ _) ?_
  try simp only [Act.put, List.setIfInBounds_toArray, List.set_cons_zero, List.set_cons_succ]
  refine S.anyH_take 2 14 (.int .i64 x.origin) rfl rfl (by kernel_rfl) (by kernel_rfl) (by kernel_rfl) (fun _ _ _ h => h) (Or.inl ⟨by rfl, by intro w hSw; have q := j2 _ hSw; go_simp⟩) (Below.refl _ _) ?_
  try simp only [Act.put, List.setIfInBounds_toArray, List.set_cons_zero, List.set_cons_succ]
  refine S.anyH_take 3 15 (.int .u64 u1) rfl rfl (by kernel_rfl) (by kernel_rfl) (by kernel_rfl) (fun _ _ _ h => h) (Or.inl ⟨by rfl, by intro w hSw; go_simp⟩) (Below.refl _ _) ?_
  try simp only [Act.put, List.setIfInBounds_toArray, List.set_cons_zero, List.set_cons_succ]
  refine S.anyH_take 5 17 (.pointer (some ⟨w.heap.size, 3, none⟩)) rfl rfl (by kernel_rfl) (by kernel_rfl) (by kernel_rfl) (fun _ _ _ h => h) (Or.inl ⟨by rfl, by intro w hSw; go_simp⟩) (Below.refl _ _) ?_
  try simp only [Act.put, List.setIfInBounds_toArray, List.set_cons_zero, List.set_cons_succ]
  refine S.anyH_take 6 18 (.int .i64 x.age) rfl rfl (by kernel_rfl) (by kernel_rfl) (by kernel_rfl) (fun _ _ _ h => h) (Or.inl ⟨by rfl, by intro w hSw; have q := j3 _ hSw; go_simp⟩) (Below.refl _ _) ?_
  try simp only [Act.put, List.setIfInBounds_toArray, List.set_cons_zero, List.set_cons_succ]
  refine S.anyH_take 7 19 (.int .u64 u2) rfl rfl (by kernel_rfl) (by kernel_rfl) (by kernel_rfl) (fun _ _ _ h => h) (Or.inl ⟨by rfl, by intro w hSw; go_simp⟩) (Below.refl _ _) ?_
  try simp only [Act.put, List.setIfInBounds_toArray, List.set_cons_zero, List.set_cons_succ]
  refine wpAnyH_ready (rs := [4]) (by kernel_rfl) (by simp) ?_
  refine AllReadyH.cons rfl (fun K hK => ?_) AllReadyH.nil
  go_simp
  go_wp2_with (go_at_call 38; refine (num_w _ _ _ _ _ _ Re y2 (by omega) hu1a hu1b).mono ?_; rintro e w3 ⟨a3, n3, c3, Z3, rfl, W3, HZ3, l3⟩)
  refine hK.out _ _ (W3.below) (fun hS => ?_)
  clear hK
  refine wpAnyH_ready (rs := [8]) (by kernel_rfl) (by simp) ?_
  refine AllReadyH.cons rfl (fun K hK => ?_) AllReadyH.nil
  go_simp
  go_wp2_with (go_at_call 38; refine (num_w _ _ _ _ _ _ W3.row W3.byt (by omega) hu2a hu2b).mono ?_; rintro e w4 ⟨a4, n4, c4, Z4, rfl, W4, HZ4, l4⟩; have b4 : Below we.heap.size we w4 := W3.below.trans (W4.below.mono W3.below.size))
  refine hK.out _ _ (b4) (fun hS => ?_)
  clear hK
  refine S.anyH_take 9 4 (.slice a4 n4 c4) rfl rfl (by kernel_rfl) (by kernel_rfl) (by kernel_rfl) (fun _ _ _ h => h) (Or.inl ⟨by rfl, by intro w hSw; go_simp⟩) (b4) ?_
  try simp only [Act.put, List.setIfInBounds_toArray, List.set_cons_zero, List.set_cons_succ]
  refine wpAnyH_done (by kernel_rfl) ?_ _
  go_wp2
  go_ret
  have B4 : Below w.heap.size w w4 := (Bd.trans (Be.mono (Nat.le_of_lt hzd))).trans (b4.mono (by have := Be.size; omega))
  refine ⟨a4, n4, c4, Z4, rfl, ⟨W4.row, W4.byt, W4.own.at (by have := W3.below.size; have := Be.size; omega), B4⟩, ?_, by omega⟩
  show _ = _
  rw [HZ4.out, HZ3.out, HZ2.out, HZ1.out, extB, HU1.out, HU2.out]
  simp only [List.append_assoc]

end Go.Proofs.YticmjlnpjopfbaaDoor
