/-
  The law WireDecodes, walked.
-/
import Derived.Test.YticmjlnpjopfbaaDoorCRefWrite
import Derived.Test.YticmjlnpjopfbaaDoorCFields
import Derived.Test.YticmjlnpjopfbaaDoorWire
import Derived.Test.YticmjlnpjopfbaaDoorSHeld
import Derived.Test.YticmjlnpjopfbaaDoorRowI
import Derived.Test.YticmjlnpjopfbaaDoorGrSlots
import Derived.Test.YticmjlnpjopfbaaDoorGrRd
import Derived.Test.YticmjlnpjopfbaaDoorGrEnc
import Derived.Test.YticmjlnpjopfbaaDoorGrRFit
import Derived.Test.YticmjlnpjopfbaaDoorSSeal
import Derived.Deep.DeepCutAuto
namespace Go.Proofs.YticmjlnpjopfbaaDoor
open Go.ChangeShapes Go.WideShapes Go.ChangeAt Go.RowKit
open C (Row enc txt flg sg rnumber_any rsigned_any rtext_any rflag_any)
set_option linter.unusedVariables false
set_option linter.unusedSimpArgs false


def Bt (l : List Int) : Prop := ∀ c ∈ l, 0 ≤ c ∧ c < 256
theorem Bt.app {a b : List Int} (h : Bt a) (k : Bt b) : Bt (a ++ b) := fun c hc => (List.mem_append.1 hc).elim (h c) (k c)
theorem bt_enc {x : Int} (h0 : 0 ≤ x) (h1 : x ≤ 18446744073709551615) : Bt (enc x) := C.enc_byte h0 (by omega)
theorem bt_flg (b : Bool) : Bt (flg b) := by intro c hc; cases b <;> simp [flg] at hc <;> omega
theorem bt_txt {s : ByteArray} (h : s.size ≤ 140737488355328) : Bt (txt s) := (bt_enc (by omega) (by omega)).app (C.bytesL_byte s)
/-- Bytes that were written: they lie in memory of their own. -/
structure Wrt (w w' : World) (a : Option Addr) (n c : Nat) (Z : List Int) : Prop where
  row : Row .u8 w' a n c Z
  byt : Bt Z
  own : C.Own w.heap.size w' (.slice a n c) Z
  below : Below w.heap.size w w'
theorem wrt_of {w w' : World} {v : Value} {Z : List Int} (o : C.Own w.heap.size w' v Z) (hb : Bt Z) (b : Below w.heap.size w w') : ∃ a n c, v = .slice a n c ∧ Wrt w w' a n c Z ∧ n = Z.length := by
  obtain ⟨a, c, rfl, r⟩ := o.row hb
  exact ⟨a, _, c, rfl, ⟨r, hb, o, b⟩, rfl⟩
theorem num_w (a : Option Addr) (n c : Nat) (zs : List Int) (x : Int) (w : World) (R : Row .u8 w a n c zs) (hb : Bt zs) (hl : n ≤ 70368744170000) (h0 : 0 ≤ x) (h1 : x ≤ 18446744073709551615) :
    Calls Tryd.prog 38 #[.slice a n c, .int .u64 x] w fun e w' => ∃ a' n' c' Z, e = .returned (.slice a' n' c') ∧ Wrt w w' a' n' c' Z ∧ Hid (Z = zs ++ enc x) ∧ n' ≤ n + 10 := by
  refine (rnumber_any a n c zs x w R hl h0 h1).mono ?_
  rintro e w' ⟨v, rfl, o, b⟩
  obtain ⟨a', n', c', rfl, W, hn⟩ := wrt_of o (hb.app (bt_enc h0 h1)) b
  exact ⟨a', n', c', _, rfl, W, rfl, by have := (C.enc_length x).2; have := R.size; rw [hn, List.length_append]; omega⟩
theorem sgn_w (a : Option Addr) (n c : Nat) (zs : List Int) (x : Int) (w : World) (R : Row .u8 w a n c zs) (hb : Bt zs) (hl : n ≤ 70368744170000) (h0 : -9223372036854775808 ≤ x) (h1 : x ≤ 9223372036854775807) :
    Calls Tryd.prog 61 #[.slice a n c, .int .i64 x] w fun e w' => ∃ a' n' c' Z, e = .returned (.slice a' n' c') ∧ Wrt w w' a' n' c' Z ∧ Hid (Z = zs ++ enc (sg x)) ∧ n' ≤ n + 10 := by
  refine (rsigned_any a n c zs x w R hl h0 h1).mono ?_
  rintro e w' ⟨v, rfl, o, b⟩
  obtain ⟨a', n', c', rfl, W, hn⟩ := wrt_of o (hb.app (bt_enc (C.sg_bd h0 h1).1 (C.sg_bd h0 h1).2)) b
  exact ⟨a', n', c', _, rfl, W, rfl, by have := (C.enc_length (sg x)).2; have := R.size; rw [hn, List.length_append]; omega⟩
theorem txt_w (a : Option Addr) (n c : Nat) (zs : List Int) (s : ByteArray) (w : World) (R : Row .u8 w a n c zs) (hb : Bt zs) (hl : n + s.size ≤ 70368744170000) :
    Calls Tryd.prog 59 #[.slice a n c, .string s] w fun e w' => ∃ a' n' c' Z, e = .returned (.slice a' n' c') ∧ Wrt w w' a' n' c' Z ∧ Hid (Z = zs ++ txt s) ∧ n' ≤ n + s.size + 10 := by
  refine (rtext_any a n c zs s w R hl).mono ?_
  rintro e w' ⟨v, rfl, o, b⟩
  obtain ⟨a', n', c', rfl, W, hn⟩ := wrt_of o (hb.app (bt_txt (by omega))) b
  exact ⟨a', n', c', _, rfl, W, rfl, by have := (C.enc_length (s.size : Int)).2; have := R.size; rw [hn, List.length_append, txt, List.length_append, C.bytesL_length]; omega⟩
theorem flg_w (a : Option Addr) (n c : Nat) (zs : List Int) (x : Bool) (w : World) (R : Row .u8 w a n c zs) (hb : Bt zs) (hl : n ≤ 70368744170000) :
    Calls Tryd.prog 60 #[.slice a n c, .bool x] w fun e w' => ∃ a' n' c' Z, e = .returned (.slice a' n' c') ∧ Wrt w w' a' n' c' Z ∧ Hid (Z = zs ++ flg x) ∧ n' ≤ n + 10 := by
  refine (rflag_any a n c zs x w R hl).mono ?_
  rintro e w' ⟨v, rfl, o, b⟩
  obtain ⟨a', n', c', rfl, W, hn⟩ := wrt_of o (hb.app (bt_flg x)) b
  exact ⟨a', n', c', _, rfl, W, rfl, by have := R.size; rw [hn, List.length_append]; simp [flg]; omega⟩
theorem u64_mod (x : Int) : ∃ u, x % 18446744073709551616 = u ∧ 0 ≤ u ∧ u ≤ 18446744073709551615 ∧ IntKind.u64.wrap x = u :=
  ⟨_, rfl, by omega, by omega, by rw [IntKind.wrap_u64]⟩
/-- The bytes of an extreme value. -/
def extB (e : Ex) : List Int := flg e.has ++ (enc (sg e.value) ++ (enc (e.origin % 18446744073709551616) ++ enc (e.age % 18446744073709551616)))
abbrev exV (e : Ex) : Value := .agg #[.bool e.has, .int .i64 e.value, .int .i64 e.origin, .int .i64 e.age]

set_option maxRecDepth 100000 in
set_option maxHeartbeats 8000000 in
theorem ext_any (a : Option Addr) (n c : Nat) (zs : List Int) (x : Ex) (w : World) (R : Row .u8 w a n c zs) (hb : Bt zs) (hl : n ≤ 70368744100000) (hv0 : -9223372036854775808 ≤ x.value) (hv1 : x.value ≤ 9223372036854775807) :
    Calls Tryd.prog 62 #[.slice a n c, exV x] w fun e w' => ∃ a' n' c' Z, e = .returned (.slice a' n' c') ∧ Wrt w w' a' n' c' Z ∧ Hid (Z = zs ++ extB x) ∧ n' ≤ n + 40 := by
  obtain ⟨u1, hu1, hu1a, hu1b, hw1⟩ := u64_mod x.origin
  obtain ⟨u2, hu2, hu2a, hu2b, hw2⟩ := u64_mod x.age
  have HU1 : Hid (x.origin % 18446744073709551616 = u1) := hu1
  have HU2 : Hid (x.age % 18446744073709551616 = u2) := hu2
  clear hu1 hu2
  go_enter Tryd.func62, Tryd.ntmps62
  go_wp2
  obtain ⟨wd, hwd⟩ : ∃ wd, World.drew (w.alloc (.cells #[.bool x.has, .int .i64 x.value, .int .i64 x.origin, .int .i64 x.age] 36)) = wd := ⟨_, rfl⟩
  have Bd : Below w.heap.size w wd := by rw [← hwd]; exact ((Below.refl _ _).alloc (Nat.le_refl _) _).drew
  have hzd : w.heap.size < wd.heap.size := by rw [← hwd]; simp
  have d0 : wd.cell? ⟨w.heap.size, 0, none⟩ = some (.bool x.has) := by rw [← hwd]; simp
  have d1 : wd.cell? ⟨w.heap.size, 1, none⟩ = some (.int .i64 x.value) := by rw [← hwd]; simp
  have d2 : wd.cell? ⟨w.heap.size, 2, none⟩ = some (.int .i64 x.origin) := by rw [← hwd]; simp
  have d3 : wd.cell? ⟨w.heap.size, 3, none⟩ = some (.int .i64 x.age) := by rw [← hwd]; simp
  have Rd := R.below Bd
  have g0 : ∀ X, Below wd.heap.size wd X → X.cell? ⟨w.heap.size, 0, none⟩ = some (.bool x.has) := fun X h => (h.cell (p := ⟨w.heap.size, 0, none⟩) hzd).trans d0
  have g1 : ∀ X, Below wd.heap.size wd X → X.cell? ⟨w.heap.size, 1, none⟩ = some (.int .i64 x.value) := fun X h => (h.cell (p := ⟨w.heap.size, 1, none⟩) hzd).trans d1
  refine wp_region_any (by kernel_rfl) ?_
  change wpAny _ _ _ _ _ _ _ (World.drew _)
  rw [hwd]
  refine S.wpAny_narrow (fun X => Below wd.heap.size wd X) _ _ _ _ ?_
  refine S.anyH_take 0 5 (.slice a n c) rfl rfl (by kernel_rfl) (by kernel_rfl) (by kernel_rfl) (fun _ _ _ h => h) (Or.inl ⟨by rfl, by intro w hSw; go_simp⟩) (Below.refl _ _) ?_
  try simp only [Act.put, List.setIfInBounds_toArray, List.set_cons_zero, List.set_cons_succ]
  refine S.anyH_take 1 6 (.pointer (some ⟨w.heap.size, 0, none⟩)) rfl rfl (by kernel_rfl) (by kernel_rfl) (by kernel_rfl) (fun _ _ _ h => h) (Or.inl ⟨by rfl, by intro w hSw; go_simp⟩) (Below.refl _ _) ?_
  try simp only [Act.put, List.setIfInBounds_toArray, List.set_cons_zero, List.set_cons_succ]
  refine S.anyH_take 2 7 (.bool x.has) rfl rfl (by kernel_rfl) (by kernel_rfl) (by kernel_rfl) (fun _ _ _ h => h) (Or.inl ⟨by rfl, by intro w hSw; have q := g0 _ hSw; go_simp⟩) (Below.refl _ _) ?_
  try simp only [Act.put, List.setIfInBounds_toArray, List.set_cons_zero, List.set_cons_succ]
  refine S.anyH_take 4 9 (.pointer (some ⟨w.heap.size, 1, none⟩)) rfl rfl (by kernel_rfl) (by kernel_rfl) (by kernel_rfl) (fun _ _ _ h => h) (Or.inl ⟨by rfl, by intro w hSw; go_simp⟩) (Below.refl _ _) ?_
  try simp only [Act.put, List.setIfInBounds_toArray, List.set_cons_zero, List.set_cons_succ]
  refine S.anyH_take 5 10 (.int .i64 x.value) rfl rfl (by kernel_rfl) (by kernel_rfl) (by kernel_rfl) (fun _ _ _ h => h) (Or.inl ⟨by rfl, by intro w hSw; have q := g1 _ hSw; go_simp⟩) (Below.refl _ _) ?_
  try simp only [Act.put, List.setIfInBounds_toArray, List.set_cons_zero, List.set_cons_succ]
  refine wpAnyH_ready (rs := [3]) (by kernel_rfl) (by simp) ?_
  refine AllReadyH.cons rfl (fun K hK => ?_) AllReadyH.nil
  go_simp
  go_wp2_with (go_at_call 60; refine (flg_w _ _ _ _ _ _ Rd hb (by omega)).mono ?_; rintro e w1 ⟨a1, n1, c1, Z1, rfl, W1, HZ1, l1⟩)
  refine hK.out _ _ (W1.below) (fun hS => ?_)
  clear hK
  refine wpAnyH_ready (rs := [6]) (by kernel_rfl) (by simp) ?_
  refine AllReadyH.cons rfl (fun K hK => ?_) AllReadyH.nil
  go_simp
  go_wp2_with (go_at_call 61; refine (sgn_w _ _ _ _ _ _ W1.row W1.byt (by omega) hv0 hv1).mono ?_; rintro e w2 ⟨a2, n2, c2, Z2, rfl, W2, HZ2, l2⟩; have b2 : Below wd.heap.size wd w2 := W1.below.trans (W2.below.mono W1.below.size))
  refine hK.out _ _ (b2) (fun hS => ?_)
  clear hK
  refine S.anyH_take 7 0 (.slice a2 n2 c2) rfl rfl (by kernel_rfl) (by kernel_rfl) (by kernel_rfl) (fun _ _ _ h => h) (Or.inl ⟨by rfl, by intro w hSw; go_simp⟩) (b2) ?_
  try simp only [Act.put, List.setIfInBounds_toArray, List.set_cons_zero, List.set_cons_succ]
  refine wpAnyH_done (by kernel_rfl) ?_ _
  go_wp2
  obtain ⟨we, hwe⟩ : ∃ we, World.drew w2 = we := ⟨_, rfl⟩
  have Be : Below wd.heap.size wd we := by rw [← hwe]; exact b2.drew
  have Re : Row .u8 we a2 n2 c2 Z2 := by rw [← hwe]; exact W2.row.drew
  have y2 := W2.byt
  have f2 := (Be.cell (p := ⟨w.heap.size, 2, none⟩) hzd).trans d2
  have f3 := (Be.cell (p := ⟨w.heap.size, 3, none⟩) hzd).trans d3
  have hze := Nat.lt_of_lt_of_le hzd Be.size
  have j2 : ∀ X, Below we.heap.size we X → X.cell? ⟨w.heap.size, 2, none⟩ = some (.int .i64 x.origin) := fun X h => (h.cell (p := ⟨w.heap.size, 2, none⟩) hze).trans f2
  have j3 : ∀ X, Below we.heap.size we X → X.cell? ⟨w.heap.size, 3, none⟩ = some (.int .i64 x.age) := fun X h => (h.cell (p := ⟨w.heap.size, 3, none⟩) hze).trans f3
  clear W1 W2 b2 d0 d1 d2 d3 Rd R
  refine wp_region_any (by kernel_rfl) ?_
  change wpAny _ _ _ _ _ _ _ (World.drew _)
  rw [hwe]
  refine S.wpAny_narrow (fun X => Below we.heap.size we X) _ _ _ _ ?_
  refine S.anyH_take 0 12 (.slice a2 n2 c2) rfl rfl (by kernel_rfl) (by kernel_rfl) (by kernel_rfl) (fun _ _ _ h => h) (Or.inl ⟨by rfl, by intro w hSw; go_simp⟩) (Below.refl _ _) ?_
  try simp only [Act.put, List.setIfInBounds_toArray, List.set_cons_zero, List.set_cons_succ]
  refine S.anyH_take 1 13 (.pointer (some ⟨w.heap.size, 2, none⟩)) rfl rfl (by kernel_rfl) (by kernel_rfl) (by kernel_rfl) (fun _ _ _ h => h) (Or.inl ⟨by rfl, by intro w hSw; go_simp⟩) (Below.refl _ _) ?_
  try simp only [Act.put, List.setIfInBounds_toArray, List.set_cons_zero, List.set_cons_succ]
  refine S.anyH_take 2 14 (.int .i64 x.origin) rfl rfl (by kernel_rfl) (by kernel_rfl) (by kernel_rfl) (fun _ _ _ h => h) (Or.inl ⟨by rfl, by intro w hSw; have q := j2 _ hSw; go_simp⟩) (Below.refl _ _) ?_
  try simp only [Act.put, List.setIfInBounds_toArray, List.set_cons_zero, List.set_cons_succ]
  refine S.anyH_take 3 15 (.int .u64 u1) rfl rfl (by kernel_rfl) (by kernel_rfl) (by kernel_rfl) (fun _ _ _ h => h) (Or.inl ⟨by rfl, by intro w hSw; go_simp⟩) (Below.refl _ _) ?_
  try simp only [Act.put, List.setIfInBounds_toArray, List.set_cons_zero, List.set_cons_succ]
  refine S.anyH_take 5 17 (.pointer (some ⟨w.heap.size, 3, none⟩)) rfl rfl (by kernel_rfl) (by kernel_rfl) (by kernel_rfl) (fun _ _ _ h => h) (Or.inl ⟨by rfl, by intro w hSw; go_simp⟩) (Below.refl _ _) ?_
  try simp only [Act.put, List.setIfInBounds_toArray, List.set_cons_zero, List.set_cons_succ]
  refine S.anyH_take 6 18 (.int .i64 x.age) rfl rfl (by kernel_rfl) (by kernel_rfl) (by kernel_rfl) (fun _ _ _ h => h) (Or.inl ⟨by rfl, by intro w hSw; have q := j3 _ hSw; go_simp⟩) (Below.refl _ _) ?_
  try simp only [Act.put, List.setIfInBounds_toArray, List.set_cons_zero, List.set_cons_succ]
  refine S.anyH_take 7 19 (.int .u64 u2) rfl rfl (by kernel_rfl) (by kernel_rfl) (by kernel_rfl) (fun _ _ _ h => h) (Or.inl ⟨by rfl, by intro w hSw; go_simp⟩) (Below.refl _ _) ?_
  try simp only [Act.put, List.setIfInBounds_toArray, List.set_cons_zero, List.set_cons_succ]
  refine wpAnyH_ready (rs := [4]) (by kernel_rfl) (by simp) ?_
  refine AllReadyH.cons rfl (fun K hK => ?_) AllReadyH.nil
  go_simp
  go_wp2_with (go_at_call 38; refine (num_w _ _ _ _ _ _ Re y2 (by omega) hu1a hu1b).mono ?_; rintro e w3 ⟨a3, n3, c3, Z3, rfl, W3, HZ3, l3⟩)
  refine hK.out _ _ (W3.below) (fun hS => ?_)
  clear hK
  refine wpAnyH_ready (rs := [8]) (by kernel_rfl) (by simp) ?_
  refine AllReadyH.cons rfl (fun K hK => ?_) AllReadyH.nil
  go_simp
  go_wp2_with (go_at_call 38; refine (num_w _ _ _ _ _ _ W3.row W3.byt (by omega) hu2a hu2b).mono ?_; rintro e w4 ⟨a4, n4, c4, Z4, rfl, W4, HZ4, l4⟩; have b4 : Below we.heap.size we w4 := W3.below.trans (W4.below.mono W3.below.size))
  refine hK.out _ _ (b4) (fun hS => ?_)
  clear hK
  refine S.anyH_take 9 4 (.slice a4 n4 c4) rfl rfl (by kernel_rfl) (by kernel_rfl) (by kernel_rfl) (fun _ _ _ h => h) (Or.inl ⟨by rfl, by intro w hSw; go_simp⟩) (b4) ?_
  try simp only [Act.put, List.setIfInBounds_toArray, List.set_cons_zero, List.set_cons_succ]
  refine wpAnyH_done (by kernel_rfl) ?_ _
  go_wp2
  go_ret
  have B4 : Below w.heap.size w w4 := (Bd.trans (Be.mono (Nat.le_of_lt hzd))).trans (b4.mono (by have := Be.size; omega))
  refine ⟨a4, n4, c4, Z4, rfl, ⟨W4.row, W4.byt, W4.own.at (by have := W3.below.size; have := Be.size; omega), B4⟩, ?_, by omega⟩
  show _ = _
  rw [HZ4.out, HZ3.out, HZ2.out, HZ1.out, extB, HU1.out, HU2.out]
  simp only [List.append_assoc]

end Go.Proofs.YticmjlnpjopfbaaDoor

namespace Go.Proofs.YticmjlnpjopfbaaDoor
open Go.ChangeShapes Go.WideShapes Go.ChangeAt Go.RowKit
open C (Row enc txt flg sg rnumber_any rsigned_any rtext_any rflag_any)
set_option linter.unusedVariables false
set_option linter.unusedSimpArgs false


theorem flds_it (x : Itm) : C.flds (itF x) = txt x.name ++ (enc (x.epoch % 18446744073709551616) ++ (enc (x.maker % 18446744073709551616) ++ (flg x.alive ++ (enc (x.kind % 18446744073709551616) ++ (enc (x.scale % 18446744073709551616) ++ (enc (x.ver % 18446744073709551616) ++ (enc (x.writer % 18446744073709551616) ++ (enc (sg x.flow) ++ (flg x.hasRest ++ (enc (sg x.rest) ++ (extB x.mn ++ extB x.mx))))))))))) := by
  simp [C.flds, itF, C.encF1, C.encFld, nF, tF, sF, bF, extB]
def hdN (p : Pkt) : List Int := [p.kind, p.src, p.dst, p.boot, p.life, p.echo, p.echoLife]
def hdB (p : Pkt) (k : Nat) : List Int := ((hdN p).take k).flatMap fun x => enc (x % 18446744073709551616)
theorem hdB_succ (p : Pkt) (k : Nat) (x : Int) (h : (hdN p)[k]? = some x) : hdB p (k + 1) = hdB p k ++ enc (x % 18446744073709551616) := by
  simp [hdB, List.take_add_one, h]
theorem flds_hd (p : Pkt) : C.flds (hdF p) = hdB p 7 ++ enc ((p.items.length : Int) % 18446744073709551616) := by
  simp [C.flds, hdF, C.encF1, C.encFld, nF, hdB, hdN]
abbrev hdV (p : Pkt) : Value := .agg #[.int .i64 p.kind, .int .i64 p.src, .int .i64 p.dst, .int .i64 p.boot, .int .i64 p.life, .int .i64 p.echo, .int .i64 p.echoLife]
theorem hd_at (p : Pkt) : ∀ (k : Nat) (x : Int), (hdN p)[k]? = some x → ∀ w, (Instr.index 102 (hdV p) (.int .i64 (k : Int))).run Tryd.prog w = .ok (.int .i64 x) w := by
  intro k x hx w
  have hk : k < 7 := (List.getElem?_eq_some_iff.1 hx).1
  match k, hk with
  | 0, _ => cases hx; show _ = _; kernel_rfl
  | 1, _ => cases hx; show _ = _; kernel_rfl
  | 2, _ => cases hx; show _ = _; kernel_rfl
  | 3, _ => cases hx; show _ = _; kernel_rfl
  | 4, _ => cases hx; show _ = _; kernel_rfl
  | 5, _ => cases hx; show _ = _; kernel_rfl
  | 6, _ => cases hx; show _ = _; kernel_rfl
theorem take_itsF (l : List Itm) (i : Nat) (h : i < l.length) : itsF (l.take (i + 1)) = itsF (l.take i) ++ itF (l.getD i itZ) := by
  rw [List.take_succ_eq_append_getElem h, itsF_append]
  simp [itsF, List.getD, List.getElem?_eq_getElem h]
theorem part_le (p : Pkt) (i : Nat) (h : i < p.items.length) : (C.flds (hdF p) ++ C.flds (itsF (p.items.take i))).length + (p.items.getD i itZ).name.size ≤ (bodyP p).length := by
  have e : itsF p.items = itsF (p.items.take (i + 1)) ++ itsF (p.items.drop (i + 1)) := by rw [← itsF_append, List.take_append_drop]
  rw [bodyP, e, take_itsF _ _ h, flds_append, flds_append, flds_it]
  simp only [List.length_append, txt, C.bytesL_length]
  omega
structure itRg (x : Itm) : Prop where
  flow : -9223372036854775808 ≤ x.flow ∧ x.flow ≤ 9223372036854775807
  rest : -9223372036854775808 ≤ x.rest ∧ x.rest ≤ 9223372036854775807
  mn : -9223372036854775808 ≤ x.mn.value ∧ x.mn.value ≤ 9223372036854775807
  mx : -9223372036854775808 ≤ x.mx.value ∧ x.mx.value ≤ 9223372036854775807

set_option maxRecDepth 100000 in
set_option maxHeartbeats 8000000 in
theorem body_any (p : Pkt) (a : Option Addr) (len cap : Nat) (w : World) (R : RowI w a len cap p.items) (hT : (bodyP p).length ≤ 70368740000000) (hrgs : ∀ x ∈ p.items, itRg x) :
    Calls Tryd.prog 37 #[pkv p a len cap] w fun e w' => ∃ v, e = .returned v ∧ C.Own w.heap.size w' v (bodyP p) ∧ Below w.heap.size w w' := by
  have B1 : Below w.heap.size w (w.alloc (pkObj p a len cap)) := (Below.refl _ _).alloc (Nat.le_refl _) _
  have HR : Hid (RowI (w.alloc (pkObj p a len cap)) a len cap p.items) := R.alloc _
  have HPK : Hid (PkAt (w.alloc (pkObj p a len cap)) w.heap.size p a len cap) := pkAt_new w p a len cap
  have HL : Hid (p.items.length = len) := R.size
  have hle := R.le
  have hcp := R.max
  have HT : Hid ((bodyP p).length ≤ 70368740000000) := hT
  have HRG : Hid (∀ x ∈ p.items, itRg x) := hrgs
  clear R hT hrgs
  go_enter Tryd.func37, Tryd.ntmps37
  go_wp2
  obtain ⟨W0, hW0⟩ : ∃ W0, w.alloc (pkObj p a len cap) = W0 := ⟨_, rfl⟩
  have hz0 : w.heap.size < W0.heap.size := by rw [← hW0]; simp
  rw [hW0] at HR HPK B1 ⊢
  clear hW0
  go_loopg [3, 24] 7 (fun g v c wr => ∃ (k : Nat) (a0 : Option Addr) (n0 c0 : Nat) (Z0 : List Int), v = .slice a0 n0 c0 ∧ c = .int .i64 k ∧ k + g = 7 ∧ Row .u8 wr a0 n0 c0 Z0 ∧ Bt Z0 ∧ n0 ≤ 10 * k ∧ Below W0.heap.size W0 wr ∧ Hid (Z0 = hdB p k))
  case atStart => exact ⟨0, none, 0, 0, [], rfl, rfl, by omega, C.row_nil _ _, (fun c h => (by simp at h)), by omega, Below.refl _ _, rfl⟩
  case round =>
    rename World => wh
    rename Nat => gkh
    obtain ⟨k, a0, n0, c0, Z0, rfl, rfl, hg, r0, hbt, hn0, hB, HZ0⟩ := hrel
    have HG : Hid (k + gkh = 7) := hg
    have hk7 : k ≤ 7 := by omega
    clear hg
    by_cases hk : k < 7
    · obtain ⟨x, hx⟩ : ∃ x, (hdN p)[k]? = some x := ⟨_, List.getElem?_eq_getElem (show k < (hdN p).length from hk)⟩
      have hix := hd_at p k x hx
      obtain ⟨u, hu, hu0, hu1, hwu⟩ := u64_mod x
      have HE : Hid (hdB p (k + 1) = hdB p k ++ enc u) := by show _ = _; rw [hdB_succ p k x hx, hu]
      clear hu hx
      go_wp2_with (go_at_call 38; refine (num_w _ _ _ _ _ _ r0 hbt (by omega) hu0 hu1).mono ?_; rintro e w1 ⟨a1, n1, c1, Z1, rfl, W1, HZ1, l1⟩)
      go_roundg (gkh - 1)
      case measure => have := HG.out; omega
      case rel => exact ⟨k + 1, a1, n1, c1, Z1, rfl, by first | rfl | go_num, by have := HG.out; omega, W1.row, W1.byt, by omega, hB.trans (W1.below.mono hB.size), by show _ = _; rw [HZ1.out, HZ0.out, HE.out]⟩
    · obtain rfl : k = 7 := by omega
      have PK := HPK.out.below hB
      have c7 := PK 7 _ rfl
      obtain ⟨u, hu, hu0, hu1, hwu⟩ := u64_mod (len : Int)
      have HU : Hid ((len : Int) % 18446744073709551616 = u) := hu
      clear hu HG hk hk7
      go_wp2_with (go_at_call 38; refine (num_w _ _ _ _ _ _ r0 hbt (by omega) hu0 hu1).mono ?_; rintro e w1 ⟨a1, n1, c1, Z1, rfl, W1, HZ1, l1⟩)
      have HH : Hid (Z1 = C.flds (hdF p)) := by show _ = _; rw [HZ1.out, HZ0.out, flds_hd, HL.out, HU.out]
      have B1' : Below W0.heap.size W0 w1 := hB.trans (W1.below.mono hB.size)
      have OW1 : C.Own w.heap.size w1 (.slice a1 n1 c1) Z1 := W1.own.at (by have := hB.size; omega)
      have rr1 := W1.row
      have yy1 := W1.byt
      clear r0 hbt hB PK c7 HZ0 HZ1 W1 HU hu0 hu1 hwu
      go_loopg [3, 6] len (fun g v c wr => ∃ (i : Nat) (a0 : Option Addr) (n0 c0 : Nat) (Z0 : List Int), v = .slice a0 n0 c0 ∧ c = .int .i64 i ∧ i + g = len ∧ Row .u8 wr a0 n0 c0 Z0 ∧ Bt Z0 ∧ C.Own w.heap.size wr (.slice a0 n0 c0) Z0 ∧ Below W0.heap.size W0 wr ∧ Hid (Z0 = C.flds (hdF p) ++ C.flds (itsF (p.items.take i))))
      case atStart => exact ⟨0, a1, n1, c1, Z1, rfl, rfl, by omega, rr1, yy1, OW1, B1', by show _ = _; rw [HH.out]; simp [itsF, C.flds]⟩
      case round =>
        clear OW1 rr1 yy1 HH B1' l1 hn0
        obtain ⟨i, a0, n0, c0, Z0, rfl, rfl, hg, r0', hbt, own0, hB, HZ0⟩ := hrel
        have HG : Hid (i + gk = len) := hg
        have hi8 : i ≤ len := by omega
        clear hg
        have PK := HPK.out.below hB
        have c7 := PK 7 _ rfl
        by_cases hlt : i < len
        · have hI64 : (i : Int) < (len : Int) := by omega
          obtain ⟨b, off, rfl, hbz, hIt⟩ := (HR.out.below hB).mem.resolve_left (by omega)
          have Ir0 := hIt i hlt
          have hpl := part_le p i (by have := HL.out; omega)
          have hsz0 := r0'.size
          have hmem : p.items.getD i itZ ∈ p.items := by
            have hi' : i < p.items.length := by have := HL.out; omega
            simp [List.getD, List.getElem?_eq_getElem hi']
          have hrg := HRG.out _ hmem
          obtain ⟨x, hx⟩ : ∃ x, p.items.getD i itZ = x := ⟨_, rfl⟩
          rw [hx] at Ir0 hrg hpl
          have HX : Hid (p.items.getD i itZ = x) := hx
          rw [← HZ0.out, hsz0] at hpl
          have hn0 : n0 + x.name.size ≤ 70368740000000 := by have := HT.out; omega
          clear hx hmem hpl hsz0 hIt
          go_wp2_with (first
            | ((with_reducible show wpList _ _ _ (Oper.mk _ (Op.load 38 _) _ _ _ _ :: _) _ _); refine wpList_load38 _ rfl rfl _ _ x rfl Ir0 ?_)
            | ((with_reducible show wpList _ _ _ (Oper.mk _ (Op.store 38 _ _) _ _ _ _ :: _) _ _); refine wpList_store38 _ _ rfl rfl x _ rfl rfl rfl ?_))
          obtain ⟨wb, hwb⟩ : ∃ wb, (wr.alloc (itObj x)).alloc (.cells #[.string x.name, .int .i64 x.epoch, .int .i64 x.maker, .bool x.alive, .int .i64 x.kind, .int .i64 x.scale] 32) = wb := ⟨_, rfl⟩
          have hzb : wr.heap.size + 1 < wb.heap.size := by rw [← hwb]; simp
          have hza : wr.heap.size < wb.heap.size := by omega
          have hBb : Below wr.heap.size wr wb := by rw [← hwb]; exact ((Below.refl _ _).alloc (Nat.le_refl _) _).alloc (by simp) _
          have hItb : ∀ j v, (itc x)[j]? = some v → wb.cell? ⟨wr.heap.size, j, none⟩ = some v := by
            intro j v hj
            have h := (itAt_new wr x).alloc (.cells #[.string x.name, .int .i64 x.epoch, .int .i64 x.maker, .bool x.alive, .int .i64 x.kind, .int .i64 x.scale] 32)
            rw [hwb] at h
            have h2 := h j v hj
            rw [Nat.zero_add] at h2
            exact h2
          have hc0 : ∀ X, Below wb.heap.size wb X → X.cell? ⟨wr.heap.size + 1, 0, none⟩ = some (.string x.name) := fun X h => (h.cell (p := ⟨wr.heap.size + 1, 0, none⟩) hzb).trans (by rw [← hwb]; simp)
          have hc1 : ∀ X, Below wb.heap.size wb X → X.cell? ⟨wr.heap.size + 1, 1, none⟩ = some (.int .i64 x.epoch) := fun X h => (h.cell (p := ⟨wr.heap.size + 1, 1, none⟩) hzb).trans (by rw [← hwb]; simp)
          have hc2 : ∀ X, Below wb.heap.size wb X → X.cell? ⟨wr.heap.size + 1, 2, none⟩ = some (.int .i64 x.maker) := fun X h => (h.cell (p := ⟨wr.heap.size + 1, 2, none⟩) hzb).trans (by rw [← hwb]; simp)
          have hc3 : ∀ X, Below wb.heap.size wb X → X.cell? ⟨wr.heap.size + 1, 3, none⟩ = some (.bool x.alive) := fun X h => (h.cell (p := ⟨wr.heap.size + 1, 3, none⟩) hzb).trans (by rw [← hwb]; simp)
          have hc4 : ∀ X, Below wb.heap.size wb X → X.cell? ⟨wr.heap.size + 1, 4, none⟩ = some (.int .i64 x.kind) := fun X h => (h.cell (p := ⟨wr.heap.size + 1, 4, none⟩) hzb).trans (by rw [← hwb]; simp)
          have hc5 : ∀ X, Below wb.heap.size wb X → X.cell? ⟨wr.heap.size + 1, 5, none⟩ = some (.int .i64 x.scale) := fun X h => (h.cell (p := ⟨wr.heap.size + 1, 5, none⟩) hzb).trans (by rw [← hwb]; simp)
          have hx6 : ∀ X, Below wb.heap.size wb X → X.cell? ⟨wr.heap.size, 6, none⟩ = some (.int .i64 x.ver) := fun X h => (h.cell (p := ⟨wr.heap.size, 6, none⟩) hza).trans (hItb 6 _ rfl)
          have hx7 : ∀ X, Below wb.heap.size wb X → X.cell? ⟨wr.heap.size, 7, none⟩ = some (.int .i64 x.writer) := fun X h => (h.cell (p := ⟨wr.heap.size, 7, none⟩) hza).trans (hItb 7 _ rfl)
          have hx8 : ∀ X, Below wb.heap.size wb X → X.cell? ⟨wr.heap.size, 8, none⟩ = some (.int .i64 x.flow) := fun X h => (h.cell (p := ⟨wr.heap.size, 8, none⟩) hza).trans (hItb 8 _ rfl)
          have hx9 : ∀ X, Below wb.heap.size wb X → X.cell? ⟨wr.heap.size, 9, none⟩ = some (.bool x.hasRest) := fun X h => (h.cell (p := ⟨wr.heap.size, 9, none⟩) hza).trans (hItb 9 _ rfl)
          have hx10 : ∀ X, Below wb.heap.size wb X → X.cell? ⟨wr.heap.size, 10, none⟩ = some (.int .i64 x.rest) := fun X h => (h.cell (p := ⟨wr.heap.size, 10, none⟩) hza).trans (hItb 10 _ rfl)
          have hx11 : ∀ X, Below wb.heap.size wb X → X.cell? ⟨wr.heap.size, 11, none⟩ = some (.bool x.mn.has) := fun X h => (h.cell (p := ⟨wr.heap.size, 11, none⟩) hza).trans (hItb 11 _ rfl)
          have hx12 : ∀ X, Below wb.heap.size wb X → X.cell? ⟨wr.heap.size, 12, none⟩ = some (.int .i64 x.mn.value) := fun X h => (h.cell (p := ⟨wr.heap.size, 12, none⟩) hza).trans (hItb 12 _ rfl)
          have hx13 : ∀ X, Below wb.heap.size wb X → X.cell? ⟨wr.heap.size, 13, none⟩ = some (.int .i64 x.mn.origin) := fun X h => (h.cell (p := ⟨wr.heap.size, 13, none⟩) hza).trans (hItb 13 _ rfl)
          have hx14 : ∀ X, Below wb.heap.size wb X → X.cell? ⟨wr.heap.size, 14, none⟩ = some (.int .i64 x.mn.age) := fun X h => (h.cell (p := ⟨wr.heap.size, 14, none⟩) hza).trans (hItb 14 _ rfl)
          have hx15 : ∀ X, Below wb.heap.size wb X → X.cell? ⟨wr.heap.size, 15, none⟩ = some (.bool x.mx.has) := fun X h => (h.cell (p := ⟨wr.heap.size, 15, none⟩) hza).trans (hItb 15 _ rfl)
          have hx16 : ∀ X, Below wb.heap.size wb X → X.cell? ⟨wr.heap.size, 16, none⟩ = some (.int .i64 x.mx.value) := fun X h => (h.cell (p := ⟨wr.heap.size, 16, none⟩) hza).trans (hItb 16 _ rfl)
          have hx17 : ∀ X, Below wb.heap.size wb X → X.cell? ⟨wr.heap.size, 17, none⟩ = some (.int .i64 x.mx.origin) := fun X h => (h.cell (p := ⟨wr.heap.size, 17, none⟩) hza).trans (hItb 17 _ rfl)
          have hx18 : ∀ X, Below wb.heap.size wb X → X.cell? ⟨wr.heap.size, 18, none⟩ = some (.int .i64 x.mx.age) := fun X h => (h.cell (p := ⟨wr.heap.size, 18, none⟩) hza).trans (hItb 18 _ rfl)
          rw [hwb]
          clear hItb hwb
          obtain ⟨uE, huE, uE0, uE1, hwE⟩ := u64_mod x.epoch
          have HUE : Hid (x.epoch % 18446744073709551616 = uE) := huE
          clear huE
          obtain ⟨uM, huM, uM0, uM1, hwM⟩ := u64_mod x.maker
          have HUM : Hid (x.maker % 18446744073709551616 = uM) := huM
          clear huM
          obtain ⟨uK, huK, uK0, uK1, hwK⟩ := u64_mod x.kind
          have HUK : Hid (x.kind % 18446744073709551616 = uK) := huK
          clear huK
          obtain ⟨uS, huS, uS0, uS1, hwS⟩ := u64_mod x.scale
          have HUS : Hid (x.scale % 18446744073709551616 = uS) := huS
          clear huS
          obtain ⟨uV, huV, uV0, uV1, hwV⟩ := u64_mod x.ver
          have HUV : Hid (x.ver % 18446744073709551616 = uV) := huV
          clear huV
          obtain ⟨uW, huW, uW0, uW1, hwW⟩ := u64_mod x.writer
          have HUW : Hid (x.writer % 18446744073709551616 = uW) := huW
          clear huW
          have r0 := r0'.below hBb
          have b0 : Below wb.heap.size wb wb := Below.refl _ _
          clear r0'
          obtain ⟨wi, hwi⟩ : ∃ wi, World.drew wb = wi := ⟨_, rfl⟩
          have Bwi : Below wb.heap.size wb wi := by rw [← hwi]; exact b0.drew
          have Rwi : Row .u8 wi a0 n0 c0 Z0 := by rw [← hwi]; exact r0.drew
          refine wp_region_any (by kernel_rfl) ?_
          change wpAny _ _ _ _ _ _ _ (World.drew _)
          rw [hwi]
          refine S.wpAny_narrow (fun X => Below wi.heap.size wi X) _ _ _ _ ?_
          refine S.anyH_take 0 52 (.slice a0 n0 c0) rfl rfl (by kernel_rfl) (by kernel_rfl) (by kernel_rfl) (fun _ _ _ h => h) (Or.inl ⟨by rfl, by intro w hSw; go_simp⟩) (Below.refl _ _) ?_
          try simp only [Act.put, List.setIfInBounds_toArray, List.set_cons_zero, List.set_cons_succ]
          refine S.anyH_take 1 53 (.pointer (some ⟨wr.heap.size + 1, 0, none⟩)) rfl rfl (by kernel_rfl) (by kernel_rfl) (by kernel_rfl) (fun _ _ _ h => h) (Or.inl ⟨by rfl, by intro w hSw; go_simp⟩) (Below.refl _ _) ?_
          try simp only [Act.put, List.setIfInBounds_toArray, List.set_cons_zero, List.set_cons_succ]
          refine S.anyH_take 2 54 (.string x.name) rfl rfl (by kernel_rfl) (by kernel_rfl) (by kernel_rfl) (fun _ _ _ h => h) (Or.inl ⟨by rfl, by intro w hSw; have q := hc0 _ (Bwi.trans (hSw.mono Bwi.size)); go_simp⟩) (Below.refl _ _) ?_
          try simp only [Act.put, List.setIfInBounds_toArray, List.set_cons_zero, List.set_cons_succ]
          refine S.anyH_take 4 56 (.pointer (some ⟨wr.heap.size + 1, 1, none⟩)) rfl rfl (by kernel_rfl) (by kernel_rfl) (by kernel_rfl) (fun _ _ _ h => h) (Or.inl ⟨by rfl, by intro w hSw; go_simp⟩) (Below.refl _ _) ?_
          try simp only [Act.put, List.setIfInBounds_toArray, List.set_cons_zero, List.set_cons_succ]
          refine S.anyH_take 5 57 (.int .i64 x.epoch) rfl rfl (by kernel_rfl) (by kernel_rfl) (by kernel_rfl) (fun _ _ _ h => h) (Or.inl ⟨by rfl, by intro w hSw; have q := hc1 _ (Bwi.trans (hSw.mono Bwi.size)); go_simp⟩) (Below.refl _ _) ?_
          try simp only [Act.put, List.setIfInBounds_toArray, List.set_cons_zero, List.set_cons_succ]
          refine S.anyH_take 6 58 (.int .u64 uE) rfl rfl (by kernel_rfl) (by kernel_rfl) (by kernel_rfl) (fun _ _ _ h => h) (Or.inl ⟨by rfl, by intro w hSw; go_simp⟩) (Below.refl _ _) ?_
          try simp only [Act.put, List.setIfInBounds_toArray, List.set_cons_zero, List.set_cons_succ]
          refine S.anyH_take 8 60 (.pointer (some ⟨wr.heap.size + 1, 2, none⟩)) rfl rfl (by kernel_rfl) (by kernel_rfl) (by kernel_rfl) (fun _ _ _ h => h) (Or.inl ⟨by rfl, by intro w hSw; go_simp⟩) (Below.refl _ _) ?_
          try simp only [Act.put, List.setIfInBounds_toArray, List.set_cons_zero, List.set_cons_succ]
          refine S.anyH_take 9 61 (.int .i64 x.maker) rfl rfl (by kernel_rfl) (by kernel_rfl) (by kernel_rfl) (fun _ _ _ h => h) (Or.inl ⟨by rfl, by intro w hSw; have q := hc2 _ (Bwi.trans (hSw.mono Bwi.size)); go_simp⟩) (Below.refl _ _) ?_
          try simp only [Act.put, List.setIfInBounds_toArray, List.set_cons_zero, List.set_cons_succ]
          refine S.anyH_take 10 62 (.int .u64 uM) rfl rfl (by kernel_rfl) (by kernel_rfl) (by kernel_rfl) (fun _ _ _ h => h) (Or.inl ⟨by rfl, by intro w hSw; go_simp⟩) (Below.refl _ _) ?_
          try simp only [Act.put, List.setIfInBounds_toArray, List.set_cons_zero, List.set_cons_succ]
          refine wpAnyH_ready (rs := [3]) (by kernel_rfl) (by simp) ?_
          refine AllReadyH.cons rfl (fun K hK => ?_) AllReadyH.nil
          go_simp
          go_wp2_with (go_at_call 59; refine (txt_w _ _ _ _ _ _ Rwi hbt (by omega)).mono ?_; rintro e w1 ⟨a1, n1, c1, Z1, rfl, W1, HZ1, l1⟩; have c1' : Below wi.heap.size wi w1 := W1.below)
          refine hK.out _ _ (c1') (fun hS => ?_)
          clear hK
          refine wpAnyH_ready (rs := [7]) (by kernel_rfl) (by simp) ?_
          refine AllReadyH.cons rfl (fun K hK => ?_) AllReadyH.nil
          go_simp
          go_wp2_with (go_at_call 38; refine (num_w _ _ _ _ _ _ W1.row W1.byt (by omega) uE0 uE1).mono ?_; rintro e w2 ⟨a2, n2, c2, Z2, rfl, W2, HZ2, l2⟩; have c2' : Below wi.heap.size wi w2 := c1'.trans (W2.below.mono c1'.size))
          refine hK.out _ _ (c2') (fun hS => ?_)
          clear hK
          refine wpAnyH_ready (rs := [11]) (by kernel_rfl) (by simp) ?_
          refine AllReadyH.cons rfl (fun K hK => ?_) AllReadyH.nil
          go_simp
          go_wp2_with (go_at_call 38; refine (num_w _ _ _ _ _ _ W2.row W2.byt (by omega) uM0 uM1).mono ?_; rintro e w3 ⟨a3, n3, c3, Z3, rfl, W3, HZ3, l3⟩; have c3' : Below wi.heap.size wi w3 := c2'.trans (W3.below.mono c2'.size))
          refine hK.out _ _ (c3') (fun hS => ?_)
          clear hK
          refine S.anyH_take 12 3 (.slice a3 n3 c3) rfl rfl (by kernel_rfl) (by kernel_rfl) (by kernel_rfl) (fun _ _ _ h => h) (Or.inl ⟨by rfl, by intro w hSw; go_simp⟩) (c3') ?_
          try simp only [Act.put, List.setIfInBounds_toArray, List.set_cons_zero, List.set_cons_succ]
          refine wpAnyH_done (by kernel_rfl) ?_ _
          have r3 := W3.row
          have b3 : Below wb.heap.size wb w3 := Bwi.trans (c3'.mono Bwi.size)
          have q := hc3 _ b3
          clear c1' c2' c3' W1 W2 Rwi
          go_wp2_with (go_at_call 60; refine (flg_w _ _ _ _ _ _ r3 W3.byt (by omega)).mono ?_; rintro e w4 ⟨a4, n4, c4, Z4, rfl, W4, HZ4, l4⟩)
          have r4 := W4.row
          have b4 : Below wb.heap.size wb w4 := b3.trans (W4.below.mono b3.size)
          clear q W3
          obtain ⟨wj, hwj⟩ : ∃ wj, World.drew w4 = wj := ⟨_, rfl⟩
          have Bwj : Below wb.heap.size wb wj := by rw [← hwj]; exact b4.drew
          have Rwj : Row .u8 wj a4 n4 c4 Z4 := by rw [← hwj]; exact r4.drew
          refine wp_region_any (by kernel_rfl) ?_
          change wpAny _ _ _ _ _ _ _ (World.drew _)
          rw [hwj]
          refine S.wpAny_narrow (fun X => Below wj.heap.size wj X) _ _ _ _ ?_
          refine S.anyH_take 0 68 (.slice a4 n4 c4) rfl rfl (by kernel_rfl) (by kernel_rfl) (by kernel_rfl) (fun _ _ _ h => h) (Or.inl ⟨by rfl, by intro w hSw; go_simp⟩) (Below.refl _ _) ?_
          try simp only [Act.put, List.setIfInBounds_toArray, List.set_cons_zero, List.set_cons_succ]
          refine S.anyH_take 1 69 (.pointer (some ⟨wr.heap.size + 1, 4, none⟩)) rfl rfl (by kernel_rfl) (by kernel_rfl) (by kernel_rfl) (fun _ _ _ h => h) (Or.inl ⟨by rfl, by intro w hSw; go_simp⟩) (Below.refl _ _) ?_
          try simp only [Act.put, List.setIfInBounds_toArray, List.set_cons_zero, List.set_cons_succ]
          refine S.anyH_take 2 70 (.int .i64 x.kind) rfl rfl (by kernel_rfl) (by kernel_rfl) (by kernel_rfl) (fun _ _ _ h => h) (Or.inl ⟨by rfl, by intro w hSw; have q := hc4 _ (Bwj.trans (hSw.mono Bwj.size)); go_simp⟩) (Below.refl _ _) ?_
          try simp only [Act.put, List.setIfInBounds_toArray, List.set_cons_zero, List.set_cons_succ]
          refine S.anyH_take 3 71 (.int .u64 uK) rfl rfl (by kernel_rfl) (by kernel_rfl) (by kernel_rfl) (fun _ _ _ h => h) (Or.inl ⟨by rfl, by intro w hSw; go_simp⟩) (Below.refl _ _) ?_
          try simp only [Act.put, List.setIfInBounds_toArray, List.set_cons_zero, List.set_cons_succ]
          refine S.anyH_take 5 73 (.pointer (some ⟨wr.heap.size + 1, 5, none⟩)) rfl rfl (by kernel_rfl) (by kernel_rfl) (by kernel_rfl) (fun _ _ _ h => h) (Or.inl ⟨by rfl, by intro w hSw; go_simp⟩) (Below.refl _ _) ?_
          try simp only [Act.put, List.setIfInBounds_toArray, List.set_cons_zero, List.set_cons_succ]
          refine S.anyH_take 6 74 (.int .i64 x.scale) rfl rfl (by kernel_rfl) (by kernel_rfl) (by kernel_rfl) (fun _ _ _ h => h) (Or.inl ⟨by rfl, by intro w hSw; have q := hc5 _ (Bwj.trans (hSw.mono Bwj.size)); go_simp⟩) (Below.refl _ _) ?_
          try simp only [Act.put, List.setIfInBounds_toArray, List.set_cons_zero, List.set_cons_succ]
          refine S.anyH_take 7 75 (.int .u64 uS) rfl rfl (by kernel_rfl) (by kernel_rfl) (by kernel_rfl) (fun _ _ _ h => h) (Or.inl ⟨by rfl, by intro w hSw; go_simp⟩) (Below.refl _ _) ?_
          try simp only [Act.put, List.setIfInBounds_toArray, List.set_cons_zero, List.set_cons_succ]
          refine wpAnyH_ready (rs := [4]) (by kernel_rfl) (by simp) ?_
          refine AllReadyH.cons rfl (fun K hK => ?_) AllReadyH.nil
          go_simp
          go_wp2_with (go_at_call 38; refine (num_w _ _ _ _ _ _ Rwj W4.byt (by omega) uK0 uK1).mono ?_; rintro e w5 ⟨a5, n5, c5, Z5, rfl, W5, HZ5, l5⟩; have c5' : Below wj.heap.size wj w5 := W5.below)
          refine hK.out _ _ (c5') (fun hS => ?_)
          clear hK
          refine wpAnyH_ready (rs := [8]) (by kernel_rfl) (by simp) ?_
          refine AllReadyH.cons rfl (fun K hK => ?_) AllReadyH.nil
          go_simp
          go_wp2_with (go_at_call 38; refine (num_w _ _ _ _ _ _ W5.row W5.byt (by omega) uS0 uS1).mono ?_; rintro e w6 ⟨a6, n6, c6, Z6, rfl, W6, HZ6, l6⟩; have c6' : Below wj.heap.size wj w6 := c5'.trans (W6.below.mono c5'.size))
          refine hK.out _ _ (c6') (fun hS => ?_)
          clear hK
          refine S.anyH_take 9 3 (.slice a6 n6 c6) rfl rfl (by kernel_rfl) (by kernel_rfl) (by kernel_rfl) (fun _ _ _ h => h) (Or.inl ⟨by rfl, by intro w hSw; go_simp⟩) (c6') ?_
          try simp only [Act.put, List.setIfInBounds_toArray, List.set_cons_zero, List.set_cons_succ]
          refine wpAnyH_done (by kernel_rfl) ?_ _
          have r6 := W6.row
          have b6 : Below wb.heap.size wb w6 := Bwj.trans (c6'.mono Bwj.size)
          clear c5' c6' W4 W5 Rwj
          go_wp2
          obtain ⟨wk, hwk⟩ : ∃ wk, World.drew w6 = wk := ⟨_, rfl⟩
          have Bwk : Below wb.heap.size wb wk := by rw [← hwk]; exact b6.drew
          have Rwk : Row .u8 wk a6 n6 c6 Z6 := by rw [← hwk]; exact r6.drew
          refine wp_region_any (by kernel_rfl) ?_
          change wpAny _ _ _ _ _ _ _ (World.drew _)
          rw [hwk]
          refine S.wpAny_narrow (fun X => Below wk.heap.size wk X) _ _ _ _ ?_
          refine S.anyH_take 0 77 (.slice a6 n6 c6) rfl rfl (by kernel_rfl) (by kernel_rfl) (by kernel_rfl) (fun _ _ _ h => h) (Or.inl ⟨by rfl, by intro w hSw; go_simp⟩) (Below.refl _ _) ?_
          try simp only [Act.put, List.setIfInBounds_toArray, List.set_cons_zero, List.set_cons_succ]
          refine S.anyH_take 1 78 (.pointer (some ⟨wr.heap.size, 6, none⟩)) rfl rfl (by kernel_rfl) (by kernel_rfl) (by kernel_rfl) (fun _ _ _ h => h) (Or.inl ⟨by rfl, by intro w hSw; go_simp⟩) (Below.refl _ _) ?_
          try simp only [Act.put, List.setIfInBounds_toArray, List.set_cons_zero, List.set_cons_succ]
          refine S.anyH_take 2 79 (.pointer (some ⟨wr.heap.size, 6, none⟩)) rfl rfl (by kernel_rfl) (by kernel_rfl) (by kernel_rfl) (fun _ _ _ h => h) (Or.inl ⟨by rfl, by intro w hSw; go_simp⟩) (Below.refl _ _) ?_
          try simp only [Act.put, List.setIfInBounds_toArray, List.set_cons_zero, List.set_cons_succ]
          refine S.anyH_take 3 80 (.int .i64 x.ver) rfl rfl (by kernel_rfl) (by kernel_rfl) (by kernel_rfl) (fun _ _ _ h => h) (Or.inl ⟨by rfl, by intro w hSw; have q := hx6 _ (Bwk.trans (hSw.mono Bwk.size)); go_simp⟩) (Below.refl _ _) ?_
          try simp only [Act.put, List.setIfInBounds_toArray, List.set_cons_zero, List.set_cons_succ]
          refine S.anyH_take 4 81 (.int .u64 uV) rfl rfl (by kernel_rfl) (by kernel_rfl) (by kernel_rfl) (fun _ _ _ h => h) (Or.inl ⟨by rfl, by intro w hSw; go_simp⟩) (Below.refl _ _) ?_
          try simp only [Act.put, List.setIfInBounds_toArray, List.set_cons_zero, List.set_cons_succ]
          refine S.anyH_take 6 83 (.pointer (some ⟨wr.heap.size, 6, none⟩)) rfl rfl (by kernel_rfl) (by kernel_rfl) (by kernel_rfl) (fun _ _ _ h => h) (Or.inl ⟨by rfl, by intro w hSw; go_simp⟩) (Below.refl _ _) ?_
          try simp only [Act.put, List.setIfInBounds_toArray, List.set_cons_zero, List.set_cons_succ]
          refine S.anyH_take 7 84 (.pointer (some ⟨wr.heap.size, 7, none⟩)) rfl rfl (by kernel_rfl) (by kernel_rfl) (by kernel_rfl) (fun _ _ _ h => h) (Or.inl ⟨by rfl, by intro w hSw; go_simp⟩) (Below.refl _ _) ?_
          try simp only [Act.put, List.setIfInBounds_toArray, List.set_cons_zero, List.set_cons_succ]
          refine S.anyH_take 8 85 (.int .i64 x.writer) rfl rfl (by kernel_rfl) (by kernel_rfl) (by kernel_rfl) (fun _ _ _ h => h) (Or.inl ⟨by rfl, by intro w hSw; have q := hx7 _ (Bwk.trans (hSw.mono Bwk.size)); go_simp⟩) (Below.refl _ _) ?_
          try simp only [Act.put, List.setIfInBounds_toArray, List.set_cons_zero, List.set_cons_succ]
          refine S.anyH_take 9 86 (.int .u64 uW) rfl rfl (by kernel_rfl) (by kernel_rfl) (by kernel_rfl) (fun _ _ _ h => h) (Or.inl ⟨by rfl, by intro w hSw; go_simp⟩) (Below.refl _ _) ?_
          try simp only [Act.put, List.setIfInBounds_toArray, List.set_cons_zero, List.set_cons_succ]
          refine wpAnyH_ready (rs := [5]) (by kernel_rfl) (by simp) ?_
          refine AllReadyH.cons rfl (fun K hK => ?_) AllReadyH.nil
          go_simp
          go_wp2_with (go_at_call 38; refine (num_w _ _ _ _ _ _ Rwk W6.byt (by omega) uV0 uV1).mono ?_; rintro e w7 ⟨a7, n7, c7, Z7, rfl, W7, HZ7, l7⟩; have c7' : Below wk.heap.size wk w7 := W7.below)
          refine hK.out _ _ (c7') (fun hS => ?_)
          clear hK
          refine wpAnyH_ready (rs := [10]) (by kernel_rfl) (by simp) ?_
          refine AllReadyH.cons rfl (fun K hK => ?_) AllReadyH.nil
          go_simp
          go_wp2_with (go_at_call 38; refine (num_w _ _ _ _ _ _ W7.row W7.byt (by omega) uW0 uW1).mono ?_; rintro e w8 ⟨a8, n8, c8, Z8, rfl, W8, HZ8, l8⟩; have c8' : Below wk.heap.size wk w8 := c7'.trans (W8.below.mono c7'.size))
          refine hK.out _ _ (c8') (fun hS => ?_)
          clear hK
          refine S.anyH_take 11 3 (.slice a8 n8 c8) rfl rfl (by kernel_rfl) (by kernel_rfl) (by kernel_rfl) (fun _ _ _ h => h) (Or.inl ⟨by rfl, by intro w hSw; go_simp⟩) (c8') ?_
          try simp only [Act.put, List.setIfInBounds_toArray, List.set_cons_zero, List.set_cons_succ]
          refine wpAnyH_done (by kernel_rfl) ?_ _
          have r8 := W8.row
          have b8 : Below wb.heap.size wb w8 := Bwk.trans (c8'.mono Bwk.size)
          clear c7' c8' W6 W7 Rwk
          go_wp2
          obtain ⟨wl, hwl⟩ : ∃ wl, World.drew w8 = wl := ⟨_, rfl⟩
          have Bwl : Below wb.heap.size wb wl := by rw [← hwl]; exact b8.drew
          have Rwl : Row .u8 wl a8 n8 c8 Z8 := by rw [← hwl]; exact r8.drew
          refine wp_region_any (by kernel_rfl) ?_
          change wpAny _ _ _ _ _ _ _ (World.drew _)
          rw [hwl]
          refine S.wpAny_narrow (fun X => Below wl.heap.size wl X) _ _ _ _ ?_
          refine S.anyH_take 0 88 (.slice a8 n8 c8) rfl rfl (by kernel_rfl) (by kernel_rfl) (by kernel_rfl) (fun _ _ _ h => h) (Or.inl ⟨by rfl, by intro w hSw; go_simp⟩) (Below.refl _ _) ?_
          try simp only [Act.put, List.setIfInBounds_toArray, List.set_cons_zero, List.set_cons_succ]
          refine S.anyH_take 1 89 (.pointer (some ⟨wr.heap.size, 6, none⟩)) rfl rfl (by kernel_rfl) (by kernel_rfl) (by kernel_rfl) (fun _ _ _ h => h) (Or.inl ⟨by rfl, by intro w hSw; go_simp⟩) (Below.refl _ _) ?_
          try simp only [Act.put, List.setIfInBounds_toArray, List.set_cons_zero, List.set_cons_succ]
          refine S.anyH_take 2 90 (.pointer (some ⟨wr.heap.size, 8, none⟩)) rfl rfl (by kernel_rfl) (by kernel_rfl) (by kernel_rfl) (fun _ _ _ h => h) (Or.inl ⟨by rfl, by intro w hSw; go_simp⟩) (Below.refl _ _) ?_
          try simp only [Act.put, List.setIfInBounds_toArray, List.set_cons_zero, List.set_cons_succ]
          refine S.anyH_take 3 91 (.int .i64 x.flow) rfl rfl (by kernel_rfl) (by kernel_rfl) (by kernel_rfl) (fun _ _ _ h => h) (Or.inl ⟨by rfl, by intro w hSw; have q := hx8 _ (Bwl.trans (hSw.mono Bwl.size)); go_simp⟩) (Below.refl _ _) ?_
          try simp only [Act.put, List.setIfInBounds_toArray, List.set_cons_zero, List.set_cons_succ]
          refine S.anyH_take 5 93 (.pointer (some ⟨wr.heap.size, 9, none⟩)) rfl rfl (by kernel_rfl) (by kernel_rfl) (by kernel_rfl) (fun _ _ _ h => h) (Or.inl ⟨by rfl, by intro w hSw; go_simp⟩) (Below.refl _ _) ?_
          try simp only [Act.put, List.setIfInBounds_toArray, List.set_cons_zero, List.set_cons_succ]
          refine S.anyH_take 6 94 (.bool x.hasRest) rfl rfl (by kernel_rfl) (by kernel_rfl) (by kernel_rfl) (fun _ _ _ h => h) (Or.inl ⟨by rfl, by intro w hSw; have q := hx9 _ (Bwl.trans (hSw.mono Bwl.size)); go_simp⟩) (Below.refl _ _) ?_
          try simp only [Act.put, List.setIfInBounds_toArray, List.set_cons_zero, List.set_cons_succ]
          refine S.anyH_take 8 96 (.pointer (some ⟨wr.heap.size, 10, none⟩)) rfl rfl (by kernel_rfl) (by kernel_rfl) (by kernel_rfl) (fun _ _ _ h => h) (Or.inl ⟨by rfl, by intro w hSw; go_simp⟩) (Below.refl _ _) ?_
          try simp only [Act.put, List.setIfInBounds_toArray, List.set_cons_zero, List.set_cons_succ]
          refine S.anyH_take 9 97 (.int .i64 x.rest) rfl rfl (by kernel_rfl) (by kernel_rfl) (by kernel_rfl) (fun _ _ _ h => h) (Or.inl ⟨by rfl, by intro w hSw; have q := hx10 _ (Bwl.trans (hSw.mono Bwl.size)); go_simp⟩) (Below.refl _ _) ?_
          try simp only [Act.put, List.setIfInBounds_toArray, List.set_cons_zero, List.set_cons_succ]
          refine wpAnyH_ready (rs := [4]) (by kernel_rfl) (by simp) ?_
          refine AllReadyH.cons rfl (fun K hK => ?_) AllReadyH.nil
          go_simp
          go_wp2_with (go_at_call 61; refine (sgn_w _ _ _ _ _ _ Rwl W8.byt (by omega) hrg.flow.1 hrg.flow.2).mono ?_; rintro e w9 ⟨a9, n9, c9, Z9, rfl, W9, HZ9, l9⟩; have c9' : Below wl.heap.size wl w9 := W9.below)
          refine hK.out _ _ (c9') (fun hS => ?_)
          clear hK
          refine wpAnyH_ready (rs := [7]) (by kernel_rfl) (by simp) ?_
          refine AllReadyH.cons rfl (fun K hK => ?_) AllReadyH.nil
          go_simp
          go_wp2_with (go_at_call 60; refine (flg_w _ _ _ _ _ _ W9.row W9.byt (by omega)).mono ?_; rintro e w10 ⟨a10, n10, c10, Z10, rfl, W10, HZ10, l10⟩; have c10' : Below wl.heap.size wl w10 := c9'.trans (W10.below.mono c9'.size))
          refine hK.out _ _ (c10') (fun hS => ?_)
          clear hK
          refine wpAnyH_ready (rs := [10]) (by kernel_rfl) (by simp) ?_
          refine AllReadyH.cons rfl (fun K hK => ?_) AllReadyH.nil
          go_simp
          go_wp2_with (go_at_call 61; refine (sgn_w _ _ _ _ _ _ W10.row W10.byt (by omega) hrg.rest.1 hrg.rest.2).mono ?_; rintro e w11 ⟨a11, n11, c11, Z11, rfl, W11, HZ11, l11⟩; have c11' : Below wl.heap.size wl w11 := c10'.trans (W11.below.mono c10'.size))
          refine hK.out _ _ (c11') (fun hS => ?_)
          clear hK
          refine S.anyH_take 11 3 (.slice a11 n11 c11) rfl rfl (by kernel_rfl) (by kernel_rfl) (by kernel_rfl) (fun _ _ _ h => h) (Or.inl ⟨by rfl, by intro w hSw; go_simp⟩) (c11') ?_
          try simp only [Act.put, List.setIfInBounds_toArray, List.set_cons_zero, List.set_cons_succ]
          refine wpAnyH_done (by kernel_rfl) ?_ _
          have r11 := W11.row
          have b11 : Below wb.heap.size wb w11 := Bwl.trans (c11'.mono Bwl.size)
          clear c9' c10' c11' W8 W9 W10 Rwl
          go_wp2
          obtain ⟨wm, hwm⟩ : ∃ wm, World.drew w11 = wm := ⟨_, rfl⟩
          have Bwm : Below wb.heap.size wb wm := by rw [← hwm]; exact b11.drew
          have Rwm : Row .u8 wm a11 n11 c11 Z11 := by rw [← hwm]; exact r11.drew
          refine wp_region_any (by kernel_rfl) ?_
          change wpAny _ _ _ _ _ _ _ (World.drew _)
          rw [hwm]
          refine S.wpAny_narrow (fun X => Below wm.heap.size wm X) _ _ _ _ ?_
          refine S.anyH_take 0 99 (.slice a11 n11 c11) rfl rfl (by kernel_rfl) (by kernel_rfl) (by kernel_rfl) (fun _ _ _ h => h) (Or.inl ⟨by rfl, by intro w hSw; go_simp⟩) (Below.refl _ _) ?_
          try simp only [Act.put, List.setIfInBounds_toArray, List.set_cons_zero, List.set_cons_succ]
          refine S.anyH_take 1 100 (.pointer (some ⟨wr.heap.size, 11, none⟩)) rfl rfl (by kernel_rfl) (by kernel_rfl) (by kernel_rfl) (fun _ _ _ h => h) (Or.inl ⟨by rfl, by intro w hSw; go_simp⟩) (Below.refl _ _) ?_
          try simp only [Act.put, List.setIfInBounds_toArray, List.set_cons_zero, List.set_cons_succ]
          refine S.anyH_take 2 101 (exV x.mn) rfl rfl (by kernel_rfl) (by kernel_rfl) (by kernel_rfl) (fun _ _ _ h => h) (Or.inl ⟨by rfl, by intro w hSw; have q0 := hx11 _ (Bwm.trans (hSw.mono Bwm.size)); have q1 := hx12 _ (Bwm.trans (hSw.mono Bwm.size)); have q2 := hx13 _ (Bwm.trans (hSw.mono Bwm.size)); have q3 := hx14 _ (Bwm.trans (hSw.mono Bwm.size)); go_simp⟩) (Below.refl _ _) ?_
          try simp only [Act.put, List.setIfInBounds_toArray, List.set_cons_zero, List.set_cons_succ]
          refine S.anyH_take 4 103 (.pointer (some ⟨wr.heap.size, 15, none⟩)) rfl rfl (by kernel_rfl) (by kernel_rfl) (by kernel_rfl) (fun _ _ _ h => h) (Or.inl ⟨by rfl, by intro w hSw; go_simp⟩) (Below.refl _ _) ?_
          try simp only [Act.put, List.setIfInBounds_toArray, List.set_cons_zero, List.set_cons_succ]
          refine S.anyH_take 5 104 (exV x.mx) rfl rfl (by kernel_rfl) (by kernel_rfl) (by kernel_rfl) (fun _ _ _ h => h) (Or.inl ⟨by rfl, by intro w hSw; have q0 := hx15 _ (Bwm.trans (hSw.mono Bwm.size)); have q1 := hx16 _ (Bwm.trans (hSw.mono Bwm.size)); have q2 := hx17 _ (Bwm.trans (hSw.mono Bwm.size)); have q3 := hx18 _ (Bwm.trans (hSw.mono Bwm.size)); go_simp⟩) (Below.refl _ _) ?_
          try simp only [Act.put, List.setIfInBounds_toArray, List.set_cons_zero, List.set_cons_succ]
          refine wpAnyH_ready (rs := [3]) (by kernel_rfl) (by simp) ?_
          refine AllReadyH.cons rfl (fun K hK => ?_) AllReadyH.nil
          go_simp
          go_wp2_with (go_at_call 62; refine (ext_any _ _ _ _ _ _ Rwm W11.byt (by omega) hrg.mn.1 hrg.mn.2).mono ?_; rintro e w12 ⟨a12, n12, c12, Z12, rfl, W12, HZ12, l12⟩; have c12' : Below wm.heap.size wm w12 := W12.below)
          refine hK.out _ _ (c12') (fun hS => ?_)
          clear hK
          refine wpAnyH_ready (rs := [6]) (by kernel_rfl) (by simp) ?_
          refine AllReadyH.cons rfl (fun K hK => ?_) AllReadyH.nil
          go_simp
          go_wp2_with (go_at_call 62; refine (ext_any _ _ _ _ _ _ W12.row W12.byt (by omega) hrg.mx.1 hrg.mx.2).mono ?_; rintro e w13 ⟨a13, n13, c13, Z13, rfl, W13, HZ13, l13⟩; have c13' : Below wm.heap.size wm w13 := c12'.trans (W13.below.mono c12'.size))
          refine hK.out _ _ (c13') (fun hS => ?_)
          clear hK
          refine S.anyH_take 7 3 (.slice a13 n13 c13) rfl rfl (by kernel_rfl) (by kernel_rfl) (by kernel_rfl) (fun _ _ _ h => h) (Or.inl ⟨by rfl, by intro w hSw; go_simp⟩) (c13') ?_
          try simp only [Act.put, List.setIfInBounds_toArray, List.set_cons_zero, List.set_cons_succ]
          refine wpAnyH_done (by kernel_rfl) ?_ _
          have r13 := W13.row
          have b13 : Below wb.heap.size wb w13 := Bwm.trans (c13'.mono Bwm.size)
          go_wp2
          go_roundg (gk - 1)
          case measure => have := HG.out; omega
          case rel =>
            refine ⟨i + 1, a13, n13, c13, Z13, rfl, by first | rfl | go_num, by have := HG.out; omega, r13, W13.byt, W13.own.at (by have h1 := c12'.size; have h2 := Bwm.size; have h3 := hB.size; omega), (hB.trans (hBb.mono hB.size)).trans (b13.mono (by have h3 := hB.size; have h4 := hBb.size; omega)), ?_⟩
            show _ = _
            rw [take_itsF _ _ (by have := HL.out; omega), HX.out, flds_append, flds_it, HUE.out, HUM.out, HUK.out, HUS.out, HUV.out, HUW.out]
            rw [HZ13.out, HZ12.out, HZ11.out, HZ10.out, HZ9.out, HZ8.out, HZ7.out, HZ6.out, HZ5.out, HZ4.out, HZ3.out, HZ2.out, HZ1.out, HZ0.out]
            simp only [List.append_assoc]
        · have HE : Hid (Z0 = bodyP p) := by
            show _ = _
            rw [HZ0.out, bodyP, List.take_of_length_le (by have := HL.out; omega)]
          go_wp2
          go_ret
          refine ⟨_, rfl, ?_, B1.trans (hB.mono (Nat.le_of_lt hz0))⟩
          rw [← HE.out]
          exact own0

end Go.Proofs.YticmjlnpjopfbaaDoor

namespace Go.Proofs.YticmjlnpjopfbaaDoor.C
open Go.ChangeShapes Go.WideShapes Go.ChangeAt Go.RowKit
set_option linter.unusedVariables false

set_option maxHeartbeats 2000000 in
theorem rstr_out (W0 : World) (a : Option Addr) (len cap : Nat) (zs : List Int) (p i : Nat) (w : World) (P : Rp W0 a len cap zs p i 0 w) :
    Calls Tryd.prog 87 #[.pointer (some ⟨p, 0, none⟩)] w (Rout W0 a len cap zs p i w (.string ⟨#[]⟩) (strR (txtR (zs.drop i)))) := by
  have hl := P.row.size
  have hle := P.le
  have hmax := P.max
  have hcm := P.cmax
  have hlc := P.row.le
  cases hn : num (zs.drop i) with
  | error c =>
    have E : txtR (zs.drop i) = .error c := by simp [txtR, hn]
    rw [E]
    have HN : Hid (num (zs.drop i) = .error c) := hn
    rcases err_pos hn with rfl | rfl
    all_goals
      clear hn E
      go_enter Tryd.func87, Tryd.ntmps87
      go_wp2_with (go_at_call 86; refine (rnum_err W0 a len cap zs p i _ P _ HN.out).mono ?_; rintro e w1 ⟨rfl, ⟨j, hp1⟩, hk1⟩; obtain ⟨m0, m1, m2, f0, f1, f2, hz⟩ := id hp1.three)
      go_quiet (fail)
      go_wp2
      go_ret
      exact ⟨hk1.drewN _, rfl, j, hp1.drewN _⟩
  | ok r =>
    obtain ⟨x, n⟩ := r
    obtain ⟨x0, x1, hin⟩ := rnum_at P hn
    have HN : Hid (num (zs.drop i) = .ok (x, n)) := hn
    by_cases hlt : (len : Int) - (i + n : Nat) < x
    · have E : txtR (zs.drop i) = .error 21 := by
        simp only [txtR, hn]
        rw [if_pos (by rw [List.length_drop, hl]; omega)]
      rw [E]
      clear E hn hl
      have hlt' : (len : Int) - ((i : Int) + n) < x := by omega
      clear hlt
      go_enter Tryd.func87, Tryd.ntmps87
      go_wp2_with (go_at_call 86; refine (rnum_ok W0 a len cap zs p i _ P x n HN.out).mono ?_; rintro e w1 ⟨rfl, hp1, hk1⟩; obtain ⟨m0, m1, m2, f0, f1, f2, hz⟩ := id hp1.three)
      go_quiet (fail)
      go_wp2
      go_ret
      exact ⟨(hk1.drewN _).setCell 2 _, rfl, _, (hp1.drewN _).fail 21⟩
    · obtain ⟨k, hk⟩ : ∃ k : Nat, x = k := ⟨x.toNat, by omega⟩
      subst hk
      have E : txtR (zs.drop i) = .ok (strOfNums ((zs.drop (i + n)).take k), n + k) := by
        simp only [txtR, hn]
        rw [if_neg (by rw [List.length_drop, hl]; omega), Int.toNat_natCast, List.drop_drop]
      rw [E]
      clear E hn hl
      have hle2 : i + n + k ≤ len := by omega
      have hlt' : ¬ (len : Int) - ((i : Int) + n) < (k : Int) := by omega
      clear hlt
      have HC : Hid (∀ w', Below W0.heap.size W0 w' → (convert 27 9 (.slice (if cap = i + n then a else a.map (·.add ((i + n) * 1))) k (cap - (i + n)))).run Tryd.prog w' = .ok (.string (strOfNums ((zs.drop (i + n)).take k))) w') :=
        fun w' hb => conv_row ((P.row.cut (i := i + n) (n := k) (by omega)).below hb)
      have b1 : (0 : Int) ≤ (i : Int) + n := by omega
      have b2 : (i : Int) + n ≤ (i : Int) + n + k := by omega
      have b3 : (i : Int) + n + k ≤ (cap : Int) := by omega
      by_cases hcap : cap = i + n
      · have hk0 : k = 0 := by omega
        subst hk0
        have HC2 : ∀ w', Below W0.heap.size W0 w' → (convert 27 9 (.slice a 0 0)).run Tryd.prog w' = .ok (.string (strOfNums ((zs.drop (i + n)).take 0))) w' := by
          intro w' hb
          have := HC.out w' hb
          rw [if_pos hcap, show cap - (i + n) = 0 by omega] at this
          exact this
        go_enter Tryd.func87, Tryd.ntmps87
        go_wp2_with (go_at_call 86; refine (rnum_ok W0 a len cap zs p i _ P _ n HN.out).mono ?_; rintro e w1 ⟨rfl, hp1, hk1⟩; obtain ⟨m0, m1, m2, f0, f1, f2, hz⟩ := id hp1.three)
        go_quiet (fail)
        have hcv : ∀ q, (convert 27 9 (.slice a 0 0)).run Tryd.prog (w1.drewN q) = .ok (.string (strOfNums ((zs.drop (i + n)).take 0))) (w1.drewN q) := fun q => HC2 _ (hp1.drewN q).old
        clear HC2
        go_wp2
        go_quiet (fail)
        go_wp2
        go_ret
        exact ⟨(hk1.drewN _).setCell 1 _, rfl, hp1.to _ _ _ (by omega) (by omega)⟩
      · have HC2 : ∀ w', Below W0.heap.size W0 w' → (convert 27 9 (.slice (a.map (·.add (i + n))) k (cap - (i + n)))).run Tryd.prog w' = .ok (.string (strOfNums ((zs.drop (i + n)).take k))) w' := by
          intro w' hb
          have := HC.out w' hb
          rw [if_neg hcap, Nat.mul_one] at this
          exact this
        go_enter Tryd.func87, Tryd.ntmps87
        go_wp2_with (go_at_call 86; refine (rnum_ok W0 a len cap zs p i _ P k n HN.out).mono ?_; rintro e w1 ⟨rfl, hp1, hk1⟩; obtain ⟨m0, m1, m2, f0, f1, f2, hz⟩ := id hp1.three)
        go_quiet (fail)
        have hcv : ∀ q, (convert 27 9 (.slice (a.map (·.add (i + n))) k (cap - (i + n)))).run Tryd.prog (w1.drewN q) = .ok (.string (strOfNums ((zs.drop (i + n)).take k))) (w1.drewN q) := fun q => HC2 _ (hp1.drewN q).old
        clear HC2
        go_wp2
        go_quiet (fail)
        go_wp2
        go_ret
        exact ⟨(hk1.drewN _).setCell 1 _, rfl, hp1.to _ _ _ (by omega) (by omega)⟩

end Go.Proofs.YticmjlnpjopfbaaDoor.C

namespace Go.Proofs.YticmjlnpjopfbaaDoor
open Go.ChangeShapes Go.WideShapes Go.ChangeAt Go.RowKit
open C (Fld fld Rp Kp Rout)
set_option linter.unusedVariables false
set_option linter.unusedSimpArgs false

set_option maxHeartbeats 2000000 in
theorem rnum_dead (W0 : World) (a : Option Addr) (len cap : Nat) (zs : List Int) (p i : Nat) (c : Int) (hc : (c == 0) = false) (w : World) (P : Rp W0 a len cap zs p i c w) :
    Calls Tryd.prog 86 #[.pointer (some ⟨p, 0, none⟩)] w fun e w' => e = .returned (.int .u64 0) ∧ Rp W0 a len cap zs p i c w' ∧ Kp p w w' := by
  have HP : Hid (Rp W0 a len cap zs p i c w) := P
  have hk : p < w.heap.size := P.three.lt
  clear P
  go_enter Tryd.func86, Tryd.ntmps86
  go_wp2
  go_loopg [3, 4] 0 (fun g x s wr => x = .int .u64 0 ∧ s = .int .i64 0 ∧ Hid (Rp W0 a len cap zs p i c wr) ∧ Hid (Kp p w wr))
  case atStart => exact ⟨rfl, rfl, HP.out, Kp.refl _ _⟩
  case round =>
    obtain ⟨rfl, rfl, HPj, HK⟩ := hrel
    obtain ⟨m0, m1, m2, f0, f1, f2, hz⟩ := id HPj.out.three
    go_wp2
    go_ret
    exact ⟨rfl, HPj.out, HK.out⟩

/-- Reading on: a field and the place behind it; or nothing any more. -/
def stp (k : Int) (zs : List Int) : Option Nat → Fld × Option Nat
  | none => (fzz, none)
  | some i => match fld k (zs.drop i) with
    | .ok (f, n) => (f, some (i + n))
    | .error _ => (fzz, none)
/-- The document's reader: at a place, or failed. -/
def Rq (W0 : World) (a : Option Addr) (len cap : Nat) (zs : List Int) (p : Nat) (s : Option Nat) (w : World) : Prop :=
  match s with
  | some i => Rp W0 a len cap zs p i 0 w
  | none => ∃ j c, (c = 20 ∨ c = 21) ∧ Rp W0 a len cap zs p j c w
theorem dead_ne {c : Int} (h : c = 20 ∨ c = 21) : (c == 0) = false ∧ (c != 0) = true := by rcases h with rfl | rfl <;> exact ⟨rfl, rfl⟩
theorem natR_err {bs : List Int} {c : Int} (h : C.natR (C.num bs) = .error c) : c = 20 ∨ c = 21 := by
  cases hn : C.num bs with
  | error d => rw [hn] at h; simp only [C.natR] at h; cases h; exact C.err_pos hn
  | ok q => rw [hn] at h; obtain ⟨x, n⟩ := q; simp only [C.natR] at h; split at h <;> cases h; exact .inl rfl
set_option maxHeartbeats 2000000 in
theorem rwhole_dead (W0 : World) (a : Option Addr) (len cap : Nat) (zs : List Int) (p i : Nat) (c : Int) (hc : c = 20 ∨ c = 21) (w : World) (P : Rp W0 a len cap zs p i c w) :
    Calls Tryd.prog 70 #[.pointer (some ⟨p, 0, none⟩)] w fun e w' => e = .returned (.int .i64 0) ∧ Rp W0 a len cap zs p i c w' ∧ Kp p w w' := by
  obtain ⟨h1, h2⟩ := dead_ne hc
  clear hc
  go_enter Tryd.func70, Tryd.ntmps70
  go_wp2_with (go_at_call 86; refine (rnum_dead W0 a len cap zs p i c h1 _ P).mono ?_; rintro e w1 ⟨rfl, hp1, hk1⟩; obtain ⟨m0, m1, m2, f0, f1, f2, hz⟩ := id hp1.three)
  go_ret
  exact ⟨rfl, hp1, hk1⟩
set_option maxHeartbeats 2000000 in
theorem rint_dead (W0 : World) (a : Option Addr) (len cap : Nat) (zs : List Int) (p i : Nat) (c : Int) (hc : c = 20 ∨ c = 21) (w : World) (P : Rp W0 a len cap zs p i c w) :
    Calls Tryd.prog 89 #[.pointer (some ⟨p, 0, none⟩)] w fun e w' => e = .returned (.int .i64 0) ∧ Rp W0 a len cap zs p i c w' ∧ Kp p w w' := by
  obtain ⟨h1, h2⟩ := dead_ne hc
  clear hc
  go_enter Tryd.func89, Tryd.ntmps89
  go_wp2_with (go_at_call 86; refine (rnum_dead W0 a len cap zs p i c h1 _ P).mono ?_; rintro e w1 ⟨rfl, hp1, hk1⟩; obtain ⟨m0, m1, m2, f0, f1, f2, hz⟩ := id hp1.three)
  go_ret
  exact ⟨rfl, hp1, hk1⟩
set_option maxHeartbeats 2000000 in
theorem rtruth_dead (W0 : World) (a : Option Addr) (len cap : Nat) (zs : List Int) (p i : Nat) (c : Int) (hc : c = 20 ∨ c = 21) (w : World) (P : Rp W0 a len cap zs p i c w) :
    Calls Tryd.prog 88 #[.pointer (some ⟨p, 0, none⟩)] w fun e w' => e = .returned (.bool false) ∧ Rp W0 a len cap zs p i c w' ∧ Kp p w w' := by
  obtain ⟨h1, h2⟩ := dead_ne hc
  clear hc
  obtain ⟨m0, m1, m2, f0, f1, f2, hz⟩ := id P.three
  go_enter Tryd.func88, Tryd.ntmps88
  go_wp2
  go_ret
  exact ⟨rfl, P, Kp.refl _ _⟩
set_option maxHeartbeats 2000000 in
theorem rstr_dead (W0 : World) (a : Option Addr) (len cap : Nat) (zs : List Int) (p i : Nat) (c : Int) (hc : c = 20 ∨ c = 21) (w : World) (P : Rp W0 a len cap zs p i c w) :
    Calls Tryd.prog 87 #[.pointer (some ⟨p, 0, none⟩)] w fun e w' => e = .returned (.string ⟨#[]⟩) ∧ Rp W0 a len cap zs p i c w' ∧ Kp p w w' := by
  obtain ⟨h1, h2⟩ := dead_ne hc
  clear hc
  go_enter Tryd.func87, Tryd.ntmps87
  go_wp2_with (go_at_call 86; refine (rnum_dead W0 a len cap zs p i c h1 _ P).mono ?_; rintro e w1 ⟨rfl, hp1, hk1⟩; obtain ⟨m0, m1, m2, f0, f1, f2, hz⟩ := id hp1.three)
  go_quiet (fail)
  go_wp2
  go_ret
  exact ⟨rfl, hp1.drewN _, hk1.drewN _⟩

theorem whole_st (W0 : World) (a : Option Addr) (len cap : Nat) (zs : List Int) (p : Nat) (s : Option Nat) (w : World) (P : Rq W0 a len cap zs p s w) :
    Calls Tryd.prog 70 #[.pointer (some ⟨p, 0, none⟩)] w fun e w' => e = .returned (.int .i64 (stp 1 zs s).1.num) ∧ Rq W0 a len cap zs p (stp 1 zs s).2 w' ∧ Kp p w w' := by
  cases s with
  | none =>
    obtain ⟨j, c, hc, P⟩ := P
    exact (rwhole_dead W0 a len cap zs p j c hc w P).mono fun e w' h => ⟨h.1, ⟨j, c, hc, h.2.1⟩, h.2.2⟩
  | some i =>
    refine (C.rwhole_out W0 a len cap zs p i w P).mono fun e w' h => ?_
    unfold Rout at h
    simp only [stp, fld, if_true]
    cases hr : C.natR (C.num (zs.drop i)) with
    | error c => rw [hr] at h; obtain ⟨h1, h2, j, h3⟩ := h; exact ⟨h2, ⟨j, c, natR_err hr, h3⟩, h1⟩
    | ok q => rw [hr] at h; obtain ⟨x, n⟩ := q; obtain ⟨h1, h2, h3⟩ := h; exact ⟨h2, h3, h1⟩
theorem int_st (W0 : World) (a : Option Addr) (len cap : Nat) (zs : List Int) (p : Nat) (s : Option Nat) (w : World) (P : Rq W0 a len cap zs p s w) :
    Calls Tryd.prog 89 #[.pointer (some ⟨p, 0, none⟩)] w fun e w' => e = .returned (.int .i64 (stp 2 zs s).1.num) ∧ Rq W0 a len cap zs p (stp 2 zs s).2 w' ∧ Kp p w w' := by
  cases s with
  | none =>
    obtain ⟨j, c, hc, P⟩ := P
    exact (rint_dead W0 a len cap zs p j c hc w P).mono fun e w' h => ⟨h.1, ⟨j, c, hc, h.2.1⟩, h.2.2⟩
  | some i =>
    refine (C.rint_out W0 a len cap zs p i w P).mono fun e w' h => ?_
    unfold Rout at h
    simp only [stp, fld, if_true, show ¬ (2 : Int) = 1 by decide, if_false]
    cases hr : C.num (zs.drop i) with
    | error c => rw [hr] at h; obtain ⟨h1, h2, j, h3⟩ := h; exact ⟨h2, ⟨j, c, C.err_pos hr, h3⟩, h1⟩
    | ok q => rw [hr] at h; obtain ⟨x, n⟩ := q; obtain ⟨h1, h2, h3⟩ := h; exact ⟨h2, h3, h1⟩
theorem flgR_err {bs : List Int} {c : Int} (h : C.flgR bs = .error c) : c = 20 ∨ c = 21 := by
  unfold C.flgR at h
  split at h
  · cases h; exact .inr rfl
  · split at h <;> cases h; exact .inl rfl
theorem txtR_err {bs : List Int} {c : Int} (h : C.txtR bs = .error c) : c = 20 ∨ c = 21 := by
  unfold C.txtR at h
  split at h
  · split at h <;> cases h; exact .inr rfl
  · rename_i hn; cases h; exact C.err_pos hn
theorem truth_st (W0 : World) (a : Option Addr) (len cap : Nat) (zs : List Int) (p : Nat) (s : Option Nat) (w : World) (P : Rq W0 a len cap zs p s w) :
    Calls Tryd.prog 88 #[.pointer (some ⟨p, 0, none⟩)] w fun e w' => e = .returned (.bool (stp 4 zs s).1.is) ∧ Rq W0 a len cap zs p (stp 4 zs s).2 w' ∧ Kp p w w' := by
  cases s with
  | none =>
    obtain ⟨j, c, hc, P⟩ := P
    exact (rtruth_dead W0 a len cap zs p j c hc w P).mono fun e w' h => ⟨h.1, ⟨j, c, hc, h.2.1⟩, h.2.2⟩
  | some i =>
    refine (C.rtruth_out W0 a len cap zs p i w P).mono fun e w' h => ?_
    unfold Rout at h
    simp only [stp, fld, if_true, show ¬ (4 : Int) = 1 by decide, show ¬ (4 : Int) = 2 by decide, show ¬ (4 : Int) = 3 by decide, if_false]
    cases hr : C.flgR (zs.drop i) with
    | error c => rw [hr] at h; obtain ⟨h1, h2, j, h3⟩ := h; exact ⟨h2, ⟨j, c, flgR_err hr, h3⟩, h1⟩
    | ok q => rw [hr] at h; obtain ⟨x, n⟩ := q; obtain ⟨h1, h2, h3⟩ := h; exact ⟨h2, h3, h1⟩
theorem str_st (W0 : World) (a : Option Addr) (len cap : Nat) (zs : List Int) (p : Nat) (s : Option Nat) (w : World) (P : Rq W0 a len cap zs p s w) :
    Calls Tryd.prog 87 #[.pointer (some ⟨p, 0, none⟩)] w fun e w' => e = .returned (.string (stp 3 zs s).1.text) ∧ Rq W0 a len cap zs p (stp 3 zs s).2 w' ∧ Kp p w w' := by
  cases s with
  | none =>
    obtain ⟨j, c, hc, P⟩ := P
    exact (rstr_dead W0 a len cap zs p j c hc w P).mono fun e w' h => ⟨h.1, ⟨j, c, hc, h.2.1⟩, h.2.2⟩
  | some i =>
    refine (C.rstr_out W0 a len cap zs p i w P).mono fun e w' h => ?_
    unfold Rout at h
    simp only [stp, fld, if_true, show ¬ (3 : Int) = 1 by decide, show ¬ (3 : Int) = 2 by decide, if_false]
    cases hr : C.txtR (zs.drop i) with
    | error c => rw [hr] at h; obtain ⟨h1, h2, j, h3⟩ := h; exact ⟨h2, ⟨j, c, txtR_err hr, h3⟩, h1⟩
    | ok q => rw [hr] at h; obtain ⟨x, n⟩ := q; obtain ⟨h1, h2, h3⟩ := h; exact ⟨h2, h3, h1⟩
theorem small_st (W0 : World) (a : Option Addr) (len cap : Nat) (zs : List Int) (p : Nat) (s : Option Nat) (w : World) (P : Rq W0 a len cap zs p s w) :
    Calls Tryd.prog 69 #[.pointer (some ⟨p, 0, none⟩)] w fun e w' => e = .returned (.int .i64 (sm (stp 1 zs s).1.num)) ∧ Rq W0 a len cap zs p (stp 1 zs s).2 w' ∧ Kp p w w' := by
  have KW := whole_st W0 a len cap zs p s w P
  obtain ⟨f, hf⟩ : ∃ f, (stp 1 zs s).1.num = f := ⟨_, rfl⟩
  obtain ⟨s', hs⟩ : ∃ s', (stp 1 zs s).2 = s' := ⟨_, rfl⟩
  rw [hf, hs] at KW ⊢
  clear hf hs P
  by_cases hx : 1073741824 < f
  · rw [sm, if_pos hx]
    go_enter Tryd.func69, Tryd.ntmps69
    go_wp2_with (go_at_call 70; refine KW.mono ?_; rintro e w1 ⟨rfl, hp1, hk1⟩)
    go_ret
    exact ⟨rfl, hp1, hk1⟩
  · rw [sm, if_neg hx]
    go_enter Tryd.func69, Tryd.ntmps69
    go_wp2_with (go_at_call 70; refine KW.mono ?_; rintro e w1 ⟨rfl, hp1, hk1⟩)
    go_ret
    exact ⟨rfl, hp1, hk1⟩
end Go.Proofs.YticmjlnpjopfbaaDoor

namespace Go.Proofs.YticmjlnpjopfbaaDoor
open Go.ChangeShapes Go.WideShapes Go.ChangeAt Go.RowKit
open C (Fld fld Rp Kp Rout)
set_option linter.unusedVariables false
set_option linter.unusedSimpArgs false

/-- Reading fields of these kinds on. -/
def runK : List Int → List Int → Option Nat → List Fld × Option Nat
  | [], _, s => ([], s)
  | k :: ks, zs, s => ((stp k zs s).1 :: (runK ks zs (stp k zs s).2).1, (runK ks zs (stp k zs s).2).2)
theorem runK_app : ∀ (a b zs : List Int) (s : Option Nat), runK (a ++ b) zs s = ((runK a zs s).1 ++ (runK b zs (runK a zs s).2).1, (runK b zs (runK a zs s).2).2)
  | [], b, zs, s => by simp [runK]
  | k :: ks, b, zs, s => by simp [runK, runK_app ks b zs]
theorem Rq.kp {W0 : World} {a : Option Addr} {len cap : Nat} {zs : List Int} {p : Nat} {s : Option Nat} {w w' : World} (h : Rq W0 a len cap zs p s w) (k : Kp p w w') (hb : w'.heap[p]? = w.heap[p]?) : Rq W0 a len cap zs p s w' := by
  cases s with
  | some i => exact Rp.kp h k (h.three.of_block hb k.size) h.le
  | none => obtain ⟨j, c, hc, h⟩ := h; exact ⟨j, c, hc, Rp.kp h k (h.three.of_block hb k.size) h.le⟩
theorem Rq.lt {W0 : World} {a : Option Addr} {len cap : Nat} {zs : List Int} {p : Nat} {s : Option Nat} {w : World} (h : Rq W0 a len cap zs p s w) : p < w.heap.size := by
  cases s with
  | some i => exact h.three.lt
  | none => obtain ⟨j, c, hc, h⟩ := h; exact h.three.lt
theorem Rq.alloc {W0 : World} {a : Option Addr} {len cap : Nat} {zs : List Int} {p : Nat} {s : Option Nat} {w : World} (h : Rq W0 a len cap zs p s w) (o : Obj) : Rq W0 a len cap zs p s (w.alloc o) :=
  h.kp ((Kp.refl _ _).alloc o) (Below.heap_alloc _ _ _ h.lt)
theorem Kp.other {p g : Nat} {a b b' : World} (h : Kp p a b) (hg : a.heap.size ≤ g) (h1 : b'.os = b.os) (h2 : b'.tape = b.tape) (h3 : b'.output = b.output) (h4 : b'.heap.size = b.heap.size) (h5 : ∀ k, k ≠ g → b'.heap[k]? = b.heap[k]?) : Kp p a b' :=
  ⟨h1.trans h.os, h2.trans h.tape, h3.trans h.output, by rw [h4]; exact h.size, fun q hq hne => (h5 q (by omega)).trans (h.block q hq hne)⟩
theorem Kp.setRow {p g : Nat} {a b : World} (h : Kp p a b) (hg : a.heap.size ≤ g) (c : Array Value) : Kp p a (b.setRow g c) :=
  Kp.other h hg rfl rfl rfl (by simp) fun k hk => setRow_other _ _ _ _ hk
theorem Kp.rest {p g : Nat} {w w' : World} (hs : w.heap.size ≤ w'.heap.size) (h1 : w'.os = w.os) (h2 : w'.tape = w.tape) (h3 : w'.output = w.output) (h5 : ∀ k, k ≠ p → w'.heap[k]? = w.heap[k]?) : Kp p w w' :=
  ⟨h1, h2, h3, hs, fun q hq hne => h5 q (fun e => hne (by simp [e]))⟩
theorem Rp.newer {W0 : World} {a : Option Addr} {len cap : Nat} {zs : List Int} {p i : Nat} {c : Int} {w w' : World} (h : Rp W0 a len cap zs p i c w) (hb : w'.heap[p]? = w.heap[p]?) (hB : Below W0.heap.size w w') : Rp W0 a len cap zs p i c w' :=
  ⟨h.three.of_block hb hB.size, h.row, h.old.trans hB, h.hp, h.le, h.max, h.cmax⟩
theorem Rq.newer {W0 : World} {a : Option Addr} {len cap : Nat} {zs : List Int} {p : Nat} {s : Option Nat} {w w' : World} (h : Rq W0 a len cap zs p s w) (hb : w'.heap[p]? = w.heap[p]?) (hB : Below W0.heap.size w w') : Rq W0 a len cap zs p s w' := by
  cases s with
  | some i => exact Rp.newer h hb hB
  | none => obtain ⟨j, c, hc, h⟩ := h; exact ⟨j, c, hc, Rp.newer h hb hB⟩
theorem Rq.hp {W0 : World} {a : Option Addr} {len cap : Nat} {zs : List Int} {p : Nat} {s : Option Nat} {w : World} (h : Rq W0 a len cap zs p s w) : W0.heap.size ≤ p := by
  cases s with
  | some i => exact Rp.hp h
  | none => obtain ⟨j, c, hc, h⟩ := h; exact Rp.hp h
theorem Rq.setNew {W0 : World} {a : Option Addr} {len cap : Nat} {zs : List Int} {p : Nat} {s : Option Nat} {w : World} (h : Rq W0 a len cap zs p s w) {g : Nat} (hg : p < g) (o : Nat) (v : Value) : Rq W0 a len cap zs p s (w.setCell ⟨g, o, none⟩ v) :=
  h.newer (Below.heap_setCell _ _ _ _ (by show p ≠ g; omega)) ((Below.refl _ _).setCell (p := ⟨g, o, none⟩) (by have := h.hp; show W0.heap.size ≤ g; omega) _)
theorem Rq.setRow {W0 : World} {a : Option Addr} {len cap : Nat} {zs : List Int} {p : Nat} {s : Option Nat} {w : World} (h : Rq W0 a len cap zs p s w) {g : Nat} (hg : p < g) (c : Array Value) : Rq W0 a len cap zs p s (w.setRow g c) :=
  h.newer (setRow_other _ _ _ _ (by omega)) ⟨rfl, rfl, rfl, by simp, fun b hb => setRow_other _ _ _ _ (by have := h.hp; omega)⟩
theorem row_free {W : World} {g : Nat} {c : Array Value} {t : TypeId} (h : W.heap[g]? = some (.cells c t (0, 0))) (o : Nat) : W.frozen? ⟨g, o, none⟩ = false := by
  unfold World.frozen?
  rw [show (⟨g, o, none⟩ : Addr).block = g from rfl, h]
  simp
theorem row_lt {W : World} {g : Nat} {c : Array Value} {t : TypeId} (h : W.heap[g]? = some (.cells c t (0, 0))) : g < W.heap.size := (Array.getElem?_eq_some_iff.1 h).1
theorem run_store_row1 {w : World} {g i : Nat} {cur : Array Value} {t : TypeId} {v : Value} (hg : w.heap[g]? = some (.cells cur t (0, 0))) (hi : i < cur.size) (h1 : v.oneCell' = true) : (store ⟨g, i, none⟩ v).run Tryd.prog w = .ok () (w.setRow g (cur.setIfInBounds i v)) := by
  have hcell : w.cell? ⟨g, i, none⟩ = some cur[i] := by simp [World.cell?, hg, hi]
  have hfro : w.frozen? ⟨g, i, none⟩ = false := by simp [World.frozen?, hg]
  rw [run_store Tryd.prog w _ v _ h1, hcell]
  simp [hfro, setCell_eq_setRow w g i cur t (0, 0) v hg]
/-- Four cells of a row are written. -/
theorem run_store_four {w : World} {g o : Nat} {cur : Array Value} {t : TypeId} {v0 v1 v2 v3 : Value} (hg : w.heap[g]? = some (.cells cur t (0, 0))) (hi : o + 3 < cur.size) (h0 : v0.oneCell' = true) (h1 : v1.oneCell' = true) (h2 : v2.oneCell' = true) (h3 : v3.oneCell' = true) (hs : (Tryd.prog.info? 36).map (·.size) = some 4) :
    (storeVar 36 ⟨g, o, none⟩ (.agg #[v0, v1, v2, v3])).run Tryd.prog w = .ok () (w.setRow g ((((cur.setIfInBounds o v0).setIfInBounds (o + 1) v1).setIfInBounds (o + 2) v2).setIfInBounds (o + 3) v3)) := by
  have e0 := run_store_row1 hg (i := o) (by omega) h0
  have g1 := setRow_heap w g cur (cur.setIfInBounds o v0) t _ hg
  have e1 := run_store_row1 g1 (i := o + 1) (by simp; omega) h1
  have g2 := setRow_heap _ g _ ((cur.setIfInBounds o v0).setIfInBounds (o + 1) v1) t _ g1
  have e2 := run_store_row1 g2 (i := o + 2) (by simp; omega) h2
  have g3 := setRow_heap _ g _ (((cur.setIfInBounds o v0).setIfInBounds (o + 1) v1).setIfInBounds (o + 2) v2) t _ g2
  have e3 := run_store_row1 g3 (i := o + 3) (by simp; omega) h3
  rw [setRow_setRow] at e1
  simp only [setRow_setRow] at e1 e2 e3
  cases hq : Tryd.prog.info? 36 with
  | none => simp [hq] at hs
  | some i =>
    have hz : i.size = 4 := by simpa [hq] using hs
    simp only [storeVar, sizeOf, typeInfo, hq, Value.cells, hz, Sem.run_bind]
    simp [storeCells, add_plain, e0, e1, e2, e3, go_sem, hq, hz]
theorem wpList_store_four {ops : Array Oper} {rest : List Oper} {oo : Oper} {a : Act} {w : World} {Q : Exit → Act → World → Prop} (hgd : oo.guard = none) (x y : Operand) (ho : oo.op = .store 36 x y)
    (g o : Nat) (v0 v1 v2 v3 : Value) (hx : a.eval x = .pointer (some ⟨g, o, none⟩)) (hy : a.eval y = .agg #[v0, v1, v2, v3])
    (t : TypeId) (cur : Array Value) (hg : w.heap[g]? = some (.cells cur t (0, 0))) (hi : o + 3 < cur.size) (h0 : v0.oneCell' = true) (h1 : v1.oneCell' = true) (h2 : v2.oneCell' = true) (h3 : v3.oneCell' = true) (hs : (Tryd.prog.info? 36).map (·.size) = some 4)
    (h : wpList Tryd.prog ops Q rest (a.put oo.dst undef) (w.setRow g ((((cur.setIfInBounds o v0).setIfInBounds (o + 1) v1).setIfInBounds (o + 2) v2).setIfInBounds (o + 3) v3))) : wpList Tryd.prog ops Q (oo :: rest) a w :=
  wpList_plain hgd fun K hK => by
    unfold Oper.wp execOp
    simp only [ho, hx, hy, Instr.storeAt, Instr.sureAddr, Sem.run_bind, Sem.run_pure, Result.andThen_ok, run_store_four hg hi h0 h1 h2 h3 hs]
    exact hK _ _ h
theorem wpList_load_row {ops : Array Oper} {rest : List Oper} {oo : Oper} {a : Act} {w : World} {Q : Exit → Act → World → Prop} (hgd : oo.guard = none) (ty : TypeId) (x : Operand) (ho : oo.op = .load ty x)
    (g : Nat) (hx : a.eval x = .pointer (some ⟨g, 0, none⟩)) (cs : Array Value) (hl : (loadVar ty ⟨g, 0, none⟩).run Tryd.prog w = .ok (.agg cs) w)
    (h : wpList Tryd.prog ops Q rest (a.put oo.dst (.agg cs)) w) : wpList Tryd.prog ops Q (oo :: rest) a w :=
  wpList_plain hgd fun K hK => by
    unfold Oper.wp execOp
    simp only [ho, hx, Instr.loadAt, Instr.sureAddr, Sem.run_bind, Sem.run_pure, Result.andThen_ok, hl]
    exact hK _ _ h
theorem results_row1 {fn : Func} {p : Tmp} {ty : TypeId} (h : fn.results = #[.cell p ty]) (tmps : Array Value) (w : World) (g : Nat) (cs : Array Value)
    (hp : tmps.getD p undef = .pointer (some ⟨g, 0, none⟩)) (hl : (loadVar ty ⟨g, 0, none⟩).run Tryd.prog w = .ok (.agg cs) w) :
    (results fn tmps).run Tryd.prog w = .ok (.agg cs) w := by
  have hp' : tmps[p]?.getD undef = .pointer (some ⟨g, 0, none⟩) := by simpa using hp
  simp [results, h, hp', asAddr, hl]
theorem load_36 {w : World} {g : Nat} {c0 c1 c2 c3 : Value} (h : w.heap[g]? = some (.cells #[c0, c1, c2, c3] 36 (0, 0))) : (loadVar 36 ⟨g, 0, none⟩).run Tryd.prog w = .ok (.agg #[c0, c1, c2, c3]) w :=
  run_loadVar_row (P := Tryd.prog) w g 36 36 _ (0, 0) _ h Tryd.underlying36 rfl (by show _ = some 4; kernel_rfl)
def extR (fs : List Fld) : Array Value := #[.bool (fs.getD 0 fzz).is, .int .i64 (fs.getD 1 fzz).num, .int .i64 (sm (fs.getD 2 fzz).num), .int .i64 (fs.getD 3 fzz).num]
set_option maxRecDepth 100000 in
set_option maxHeartbeats 4000000 in
theorem ext_st (W0 : World) (a : Option Addr) (len cap : Nat) (zs : List Int) (p : Nat) (s : Option Nat) (w : World) (P : Rq W0 a len cap zs p s w) :
    Calls Tryd.prog 90 #[.pointer (some ⟨p, 0, none⟩)] w fun e w' => e = .returned (.agg (extR (runK [4, 2, 1, 1] zs s).1)) ∧ Rq W0 a len cap zs p (runK [4, 2, 1, 1] zs s).2 w' ∧ Kp p w w' := by
  obtain ⟨⟨g0, s1⟩, h0⟩ : ∃ q, stp 4 zs s = q := ⟨_, rfl⟩
  have K0 : ∀ w, Rq W0 a len cap zs p s w → Calls Tryd.prog 88 #[.pointer (some ⟨p, 0, none⟩)] w fun e w' => e = .returned (.bool g0.is) ∧ Rq W0 a len cap zs p s1 w' ∧ Kp p w w' := fun w P => by
    have := truth_st W0 a len cap zs p s w P
    rw [h0] at this
    exact this
  obtain ⟨⟨g1, s2⟩, h1⟩ : ∃ q, stp 2 zs s1 = q := ⟨_, rfl⟩
  have K1 : ∀ w, Rq W0 a len cap zs p s1 w → Calls Tryd.prog 89 #[.pointer (some ⟨p, 0, none⟩)] w fun e w' => e = .returned (.int .i64 g1.num) ∧ Rq W0 a len cap zs p s2 w' ∧ Kp p w w' := fun w P => by
    have := int_st W0 a len cap zs p s1 w P
    rw [h1] at this
    exact this
  obtain ⟨⟨g2, s3⟩, h2⟩ : ∃ q, stp 1 zs s2 = q := ⟨_, rfl⟩
  have K2 : ∀ w, Rq W0 a len cap zs p s2 w → Calls Tryd.prog 69 #[.pointer (some ⟨p, 0, none⟩)] w fun e w' => e = .returned (.int .i64 (sm g2.num)) ∧ Rq W0 a len cap zs p s3 w' ∧ Kp p w w' := fun w P => by
    have := small_st W0 a len cap zs p s2 w P
    rw [h2] at this
    exact this
  obtain ⟨⟨g3, s4⟩, h3⟩ : ∃ q, stp 1 zs s3 = q := ⟨_, rfl⟩
  have K3 : ∀ w, Rq W0 a len cap zs p s3 w → Calls Tryd.prog 70 #[.pointer (some ⟨p, 0, none⟩)] w fun e w' => e = .returned (.int .i64 g3.num) ∧ Rq W0 a len cap zs p s4 w' ∧ Kp p w w' := fun w P => by
    have := whole_st W0 a len cap zs p s3 w P
    rw [h3] at this
    exact this
  rw [show runK [4, 2, 1, 1] zs s = ([g0, g1, g2, g3], s4) by simp [runK, h0, h1, h2, h3]]
  show Calls _ _ _ _ fun e w' => e = .returned (.agg #[.bool g0.is, .int .i64 g1.num, .int .i64 (sm g2.num), .int .i64 g3.num]) ∧ _ ∧ _
  have hpw := P.lt
  clear h0 h1 h2 h3
  go_enter Tryd.func90, Tryd.ntmps90
  go_wp2_with (first
    | (go_at_call 88; refine (K0 _ (P.alloc _)).mono ?_; rintro e w1 ⟨rfl, P1, k1⟩; have X1 := (k1.block w.heap.size (by simp) (by simp; omega)).trans (World.alloc_heap_new _ _); have B1 : Kp p w w1 := ((Kp.refl _ _).alloc _).trans k1; have z1 := row_lt X1; have hp1 := P1.lt)
    | ((with_reducible show wpList _ _ _ (Oper.mk _ (Op.store 36 _ _) _ _ _ _ :: _) _ _); refine wpList_store_row rfl 36 _ _ rfl w1.heap.size #[.bool g0.is, .int .i64 0, .int .i64 0, .int .i64 0] rfl rfl 36 _ (World.alloc_heap_new _ _) (by kernel_rfl) rfl (by simp [Value.oneCell']) ?_)
    | (go_at_call 89; refine (K1 _ ((P1.alloc _).setRow (by omega) _)).mono ?_; rintro e w2 ⟨rfl, P2, k2⟩; have E2 := (k2.block w1.heap.size (by simp) (by simp; omega)).trans (setRow_heap _ _ _ _ _ _ (World.alloc_heap_new _ _)); have X2 := (k2.block w.heap.size (by simp; omega) (by simp; omega)).trans ((setRow_other _ _ _ _ (by omega)).trans ((Below.heap_alloc _ _ _ z1).trans X1)); have B2 : Kp p w w2 := ((Kp.setRow (B1.alloc _) (by have := B1.size; omega) _)).trans k2; have c2 : w2.cell? ⟨w1.heap.size, 1, none⟩ = some (.int .i64 0) := (by rw [cell_of_row _ _ _ _ 36 _ E2]; rfl); have f2 := row_free E2 1; have z2 := row_lt E2)
    | (go_at_call 69; refine (K2 _ (P2.setNew (g := w1.heap.size) (by omega) 1 _)).mono ?_; rintro e w3 ⟨rfl, P3, k3⟩; have E3 := (k3.block w1.heap.size (by simp; exact z2) (by simp; omega)).trans (setCell_row E2 _); have X3 := (k3.block w.heap.size (by simp; omega) (by simp; omega)).trans ((Below.heap_setCell _ _ _ _ (by show w.heap.size ≠ w1.heap.size; omega)).trans X2); have B3 : Kp p w w3 := (Kp.setNew B2 (by have := B1.size; omega) _ _).trans k3; have c3 : w3.cell? ⟨w1.heap.size, 2, none⟩ = some (.int .i64 0) := (by rw [cell_of_row _ _ _ _ 36 _ E3]; rfl); have f3 := row_free E3 2; have z3 := row_lt E3)
    | (go_at_call 70; refine (K3 _ (P3.setNew (g := w1.heap.size) (by omega) 2 _)).mono ?_; rintro e w4 ⟨rfl, P4, k4⟩; have E4 := (k4.block w1.heap.size (by simp; exact z3) (by simp; omega)).trans (setCell_row E3 _); have X4 := (k4.block w.heap.size (by simp; omega) (by simp; omega)).trans ((Below.heap_setCell _ _ _ _ (by show w.heap.size ≠ w1.heap.size; omega)).trans X3); have B4 : Kp p w w4 := (Kp.setNew B3 (by have := B1.size; omega) _ _).trans k4; have c4 : w4.cell? ⟨w1.heap.size, 3, none⟩ = some (.int .i64 0) := (by rw [cell_of_row _ _ _ _ 36 _ E4]; rfl); have f4 := row_free E4 3; have z4 := row_lt E4; have E5 := setCell_row (o := 3) E4 (.int .i64 g3.num); have X5 : (w4.setCell ⟨w1.heap.size, 3, none⟩ (.int .i64 g3.num)).heap[w.heap.size]? = _ := (Below.heap_setCell _ _ _ _ (by show w.heap.size ≠ w1.heap.size; omega)).trans X4)
    | ((with_reducible show wpList _ _ _ (Oper.mk _ (Op.load 36 _) _ _ _ _ :: _) _ _); refine wpList_load_row rfl 36 _ rfl w1.heap.size rfl #[.bool g0.is, .int .i64 g1.num, .int .i64 (sm g2.num), .int .i64 g3.num] (load_36 E5) ?_)
    | ((with_reducible show wpList _ _ _ (Oper.mk _ (Op.store 36 _ _) _ _ _ _ :: _) _ _); refine wpList_store_row rfl 36 _ _ rfl w.heap.size #[.bool g0.is, .int .i64 g1.num, .int .i64 (sm g2.num), .int .i64 g3.num] rfl rfl 36 _ X5 (by kernel_rfl) rfl (by simp [Value.oneCell']) ?_))
  refine bodyPost_ret (results_row1 rfl _ _ w.heap.size _ rfl (load_36 (setRow_heap _ _ _ _ _ _ X5))) rfl ⟨rfl, (P4.setNew (g := w1.heap.size) (by omega) 3 _).setRow (by omega) _, ?_⟩
  exact Kp.setRow (Kp.setNew B4 (by have := B1.size; omega) _ _) (Nat.le_refl _) _
end Go.Proofs.YticmjlnpjopfbaaDoor

namespace Go.Proofs.YticmjlnpjopfbaaDoor
open Go.ChangeShapes Go.WideShapes Go.ChangeAt Go.RowKit
open C (Fld fld Rp Kp Rout)
set_option linter.unusedVariables false
set_option linter.unusedSimpArgs false
theorem alloc2_new (w : World) (o o' : Obj) : ((w.alloc o).alloc o').heap[w.heap.size + 1]? = some o' := by
  have h := World.alloc_heap_new (w.alloc o) o'
  rwa [World.size_alloc] at h
theorem load_38 {w : World} {g : Nat} {x : Itm} (h : w.heap[g]? = some (.cells (itc x).toArray 38 (0, 0))) : (loadVar 38 ⟨g, 0, none⟩).run Tryd.prog w = .ok (itv x) w :=
  run_loadVar_row (P := Tryd.prog) w g 38 38 _ (0, 0) _ h Tryd.underlying38 rfl (by show _ = some 19; kernel_rfl)
theorem runK_len : ∀ (ks zs : List Int) (s : Option Nat), (runK ks zs s).1.length = ks.length
  | [], zs, s => rfl
  | k :: ks, zs, s => by simp [runK, runK_len ks zs]
set_option maxRecDepth 100000 in
set_option maxHeartbeats 8000000 in
theorem item_st (W0 : World) (a : Option Addr) (len cap : Nat) (zs : List Int) (p : Nat) (s : Option Nat) (w : World) (P : Rq W0 a len cap zs p s w) :
    Calls Tryd.prog 71 #[.pointer (some ⟨p, 0, none⟩)] w fun e w' => e = .returned (itv (smI (itOf (runK itK zs s).1))) ∧ Rq W0 a len cap zs p (runK itK zs s).2 w' ∧ Kp p w w' := by
  obtain ⟨⟨g0, s1⟩, h0⟩ : ∃ q, stp 3 zs s = q := ⟨_, rfl⟩
  have K0 : ∀ w, Rq W0 a len cap zs p s w → Calls Tryd.prog 87 #[.pointer (some ⟨p, 0, none⟩)] w fun e w' => e = .returned (.string g0.text) ∧ Rq W0 a len cap zs p s1 w' ∧ Kp p w w' := fun w P => by
    have := str_st W0 a len cap zs p s w P
    rw [h0] at this
    exact this
  obtain ⟨⟨g1, s2⟩, h1⟩ : ∃ q, stp 1 zs s1 = q := ⟨_, rfl⟩
  have K1 : ∀ w, Rq W0 a len cap zs p s1 w → Calls Tryd.prog 70 #[.pointer (some ⟨p, 0, none⟩)] w fun e w' => e = .returned (.int .i64 g1.num) ∧ Rq W0 a len cap zs p s2 w' ∧ Kp p w w' := fun w P => by
    have := whole_st W0 a len cap zs p s1 w P
    rw [h1] at this
    exact this
  obtain ⟨⟨g2, s3⟩, h2⟩ : ∃ q, stp 1 zs s2 = q := ⟨_, rfl⟩
  have K2 : ∀ w, Rq W0 a len cap zs p s2 w → Calls Tryd.prog 69 #[.pointer (some ⟨p, 0, none⟩)] w fun e w' => e = .returned (.int .i64 (sm g2.num)) ∧ Rq W0 a len cap zs p s3 w' ∧ Kp p w w' := fun w P => by
    have := small_st W0 a len cap zs p s2 w P
    rw [h2] at this
    exact this
  obtain ⟨⟨g3, s4⟩, h3⟩ : ∃ q, stp 4 zs s3 = q := ⟨_, rfl⟩
  have K3 : ∀ w, Rq W0 a len cap zs p s3 w → Calls Tryd.prog 88 #[.pointer (some ⟨p, 0, none⟩)] w fun e w' => e = .returned (.bool g3.is) ∧ Rq W0 a len cap zs p s4 w' ∧ Kp p w w' := fun w P => by
    have := truth_st W0 a len cap zs p s3 w P
    rw [h3] at this
    exact this
  obtain ⟨⟨g4, s5⟩, h4⟩ : ∃ q, stp 1 zs s4 = q := ⟨_, rfl⟩
  have K4 : ∀ w, Rq W0 a len cap zs p s4 w → Calls Tryd.prog 69 #[.pointer (some ⟨p, 0, none⟩)] w fun e w' => e = .returned (.int .i64 (sm g4.num)) ∧ Rq W0 a len cap zs p s5 w' ∧ Kp p w w' := fun w P => by
    have := small_st W0 a len cap zs p s4 w P
    rw [h4] at this
    exact this
  obtain ⟨⟨g5, s6⟩, h5⟩ : ∃ q, stp 1 zs s5 = q := ⟨_, rfl⟩
  have K5 : ∀ w, Rq W0 a len cap zs p s5 w → Calls Tryd.prog 70 #[.pointer (some ⟨p, 0, none⟩)] w fun e w' => e = .returned (.int .i64 g5.num) ∧ Rq W0 a len cap zs p s6 w' ∧ Kp p w w' := fun w P => by
    have := whole_st W0 a len cap zs p s5 w P
    rw [h5] at this
    exact this
  obtain ⟨⟨g6, s7⟩, h6⟩ : ∃ q, stp 1 zs s6 = q := ⟨_, rfl⟩
  have K6 : ∀ w, Rq W0 a len cap zs p s6 w → Calls Tryd.prog 70 #[.pointer (some ⟨p, 0, none⟩)] w fun e w' => e = .returned (.int .i64 g6.num) ∧ Rq W0 a len cap zs p s7 w' ∧ Kp p w w' := fun w P => by
    have := whole_st W0 a len cap zs p s6 w P
    rw [h6] at this
    exact this
  obtain ⟨⟨g7, s8⟩, h7⟩ : ∃ q, stp 1 zs s7 = q := ⟨_, rfl⟩
  have K7 : ∀ w, Rq W0 a len cap zs p s7 w → Calls Tryd.prog 69 #[.pointer (some ⟨p, 0, none⟩)] w fun e w' => e = .returned (.int .i64 (sm g7.num)) ∧ Rq W0 a len cap zs p s8 w' ∧ Kp p w w' := fun w P => by
    have := small_st W0 a len cap zs p s7 w P
    rw [h7] at this
    exact this
  obtain ⟨⟨g8, s9⟩, h8⟩ : ∃ q, stp 2 zs s8 = q := ⟨_, rfl⟩
  have K8 : ∀ w, Rq W0 a len cap zs p s8 w → Calls Tryd.prog 89 #[.pointer (some ⟨p, 0, none⟩)] w fun e w' => e = .returned (.int .i64 g8.num) ∧ Rq W0 a len cap zs p s9 w' ∧ Kp p w w' := fun w P => by
    have := int_st W0 a len cap zs p s8 w P
    rw [h8] at this
    exact this
  obtain ⟨⟨g9, s10⟩, h9⟩ : ∃ q, stp 4 zs s9 = q := ⟨_, rfl⟩
  have K9 : ∀ w, Rq W0 a len cap zs p s9 w → Calls Tryd.prog 88 #[.pointer (some ⟨p, 0, none⟩)] w fun e w' => e = .returned (.bool g9.is) ∧ Rq W0 a len cap zs p s10 w' ∧ Kp p w w' := fun w P => by
    have := truth_st W0 a len cap zs p s9 w P
    rw [h9] at this
    exact this
  obtain ⟨⟨g10, s11⟩, h10⟩ : ∃ q, stp 2 zs s10 = q := ⟨_, rfl⟩
  have K10 : ∀ w, Rq W0 a len cap zs p s10 w → Calls Tryd.prog 89 #[.pointer (some ⟨p, 0, none⟩)] w fun e w' => e = .returned (.int .i64 g10.num) ∧ Rq W0 a len cap zs p s11 w' ∧ Kp p w w' := fun w P => by
    have := int_st W0 a len cap zs p s10 w P
    rw [h10] at this
    exact this
  obtain ⟨⟨q1, s12⟩, h11⟩ : ∃ q, runK [4, 2, 1, 1] zs s11 = q := ⟨_, rfl⟩
  have K11 : ∀ w, Rq W0 a len cap zs p s11 w → Calls Tryd.prog 90 #[.pointer (some ⟨p, 0, none⟩)] w fun e w' => e = .returned (.agg (extR q1)) ∧ Rq W0 a len cap zs p s12 w' ∧ Kp p w w' := fun w P => by
    have := ext_st W0 a len cap zs p s11 w P
    rw [h11] at this
    exact this
  obtain ⟨⟨q2, s13⟩, h12⟩ : ∃ q, runK [4, 2, 1, 1] zs s12 = q := ⟨_, rfl⟩
  have K12 : ∀ w, Rq W0 a len cap zs p s12 w → Calls Tryd.prog 90 #[.pointer (some ⟨p, 0, none⟩)] w fun e w' => e = .returned (.agg (extR q2)) ∧ Rq W0 a len cap zs p s13 w' ∧ Kp p w w' := fun w P => by
    have := ext_st W0 a len cap zs p s12 w P
    rw [h12] at this
    exact this
  have l1 : q1.length = 4 := by have := runK_len [4, 2, 1, 1] zs s11; rw [h11] at this; exact this
  have l2 : q2.length = 4 := by have := runK_len [4, 2, 1, 1] zs s12; rw [h12] at this; exact this
  have hrun : runK itK zs s = ([g0, g1, g2, g3, g4, g5, g6, g7, g8, g9, g10] ++ q1 ++ q2, s13) := by
    have e : itK = [3, 1, 1, 4, 1, 1, 1, 1, 2, 4, 2] ++ ([4, 2, 1, 1] ++ [4, 2, 1, 1]) := rfl
    have e1 : runK [3, 1, 1, 4, 1, 1, 1, 1, 2, 4, 2] zs s = ([g0, g1, g2, g3, g4, g5, g6, g7, g8, g9, g10], s11) := by simp only [runK, h0, h1, h2, h3, h4, h5, h6, h7, h8, h9, h10]
    rw [e, runK_app, e1]
    simp only
    rw [runK_app, h11]
    simp only
    rw [h12]
    simp
  rw [hrun]
  have hcells : (itc (smI (itOf ([g0, g1, g2, g3, g4, g5, g6, g7, g8, g9, g10] ++ q1 ++ q2)))).toArray = #[.string g0.text, .int .i64 g1.num, .int .i64 (sm g2.num), .bool g3.is, .int .i64 (sm g4.num), .int .i64 g5.num, .int .i64 g6.num, .int .i64 (sm g7.num), .int .i64 g8.num, .bool g9.is, .int .i64 g10.num, .bool (q1.getD 0 fzz).is, .int .i64 (q1.getD 1 fzz).num, .int .i64 (sm (q1.getD 2 fzz).num), .int .i64 (q1.getD 3 fzz).num, .bool (q2.getD 0 fzz).is, .int .i64 (q2.getD 1 fzz).num, .int .i64 (sm (q2.getD 2 fzz).num), .int .i64 (q2.getD 3 fzz).num] := by
    obtain ⟨x0, x1, x2, x3, rfl⟩ : ∃ x0 x1 x2 x3, q1 = [x0, x1, x2, x3] := by
      match q1, l1 with
      | [x0, x1, x2, x3], _ => exact ⟨_, _, _, _, rfl⟩
    obtain ⟨y0, y1, y2, y3, rfl⟩ : ∃ x0 x1 x2 x3, q2 = [x0, x1, x2, x3] := by
      match q2, l2 with
      | [x0, x1, x2, x3], _ => exact ⟨_, _, _, _, rfl⟩
    rfl
  obtain ⟨y, hy⟩ : ∃ y, smI (itOf ([g0, g1, g2, g3, g4, g5, g6, g7, g8, g9, g10] ++ q1 ++ q2)) = y := ⟨_, rfl⟩
  rw [hy] at hcells ⊢
  have HC : Hid ((itc y).toArray = #[.string g0.text, .int .i64 g1.num, .int .i64 (sm g2.num), .bool g3.is, .int .i64 (sm g4.num), .int .i64 g5.num, .int .i64 g6.num, .int .i64 (sm g7.num), .int .i64 g8.num, .bool g9.is, .int .i64 g10.num, .bool (q1.getD 0 fzz).is, .int .i64 (q1.getD 1 fzz).num, .int .i64 (sm (q1.getD 2 fzz).num), .int .i64 (q1.getD 3 fzz).num, .bool (q2.getD 0 fzz).is, .int .i64 (q2.getD 1 fzz).num, .int .i64 (sm (q2.getD 2 fzz).num), .int .i64 (q2.getD 3 fzz).num]) := hcells
  clear hrun hcells hy l1 l2 h0 h1 h2 h3 h4 h5 h6 h7 h8 h9 h10 h11 h12
  have hpw := P.lt
  go_enter Tryd.func71, Tryd.ntmps71
  go_wp2_with (first
    | ((with_reducible show wpList _ _ _ (Oper.mk _ (Op.store 38 _ _) _ _ _ _ :: _) _ _); refine wpList_store_row rfl 38 _ _ rfl (w.heap.size + 1) #[.string ⟨#[]⟩, .int .i64 0, .int .i64 0, .bool false, .int .i64 0, .int .i64 0, .int .i64 0, .int .i64 0, .int .i64 0, .bool false, .int .i64 0, .bool false, .int .i64 0, .int .i64 0, .int .i64 0, .bool false, .int .i64 0, .int .i64 0, .int .i64 0] rfl rfl 38 _ (alloc2_new _ _ _) (by kernel_rfl) rfl (by simp [Value.oneCell']) ?_)
    | (go_at_call 87; refine (K0 _ (((P.alloc _).alloc _).setRow (by omega) _)).mono ?_; rintro e w1 ⟨rfl, P1, k1⟩; have G1 : w1.heap[w.heap.size + 1]? = some (.cells #[.string ⟨#[]⟩, .int .i64 0, .int .i64 0, .bool false, .int .i64 0, .int .i64 0, .int .i64 0, .int .i64 0, .int .i64 0, .bool false, .int .i64 0, .bool false, .int .i64 0, .int .i64 0, .int .i64 0, .bool false, .int .i64 0, .int .i64 0, .int .i64 0] 38 (0, 0)) := (k1.block (w.heap.size + 1) (by simp) (by simp; omega)).trans (setRow_heap _ _ _ _ _ _ (alloc2_new _ _ _)); have X1 := (k1.block w.heap.size (by simp; omega) (by simp; omega)).trans ((setRow_other _ _ _ _ (by omega)).trans ((Below.heap_alloc _ _ _ (by simp)).trans (World.alloc_heap_new _ _))); have B1 : Kp p w w1 := (Kp.setRow (((Kp.refl _ _).alloc _).alloc _) (by omega) _).trans k1; have z1 := row_lt G1; have c1 : w1.cell? ⟨w.heap.size + 1, 0, none⟩ = some (.string ⟨#[]⟩) := (by rw [cell_of_row _ _ _ _ 38 _ G1]; rfl); have f1 := row_free G1 0)
    | (go_at_call 70; refine (K1 _ (P1.setNew (g := w.heap.size + 1) (by omega) 0 _)).mono ?_; rintro e w2 ⟨rfl, P2, k2⟩; have G2 : w2.heap[w.heap.size + 1]? = some (.cells #[.string g0.text, .int .i64 0, .int .i64 0, .bool false, .int .i64 0, .int .i64 0, .int .i64 0, .int .i64 0, .int .i64 0, .bool false, .int .i64 0, .bool false, .int .i64 0, .int .i64 0, .int .i64 0, .bool false, .int .i64 0, .int .i64 0, .int .i64 0] 38 (0, 0)) := (k2.block (w.heap.size + 1) (by simp; exact z1) (by simp; omega)).trans (setCell_row (o := 0) G1 _); have X2 := (k2.block w.heap.size (by simp; omega) (by simp; omega)).trans ((Below.heap_setCell _ _ _ _ (by show w.heap.size ≠ w.heap.size + 1; omega)).trans X1); have B2 : Kp p w w2 := (Kp.setNew B1 (by omega) _ _).trans k2; have z2 := row_lt G2; have c2 : w2.cell? ⟨w.heap.size + 1, 1, none⟩ = some (.int .i64 0) := (by rw [cell_of_row _ _ _ _ 38 _ G2]; rfl); have f2 := row_free G2 1)
    | (go_at_call 69; refine (K2 _ (P2.setNew (g := w.heap.size + 1) (by omega) 1 _)).mono ?_; rintro e w3 ⟨rfl, P3, k3⟩; have G3 : w3.heap[w.heap.size + 1]? = some (.cells #[.string g0.text, .int .i64 g1.num, .int .i64 0, .bool false, .int .i64 0, .int .i64 0, .int .i64 0, .int .i64 0, .int .i64 0, .bool false, .int .i64 0, .bool false, .int .i64 0, .int .i64 0, .int .i64 0, .bool false, .int .i64 0, .int .i64 0, .int .i64 0] 38 (0, 0)) := (k3.block (w.heap.size + 1) (by simp; exact z2) (by simp; omega)).trans (setCell_row (o := 1) G2 _); have X3 := (k3.block w.heap.size (by simp; omega) (by simp; omega)).trans ((Below.heap_setCell _ _ _ _ (by show w.heap.size ≠ w.heap.size + 1; omega)).trans X2); have B3 : Kp p w w3 := (Kp.setNew B2 (by omega) _ _).trans k3; have z3 := row_lt G3; have c3 : w3.cell? ⟨w.heap.size + 1, 2, none⟩ = some (.int .i64 0) := (by rw [cell_of_row _ _ _ _ 38 _ G3]; rfl); have f3 := row_free G3 2)
    | (go_at_call 88; refine (K3 _ (P3.setNew (g := w.heap.size + 1) (by omega) 2 _)).mono ?_; rintro e w4 ⟨rfl, P4, k4⟩; have G4 : w4.heap[w.heap.size + 1]? = some (.cells #[.string g0.text, .int .i64 g1.num, .int .i64 (sm g2.num), .bool false, .int .i64 0, .int .i64 0, .int .i64 0, .int .i64 0, .int .i64 0, .bool false, .int .i64 0, .bool false, .int .i64 0, .int .i64 0, .int .i64 0, .bool false, .int .i64 0, .int .i64 0, .int .i64 0] 38 (0, 0)) := (k4.block (w.heap.size + 1) (by simp; exact z3) (by simp; omega)).trans (setCell_row (o := 2) G3 _); have X4 := (k4.block w.heap.size (by simp; omega) (by simp; omega)).trans ((Below.heap_setCell _ _ _ _ (by show w.heap.size ≠ w.heap.size + 1; omega)).trans X3); have B4 : Kp p w w4 := (Kp.setNew B3 (by omega) _ _).trans k4; have z4 := row_lt G4; have c4 : w4.cell? ⟨w.heap.size + 1, 3, none⟩ = some (.bool false) := (by rw [cell_of_row _ _ _ _ 38 _ G4]; rfl); have f4 := row_free G4 3)
    | (go_at_call 69; refine (K4 _ (P4.setNew (g := w.heap.size + 1) (by omega) 3 _)).mono ?_; rintro e w5 ⟨rfl, P5, k5⟩; have G5 : w5.heap[w.heap.size + 1]? = some (.cells #[.string g0.text, .int .i64 g1.num, .int .i64 (sm g2.num), .bool g3.is, .int .i64 0, .int .i64 0, .int .i64 0, .int .i64 0, .int .i64 0, .bool false, .int .i64 0, .bool false, .int .i64 0, .int .i64 0, .int .i64 0, .bool false, .int .i64 0, .int .i64 0, .int .i64 0] 38 (0, 0)) := (k5.block (w.heap.size + 1) (by simp; exact z4) (by simp; omega)).trans (setCell_row (o := 3) G4 _); have X5 := (k5.block w.heap.size (by simp; omega) (by simp; omega)).trans ((Below.heap_setCell _ _ _ _ (by show w.heap.size ≠ w.heap.size + 1; omega)).trans X4); have B5 : Kp p w w5 := (Kp.setNew B4 (by omega) _ _).trans k5; have z5 := row_lt G5; have c5 : w5.cell? ⟨w.heap.size + 1, 4, none⟩ = some (.int .i64 0) := (by rw [cell_of_row _ _ _ _ 38 _ G5]; rfl); have f5 := row_free G5 4)
    | (go_at_call 70; refine (K5 _ (P5.setNew (g := w.heap.size + 1) (by omega) 4 _)).mono ?_; rintro e w6 ⟨rfl, P6, k6⟩; have G6 : w6.heap[w.heap.size + 1]? = some (.cells #[.string g0.text, .int .i64 g1.num, .int .i64 (sm g2.num), .bool g3.is, .int .i64 (sm g4.num), .int .i64 0, .int .i64 0, .int .i64 0, .int .i64 0, .bool false, .int .i64 0, .bool false, .int .i64 0, .int .i64 0, .int .i64 0, .bool false, .int .i64 0, .int .i64 0, .int .i64 0] 38 (0, 0)) := (k6.block (w.heap.size + 1) (by simp; exact z5) (by simp; omega)).trans (setCell_row (o := 4) G5 _); have X6 := (k6.block w.heap.size (by simp; omega) (by simp; omega)).trans ((Below.heap_setCell _ _ _ _ (by show w.heap.size ≠ w.heap.size + 1; omega)).trans X5); have B6 : Kp p w w6 := (Kp.setNew B5 (by omega) _ _).trans k6; have z6 := row_lt G6; have c6 : w6.cell? ⟨w.heap.size + 1, 5, none⟩ = some (.int .i64 0) := (by rw [cell_of_row _ _ _ _ 38 _ G6]; rfl); have f6 := row_free G6 5)
    | (go_at_call 70; refine (K6 _ (P6.setNew (g := w.heap.size + 1) (by omega) 5 _)).mono ?_; rintro e w7 ⟨rfl, P7, k7⟩; have G7 : w7.heap[w.heap.size + 1]? = some (.cells #[.string g0.text, .int .i64 g1.num, .int .i64 (sm g2.num), .bool g3.is, .int .i64 (sm g4.num), .int .i64 g5.num, .int .i64 0, .int .i64 0, .int .i64 0, .bool false, .int .i64 0, .bool false, .int .i64 0, .int .i64 0, .int .i64 0, .bool false, .int .i64 0, .int .i64 0, .int .i64 0] 38 (0, 0)) := (k7.block (w.heap.size + 1) (by simp; exact z6) (by simp; omega)).trans (setCell_row (o := 5) G6 _); have X7 := (k7.block w.heap.size (by simp; omega) (by simp; omega)).trans ((Below.heap_setCell _ _ _ _ (by show w.heap.size ≠ w.heap.size + 1; omega)).trans X6); have B7 : Kp p w w7 := (Kp.setNew B6 (by omega) _ _).trans k7; have z7 := row_lt G7; have c7 : w7.cell? ⟨w.heap.size + 1, 6, none⟩ = some (.int .i64 0) := (by rw [cell_of_row _ _ _ _ 38 _ G7]; rfl); have f7 := row_free G7 6)
    | (go_at_call 69; refine (K7 _ (P7.setNew (g := w.heap.size + 1) (by omega) 6 _)).mono ?_; rintro e w8 ⟨rfl, P8, k8⟩; have G8 : w8.heap[w.heap.size + 1]? = some (.cells #[.string g0.text, .int .i64 g1.num, .int .i64 (sm g2.num), .bool g3.is, .int .i64 (sm g4.num), .int .i64 g5.num, .int .i64 g6.num, .int .i64 0, .int .i64 0, .bool false, .int .i64 0, .bool false, .int .i64 0, .int .i64 0, .int .i64 0, .bool false, .int .i64 0, .int .i64 0, .int .i64 0] 38 (0, 0)) := (k8.block (w.heap.size + 1) (by simp; exact z7) (by simp; omega)).trans (setCell_row (o := 6) G7 _); have X8 := (k8.block w.heap.size (by simp; omega) (by simp; omega)).trans ((Below.heap_setCell _ _ _ _ (by show w.heap.size ≠ w.heap.size + 1; omega)).trans X7); have B8 : Kp p w w8 := (Kp.setNew B7 (by omega) _ _).trans k8; have z8 := row_lt G8; have c8 : w8.cell? ⟨w.heap.size + 1, 7, none⟩ = some (.int .i64 0) := (by rw [cell_of_row _ _ _ _ 38 _ G8]; rfl); have f8 := row_free G8 7)
    | (go_at_call 89; refine (K8 _ (P8.setNew (g := w.heap.size + 1) (by omega) 7 _)).mono ?_; rintro e w9 ⟨rfl, P9, k9⟩; have G9 : w9.heap[w.heap.size + 1]? = some (.cells #[.string g0.text, .int .i64 g1.num, .int .i64 (sm g2.num), .bool g3.is, .int .i64 (sm g4.num), .int .i64 g5.num, .int .i64 g6.num, .int .i64 (sm g7.num), .int .i64 0, .bool false, .int .i64 0, .bool false, .int .i64 0, .int .i64 0, .int .i64 0, .bool false, .int .i64 0, .int .i64 0, .int .i64 0] 38 (0, 0)) := (k9.block (w.heap.size + 1) (by simp; exact z8) (by simp; omega)).trans (setCell_row (o := 7) G8 _); have X9 := (k9.block w.heap.size (by simp; omega) (by simp; omega)).trans ((Below.heap_setCell _ _ _ _ (by show w.heap.size ≠ w.heap.size + 1; omega)).trans X8); have B9 : Kp p w w9 := (Kp.setNew B8 (by omega) _ _).trans k9; have z9 := row_lt G9; have c9 : w9.cell? ⟨w.heap.size + 1, 8, none⟩ = some (.int .i64 0) := (by rw [cell_of_row _ _ _ _ 38 _ G9]; rfl); have f9 := row_free G9 8)
    | (go_at_call 88; refine (K9 _ (P9.setNew (g := w.heap.size + 1) (by omega) 8 _)).mono ?_; rintro e w10 ⟨rfl, P10, k10⟩; have G10 : w10.heap[w.heap.size + 1]? = some (.cells #[.string g0.text, .int .i64 g1.num, .int .i64 (sm g2.num), .bool g3.is, .int .i64 (sm g4.num), .int .i64 g5.num, .int .i64 g6.num, .int .i64 (sm g7.num), .int .i64 g8.num, .bool false, .int .i64 0, .bool false, .int .i64 0, .int .i64 0, .int .i64 0, .bool false, .int .i64 0, .int .i64 0, .int .i64 0] 38 (0, 0)) := (k10.block (w.heap.size + 1) (by simp; exact z9) (by simp; omega)).trans (setCell_row (o := 8) G9 _); have X10 := (k10.block w.heap.size (by simp; omega) (by simp; omega)).trans ((Below.heap_setCell _ _ _ _ (by show w.heap.size ≠ w.heap.size + 1; omega)).trans X9); have B10 : Kp p w w10 := (Kp.setNew B9 (by omega) _ _).trans k10; have z10 := row_lt G10; have c10 : w10.cell? ⟨w.heap.size + 1, 9, none⟩ = some (.bool false) := (by rw [cell_of_row _ _ _ _ 38 _ G10]; rfl); have f10 := row_free G10 9)
    | (go_at_call 89; refine (K10 _ (P10.setNew (g := w.heap.size + 1) (by omega) 9 _)).mono ?_; rintro e w11 ⟨rfl, P11, k11⟩; have G11 : w11.heap[w.heap.size + 1]? = some (.cells #[.string g0.text, .int .i64 g1.num, .int .i64 (sm g2.num), .bool g3.is, .int .i64 (sm g4.num), .int .i64 g5.num, .int .i64 g6.num, .int .i64 (sm g7.num), .int .i64 g8.num, .bool g9.is, .int .i64 0, .bool false, .int .i64 0, .int .i64 0, .int .i64 0, .bool false, .int .i64 0, .int .i64 0, .int .i64 0] 38 (0, 0)) := (k11.block (w.heap.size + 1) (by simp; exact z10) (by simp; omega)).trans (setCell_row (o := 9) G10 _); have X11 := (k11.block w.heap.size (by simp; omega) (by simp; omega)).trans ((Below.heap_setCell _ _ _ _ (by show w.heap.size ≠ w.heap.size + 1; omega)).trans X10); have B11 : Kp p w w11 := (Kp.setNew B10 (by omega) _ _).trans k11; have z11 := row_lt G11; have c11 : w11.cell? ⟨w.heap.size + 1, 10, none⟩ = some (.int .i64 0) := (by rw [cell_of_row _ _ _ _ 38 _ G11]; rfl); have f11 := row_free G11 10)
    | (go_at_call 90; refine (K11 _ (P11.setNew (g := w.heap.size + 1) (by omega) 10 _)).mono ?_; rintro e w12 ⟨rfl, P12, k12⟩; have G12 : w12.heap[w.heap.size + 1]? = some (.cells #[.string g0.text, .int .i64 g1.num, .int .i64 (sm g2.num), .bool g3.is, .int .i64 (sm g4.num), .int .i64 g5.num, .int .i64 g6.num, .int .i64 (sm g7.num), .int .i64 g8.num, .bool g9.is, .int .i64 g10.num, .bool false, .int .i64 0, .int .i64 0, .int .i64 0, .bool false, .int .i64 0, .int .i64 0, .int .i64 0] 38 (0, 0)) := (k12.block (w.heap.size + 1) (by simp; exact z11) (by simp; omega)).trans (setCell_row (o := 10) G11 _); have X12 := (k12.block w.heap.size (by simp; omega) (by simp; omega)).trans ((Below.heap_setCell _ _ _ _ (by show w.heap.size ≠ w.heap.size + 1; omega)).trans X11); have B12 : Kp p w w12 := (Kp.setNew B11 (by omega) _ _).trans k12; have z12 := row_lt G12)
    | (go_at_call 90; refine (K12 _ (P12.setRow (by omega) _)).mono ?_; rintro e w13 ⟨rfl, P13, k13⟩; have G13 : w13.heap[w.heap.size + 1]? = some (.cells #[.string g0.text, .int .i64 g1.num, .int .i64 (sm g2.num), .bool g3.is, .int .i64 (sm g4.num), .int .i64 g5.num, .int .i64 g6.num, .int .i64 (sm g7.num), .int .i64 g8.num, .bool g9.is, .int .i64 g10.num, .bool (q1.getD 0 fzz).is, .int .i64 (q1.getD 1 fzz).num, .int .i64 (sm (q1.getD 2 fzz).num), .int .i64 (q1.getD 3 fzz).num, .bool false, .int .i64 0, .int .i64 0, .int .i64 0] 38 (0, 0)) := (k13.block (w.heap.size + 1) (by simp; exact z12) (by simp; omega)).trans (setRow_heap _ _ _ _ _ _ G12); have X13 := (k13.block w.heap.size (by simp; omega) (by simp; omega)).trans ((setRow_other _ _ _ _ (by omega)).trans X12); have B13 : Kp p w w13 := (Kp.setRow B12 (by omega) _).trans k13; have z13 := row_lt G13)
    | ((with_reducible show wpList _ _ _ (Oper.mk _ (Op.store 36 _ _) _ _ _ _ :: _) _ _); refine wpList_store_four rfl _ _ rfl (w.heap.size + 1) 11 _ _ _ _ rfl rfl 38 _ G12 (by show 14 < 19; omega) rfl rfl rfl rfl (by kernel_rfl) ?_; change wpList _ _ _ _ _ (World.setRow w12 (w.heap.size + 1) #[.string g0.text, .int .i64 g1.num, .int .i64 (sm g2.num), .bool g3.is, .int .i64 (sm g4.num), .int .i64 g5.num, .int .i64 g6.num, .int .i64 (sm g7.num), .int .i64 g8.num, .bool g9.is, .int .i64 g10.num, .bool (q1.getD 0 fzz).is, .int .i64 (q1.getD 1 fzz).num, .int .i64 (sm (q1.getD 2 fzz).num), .int .i64 (q1.getD 3 fzz).num, .bool false, .int .i64 0, .int .i64 0, .int .i64 0]))
    | ((with_reducible show wpList _ _ _ (Oper.mk _ (Op.store 36 _ _) _ _ _ _ :: _) _ _); refine wpList_store_four rfl _ _ rfl (w.heap.size + 1) 15 _ _ _ _ rfl rfl 38 _ G13 (by show 18 < 19; omega) rfl rfl rfl rfl (by kernel_rfl) ?_; change wpList _ _ _ _ _ (World.setRow w13 (w.heap.size + 1) #[.string g0.text, .int .i64 g1.num, .int .i64 (sm g2.num), .bool g3.is, .int .i64 (sm g4.num), .int .i64 g5.num, .int .i64 g6.num, .int .i64 (sm g7.num), .int .i64 g8.num, .bool g9.is, .int .i64 g10.num, .bool (q1.getD 0 fzz).is, .int .i64 (q1.getD 1 fzz).num, .int .i64 (sm (q1.getD 2 fzz).num), .int .i64 (q1.getD 3 fzz).num, .bool (q2.getD 0 fzz).is, .int .i64 (q2.getD 1 fzz).num, .int .i64 (sm (q2.getD 2 fzz).num), .int .i64 (q2.getD 3 fzz).num]); have EZ := setRow_heap w13 (w.heap.size + 1) _ #[.string g0.text, .int .i64 g1.num, .int .i64 (sm g2.num), .bool g3.is, .int .i64 (sm g4.num), .int .i64 g5.num, .int .i64 g6.num, .int .i64 (sm g7.num), .int .i64 g8.num, .bool g9.is, .int .i64 g10.num, .bool (q1.getD 0 fzz).is, .int .i64 (q1.getD 1 fzz).num, .int .i64 (sm (q1.getD 2 fzz).num), .int .i64 (q1.getD 3 fzz).num, .bool (q2.getD 0 fzz).is, .int .i64 (q2.getD 1 fzz).num, .int .i64 (sm (q2.getD 2 fzz).num), .int .i64 (q2.getD 3 fzz).num] 38 _ G13; replace EZ : (World.setRow w13 (w.heap.size + 1) #[.string g0.text, .int .i64 g1.num, .int .i64 (sm g2.num), .bool g3.is, .int .i64 (sm g4.num), .int .i64 g5.num, .int .i64 g6.num, .int .i64 (sm g7.num), .int .i64 g8.num, .bool g9.is, .int .i64 g10.num, .bool (q1.getD 0 fzz).is, .int .i64 (q1.getD 1 fzz).num, .int .i64 (sm (q1.getD 2 fzz).num), .int .i64 (q1.getD 3 fzz).num, .bool (q2.getD 0 fzz).is, .int .i64 (q2.getD 1 fzz).num, .int .i64 (sm (q2.getD 2 fzz).num), .int .i64 (q2.getD 3 fzz).num]).heap[w.heap.size + 1]? = some (.cells (itc y).toArray 38 (0, 0)) := EZ.trans (congrArg (fun c => some (Obj.cells c 38 (0, 0))) HC.out.symm); have XZ := (setRow_other w13 (w.heap.size + 1) w.heap.size #[.string g0.text, .int .i64 g1.num, .int .i64 (sm g2.num), .bool g3.is, .int .i64 (sm g4.num), .int .i64 g5.num, .int .i64 g6.num, .int .i64 (sm g7.num), .int .i64 g8.num, .bool g9.is, .int .i64 g10.num, .bool (q1.getD 0 fzz).is, .int .i64 (q1.getD 1 fzz).num, .int .i64 (sm (q1.getD 2 fzz).num), .int .i64 (q1.getD 3 fzz).num, .bool (q2.getD 0 fzz).is, .int .i64 (q2.getD 1 fzz).num, .int .i64 (sm (q2.getD 2 fzz).num), .int .i64 (q2.getD 3 fzz).num] (by omega)).trans X13)
    | ((with_reducible show wpList _ _ _ (Oper.mk _ (Op.load 38 _) _ _ _ _ :: _) _ _); refine wpList_load_row rfl 38 _ rfl (w.heap.size + 1) rfl (itc y).toArray (load_38 EZ) ?_)
    | ((with_reducible show wpList _ _ _ (Oper.mk _ (Op.store 38 _ _) _ _ _ _ :: _) _ _); refine wpList_store_row rfl 38 _ _ rfl w.heap.size (itc y).toArray rfl rfl 38 _ XZ (by kernel_rfl) rfl (by simp [itc, Value.oneCell']) ?_))
  refine bodyPost_ret (results_row1 rfl _ _ w.heap.size _ rfl (load_38 (setRow_heap _ _ _ _ _ _ XZ))) rfl ⟨rfl, (P13.setRow (by omega) _).setRow (by omega) _, ?_⟩
  exact Kp.setRow (Kp.setRow B13 (by omega) _) (Nat.le_refl _) _
end Go.Proofs.YticmjlnpjopfbaaDoor

namespace Go.Proofs.YticmjlnpjopfbaaDoor
open C (Fld fld rdF rd)
set_option linter.unusedVariables false
set_option linter.unusedSimpArgs false

theorem runK_none : ∀ (ks zs : List Int), (runK ks zs none).2 = none
  | [], zs => rfl
  | k :: ks, zs => by simp [runK, stp, runK_none ks zs]
theorem runK_rdF : ∀ (ks zs : List Int) (i : Nat), (∀ fs n, rdF ks zs [] i = .ok (fs, n) → runK ks zs (some i) = (fs, some n)) ∧ (∀ c, rdF ks zs [] i = .error c → (runK ks zs (some i)).2 = none)
  | [], zs, i => ⟨fun fs n h => by cases h; rfl, fun c h => by cases h⟩
  | k :: ks, zs, i => by
    cases hf : fld k (zs.drop i) with
    | error c => exact ⟨fun fs n h => by simp [rdF, hf] at h, fun c h => by simp [runK, stp, hf, runK_none]⟩
    | ok q =>
      obtain ⟨f, n⟩ := q
      refine ⟨fun fs m h => ?_, fun c h => ?_⟩
      · simp only [rdF, hf, List.nil_append] at h
        rw [rdF_acc] at h
        cases hr : rdF ks zs [] (i + n) with
        | error c => rw [hr] at h; cases h
        | ok q =>
          obtain ⟨gs, m'⟩ := q
          rw [hr] at h
          cases h
          have := (runK_rdF ks zs (i + n)).1 gs _ hr
          simp [runK, stp, hf, this]
      · simp only [rdF, hf, List.nil_append] at h
        rw [rdF_acc] at h
        cases hr : rdF ks zs [] (i + n) with
        | error c =>
          have := (runK_rdF ks zs (i + n)).2 c hr
          simp [runK, stp, hf, this]
        | ok q => rw [hr] at h; cases h
theorem rdF_step {zs : List Int} (hb : ∀ c ∈ zs, 0 ≤ c ∧ c < 256) (hl : zs.length ≤ 1000000) : ∀ (ks : List Int) (acc fs : List Fld) (i n : Nat), rdF ks zs acc i = .ok (fs, n) → i + ks.length ≤ n
  | [], acc, fs, i, n, h => by cases h; simp
  | k :: ks, acc, fs, i, n, h => by
    cases hf : fld k (zs.drop i) with
    | error c => simp [rdF, hf] at h
    | ok q =>
      obtain ⟨f, m⟩ := q
      simp only [rdF, hf] at h
      have h1 := rdF_step hb hl ks _ _ _ _ h
      obtain ⟨h2, _, _⟩ := fld_one (fun c hc => hb c (List.mem_of_mem_drop hc)) (by rw [List.length_drop]; omega) hf
      simp only [List.length_cons]
      omega
theorem rdF_nums {zs : List Int} (hb : ∀ c ∈ zs, 0 ≤ c ∧ c < 256) (hl : zs.length ≤ 1000000) (ks : List Int) (s : Option Nat) : ∀ f ∈ (runK ks zs s).1, -9223372036854775808 ≤ f.num ∧ f.num ≤ 9223372036854775807 := by
  induction ks generalizing s with
  | nil => intro f hf; simp [runK] at hf
  | cons k ks ih =>
    intro f hf
    simp only [runK, List.mem_cons] at hf
    rcases hf with rfl | hf
    · cases s with
      | none => simp [stp, fzz]
      | some i =>
        simp only [stp]
        cases hf : fld k (zs.drop i) with
        | error c => simp [fzz]
        | ok q =>
          obtain ⟨f, m⟩ := q
          exact (fld_one (fun c hc => hb c (List.mem_of_mem_drop hc)) (by rw [List.length_drop]; omega) hf).2.2
    · exact ih _ f hf
/-- The head could not be read. -/
theorem open_none {zs : List Int} {fs : List Fld} (h : runK hdK zs (some 0) = (fs, none)) : openP zs = .error 20 := by
  cases hr : rdF hdK zs [] 0 with
  | error c => unfold openP openR rd; rw [hr]
  | ok q =>
    obtain ⟨gs, n⟩ := q
    have := (runK_rdF hdK zs 0).1 gs n hr
    rw [h] at this
    cases this
theorem head_some {zs : List Int} {fs : List Fld} {n : Nat} (h : runK hdK zs (some 0) = (fs, some n)) : rd hdK zs = .ok (fs, n) := by
  unfold rd
  cases hr : rdF hdK zs [] 0 with
  | error c => have := (runK_rdF hdK zs 0).2 c hr; rw [h] at this; cases this
  | ok q =>
    obtain ⟨gs, m⟩ := q
    have := (runK_rdF hdK zs 0).1 gs m hr
    rw [h] at this
    cases this
    rfl
/-- So far items were read; one more. -/
structure ItSt (zs : List Int) (fs : List Fld) (n0 : Nat) (l : List Itm) (i : Nat) : Prop where
  head : rd hdK zs = .ok (fs, n0)
  le : l.length ≤ (fs.getD 7 fzz).num.toNat
  at_ : l.length ≤ i
  same : rdIts (fs.getD 7 fzz).num.toNat zs [] n0 = rdIts ((fs.getD 7 fzz).num.toNat - l.length) zs l i
theorem ItSt.next {zs : List Int} {fs : List Fld} {n0 : Nat} {l : List Itm} {i : Nat} (hb : ∀ c ∈ zs, 0 ≤ c ∧ c < 256) (hl : zs.length ≤ 1000000) (h : ItSt zs fs n0 l i) (hlt : l.length < (fs.getD 7 fzz).num.toNat) {gs : List Fld} {n : Nat} (hr : runK itK zs (some i) = (gs, some n)) : ItSt zs fs n0 (l ++ [itOf gs]) n := by
  have hrd : rdF itK zs [] i = .ok (gs, n) := by
    cases h' : rdF itK zs [] i with
    | error c => have := (runK_rdF itK zs i).2 c h'; rw [hr] at this; cases this
    | ok q =>
      obtain ⟨gs', m⟩ := q
      have := (runK_rdF itK zs i).1 gs' m h'
      rw [hr] at this
      cases this
      rfl
  have hs := rdF_step hb hl itK [] gs i n hrd
  have h1 := h.at_
  have e : itK.length = 19 := rfl
  refine ⟨h.head, by rw [List.length_append, List.length_cons, List.length_nil]; omega, by rw [List.length_append, List.length_cons, List.length_nil]; omega, ?_⟩
  rw [h.same, List.length_append, List.length_cons, List.length_nil]
  obtain ⟨m, hm⟩ : ∃ m, (fs.getD 7 fzz).num.toNat - l.length = m + 1 := ⟨(fs.getD 7 fzz).num.toNat - l.length - 1, by omega⟩
  rw [hm, show (fs.getD 7 fzz).num.toNat - (l.length + (0 + 1)) = m by omega]
  simp only [rdIts, hrd]
theorem ItSt.fail {zs : List Int} {fs : List Fld} {n0 : Nat} {l : List Itm} {i : Nat} (h : ItSt zs fs n0 l i) (hlt : l.length < (fs.getD 7 fzz).num.toNat) (hr : (runK itK zs (some i)).2 = none) : openP zs = .error 20 := by
  have hrd : ∃ c, rdF itK zs [] i = .error c := by
    cases h' : rdF itK zs [] i with
    | error c => exact ⟨c, rfl⟩
    | ok q =>
      obtain ⟨gs', m⟩ := q
      have := (runK_rdF itK zs i).1 gs' m h'
      rw [this] at hr
      cases hr
  obtain ⟨c, hrd⟩ := hrd
  obtain ⟨m, hm⟩ : ∃ m, (fs.getD 7 fzz).num.toNat - l.length = m + 1 := ⟨(fs.getD 7 fzz).num.toNat - l.length - 1, by omega⟩
  have hs := h.same
  rw [hm] at hs
  simp only [rdIts, hrd] at hs
  unfold openP openR
  rw [h.head]
  simp only
  rw [hs]
theorem ItSt.last {zs : List Int} {fs : List Fld} {n0 : Nat} {l : List Itm} {i : Nat} (h : ItSt zs fs n0 l i) (hlt : ¬ l.length < (fs.getD 7 fzz).num.toNat) : openR zs = .ok (hdOf fs l, i) := by
  have hs := h.same
  rw [show (fs.getD 7 fzz).num.toNat - l.length = 0 by omega] at hs
  unfold openR
  rw [h.head]
  simp only
  rw [hs]
  rfl
theorem ItSt.start {zs : List Int} {fs : List Fld} {n0 : Nat} (h : rd hdK zs = .ok (fs, n0)) : ItSt zs fs n0 [] n0 :=
  ⟨h, by simp, by simp, by simp⟩
end Go.Proofs.YticmjlnpjopfbaaDoor

namespace Go.Proofs.YticmjlnpjopfbaaDoor
open Go.ChangeShapes Go.WideShapes Go.ChangeAt Go.RowKit
open C (Fld fld rdF rd Rp Kp Rout)
set_option linter.unusedVariables false
set_option linter.unusedSimpArgs false

theorem below_setRow {n g : Nat} {a b : World} (h : Below n a b) (hg : n ≤ g) (c : Array Value) : Below n a (b.setRow g c) := ⟨h.os, h.tape, h.output, by rw [size_setRow]; exact h.size, fun q hq => (setRow_other _ _ _ _ (by omega)).trans (h.block q hq)⟩
/-- What holds while items are read: the reader, the packet, its items; what is below is left. -/
theorem load_24 {w : World} {g : Nat} {p : Pkt} {a : Option Addr} {n cap : Nat} (h : PkB w g p a n cap) : (loadVar 24 ⟨g, 0, none⟩).run Tryd.prog w = .ok (pkv p a n cap) w :=
  run_loadVar_row (P := Tryd.prog) w g 24 24 _ (0, 0) _ h Tryd.underlying24 rfl (by show _ = some 8; kernel_rfl)
theorem own_addr {W : World} {base : Nat} {a : Option Addr} {k cap : Nat} {xs : List Value} (h : W.ownsRow base 38 19 (.slice a k cap) k xs) : a = none ∨ ∃ g, a = some ⟨g, 0, none⟩ ∧ base ≤ g := by
  rcases h.2 with ⟨h0, _⟩ | ⟨g, cp, cur, hv, hg, _⟩
  · cases h0; exact .inl rfl
  · cases hv; exact .inr ⟨g, rfl, hg⟩
theorem rowI_own {W : World} {base : Nat} {a : Option Addr} {k cap : Nat} {its : List Itm} (hl : its.length = k) (h : W.ownsRow base 38 19 (.slice a k cap) k (its.flatMap itc)) : RowI W a k cap its := by
  subst hl
  by_cases hn : its = []
  · subst hn
    rcases h.2 with ⟨h0, _⟩ | ⟨g, cp, cur, hv, _, _, hc, hm, _⟩
    · cases h0; exact rowI_nil W
    · cases hv
      exact ⟨rfl, hc, hm, (fun h => (by cases h)), .inl rfl⟩
  · obtain ⟨g, cp, hv, _, IR⟩ := itRow_owns h hn
    cases hv
    exact IR.row
theorem own_kp {w w' : World} {base n : Nat} {e : TypeId} {sz : Nat} {v : Value} {xs : List Value} (h : w.ownsRow base e sz v n xs) (hb : ∀ g, v.ownBlock = some g → w'.heap[g]? = w.heap[g]?) : w'.ownsRow base e sz v n xs := by
  refine ⟨h.1, ?_⟩
  rcases h.2 with hn | ⟨g, cap, cur, rfl, hg, hh, r⟩
  · exact .inl hn
  · exact .inr ⟨g, cap, cur, rfl, hg, (hb g rfl).trans hh, r⟩
structure RdL (w : World) (a : Option Addr) (len cap : Nat) (zs : List Int) (e : Nat) (hd : Pkt) (fs : List Fld) (n0 : Nat) (k : Nat) (s : Option Nat) (W : World) : Prop where
  rq : Rq w a len cap zs (w.heap.size + 1) s W
  res : W.heap[w.heap.size]? = some (.cells zPk8 24 (0, 0))
  low : w.heap.size + 1 < e
  pk : ∃ its a' cap', its.length = k ∧ PkB W e hd a' k cap' ∧ W.ownsRow (e + 1) 38 19 (.slice a' k cap') k (its.flatMap itc) ∧ (∀ i, s = some i → ∃ l, its = l.map smI ∧ ItSt zs fs n0 l i)
  bad : s = none → openP zs = .error 20
  below : Below w.heap.size w W
set_option maxRecDepth 100000 in
set_option maxHeartbeats 8000000 in
theorem ropen_any (a : Option Addr) (len cap : Nat) (zs : List Int) (w : World) (R : C.Row .u8 w a len cap zs) (hl : len ≤ 1000000) (hcap : cap ≤ 9223372036854775807) (hby : ∀ c ∈ zs, 0 ≤ c ∧ c < 256) :
    Calls Tryd.prog 49 #[.slice a len cap] w fun e w' => DecOut w.heap.size w' (openP zs) e ∧ Below w.heap.size w w' := by
  have HLz : Hid (zs.length = len) := R.size
  have HLm : Hid (zs.length ≤ 1000000) := by show _ ≤ _; rw [HLz.out]; exact hl
  obtain ⟨⟨g0, s1⟩, h0⟩ : ∃ q, stp 1 zs (some 0) = q := ⟨_, rfl⟩
  have K0 : ∀ W, Rq w a len cap zs (w.heap.size + 1) (some 0) W → Calls Tryd.prog 69 #[.pointer (some ⟨w.heap.size + 1, 0, none⟩)] W fun e w' => e = .returned (.int .i64 (sm g0.num)) ∧ Rq w a len cap zs (w.heap.size + 1) s1 w' ∧ Kp (w.heap.size + 1) W w' := fun W P => by
    have := small_st w a len cap zs (w.heap.size + 1) (some 0) W P
    rw [h0] at this
    exact this
  obtain ⟨⟨g1, s2⟩, h1⟩ : ∃ q, stp 1 zs s1 = q := ⟨_, rfl⟩
  have K1 : ∀ W, Rq w a len cap zs (w.heap.size + 1) s1 W → Calls Tryd.prog 69 #[.pointer (some ⟨w.heap.size + 1, 0, none⟩)] W fun e w' => e = .returned (.int .i64 (sm g1.num)) ∧ Rq w a len cap zs (w.heap.size + 1) s2 w' ∧ Kp (w.heap.size + 1) W w' := fun W P => by
    have := small_st w a len cap zs (w.heap.size + 1) s1 W P
    rw [h1] at this
    exact this
  obtain ⟨⟨g2, s3⟩, h2⟩ : ∃ q, stp 1 zs s2 = q := ⟨_, rfl⟩
  have K2 : ∀ W, Rq w a len cap zs (w.heap.size + 1) s2 W → Calls Tryd.prog 69 #[.pointer (some ⟨w.heap.size + 1, 0, none⟩)] W fun e w' => e = .returned (.int .i64 (sm g2.num)) ∧ Rq w a len cap zs (w.heap.size + 1) s3 w' ∧ Kp (w.heap.size + 1) W w' := fun W P => by
    have := small_st w a len cap zs (w.heap.size + 1) s2 W P
    rw [h2] at this
    exact this
  obtain ⟨⟨g3, s4⟩, h3⟩ : ∃ q, stp 1 zs s3 = q := ⟨_, rfl⟩
  have K3 : ∀ W, Rq w a len cap zs (w.heap.size + 1) s3 W → Calls Tryd.prog 70 #[.pointer (some ⟨w.heap.size + 1, 0, none⟩)] W fun e w' => e = .returned (.int .i64 g3.num) ∧ Rq w a len cap zs (w.heap.size + 1) s4 w' ∧ Kp (w.heap.size + 1) W w' := fun W P => by
    have := whole_st w a len cap zs (w.heap.size + 1) s3 W P
    rw [h3] at this
    exact this
  obtain ⟨⟨g4, s5⟩, h4⟩ : ∃ q, stp 1 zs s4 = q := ⟨_, rfl⟩
  have K4 : ∀ W, Rq w a len cap zs (w.heap.size + 1) s4 W → Calls Tryd.prog 70 #[.pointer (some ⟨w.heap.size + 1, 0, none⟩)] W fun e w' => e = .returned (.int .i64 g4.num) ∧ Rq w a len cap zs (w.heap.size + 1) s5 w' ∧ Kp (w.heap.size + 1) W w' := fun W P => by
    have := whole_st w a len cap zs (w.heap.size + 1) s4 W P
    rw [h4] at this
    exact this
  obtain ⟨⟨g5, s6⟩, h5⟩ : ∃ q, stp 1 zs s5 = q := ⟨_, rfl⟩
  have K5 : ∀ W, Rq w a len cap zs (w.heap.size + 1) s5 W → Calls Tryd.prog 70 #[.pointer (some ⟨w.heap.size + 1, 0, none⟩)] W fun e w' => e = .returned (.int .i64 g5.num) ∧ Rq w a len cap zs (w.heap.size + 1) s6 w' ∧ Kp (w.heap.size + 1) W w' := fun W P => by
    have := whole_st w a len cap zs (w.heap.size + 1) s5 W P
    rw [h5] at this
    exact this
  obtain ⟨⟨g6, s7⟩, h6⟩ : ∃ q, stp 1 zs s6 = q := ⟨_, rfl⟩
  have K6 : ∀ W, Rq w a len cap zs (w.heap.size + 1) s6 W → Calls Tryd.prog 70 #[.pointer (some ⟨w.heap.size + 1, 0, none⟩)] W fun e w' => e = .returned (.int .i64 g6.num) ∧ Rq w a len cap zs (w.heap.size + 1) s7 w' ∧ Kp (w.heap.size + 1) W w' := fun W P => by
    have := whole_st w a len cap zs (w.heap.size + 1) s6 W P
    rw [h6] at this
    exact this
  obtain ⟨⟨g7, s8⟩, h7⟩ : ∃ q, stp 1 zs s7 = q := ⟨_, rfl⟩
  have K7 : ∀ W, Rq w a len cap zs (w.heap.size + 1) s7 W → Calls Tryd.prog 70 #[.pointer (some ⟨w.heap.size + 1, 0, none⟩)] W fun e w' => e = .returned (.int .i64 g7.num) ∧ Rq w a len cap zs (w.heap.size + 1) s8 w' ∧ Kp (w.heap.size + 1) W w' := fun W P => by
    have := whole_st w a len cap zs (w.heap.size + 1) s7 W P
    rw [h7] at this
    exact this
  have hnm : -9223372036854775808 ≤ g7.num ∧ g7.num ≤ 9223372036854775807 := by
    have e1 : runK hdK zs (some 0) = ([g0, g1, g2, g3, g4, g5, g6, g7], s8) := by simp only [hdK, runK, h0, h1, h2, h3, h4, h5, h6, h7]
    have := rdF_nums hby HLm.out hdK (some 0)
    rw [e1] at this
    exact this g7 (by simp)
  have HRun : Hid (runK hdK zs (some 0) = ([g0, g1, g2, g3, g4, g5, g6, g7], s8)) := by
    show _ = _
    simp only [hdK, runK, h0, h1, h2, h3, h4, h5, h6, h7]
  clear h0 h1 h2 h3 h4 h5 h6 h7
  go_enter Tryd.func49, Tryd.ntmps49
  have P0 : Rq w a len cap zs (w.heap.size + 1) (some 0) ((w.alloc (.cells zPk8 24)).alloc (.cells #[.slice a len cap, .int .i64 0, .int .i64 0] 115)) :=
    ⟨(C.Three.new (w.alloc (.cells zPk8 24)) _ _ _ 115).at (by simp), R, ((Below.refl _ _).alloc (Nat.le_refl _) _).alloc (by simp) _, by omega, by omega, by omega, hcap⟩
  have hp0 : w.heap.size + 1 < ((w.alloc (.cells zPk8 24)).alloc (.cells #[.slice a len cap, .int .i64 0, .int .i64 0] 115)).heap.size := by simp
  go_wp2_with (first
    | (go_at_call 69; refine (K0 _ P0).mono ?_; rintro e w1 ⟨rfl, P1, k1⟩; have X1 : w1.heap[w.heap.size]? = some (.cells zPk8 24 (0, 0)) := (k1.block w.heap.size (by simp; omega) (by simp)).trans ((Below.heap_alloc _ _ _ (by simp)).trans (World.alloc_heap_new _ _)); have B1 : Below w.heap.size w w1 := (((Below.refl _ _).alloc (Nat.le_refl _) _).alloc (by simp) _).trans (Kp.below k1 (by omega) (by simp; omega)); have z1 := P1.lt)
    | ((with_reducible show wpList _ _ _ (Oper.mk _ (Op.store 24 _ _) _ _ _ _ :: _) _ _); refine wpList_store_row rfl 24 _ _ rfl (w1.heap.size) #[.int .i64 (sm g0.num), .int .i64 0, .int .i64 0, .int .i64 0, .int .i64 0, .int .i64 0, .int .i64 0, .slice none 0 0] rfl rfl 24 _ (World.alloc_heap_new _ _) (by kernel_rfl) rfl (by simp [Value.oneCell']) ?_)
    | (go_at_call 69; refine (K1 _ ((P1.alloc _).setRow (by omega) _)).mono ?_; rintro e w2 ⟨rfl, P2, k2⟩; have G2 : w2.heap[w1.heap.size]? = some (.cells #[.int .i64 (sm g0.num), .int .i64 0, .int .i64 0, .int .i64 0, .int .i64 0, .int .i64 0, .int .i64 0, .slice none 0 0] 24 (0, 0)) := (k2.block (w1.heap.size) (by simp) (by simp; omega)).trans (setRow_heap _ _ _ _ _ _ (World.alloc_heap_new _ _)); have X2 := (k2.block w.heap.size (by simp; omega) (by simp)).trans ((setRow_other _ _ _ _ (by omega)).trans ((Below.heap_alloc _ _ _ (by omega)).trans X1)); have B2 : Below w.heap.size w w2 := ((below_setRow (B1.alloc B1.size _) (by omega) _)).trans (Kp.below k2 (by omega) (by simp; omega)); have z2 := row_lt G2; have c2 : w2.cell? ⟨w1.heap.size, 1, none⟩ = some (.int .i64 0) := (by rw [cell_of_row _ _ _ _ 24 _ G2]; rfl); have f2 := row_free G2 1)
    | (go_at_call 69; refine (K2 _ (P2.setNew (g := w1.heap.size) (by omega) 1 _)).mono ?_; rintro e w3 ⟨rfl, P3, k3⟩; have G3 : w3.heap[w1.heap.size]? = some (.cells #[.int .i64 (sm g0.num), .int .i64 (sm g1.num), .int .i64 0, .int .i64 0, .int .i64 0, .int .i64 0, .int .i64 0, .slice none 0 0] 24 (0, 0)) := (k3.block (w1.heap.size) (by simp; exact z2) (by simp; omega)).trans (setCell_row (o := 1) G2 _); have X3 := (k3.block w.heap.size (by simp; omega) (by simp)).trans ((Below.heap_setCell _ _ _ _ (by show w.heap.size ≠ w1.heap.size; omega)).trans X2); have B3 : Below w.heap.size w w3 := (B2.setCell (p := ⟨w1.heap.size, 1, none⟩) (by show w.heap.size ≤ w1.heap.size; omega) _).trans (Kp.below k3 (by omega) (by simp; omega)); have z3 := row_lt G3; have c3 : w3.cell? ⟨w1.heap.size, 2, none⟩ = some (.int .i64 0) := (by rw [cell_of_row _ _ _ _ 24 _ G3]; rfl); have f3 := row_free G3 2)
    | (go_at_call 70; refine (K3 _ (P3.setNew (g := w1.heap.size) (by omega) 2 _)).mono ?_; rintro e w4 ⟨rfl, P4, k4⟩; have G4 : w4.heap[w1.heap.size]? = some (.cells #[.int .i64 (sm g0.num), .int .i64 (sm g1.num), .int .i64 (sm g2.num), .int .i64 0, .int .i64 0, .int .i64 0, .int .i64 0, .slice none 0 0] 24 (0, 0)) := (k4.block (w1.heap.size) (by simp; exact z3) (by simp; omega)).trans (setCell_row (o := 2) G3 _); have X4 := (k4.block w.heap.size (by simp; omega) (by simp)).trans ((Below.heap_setCell _ _ _ _ (by show w.heap.size ≠ w1.heap.size; omega)).trans X3); have B4 : Below w.heap.size w w4 := (B3.setCell (p := ⟨w1.heap.size, 2, none⟩) (by show w.heap.size ≤ w1.heap.size; omega) _).trans (Kp.below k4 (by omega) (by simp; omega)); have z4 := row_lt G4; have c4 : w4.cell? ⟨w1.heap.size, 3, none⟩ = some (.int .i64 0) := (by rw [cell_of_row _ _ _ _ 24 _ G4]; rfl); have f4 := row_free G4 3)
    | (go_at_call 70; refine (K4 _ (P4.setNew (g := w1.heap.size) (by omega) 3 _)).mono ?_; rintro e w5 ⟨rfl, P5, k5⟩; have G5 : w5.heap[w1.heap.size]? = some (.cells #[.int .i64 (sm g0.num), .int .i64 (sm g1.num), .int .i64 (sm g2.num), .int .i64 g3.num, .int .i64 0, .int .i64 0, .int .i64 0, .slice none 0 0] 24 (0, 0)) := (k5.block (w1.heap.size) (by simp; exact z4) (by simp; omega)).trans (setCell_row (o := 3) G4 _); have X5 := (k5.block w.heap.size (by simp; omega) (by simp)).trans ((Below.heap_setCell _ _ _ _ (by show w.heap.size ≠ w1.heap.size; omega)).trans X4); have B5 : Below w.heap.size w w5 := (B4.setCell (p := ⟨w1.heap.size, 3, none⟩) (by show w.heap.size ≤ w1.heap.size; omega) _).trans (Kp.below k5 (by omega) (by simp; omega)); have z5 := row_lt G5; have c5 : w5.cell? ⟨w1.heap.size, 4, none⟩ = some (.int .i64 0) := (by rw [cell_of_row _ _ _ _ 24 _ G5]; rfl); have f5 := row_free G5 4)
    | (go_at_call 70; refine (K5 _ (P5.setNew (g := w1.heap.size) (by omega) 4 _)).mono ?_; rintro e w6 ⟨rfl, P6, k6⟩; have G6 : w6.heap[w1.heap.size]? = some (.cells #[.int .i64 (sm g0.num), .int .i64 (sm g1.num), .int .i64 (sm g2.num), .int .i64 g3.num, .int .i64 g4.num, .int .i64 0, .int .i64 0, .slice none 0 0] 24 (0, 0)) := (k6.block (w1.heap.size) (by simp; exact z5) (by simp; omega)).trans (setCell_row (o := 4) G5 _); have X6 := (k6.block w.heap.size (by simp; omega) (by simp)).trans ((Below.heap_setCell _ _ _ _ (by show w.heap.size ≠ w1.heap.size; omega)).trans X5); have B6 : Below w.heap.size w w6 := (B5.setCell (p := ⟨w1.heap.size, 4, none⟩) (by show w.heap.size ≤ w1.heap.size; omega) _).trans (Kp.below k6 (by omega) (by simp; omega)); have z6 := row_lt G6; have c6 : w6.cell? ⟨w1.heap.size, 5, none⟩ = some (.int .i64 0) := (by rw [cell_of_row _ _ _ _ 24 _ G6]; rfl); have f6 := row_free G6 5)
    | (go_at_call 70; refine (K6 _ (P6.setNew (g := w1.heap.size) (by omega) 5 _)).mono ?_; rintro e w7 ⟨rfl, P7, k7⟩; have G7 : w7.heap[w1.heap.size]? = some (.cells #[.int .i64 (sm g0.num), .int .i64 (sm g1.num), .int .i64 (sm g2.num), .int .i64 g3.num, .int .i64 g4.num, .int .i64 g5.num, .int .i64 0, .slice none 0 0] 24 (0, 0)) := (k7.block (w1.heap.size) (by simp; exact z6) (by simp; omega)).trans (setCell_row (o := 5) G6 _); have X7 := (k7.block w.heap.size (by simp; omega) (by simp)).trans ((Below.heap_setCell _ _ _ _ (by show w.heap.size ≠ w1.heap.size; omega)).trans X6); have B7 : Below w.heap.size w w7 := (B6.setCell (p := ⟨w1.heap.size, 5, none⟩) (by show w.heap.size ≤ w1.heap.size; omega) _).trans (Kp.below k7 (by omega) (by simp; omega)); have z7 := row_lt G7; have c7 : w7.cell? ⟨w1.heap.size, 6, none⟩ = some (.int .i64 0) := (by rw [cell_of_row _ _ _ _ 24 _ G7]; rfl); have f7 := row_free G7 6)
    | (go_at_call 70; refine (K7 _ (P7.setNew (g := w1.heap.size) (by omega) 6 _)).mono ?_; rintro e w8 ⟨rfl, P8, k8⟩; have G8 : w8.heap[w1.heap.size]? = some (.cells #[.int .i64 (sm g0.num), .int .i64 (sm g1.num), .int .i64 (sm g2.num), .int .i64 g3.num, .int .i64 g4.num, .int .i64 g5.num, .int .i64 g6.num, .slice none 0 0] 24 (0, 0)) := (k8.block (w1.heap.size) (by simp; exact z7) (by simp; omega)).trans (setCell_row (o := 6) G7 _); have X8 := (k8.block w.heap.size (by simp; omega) (by simp)).trans ((Below.heap_setCell _ _ _ _ (by show w.heap.size ≠ w1.heap.size; omega)).trans X7); have B8 : Below w.heap.size w w8 := (B7.setCell (p := ⟨w1.heap.size, 6, none⟩) (by show w.heap.size ≤ w1.heap.size; omega) _).trans (Kp.below k8 (by omega) (by simp; omega)); have z8 := row_lt G8))
  obtain ⟨fs, hfs⟩ : ∃ fs, [g0, g1, g2, g3, g4, g5, g6, g7] = fs := ⟨_, rfl⟩
  have h7 : (fs.getD 7 fzz).num = g7.num := by rw [← hfs]; rfl
  have PK8 : PkB w8 w1.heap.size (smP (hdOf fs [])) none 0 0 := by rw [← hfs]; exact G8
  have HRun2 : Hid (runK hdK zs (some 0) = (fs, s8)) := by show _ = _; rw [← hfs]; exact HRun.out
  obtain ⟨n0, hn0⟩ : ∃ n0, s8.getD 0 = n0 := ⟨_, rfl⟩
  have L0 : RdL w a len cap zs w1.heap.size (smP (hdOf fs [])) fs n0 0 s8 w8 := by
    refine ⟨P8, X8, by omega, ⟨[], none, 0, rfl, PK8, World.ownsRow_nil _ _ _ _, fun i hi => ?_⟩, fun hs => ?_, B8⟩
    · subst hi
      obtain rfl : i = n0 := hn0
      exact ⟨[], rfl, ItSt.start (head_some HRun2.out)⟩
    · subst hs
      exact open_none HRun2.out
  have h7I : Hid ((fs.getD 7 fzz).num = g7.num) := h7
  obtain ⟨i0, hi0, hz0, hz1, hz2⟩ := info_parts info38
  clear h7 hfs HRun HRun2 hn0 PK8 K0 K1 K2 K3 K4 K5 K6 K7 P0 P1 P2 P3 P4 P5 P6 P7 P8 G2 G3 G4 G5 G6 G7 G8 X1 X2 X3 X4 X5 X6 X7 X8 k1 k2 k3 k4 k5 k6 k7 k8 c2 c3 c4 c5 c6 c7 f2 f3 f4 f5 f6 f7 B1 B2 B3 B4 B5 B6 B7 B8 z2 z3 z4 z5 z6 z7 z8
  go_loopg [7] (len + 1) (fun g c wr => ∃ (k : Nat) (s : Option Nat), c = .int .i64 (k : Int) ∧ k + g = len + 1 ∧ Hid (RdL w a len cap zs w1.heap.size (smP (hdOf fs [])) fs n0 k s wr))
  case atStart => exact ⟨0, s8, rfl, by omega, L0⟩
  case round =>
    clear L0
    obtain ⟨k, s, rfl, hg, HL⟩ := hrel
    have HG : Hid (k + gk = len + 1) := hg
    have hkm : k ≤ len + 1 := by omega
    clear hg
    have hRes := HL.out.res
    have BW := HL.out.below
    have z0 := BW.size
    have hwr := row_lt hRes
    obtain ⟨its, a', cap', hil, PK, OW, hgood⟩ := HL.out.pk
    cases s with
    | none =>
      obtain ⟨j, c, hc, P⟩ := HL.out.rq
      obtain ⟨hc1, hc2⟩ := dead_ne hc
      have HE : Hid (openP zs = .error 20) := HL.out.bad rfl
      obtain ⟨m0, m1, m2, f0, f1, f2, hz⟩ := id P.three
      clear hgood hc
      by_cases hlt : (k : Int) < g7.num
      all_goals
        go_wp2_with ((with_reducible show wpList _ _ _ (Oper.mk _ (Op.store 24 _ _) _ _ _ _ :: _) _ _); refine wpList_store_row rfl 24 _ _ rfl w.heap.size zPk8 rfl rfl 24 _ hRes (by kernel_rfl) rfl (by simp [zPk8, Value.oneCell']) ?_)
        refine bodyPost_ret (results_cell_tmp rfl _ _ w.heap.size 24 zPk8 (0, 0) _ rfl (setRow_heap _ _ _ _ _ _ hRes) Tryd.underlying24 rfl (by kernel_rfl)) rfl ⟨?_, below_setRow BW (Nat.le_refl _) _⟩
        rw [HE.out]
        show _ = _
        rfl
    | some i =>
      have P : Rp w a len cap zs (w.heap.size + 1) i 0 wr := HL.out.rq
      obtain ⟨m0, m1, m2, f0, f1, f2, hz⟩ := id P.three
      obtain ⟨l, hitl, HS⟩ := hgood i rfl
      have hie := P.le
      have hll : l.length = k := by rw [← hil, hitl, List.length_map]
      have hki : k ≤ i := by have := HS.at_; omega
      by_cases hlt : (k : Int) < g7.num
      · have HN : Hid (l.length < (fs.getD 7 fzz).num.toNat) := by show _ < _; rw [h7I.out]; omega
        obtain ⟨⟨gs, s'⟩, hrun⟩ : ∃ q, runK itK zs (some i) = q := ⟨_, rfl⟩
        obtain ⟨y, hy⟩ : ∃ y, smI (itOf gs) = y := ⟨_, rfl⟩
        have KI : ∀ W, Rq w a len cap zs (w.heap.size + 1) (some i) W → Calls Tryd.prog 71 #[.pointer (some ⟨w.heap.size + 1, 0, none⟩)] W fun e w' => e = .returned (itv y) ∧ Rq w a len cap zs (w.heap.size + 1) s' w' ∧ Kp (w.heap.size + 1) W w' := fun W P => by
          have := item_st w a len cap zs (w.heap.size + 1) (some i) W P
          rw [hrun, hy] at this
          exact this
        have PDR : Rq w a len cap zs (w.heap.size + 1) (some i) wr.drew := Rp.drewN P 1
        have hpl := PK.lt
        have c7d : wr.drew.cell? ⟨w1.heap.size, 7, none⟩ = some (.slice a' k cap') := PK.at 7 _ rfl
        have hlow := HL.out.low
        have PK9 : ∀ w9, Kp (w.heap.size + 1) wr.drew w9 → PkB w9 w1.heap.size (smP (hdOf fs [])) a' k cap' := fun w9 k9 => PK.of_block ((k9.block w1.heap.size hpl (by simp; omega)).trans rfl)
        have c79 : ∀ w9, Kp (w.heap.size + 1) wr.drew w9 → w9.cell? ⟨w1.heap.size, 7, none⟩ = some (.slice a' k cap') := fun w9 k9 => (PK9 w9 k9).at 7 _ rfl
        have zz9 : ∀ w9, Kp (w.heap.size + 1) wr.drew w9 → w1.heap.size < w9.heap.size := fun w9 k9 => (PK9 w9 k9).lt
        have c79a : ∀ w9, Kp (w.heap.size + 1) wr.drew w9 → ∀ o, (w9.alloc o).cell? ⟨w1.heap.size, 7, none⟩ = some (.slice a' k cap') := fun w9 k9 o => ((PK9 w9 k9).of_block (Below.heap_alloc _ _ _ (zz9 w9 k9))).at 7 _ rfl
        have own9 : ∀ w9, Kp (w.heap.size + 1) wr.drew w9 → (w9.alloc (itObj y)).ownsRow (w1.heap.size + 1) 38 19 (.slice a' k cap') k (its.flatMap itc) := fun w9 k9 => by
          refine World.ownsRow.alloc (own_kp (World.ownsRow.drew OW) ?_) _
          intro g hg
          have := World.ownsRow.lt OW g hg
          exact k9.block g this.2 (by simp; omega)
        have new9 : ∀ (w9 : World) (j : Nat) (u : Value), (itc y)[j]? = some u → (w9.alloc (itObj y)).cell? ((⟨w9.heap.size, 0, none⟩ : Addr).add j) = some u := by
          intro w9 j u hj
          rw [add_plain]
          exact itAt_new w9 y j u hj
        have app10 : ∀ w9, Rq w a len cap zs (w.heap.size + 1) s' w9 → Kp (w.heap.size + 1) wr.drew w9 → ∀ (v10 : Value) (w10 : World), w10.ownsRow (w1.heap.size + 1) 38 19 v10 (k + 1) (its.flatMap itc ++ itc y) → (w9.alloc (itObj y)).grownBy w10 (Value.slice a' k cap').ownBlock →
            ∃ g cap10, v10 = .slice (some ⟨g, 0, none⟩) (k + 1) cap10 ∧ w10.cell? ⟨w1.heap.size, 7, none⟩ = some (.slice a' k cap') ∧ w10.frozen? ⟨w1.heap.size, 7, none⟩ = false ∧ w1.heap.size < w10.heap.size ∧ Hid (RdL w a len cap zs w1.heap.size (smP (hdOf fs [])) fs n0 (k + 1) s' (w10.setCell ⟨w1.heap.size, 7, none⟩ (.slice (some ⟨g, 0, none⟩) (k + 1) cap10))) := by
          intro w9 P9 k9 v10 w10 own10 hg10
          have hl10 : (its ++ [y]).length = k + 1 := by rw [List.length_append, hil]; rfl
          have own11 : w10.ownsRow (w1.heap.size + 1) 38 19 v10 (its ++ [y]).length ((its ++ [y]).flatMap itc) := by
            rw [hl10, List.flatMap_append, List.flatMap_singleton]
            exact own10
          obtain ⟨g, cap10, hv, hgb, IR⟩ := itRow_owns own11 (by simp)
          have far : ∀ c, c ≤ w1.heap.size → w10.heap[c]? = w9.heap[c]? := fun c hc =>
            (hg10.block c (by have := zz9 w9 k9; simp; omega) (fun e => by have := (World.ownsRow.lt OW c e.symm).1; omega)).trans (Below.heap_alloc _ _ _ (by have := zz9 w9 k9; omega))
          have hs10 : w9.heap.size ≤ w10.heap.size := by have := hg10.size; simp at this; omega
          have hz9 := zz9 w9 k9
          have PK10 : PkB w10 w1.heap.size (smP (hdOf fs [])) a' k cap' := (PK9 w9 k9).of_block (far _ (Nat.le_refl _))
          have B9 : Below w.heap.size w w9 := (BW.drew).trans (Kp.below k9 (by omega) z0)
          have B10 : Below w.heap.size w9 w10 := ⟨hg10.os, hg10.tape, hg10.output, hs10, fun b hb => far b (by omega)⟩
          refine ⟨g, cap10, by rw [hl10] at hv; exact hv, PK10.at 7 _ rfl, PK10.free 7, by omega, ?_⟩
          refine ⟨(P9.newer (far _ (by omega)) B10).setNew (by omega) 7 _, ?_, hlow, ⟨its ++ [y], _, _, hl10, PK10.set7 _ _ _, ?_, fun i' hi' => ?_⟩, fun hs' => ?_, (B9.trans B10).setCell (p := ⟨w1.heap.size, 7, none⟩) (by show w.heap.size ≤ w1.heap.size; omega) _⟩
          · exact (Below.heap_setCell _ _ _ _ (by show w.heap.size ≠ w1.heap.size; omega)).trans ((far _ (by omega)).trans ((k9.block w.heap.size hwr (by simp)).trans hRes))
          · have h := (IR.of_block (W' := w10.setCell ⟨w1.heap.size, 7, none⟩ (.slice (some ⟨g, 0, none⟩) (k + 1) cap10)) (Below.heap_setCell _ _ _ _ (by show g ≠ w1.heap.size; omega))).owns (base := w1.heap.size + 1) hgb
            rw [hl10] at h
            exact h
          · subst hi'
            refine ⟨l ++ [itOf gs], by rw [hitl, List.map_append, ← hy]; rfl, HS.next hby HLm.out HN.out hrun⟩
          · subst hs'
            exact HS.fail HN.out (by rw [hrun])
        clear HL hgood hrun hy HS hitl
        go_wp2
        refine wp_region_any (by kernel_rfl) ?_
        change wpAny _ _ _ _ _ _ _ (World.drew _)
        refine wpAny_take (i := 0) (v := .pointer (some ⟨w1.heap.size, 7, none⟩)) rfl (by kernel_rfl) (by kernel_rfl) (by kernel_rfl) (fun _ _ _ h => h) (Or.inl ⟨by rfl, by intro w; go_simp⟩) ?_
        refine wpAny_take (i := 2) (v := .pointer (some ⟨w.heap.size + 1, 0, none⟩)) rfl (by kernel_rfl) (by kernel_rfl) (by kernel_rfl) (fun _ _ _ h => h) (Or.inl ⟨by rfl, by intro w; go_simp⟩) ?_
        refine wpAny_ready (rs := [1, 3]) (by kernel_rfl) (by simp) ?_
        refine AllReady.cons rfl (fun K hK => ?_) (AllReady.cons rfl (fun K hK => ?_) AllReady.nil)
        · have c7x := c7d
          go_simp
          refine hK _ _ ?_
          clear hK K c7x
          refine wpAny_ready (rs := [3]) (by kernel_rfl) (by simp) ?_
          refine AllReady.cons rfl (fun K hK => ?_) AllReady.nil
          go_simp
          go_at_call 71
          refine (KI _ PDR).mono ?_
          rintro e w9 ⟨rfl, P9, k9⟩
          refine hK _ _ ?_
          clear hK K
          refine wpAny_ready (rs := [4]) (by kernel_rfl) (by simp) ?_
          refine AllReady.cons rfl (fun K hK => ?_) AllReady.nil
          go_simp
          refine hK _ _ ?_
          clear hK K
          refine wpAny_ready (rs := [5]) (by kernel_rfl) (by simp) ?_
          refine AllReady.cons rfl (fun K hK => ?_) AllReady.nil
          rw [if_pos (by rfl)]
          refine wp_append_own _ _ _ 22 rfl (w1.heap.size + 1) 38 i0 (itv itZ) 19 160 Tryd.underlying22 hi0 hz0 hz1 hz2 rfl (by decide) (.slice a' k cap') k (its.flatMap itc) rfl (own9 w9 k9) ⟨w9.heap.size, 0, none⟩ 1 1 (itc y) rfl rfl (new9 w9) (itc_one y) (by unfold maxLen; omega) (by omega) (by have := zz9 w9 k9; simp; omega) ?_
          intro v10 w10 own10 hg10 _
          obtain ⟨g, cap10, hv10, c10, f10, z10, hfin⟩ := app10 w9 P9 k9 v10 w10 own10 hg10
          subst hv10
          refine hK _ _ ?_
          clear hK K
          refine wpAny_take (i := 6) (v := .pointer (some ⟨w1.heap.size, 7, none⟩)) rfl (by kernel_rfl) (by kernel_rfl) (by kernel_rfl) (fun _ _ _ h => h) (Or.inl ⟨by rfl, by intro w; go_simp⟩) ?_
          refine wpAny_ready (rs := [7]) (by kernel_rfl) (by simp) ?_
          refine AllReady.cons rfl (fun K hK => ?_) AllReady.nil
          go_simp
          refine hK _ _ ?_
          clear hK K
          refine wpAny_done (by kernel_rfl) ?_ _
          go_wp2
          go_roundg (gk - 1)
          case measure => have := HG.out; omega
          case rel => exact ⟨k + 1, s', by go_num, by have := HG.out; omega, hfin⟩
        · go_simp
          go_at_call 71
          refine (KI _ PDR).mono ?_
          rintro e w9 ⟨rfl, P9, k9⟩
          refine hK _ _ ?_
          clear hK K
          refine wpAny_ready (rs := [1, 4]) (by kernel_rfl) (by simp) ?_
          refine AllReady.cons rfl (fun K hK => ?_) (AllReady.cons rfl (fun K hK => ?_) AllReady.nil)
          · have c7x := c79 w9 k9
            go_simp
            refine hK _ _ ?_
            clear hK K c7x
            refine wpAny_ready (rs := [4]) (by kernel_rfl) (by simp) ?_
            refine AllReady.cons rfl (fun K hK => ?_) AllReady.nil
            go_simp
            refine hK _ _ ?_
            clear hK K
            refine wpAny_ready (rs := [5]) (by kernel_rfl) (by simp) ?_
            refine AllReady.cons rfl (fun K hK => ?_) AllReady.nil
            rw [if_pos (by rfl)]
            refine wp_append_own _ _ _ 22 rfl (w1.heap.size + 1) 38 i0 (itv itZ) 19 160 Tryd.underlying22 hi0 hz0 hz1 hz2 rfl (by decide) (.slice a' k cap') k (its.flatMap itc) rfl (own9 w9 k9) ⟨w9.heap.size, 0, none⟩ 1 1 (itc y) rfl rfl (new9 w9) (itc_one y) (by unfold maxLen; omega) (by omega) (by have := zz9 w9 k9; simp; omega) ?_
            intro v10 w10 own10 hg10 _
            obtain ⟨g, cap10, hv10, c10, f10, z10, hfin⟩ := app10 w9 P9 k9 v10 w10 own10 hg10
            subst hv10
            refine hK _ _ ?_
            clear hK K
            refine wpAny_take (i := 6) (v := .pointer (some ⟨w1.heap.size, 7, none⟩)) rfl (by kernel_rfl) (by kernel_rfl) (by kernel_rfl) (fun _ _ _ h => h) (Or.inl ⟨by rfl, by intro w; go_simp⟩) ?_
            refine wpAny_ready (rs := [7]) (by kernel_rfl) (by simp) ?_
            refine AllReady.cons rfl (fun K hK => ?_) AllReady.nil
            go_simp
            refine hK _ _ ?_
            clear hK K
            refine wpAny_done (by kernel_rfl) ?_ _
            go_wp2
            go_roundg (gk - 1)
            case measure => have := HG.out; omega
            case rel => exact ⟨k + 1, s', by go_num, by have := HG.out; omega, hfin⟩
          · go_simp
            refine hK _ _ ?_
            clear hK K
            refine wpAny_ready (rs := [1]) (by kernel_rfl) (by simp) ?_
            refine AllReady.cons rfl (fun K hK => ?_) AllReady.nil
            have c7x := c79a w9 k9 (itObj y)
            go_simp
            refine hK _ _ ?_
            clear hK K c7x
            refine wpAny_ready (rs := [5]) (by kernel_rfl) (by simp) ?_
            refine AllReady.cons rfl (fun K hK => ?_) AllReady.nil
            rw [if_pos (by rfl)]
            refine wp_append_own _ _ _ 22 rfl (w1.heap.size + 1) 38 i0 (itv itZ) 19 160 Tryd.underlying22 hi0 hz0 hz1 hz2 rfl (by decide) (.slice a' k cap') k (its.flatMap itc) rfl (own9 w9 k9) ⟨w9.heap.size, 0, none⟩ 1 1 (itc y) rfl rfl (new9 w9) (itc_one y) (by unfold maxLen; omega) (by omega) (by have := zz9 w9 k9; simp; omega) ?_
            intro v10 w10 own10 hg10 _
            obtain ⟨g, cap10, hv10, c10, f10, z10, hfin⟩ := app10 w9 P9 k9 v10 w10 own10 hg10
            subst hv10
            refine hK _ _ ?_
            clear hK K
            refine wpAny_take (i := 6) (v := .pointer (some ⟨w1.heap.size, 7, none⟩)) rfl (by kernel_rfl) (by kernel_rfl) (by kernel_rfl) (fun _ _ _ h => h) (Or.inl ⟨by rfl, by intro w; go_simp⟩) ?_
            refine wpAny_ready (rs := [7]) (by kernel_rfl) (by simp) ?_
            refine AllReady.cons rfl (fun K hK => ?_) AllReady.nil
            go_simp
            refine hK _ _ ?_
            clear hK K
            refine wpAny_done (by kernel_rfl) ?_ _
            go_wp2
            go_roundg (gk - 1)
            case measure => have := HG.out; omega
            case rel => exact ⟨k + 1, s', by go_num, by have := HG.out; omega, hfin⟩
      · have hop := HS.last (by rw [h7I.out]; omega)
        obtain ⟨q, hq⟩ : ∃ q, hdOf fs l = q := ⟨_, rfl⟩
        rw [hq] at hop
        have hqi : (smP q).items = its := by rw [← hq, hitl]; rfl
        have PKq : PkB wr w1.heap.size (smP q) a' k cap' := by rw [← hq]; exact PK
        have RIq : RowI wr a' k cap' (smP q).items := by rw [hqi]; exact rowI_own hil OW
        have HOP : Hid (openR zs = .ok (q, i)) := hop
        have hlow := HL.out.low
        have hag : a' = none ∨ ∃ g, a' = some ⟨g, 0, none⟩ ∧ w1.heap.size + 1 ≤ g := own_addr OW
        have KF := rfit_any (smP q) a' k cap' wr RIq
        rw [fit_smP] at KF
        clear HL hgood HS hop hqi hq hitl PK OW HG
        by_cases hend : i = len
        · have hend1 : ((i : Int) != (len : Int)) = false := by simp; omega
          cases hf : fitP q with
          | false =>
            rw [hf] at KF
            have HE : Hid (openP zs = .error 54) := by
              show _ = _
              unfold openP
              rw [HOP.out]
              simp only
              rw [if_neg (by rw [HLz.out]; omega), hf]
              rfl
            clear hf hend
            go_wp2_with (first
              | ((with_reducible show wpList _ _ _ (Oper.mk _ (Op.load 24 _) _ _ _ _ :: _) _ _); refine wpList_load_row rfl 24 _ rfl w1.heap.size rfl (pkc (smP q) a' k cap').toArray (load_24 PKq) ?_)
              | (go_at_call 11; refine KF.mono ?_; rintro e w9 ⟨rfl, B9⟩; have G9 := (B9.block _ hwr).trans hRes)
              | ((with_reducible show wpList _ _ _ (Oper.mk _ (Op.store 24 _ _) _ _ _ _ :: _) _ _); refine wpList_store_row rfl 24 _ _ rfl w.heap.size zPk8 rfl rfl 24 _ G9 (by kernel_rfl) rfl (by simp [zPk8, Value.oneCell']) ?_))
            refine bodyPost_ret (results_cell_tmp rfl _ _ w.heap.size 24 zPk8 (0, 0) _ rfl (setRow_heap _ _ _ _ _ _ G9) Tryd.underlying24 rfl (by kernel_rfl)) rfl ⟨?_, below_setRow (BW.trans (B9.mono z0)) (Nat.le_refl _) _⟩
            rw [HE.out]
            show _ = _
            rfl
          | true =>
            have hsm := smP_low hf
            rw [hsm] at KF PKq RIq
            rw [hf] at KF
            have HE : Hid (openP zs = .ok q) := by
              show _ = _
              unfold openP
              rw [HOP.out]
              simp only
              rw [if_neg (by rw [HLz.out]; omega), hf]
              rfl
            clear hf hend hsm
            go_wp2_with (first
              | (go_at_call 11; refine KF.mono ?_; rintro e w9 ⟨rfl, B9⟩; have G9 := (B9.block _ hwr).trans hRes; have PK9 := PKq.of_block (B9.block _ PKq.lt))
              | ((with_reducible show wpList _ _ _ (Oper.mk _ (Op.load 24 _) _ _ _ _ :: _) _ _); first | refine wpList_load_row rfl 24 _ rfl w1.heap.size rfl (pkc q a' k cap').toArray (load_24 PK9) ?_ | refine wpList_load_row rfl 24 _ rfl w1.heap.size rfl (pkc q a' k cap').toArray (load_24 PKq) ?_)
              | ((with_reducible show wpList _ _ _ (Oper.mk _ (Op.store 24 _ _) _ _ _ _ :: _) _ _); refine wpList_store_row rfl 24 _ _ rfl w.heap.size (pkc q a' k cap').toArray rfl rfl 24 _ G9 (by kernel_rfl) rfl (by simp [pkc, Value.oneCell']) ?_))
            refine bodyPost_ret (results_cell_tmp rfl _ _ w.heap.size 24 (pkc q a' k cap').toArray (0, 0) _ rfl (setRow_heap _ _ _ _ _ _ G9) Tryd.underlying24 rfl (by kernel_rfl)) rfl ⟨?_, below_setRow (BW.trans (B9.mono z0)) (Nat.le_refl _) _⟩
            rw [HE.out]
            refine ⟨a', k, cap', ?_, hag.imp id fun ⟨g, h, hm⟩ => ⟨g, h, by omega⟩, RIq.size, RIq.le, RIq.max, RIq.nil, ?_⟩
            · rfl
            · refine RIq.mem.imp id fun ⟨g, off, ea, hg, hc⟩ => ⟨g, off, ea, by have := B9.size; simp; omega, fun j hj => (hc j hj).of_block ?_⟩
              have hg2 : w1.heap.size + 1 ≤ g := by
                rcases hag with h | ⟨g', h, hm⟩
                · rw [h] at ea; cases ea
                · rw [h] at ea; cases ea; exact hm
              exact (setRow_other _ _ _ _ (by omega)).trans (B9.block g hg)
        · have hend1 : ((i : Int) != (len : Int)) = true := by simp; omega
          have HE : Hid (openP zs = .error 20) := by
            show _ = _
            unfold openP
            rw [HOP.out]
            simp only
            rw [if_pos (by rw [HLz.out]; omega)]
          clear hend KF
          go_wp2_with ((with_reducible show wpList _ _ _ (Oper.mk _ (Op.store 24 _ _) _ _ _ _ :: _) _ _); refine wpList_store_row rfl 24 _ _ rfl w.heap.size zPk8 rfl rfl 24 _ hRes (by kernel_rfl) rfl (by simp [zPk8, Value.oneCell']) ?_)
          refine bodyPost_ret (results_cell_tmp rfl _ _ w.heap.size 24 zPk8 (0, 0) _ rfl (setRow_heap _ _ _ _ _ _ hRes) Tryd.underlying24 rfl (by kernel_rfl)) rfl ⟨?_, below_setRow BW (Nat.le_refl _) _⟩
          rw [HE.out]
          show _ = _
          rfl
end Go.Proofs.YticmjlnpjopfbaaDoor

namespace Go.Proofs.YticmjlnpjopfbaaDoor.S
open Go.ChangeShapes Go.WideShapes Go.ChangeAt Go.RowKit
set_option linter.unusedVariables false

theorem u8_ne {z c : Int} (h : z ≠ c) : (z != c) = true := by simp [h]

/-- Byte i of a sum is the one that stands there. -/
def SameAt (zs : List Int) (N s i : Nat) : Prop := zs.getD (4 + N + i) 0 = ((s / 2 ^ (8 * i) % 256 : Nat) : Int)
theorem same_le4 (zs : List Int) (N s : Nat) (h : 4 + N + 4 ≤ zs.length) : (zs.drop (4 + N)).take 4 = le4 s ↔ (SameAt zs N s 0 ∧ SameAt zs N s 1 ∧ SameAt zs N s 2 ∧ SameAt zs N s 3) := by
  rw [four_take zs (4 + N) h]
  unfold SameAt le4
  simp only [List.cons.injEq, and_true]
  simp only [Nat.mul_zero, Nat.pow_zero, Nat.div_one, Nat.mul_one, Nat.reduceMul, Nat.reducePow, Nat.add_zero]

set_option maxHeartbeats 4000000 in
theorem ropen_form (a : Option Addr) (len cap : Nat) (zs : List Int) (w : World) (R : Row .u8 w a len cap zs) (hcap : cap ≤ 9223372036854775807)
    (h : (0 < zs.length ∧ zs.getD 0 0 ≠ 237) ∨ (1 < zs.length ∧ zs.getD 1 0 ≠ 91)) :
    Calls Tryd.prog 48 #[.slice a len cap] w fun e w' => e = .returned (.tuple #[.slice none 0 0, .int .i64 0, .int .i64 20]) ∧ Below w.heap.size w w' := by
  have hsz := R.size
  have hle := R.le
  have hpos : 0 < len := by omega
  obtain ⟨b, off, rfl, hb, hcc⟩ := R.mem.resolve_left (by omega)
  clear hcc
  have c0 := R.at 0 (by omega)
  rw [Nat.add_zero] at c0
  by_cases h0 : zs.getD 0 0 = 237
  · have h1 : 1 < len ∧ zs.getD 1 0 ≠ 91 := by
      rcases h with h | h
      · exact absurd h0 h.2
      · exact ⟨by omega, h.2⟩
    obtain ⟨hl1, h1⟩ := h1
    have c1 := R.at 1 hl1
    rw [h0] at c0
    obtain ⟨y, hy⟩ : ∃ y, zs.getD 1 0 = y := ⟨_, rfl⟩
    rw [hy] at c1 h1
    have h1' := u8_ne h1
    clear h h0 hy R h1
    go_enter Tryd.func48, Tryd.ntmps48
    go_wp2
    go_ret3
    exact ⟨rfl, Below.refl _ _⟩
  · obtain ⟨x, hx⟩ : ∃ x, zs.getD 0 0 = x := ⟨_, rfl⟩
    rw [hx] at c0 h0
    have h0' := u8_ne h0
    clear h hx R h0
    go_enter Tryd.func48, Tryd.ntmps48
    go_wp2
    go_ret3
    exact ⟨rfl, Below.refl _ _⟩

set_option maxHeartbeats 4000000 in
theorem ropen_short (a : Option Addr) (len cap : Nat) (zs : List Int) (w : World) (R : Row .u8 w a len cap zs) (hcap : cap ≤ 9223372036854775807)
    (h : ¬ ((0 < zs.length ∧ zs.getD 0 0 ≠ 237) ∨ (1 < zs.length ∧ zs.getD 1 0 ≠ 91))) (h4 : len < 4) :
    Calls Tryd.prog 48 #[.slice a len cap] w fun e w' => e = .returned (.tuple #[.slice none 0 0, .int .i64 0, .int .i64 21]) ∧ Below w.heap.size w w' := by
  have hsz := R.size
  have hle := R.le
  rcases Nat.eq_zero_or_pos len with e | hpos
  · subst e
    clear h R
    go_enter Tryd.func48, Tryd.ntmps48
    go_wp2
    go_ret3
    exact ⟨rfl, Below.refl _ _⟩
  · obtain ⟨b, off, rfl, hb, hcc⟩ := R.mem.resolve_left (by omega)
    clear hcc
    have c0 := R.at 0 (by omega)
    rw [Nat.add_zero] at c0
    have h0 : zs.getD 0 0 = 237 := by
      apply Classical.byContradiction
      intro hn
      exact h (.inl ⟨by omega, hn⟩)
    rw [h0] at c0
    by_cases hl1 : 1 < len
    · have c1 := R.at 1 hl1
      have h1 : zs.getD 1 0 = 91 := by
        apply Classical.byContradiction
        intro hn
        exact h (.inr ⟨by omega, hn⟩)
      rw [h1] at c1
      clear h h0 h1 R
      go_enter Tryd.func48, Tryd.ntmps48
      go_wp2
      go_ret3
      exact ⟨rfl, Below.refl _ _⟩
    · have e : len = 1 := by omega
      subst e
      clear h h0 R
      go_enter Tryd.func48, Tryd.ntmps48
      go_wp2
      go_ret3
      exact ⟨rfl, Below.refl _ _⟩

theorem div256 (s : Nat) (i : Nat) : ((s / 2 ^ (8 * i) % 256 : Nat) : Int) = (s : Int) / 2 ^ (8 * i) % 256 := by
  rw [Int.natCast_emod, Int.natCast_ediv, Int.natCast_pow]
  rfl

set_option maxHeartbeats 8000000 in
theorem ropen_long (b off len cap : Nat) (zs : List Int) (w : World) (R : Row .u8 w (some ⟨b, off, none⟩) len cap zs) (hcap : cap ≤ 9223372036854775807) (hl : len ≤ 140737488355328)
    (h0 : zs.getD 0 0 = 237) (h1 : zs.getD 1 0 = 91) (h4 : 4 ≤ len) (h5 : len < lenAt zs + 8) :
    Calls Tryd.prog 48 #[.slice (some ⟨b, off, none⟩) len cap] w fun e w' => e = .returned (.tuple #[.slice none 0 0, .int .i64 0, .int .i64 21]) ∧ Below w.heap.size w w' := by
  have hsz := R.size
  have hle := R.le
  have c0 := R.at 0 (by omega)
  have c1 := R.at 1 (by omega)
  have c2 := R.at 2 (by omega)
  have c3 := R.at 3 (by omega)
  rw [Nat.add_zero, h0] at c0
  rw [h1] at c1
  have b2 := byt_at R.byte 2 (by omega)
  have b3 := byt_at R.byte 3 (by omega)
  have HL : Hid (lenAt zs = (zs.getD 2 0).toNat + 256 * (zs.getD 3 0).toNat) := rfl
  obtain ⟨N, hN⟩ : ∃ N, lenAt zs = N := ⟨_, rfl⟩
  obtain ⟨x, hx⟩ : ∃ x, zs.getD 2 0 = x := ⟨_, rfl⟩
  obtain ⟨y, hy⟩ : ∃ x, zs.getD 3 0 = x := ⟨_, rfl⟩
  rw [hN] at HL h5
  rw [hx] at HL c2 b2
  rw [hy] at HL c3 b3
  have hxy : x + 256 * y = (N : Int) := by have := HL.out; omega
  clear R HL hN hx hy h0 h1
  go_enter Tryd.func48, Tryd.ntmps48
  go_wp2
  go_quiet (fail)
  go_wp2
  go_ret3
  exact ⟨rfl, below_drewN (Below.refl _ _) _⟩

end Go.Proofs.YticmjlnpjopfbaaDoor.S

namespace Go.Proofs.YticmjlnpjopfbaaDoor.S
open Go.ChangeShapes Go.WideShapes Go.ChangeAt Go.RowKit
set_option linter.unusedVariables false

set_option maxHeartbeats 8000000 in
theorem ropen_full (b off len cap : Nat) (zs : List Int) (w : World) (R : Row .u8 w (some ⟨b, off, none⟩) len cap zs) (hcap : cap ≤ 9223372036854775807) (hl : len ≤ 140737488355328)
    (h0 : zs.getD 0 0 = 237) (h1 : zs.getD 1 0 = 91) (h4 : 4 ≤ len) (N : Nat) (hN : lenAt zs = N) (h5 : N + 8 ≤ len) (s : Nat) (hs : sumB ((zs.drop 2).take (2 + N)) = s) (Ro : Except Int (List Int × Nat))
    (HBad : Hid (∀ j, j < 4 → ¬ SameAt zs N s j → Ro = .error 22)) (HGood : Hid ((∀ j, j < 4 → SameAt zs N s j) → Ro = .ok ((zs.drop 4).take N, N + 8))) :
    Calls Tryd.prog 48 #[.slice (some ⟨b, off, none⟩) len cap] w fun e w' => OpenOut w.heap.size w' Ro e ∧ Below w.heap.size w w' := by
  have hsz := R.size
  have hle := R.le
  have hsl : s < 4294967296 := by rw [← hs]; exact sumB_lt _
  have c0 := R.at 0 (by omega)
  have c1 := R.at 1 (by omega)
  have c2 := R.at 2 (by omega)
  have c3 := R.at 3 (by omega)
  rw [Nat.add_zero, h0] at c0
  rw [h1] at c1
  have b2 := byt_at R.byte 2 (by omega)
  have b3 := byt_at R.byte 3 (by omega)
  have HL : Hid (lenAt zs = (zs.getD 2 0).toNat + 256 * (zs.getD 3 0).toNat) := rfl
  obtain ⟨x, hx⟩ : ∃ x, zs.getD 2 0 = x := ⟨_, rfl⟩
  obtain ⟨y, hy⟩ : ∃ x, zs.getD 3 0 = x := ⟨_, rfl⟩
  rw [hN] at HL
  rw [hx] at HL c2 b2
  rw [hy] at HL c3 b3
  have hxy : x + 256 * y = (N : Int) := by have := HL.out; omega
  have hNb : N ≤ 65535 := by omega
  have hA : (⟨b, off, none⟩ : Addr).add 2 = ⟨b, off + 2, none⟩ := by unfold Addr.add; split <;> simp_all
  have hA4 : (⟨b, off, none⟩ : Addr).add 4 = ⟨b, off + 4, none⟩ := by unfold Addr.add; split <;> simp_all
  have P2 := R.part 2 (4 + N) (by omega) (by omega)
  have P4 := R.part 4 (4 + N) (by omega) (by omega)
  rw [hA] at P2
  rw [hA4] at P4
  have KU := fun w' R' => rsum_any (some ⟨b, off + 2, none⟩) (4 + N - 2) (cap - 2) ((zs.drop 2).take (4 + N - 2)) w' R' (by omega)
  rw [show sumB ((zs.drop 2).take (4 + N - 2)) = s by rw [show 4 + N - 2 = 2 + N by omega]; exact hs] at KU
  have HR : Hid (Row .u8 w (some ⟨b, off, none⟩) len cap zs) := R
  clear R HL hN hx hy h0 h1 hs hA hA4
  go_enter Tryd.func48, Tryd.ntmps48
  go_wp2
  go_quiet (fail)
  obtain ⟨w1, hw1⟩ : ∃ w1, w.drewN nq = w1 := ⟨_, rfl⟩
  rw [hw1]
  have B1 : Below w.heap.size w w1 := by rw [← hw1]; exact below_drewN (Below.refl _ _) _
  have Q2 : Row .u8 w1 (some ⟨b, off + 2, none⟩) (4 + N - 2) (cap - 2) ((zs.drop 2).take (4 + N - 2)) := P2.below B1
  have KU1 := KU w1 Q2
  clear hw1 KU Q2 P2
  go_wp2_with (go_at_call 50; refine KU1.mono ?_; rintro e w' ⟨rfl, hw⟩; rw [hw]; clear hw w' KU1)
  go_loopg [7] 4 (fun g ix wr => ∃ j : Nat, ix = .int .i64 j ∧ j + g = 4 ∧ Hid (∀ i, i < j → SameAt zs N s i) ∧ Below w.heap.size w wr)
  case atStart => exact ⟨0, rfl, rfl, fun i hi => absurd hi (by omega), B1⟩
  case round =>
    obtain ⟨j, rfl, hg, HJ, hB⟩ := hrel
    by_cases h4j : j = 4
    · subst h4j
      have hgd := HGood.out HJ.out
      have HGd : Hid (Ro = .ok ((zs.drop 4).take N, N + 8)) := hgd
      have Q4 : Row .u8 wr (some ⟨b, off + 4, none⟩) (4 + N - 4) (cap - 4) ((zs.drop 4).take (4 + N - 4)) := P4.below hB
      have bw := hB.size
      clear hgd c0 c1 c2 c3
      go_wp2_with (at_builtin; refine wpList_append_row _ rfl _ _ rfl w.heap.size _ [] rfl (Own.nil _ _) _ _ _ _ rfl Q4 bw (by simp; omega) ?_; intro v5 w5 O5 B5)
      go_ret3
      rw [HGd.out]
      simp only [OpenOut]
      exact ⟨⟨_, by first | rfl | (simp; omega), by rw [List.nil_append, show 4 + N - 4 = N by omega] at O5; exact O5⟩, hB.trans B5⟩
    · have hR := HR.out.below hB
      have D := hR.at (4 + N + j) (by have := hR.size; omega)
      have hb := byt_at hR.byte (4 + N + j) (by have := hR.size; omega)
      obtain ⟨z, hz⟩ : ∃ z, zs.getD (4 + N + j) 0 = z := ⟨_, rfl⟩
      rw [hz] at D hb
      clear hR
      have i1 : (4 : Int) + (N : Int) + (j : Int) < (len : Int) := by omega
      have i2 : (0 : Int) ≤ (4 : Int) + (N : Int) + (j : Int) := by omega
      clear c0 c1 c2 c3
      by_cases hE : SameAt zs N s j
      · have HJ2 : Hid (∀ i, i < j + 1 → SameAt zs N s i) := fun i hi => by
          rcases Nat.lt_succ_iff_lt_or_eq.1 hi with h | h
          · exact HJ.out i h
          · rw [h]; exact hE
        have hE2 : z = (s : Int) / 2 ^ (8 * j) % 256 := by rw [← hz, ← div256]; exact hE
        have hq : (z != (s : Int) / 2 ^ (8 * j) % 256) = false := by rw [hE2]; simp
        have h24 : j = 3 → (z != (s : Int) / 16777216) = false := by
          intro e
          subst e
          have : z = (s : Int) / 16777216 := by
            rw [hE2]
            simp only [Nat.reduceMul, Int.reducePow]
            omega
          rw [this]
          simp
        clear hE hz HJ hE2
        rcases (show j = 0 ∨ j = 1 ∨ j = 2 ∨ j = 3 by omega) with rfl | rfl | rfl | rfl
        all_goals
          try have h24' := h24 rfl
          clear h24
          simp only [Nat.mul_zero, Int.pow_zero, Int.ediv_one, Nat.mul_one, Nat.reduceMul, Int.reducePow, Nat.add_zero] at hq D
          go_wp2
          go_quiet (fail)
          go_wp2
          go_roundg (gk - 1)
          case measure => omega
          case rel => exact ⟨_, by first | rfl | go_num, by omega, HJ2, below_drewN hB _⟩
      · have hE2 : z ≠ (s : Int) / 2 ^ (8 * j) % 256 := by rw [← hz, ← div256]; exact hE
        have hq : (z != (s : Int) / 2 ^ (8 * j) % 256) = true := u8_ne hE2
        have h24 : j = 3 → (z != (s : Int) / 16777216) = true := by
          intro e
          subst e
          apply u8_ne
          intro h
          apply hE2
          simp only [Nat.reduceMul, Int.reducePow]
          omega
        have HBd : Hid (Ro = .error 22) := HBad.out j (by omega) hE
        clear hE hz HJ hE2
        rcases (show j = 0 ∨ j = 1 ∨ j = 2 ∨ j = 3 by omega) with rfl | rfl | rfl | rfl
        all_goals
          try have h24' := h24 rfl
          clear h24
          simp only [Nat.mul_zero, Int.pow_zero, Int.ediv_one, Nat.mul_one, Nat.reduceMul, Int.reducePow, Nat.add_zero] at hq D
          go_wp2
          go_quiet (fail)
          go_wp2
          go_ret3
          rw [HBd.out]
          exact ⟨rfl, below_drewN hB _⟩

theorem ropen_any (a : Option Addr) (len cap : Nat) (zs : List Int) (w : World) (R : Row .u8 w a len cap zs) (hl : len ≤ 140737488355328) (hcap : cap ≤ 9223372036854775807) :
    Calls Tryd.prog 48 #[.slice a len cap] w fun e w' => OpenOut w.heap.size w' (opn zs) e ∧ Below w.heap.size w w' := by
  have hsz := R.size
  by_cases c1 : (0 < zs.length ∧ zs.getD 0 0 ≠ 237) ∨ (1 < zs.length ∧ zs.getD 1 0 ≠ 91)
  · have e : opn zs = .error 20 := by unfold opn; rw [if_pos c1]
    rw [e]
    exact ropen_form a len cap zs w R hcap c1
  · by_cases c2 : zs.length < 4
    · have e : opn zs = .error 21 := by unfold opn; rw [if_neg c1, if_pos c2]
      rw [e]
      exact ropen_short a len cap zs w R hcap c1 (by omega)
    · obtain ⟨b, off, rfl, _, _⟩ := R.mem.resolve_left (by omega)
      have h0 : zs.getD 0 0 = 237 := by
        apply Classical.byContradiction
        intro hn
        exact c1 (.inl ⟨by omega, hn⟩)
      have h1 : zs.getD 1 0 = 91 := by
        apply Classical.byContradiction
        intro hn
        exact c1 (.inr ⟨by omega, hn⟩)
      by_cases c3 : zs.length < lenAt zs + 8
      · have e : opn zs = .error 21 := by unfold opn; rw [if_neg c1, if_neg c2, if_pos c3]
        rw [e]
        exact ropen_long b off len cap zs w R hcap hl h0 h1 (by omega) (by omega)
      · have e : opn zs = if (zs.drop (4 + lenAt zs)).take 4 ≠ le4 (sumB ((zs.drop 2).take (2 + lenAt zs))) then .error 22 else .ok ((zs.drop 4).take (lenAt zs), lenAt zs + 8) := by
          unfold opn; rw [if_neg c1, if_neg c2, if_neg c3]
        have k := same_le4 zs (lenAt zs) (sumB ((zs.drop 2).take (2 + lenAt zs))) (by omega)
        refine ropen_full b off len cap zs w R hcap hl h0 h1 (by omega) _ rfl (by omega) _ rfl (opn zs) ?_ ?_
        · intro j hj hn
          rw [e, if_pos]
          intro h
          have := k.1 h
          rcases (show j = 0 ∨ j = 1 ∨ j = 2 ∨ j = 3 by omega) with rfl | rfl | rfl | rfl
          · exact hn this.1
          · exact hn this.2.1
          · exact hn this.2.2.1
          · exact hn this.2.2.2
        · intro h
          rw [e, if_neg]
          simp only [ne_eq, Decidable.not_not]
          exact k.2 ⟨h 0 (by omega), h 1 (by omega), h 2 (by omega), h 3 (by omega)⟩

end Go.Proofs.YticmjlnpjopfbaaDoor.S

namespace Go.Proofs.YticmjlnpjopfbaaDoor
open Go.ChangeShapes Go.WideShapes Go.ChangeAt Go.RowKit
open S (Tab Row Byt opn bv)
set_option linter.unusedVariables false
set_option linter.unusedSimpArgs false

theorem ropen_own {base : Nat} {w : World} {v : Value} {zs : List Int} (h : S.Own base w v zs) (hb : Byt zs) (hl : zs.length ≤ 65535) : Calls Tryd.prog 49 #[v] w fun e w' => DecOut w.heap.size w' (openP zs) e ∧ Below w.heap.size w w' := by
  obtain ⟨a, cap, rfl, R⟩ := C.Own.row (base := base) (w := w) (v := v) (zs := zs) h hb
  exact ropen_any a zs.length cap zs w R (by omega) (S.Own.cap h).2.2 hb
set_option maxRecDepth 100000 in
set_option maxHeartbeats 2000000 in
theorem rdecode_any (a : Option Addr) (len cap : Nat) (zs : List Int) (w : World) (R : Row .u8 w a len cap zs) (hl : len ≤ 140737488355328) (hcap : cap ≤ 9223372036854775807) :
    Calls Tryd.prog 22 #[.slice a len cap] w fun e w' => DecOut w.heap.size w' (decP zs) e ∧ Below w.heap.size w w' := by
  cases ho : opn zs with
  | error c =>
    have hd : decP zs = .error c := by unfold decP; rw [ho]
    rw [hd]
    have hc := ne_of_opn ho
    have KO : ∀ w1, Row .u8 w1 a len cap zs → Calls Tryd.prog 48 #[.slice a len cap] w1 fun e w' => e = .returned (.tuple #[.slice none 0 0, .int .i64 0, .int .i64 c]) ∧ Below w1.heap.size w1 w' := fun w1 R1 => by
      have := S.ropen_any a len cap zs w1 R1 hl hcap
      rw [ho] at this
      exact this
    go_enter Tryd.func22, Tryd.ntmps22
    go_wp2_with (first
      | (go_at_call 48; refine (KO _ (R.alloc _)).mono ?_; rintro e w1 ⟨rfl, hb1⟩; have G1 := (hb1.block w.heap.size (by simp)).trans (World.alloc_heap_new _ _))
      | ((with_reducible show wpList _ _ _ (Oper.mk _ (Op.store 24 _ _) _ _ _ _ :: _) _ _); refine wpList_store_row rfl 24 _ _ rfl w.heap.size zPk rfl rfl 24 _ G1 (by kernel_rfl) rfl (by simp [zPk, Value.oneCell']) ?_))
    have B1 : Below w.heap.size w w1 := ((Below.refl _ _).alloc (Nat.le_refl _) _).trans (hb1.mono (by simp))
    refine bodyPost_ret (results_cell_tmp rfl _ _ w.heap.size 24 zPk (0, 0) _ rfl (setRow_heap _ _ _ _ _ _ G1) Tryd.underlying24 rfl (by kernel_rfl)) rfl ⟨?_, ?_⟩
    · show _ = _; rfl
    exact setRow_below B1 G1 _
  | ok q =>
    obtain ⟨b, n⟩ := q
    have hby : Byt zs := R.byte
    obtain ⟨hb1, hb2⟩ := opn_body hby ho
    have hsz := R.size
    have hnp := (S.opn_pos ho).2
    have KO : ∀ w1, Row .u8 w1 a len cap zs → Calls Tryd.prog 48 #[.slice a len cap] w1 fun e w' => (∃ v, e = .returned (.tuple #[v, .int .i64 n, .int .i64 0]) ∧ S.Own w1.heap.size w' v b) ∧ Below w1.heap.size w1 w' := fun w1 R1 => by
      have := S.ropen_any a len cap zs w1 R1 hl hcap
      rw [ho] at this
      exact this
    by_cases hn : n < len
    · have hd : decP zs = .error 20 := by unfold decP; rw [ho]; simp only; rw [if_pos (by omega)]
      rw [hd]
      have hnI : ((n : Int) != (len : Int)) = true := by simp; omega
      go_enter Tryd.func22, Tryd.ntmps22
      go_wp2_with (first
        | (go_at_call 48; refine (KO _ (R.alloc _)).mono ?_; rintro e w1 ⟨⟨v1, rfl, O1⟩, hb1⟩; obtain ⟨a1, c1, rfl⟩ := S.own_len O1; have G1 := (hb1.block w.heap.size (by simp)).trans (World.alloc_heap_new _ _))
        | ((with_reducible show wpList _ _ _ (Oper.mk _ (Op.store 24 _ _) _ _ _ _ :: _) _ _); refine wpList_store_row rfl 24 _ _ rfl w.heap.size zPk rfl rfl 24 _ G1 (by kernel_rfl) rfl (by simp [zPk, Value.oneCell']) ?_))
      have B1 : Below w.heap.size w w1 := ((Below.refl _ _).alloc (Nat.le_refl _) _).trans (hb1.mono (by simp))
      refine bodyPost_ret (results_cell_tmp rfl _ _ w.heap.size 24 zPk (0, 0) _ rfl (setRow_heap _ _ _ _ _ _ G1) Tryd.underlying24 rfl (by kernel_rfl)) rfl ⟨?_, ?_⟩
      · show _ = _; rfl
      exact setRow_below B1 G1 _
    · have hd : decP zs = openP b := by unfold decP; rw [ho]; simp only; rw [if_neg (by omega)]
      rw [hd]
      have hnI : ((n : Int) != (len : Int)) = false := by simp; omega
      go_enter Tryd.func22, Tryd.ntmps22
      cases hr : openP b with
      | error c =>
        go_wp2_with (first
          | (go_at_call 48; refine (KO _ (R.alloc _)).mono ?_; rintro e w1 ⟨⟨v1, rfl, O1⟩, hb1'⟩; have KR := ropen_own O1 hb1 hb2; rw [hr] at KR; obtain ⟨a1, c1, rfl⟩ := S.own_len O1; have G1 := (hb1'.block w.heap.size (by simp)).trans (World.alloc_heap_new _ _))
          | (go_at_call 49; refine KR.mono ?_; rintro e w2 ⟨hd2, hb3⟩; obtain rfl := hd2; have G2 := (hb3.block w.heap.size (Array.getElem?_eq_some_iff.1 G1).1).trans G1)
          | ((with_reducible show wpList _ _ _ (Oper.mk _ (Op.store 24 _ _) _ _ _ _ :: _) _ _); refine wpList_store_row rfl 24 _ _ rfl w.heap.size zPk rfl rfl 24 _ G2 (by kernel_rfl) rfl (by simp [zPk, Value.oneCell']) ?_))
        have B1 : Below w.heap.size w w1 := ((Below.refl _ _).alloc (Nat.le_refl _) _).trans (hb1'.mono (by simp))
        have B2 : Below w.heap.size w w2 := B1.trans (hb3.mono B1.size)
        refine bodyPost_ret (results_cell_tmp rfl _ _ w.heap.size 24 zPk (0, 0) _ rfl (setRow_heap _ _ _ _ _ _ G2) Tryd.underlying24 rfl (by kernel_rfl)) rfl ⟨?_, ?_⟩
        · show _ = _; rfl
        exact setRow_below B2 G2 _
      | ok p =>
        go_wp2_with (first
          | (go_at_call 48; refine (KO _ (R.alloc _)).mono ?_; rintro e w1 ⟨⟨v1, rfl, O1⟩, hb1'⟩; have KR := ropen_own O1 hb1 hb2; rw [hr] at KR; obtain ⟨a1, c1, rfl⟩ := S.own_len O1; have G1 := (hb1'.block w.heap.size (by simp)).trans (World.alloc_heap_new _ _))
          | (go_at_call 49; refine KR.mono ?_; rintro e w2 ⟨⟨a2, n2, cap2, rfl, hag, RI2⟩, hb3⟩; have G2 := (hb3.block w.heap.size (Array.getElem?_eq_some_iff.1 G1).1).trans G1)
          | ((with_reducible show wpList _ _ _ (Oper.mk _ (Op.store 24 _ _) _ _ _ _ :: _) _ _); refine wpList_store_row rfl 24 _ _ rfl w.heap.size (pkc p a2 n2 cap2).toArray rfl rfl 24 _ G2 (by kernel_rfl) rfl (by simp [pkc, Value.oneCell']) ?_))
        have B1 : Below w.heap.size w w1 := ((Below.refl _ _).alloc (Nat.le_refl _) _).trans (hb1'.mono (by simp))
        have B2 : Below w.heap.size w w2 := B1.trans (hb3.mono B1.size)
        refine bodyPost_ret (results_cell_tmp rfl _ _ w.heap.size 24 (pkc p a2 n2 cap2).toArray (0, 0) _ rfl (setRow_heap _ _ _ _ _ _ G2) Tryd.underlying24 rfl (by kernel_rfl)) rfl ⟨⟨a2, n2, cap2, ?_, hag.imp id fun ⟨g, h, hm⟩ => ⟨g, h, Nat.le_trans B1.size hm⟩, ?_⟩, setRow_below B2 G2 _⟩
        · rfl
        refine RowI.setRow (w0 := w) (Z := #[]) (t := 0) RI2 _ ?_ _
        have := (Array.getElem?_eq_some_iff.1 G1).1
        rintro b' off rfl rfl
        rcases hag with h | ⟨g, h, hm⟩ <;> cases h
        omega
end Go.Proofs.YticmjlnpjopfbaaDoor

namespace Go.Proofs.YticmjlnpjopfbaaDoor
open Go.ChangeShapes Go.WideShapes Go.ChangeAt Go.RowKit
set_option linter.unusedVariables false
set_option linter.unusedSimpArgs false

def sameI (x y : Itm) : Bool := (((x.name.toList == y.name.toList) && ((x.epoch == y.epoch) && ((x.maker == y.maker) && ((x.alive == y.alive) && ((x.kind == y.kind) && ((x.scale == y.scale) && true)))))) && (((x.ver == y.ver) && ((x.writer == y.writer) && ((x.flow == y.flow) && true))) && ((x.hasRest == y.hasRest) && ((x.rest == y.rest) && (((x.mn.has == y.mn.has) && ((x.mn.value == y.mn.value) && ((x.mn.origin == y.mn.origin) && ((x.mn.age == y.mn.age) && true)))) && (((x.mx.has == y.mx.has) && ((x.mx.value == y.mx.value) && ((x.mx.origin == y.mx.origin) && ((x.mx.age == y.mx.age) && true)))) && true))))))
theorem bytes_ext {a b : ByteArray} (h : a.toList = b.toList) : a = b := by
  cases a; cases b; simp [ByteArray.toList_eq] at h; simpa using h
theorem sameI_iff (x y : Itm) : sameI x y = true ↔ x = y := by
  constructor
  · intro h
    simp only [sameI, Bool.and_eq_true, beq_iff_eq, Bool.and_true] at h
    obtain ⟨⟨h0, h1, h2, h3, h4, h5⟩, ⟨h6, h7, h8⟩, h9, h10, ⟨h11, h12, h13, h14⟩, h15, h16, h17, h18⟩ := h
    have h0 := bytes_ext h0
    obtain ⟨x0, x1, x2, x3, x4, x5, x6, x7, x8, x9, x10, ⟨x11, x12, x13, x14⟩, x15, x16, x17, x18⟩ := x
    obtain ⟨y0, y1, y2, y3, y4, y5, y6, y7, y8, y9, y10, ⟨y11, y12, y13, y14⟩, y15, y16, y17, y18⟩ := y
    simp_all
  · rintro rfl
    simp [sameI]
theorem neq_it (w : World) (x y : Itm) : (binOp .neq 38 (itv x) (itv y)).run Tryd.prog w = .ok (.bool (!sameI x y)) w := neq38 w _ _ _ _ _ _ _ _ _ _ _ _ _ _ _ _ _ _ _ _ _ _ _ _ _ _ _ _ _ _ _ _ _ _ _ _ _ _
theorem eql_it (w : World) (x y : Itm) : (binOp .eql 38 (itv x) (itv y)).run Tryd.prog w = .ok (.bool (sameI x y)) w := eql38 w _ _ _ _ _ _ _ _ _ _ _ _ _ _ _ _ _ _ _ _ _ _ _ _ _ _ _ _ _ _ _ _ _ _ _ _ _ _
theorem exec_neqit {o : Oper} {ρ : Operand → Value} {a b : Operand} (ho : o.op = .binOp .neq 38 a b 38) (x y : Itm) (hx : ρ a = itv x) (hy : ρ b = itv y) (X : World) : (execOp ρ o).run Tryd.prog X = .ok (.value (.bool (!sameI x y))) X := by
  have hm : Tryd.prog.eqGuardType Tryd.prog.depth 38 = false := by kernel_rfl
  have hn := neq_it X x y
  unfold itv at hx hy hn
  unfold execOp
  simp only [ho, hx, hy, Sem.run_bind, run_eqGuard_agg _ _ _ _ _ _ _ hm, hn, Result.andThen_ok, Sem.run_pure]
set_option maxRecDepth 100000 in
set_option maxHeartbeats 4000000 in
theorem rsame_h0 (p q : Pkt) (a a2 : Option Addr) (len cap len2 cap2 : Nat) (w : World) (R : RowI w a len cap p.items) (R2 : RowI w a2 len2 cap2 q.items)  (e0 : (p.kind != q.kind) = true) : Calls Tryd.prog 14 #[pkv p a len cap, pkv q a2 len2 cap2] w fun e w' => e = .returned (.bool false) ∧ Below w.heap.size w w' := by
  clear R R2
  go_enter Tryd.func14, Tryd.ntmps14
  go_wp2
  all_goals go_ret
  all_goals exact ⟨by first | rfl | exact C.ret_bool (by simp_all), ((Below.refl _ _).alloc (Nat.le_refl _) _).alloc (by simp) _⟩
set_option maxRecDepth 100000 in
set_option maxHeartbeats 4000000 in
theorem rsame_h1 (p q : Pkt) (a a2 : Option Addr) (len cap len2 cap2 : Nat) (w : World) (R : RowI w a len cap p.items) (R2 : RowI w a2 len2 cap2 q.items) (e0 : (p.kind != q.kind) = false) (e1 : (p.src != q.src) = true) : Calls Tryd.prog 14 #[pkv p a len cap, pkv q a2 len2 cap2] w fun e w' => e = .returned (.bool false) ∧ Below w.heap.size w w' := by
  clear R R2
  go_enter Tryd.func14, Tryd.ntmps14
  go_wp2
  all_goals go_ret
  all_goals exact ⟨by first | rfl | exact C.ret_bool (by simp_all), ((Below.refl _ _).alloc (Nat.le_refl _) _).alloc (by simp) _⟩
set_option maxRecDepth 100000 in
set_option maxHeartbeats 4000000 in
theorem rsame_h2 (p q : Pkt) (a a2 : Option Addr) (len cap len2 cap2 : Nat) (w : World) (R : RowI w a len cap p.items) (R2 : RowI w a2 len2 cap2 q.items) (e0 : (p.kind != q.kind) = false) (e1 : (p.src != q.src) = false) (e2 : (p.dst != q.dst) = true) : Calls Tryd.prog 14 #[pkv p a len cap, pkv q a2 len2 cap2] w fun e w' => e = .returned (.bool false) ∧ Below w.heap.size w w' := by
  clear R R2
  go_enter Tryd.func14, Tryd.ntmps14
  go_wp2
  all_goals go_ret
  all_goals exact ⟨by first | rfl | exact C.ret_bool (by simp_all), ((Below.refl _ _).alloc (Nat.le_refl _) _).alloc (by simp) _⟩
set_option maxRecDepth 100000 in
set_option maxHeartbeats 4000000 in
theorem rsame_h3 (p q : Pkt) (a a2 : Option Addr) (len cap len2 cap2 : Nat) (w : World) (R : RowI w a len cap p.items) (R2 : RowI w a2 len2 cap2 q.items) (e0 : (p.kind != q.kind) = false) (e1 : (p.src != q.src) = false) (e2 : (p.dst != q.dst) = false) (e3 : (p.boot != q.boot) = true) : Calls Tryd.prog 14 #[pkv p a len cap, pkv q a2 len2 cap2] w fun e w' => e = .returned (.bool false) ∧ Below w.heap.size w w' := by
  clear R R2
  go_enter Tryd.func14, Tryd.ntmps14
  go_wp2
  all_goals go_ret
  all_goals exact ⟨by first | rfl | exact C.ret_bool (by simp_all), ((Below.refl _ _).alloc (Nat.le_refl _) _).alloc (by simp) _⟩
set_option maxRecDepth 100000 in
set_option maxHeartbeats 4000000 in
theorem rsame_h4 (p q : Pkt) (a a2 : Option Addr) (len cap len2 cap2 : Nat) (w : World) (R : RowI w a len cap p.items) (R2 : RowI w a2 len2 cap2 q.items) (e0 : (p.kind != q.kind) = false) (e1 : (p.src != q.src) = false) (e2 : (p.dst != q.dst) = false) (e3 : (p.boot != q.boot) = false) (e4 : (p.life != q.life) = true) : Calls Tryd.prog 14 #[pkv p a len cap, pkv q a2 len2 cap2] w fun e w' => e = .returned (.bool false) ∧ Below w.heap.size w w' := by
  clear R R2
  go_enter Tryd.func14, Tryd.ntmps14
  go_wp2
  all_goals go_ret
  all_goals exact ⟨by first | rfl | exact C.ret_bool (by simp_all), ((Below.refl _ _).alloc (Nat.le_refl _) _).alloc (by simp) _⟩
set_option maxRecDepth 100000 in
set_option maxHeartbeats 4000000 in
theorem rsame_h5 (p q : Pkt) (a a2 : Option Addr) (len cap len2 cap2 : Nat) (w : World) (R : RowI w a len cap p.items) (R2 : RowI w a2 len2 cap2 q.items) (e0 : (p.kind != q.kind) = false) (e1 : (p.src != q.src) = false) (e2 : (p.dst != q.dst) = false) (e3 : (p.boot != q.boot) = false) (e4 : (p.life != q.life) = false) (e5 : (p.echo != q.echo) = true) : Calls Tryd.prog 14 #[pkv p a len cap, pkv q a2 len2 cap2] w fun e w' => e = .returned (.bool false) ∧ Below w.heap.size w w' := by
  clear R R2
  go_enter Tryd.func14, Tryd.ntmps14
  go_wp2
  all_goals go_ret
  all_goals exact ⟨by first | rfl | exact C.ret_bool (by simp_all), ((Below.refl _ _).alloc (Nat.le_refl _) _).alloc (by simp) _⟩
set_option maxRecDepth 100000 in
set_option maxHeartbeats 4000000 in
theorem rsame_h6 (p q : Pkt) (a a2 : Option Addr) (len cap len2 cap2 : Nat) (w : World) (R : RowI w a len cap p.items) (R2 : RowI w a2 len2 cap2 q.items) (e0 : (p.kind != q.kind) = false) (e1 : (p.src != q.src) = false) (e2 : (p.dst != q.dst) = false) (e3 : (p.boot != q.boot) = false) (e4 : (p.life != q.life) = false) (e5 : (p.echo != q.echo) = false) (e6 : (p.echoLife != q.echoLife) = true) : Calls Tryd.prog 14 #[pkv p a len cap, pkv q a2 len2 cap2] w fun e w' => e = .returned (.bool false) ∧ Below w.heap.size w w' := by
  clear R R2
  go_enter Tryd.func14, Tryd.ntmps14
  go_wp2
  all_goals go_ret
  all_goals exact ⟨by first | rfl | exact C.ret_bool (by simp_all), ((Below.refl _ _).alloc (Nat.le_refl _) _).alloc (by simp) _⟩
set_option maxRecDepth 100000 in
set_option maxHeartbeats 4000000 in
theorem rsame_l (p q : Pkt) (a a2 : Option Addr) (len cap len2 cap2 : Nat) (w : World) (R : RowI w a len cap p.items) (R2 : RowI w a2 len2 cap2 q.items) (e0 : (p.kind != q.kind) = false) (e1 : (p.src != q.src) = false) (e2 : (p.dst != q.dst) = false) (e3 : (p.boot != q.boot) = false) (e4 : (p.life != q.life) = false) (e5 : (p.echo != q.echo) = false) (e6 : (p.echoLife != q.echoLife) = false) (e7 : ((len : Int) != (len2 : Int)) = true) : Calls Tryd.prog 14 #[pkv p a len cap, pkv q a2 len2 cap2] w fun e w' => e = .returned (.bool false) ∧ Below w.heap.size w w' := by
  clear R R2
  go_enter Tryd.func14, Tryd.ntmps14
  go_wp2
  all_goals go_ret
  all_goals exact ⟨by first | rfl | exact C.ret_bool (by simp_all), ((Below.refl _ _).alloc (Nat.le_refl _) _).alloc (by simp) _⟩
set_option maxRecDepth 100000 in
set_option maxHeartbeats 4000000 in
theorem rsame_its (p q : Pkt) (a a2 : Option Addr) (len cap cap2 : Nat) (w : World) (R : RowI w a len cap p.items) (R2 : RowI w a2 len cap2 q.items) (e0 : (p.kind != q.kind) = false) (e1 : (p.src != q.src) = false) (e2 : (p.dst != q.dst) = false) (e3 : (p.boot != q.boot) = false) (e4 : (p.life != q.life) = false) (e5 : (p.echo != q.echo) = false) (e6 : (p.echoLife != q.echoLife) = false) (e7 : ((len : Int) != (len : Int)) = false) (r : Bool) (hr : r = true ↔ p.items = q.items) : Calls Tryd.prog 14 #[pkv p a len cap, pkv q a2 len cap2] w fun e w' => e = .returned (.bool r) ∧ Below w.heap.size w w' := by
  have B1 : Below w.heap.size w ((w.alloc (pkObj p a len cap)).alloc (pkObj q a2 len cap2)) := ((Below.refl _ _).alloc (Nat.le_refl _) _).alloc (by simp) _
  have HR : Hid (RowI ((w.alloc (pkObj p a len cap)).alloc (pkObj q a2 len cap2)) a len cap p.items) := (R.alloc _).alloc _
  have HR2 : Hid (RowI ((w.alloc (pkObj p a len cap)).alloc (pkObj q a2 len cap2)) a2 len cap2 q.items) := (R2.alloc _).alloc _
  have HPK : Hid (PkAt ((w.alloc (pkObj p a len cap)).alloc (pkObj q a2 len cap2)) w.heap.size p a len cap) := (pkAt_new w p a len cap).below ((Below.refl _ _).alloc (Nat.le_refl _) _)
  have HQK : Hid (PkAt ((w.alloc (pkObj p a len cap)).alloc (pkObj q a2 len cap2)) (w.heap.size + 1) q a2 len cap2) := by have := pkAt_new (w.alloc (pkObj p a len cap)) q a2 len cap2; rw [World.size_alloc] at this; exact this
  have HL : Hid (p.items.length = len) := R.size
  have HL2 : Hid (q.items.length = len) := R2.size
  have hle := R.le
  have hcp := R.max
  have hle2 := R2.le
  have hcp2 := R2.max
  have HRr : Hid (r = true ↔ p.items = q.items) := hr
  clear R R2 hr
  go_enter Tryd.func14, Tryd.ntmps14
  go_wp2
  clear e0 e1 e2 e3 e4 e5 e6 e7
  obtain ⟨W0, hW0⟩ : ∃ W0, (w.alloc (pkObj p a len cap)).alloc (pkObj q a2 len cap2) = W0 := ⟨_, rfl⟩
  have hz0 : w.heap.size + 1 < W0.heap.size := by rw [← hW0]; simp
  rw [hW0] at HR HR2 HPK HQK B1 ⊢
  clear hW0
  go_loopg [5] len (fun g c wr => ∃ i : Nat, c = .int .i64 i ∧ i + g = len ∧ Hid (∀ j, j < i → p.items.getD j itZ = q.items.getD j itZ) ∧ Below W0.heap.size W0 wr)
  case atStart => exact ⟨0, rfl, by omega, fun j hj => by omega, Below.refl _ _⟩
  case round =>
    obtain ⟨i, rfl, hg, HA, hB⟩ := hrel
    have HG : Hid (i + gk = len) := hg
    have hi8 : i ≤ len := by omega
    clear hg
    have PK := HPK.out.below hB
    have QK := HQK.out.below hB
    have c7 := PK 7 _ rfl
    by_cases hlt : i < len
    · have hI64 : (i : Int) < (len : Int) := by omega
      obtain ⟨b, off, rfl, hbz, hIt⟩ := (HR.out.below hB).mem.resolve_left (by omega)
      obtain ⟨b2, off2, rfl, hbz2, hIt2⟩ := (HR2.out.below hB).mem.resolve_left (by omega)
      have Ix0 := hIt i hlt
      have Iy0 := hIt2 i hlt
      obtain ⟨x, hx⟩ : ∃ x, p.items.getD i itZ = x := ⟨_, rfl⟩
      obtain ⟨y, hy⟩ : ∃ y, q.items.getD i itZ = y := ⟨_, rfl⟩
      rw [hx] at Ix0
      rw [hy] at Iy0
      have HX : Hid (p.items.getD i itZ = x) := hx
      have HY : Hid (q.items.getD i itZ = y) := hy
      clear hx hy
      obtain ⟨wd, hwd⟩ : ∃ wd, World.drew wr = wd := ⟨_, rfl⟩
      have Bd : Below W0.heap.size W0 wd := by rw [← hwd]; exact hB.drew
      have PKr : PkAt wd w.heap.size p (some ⟨b, off, none⟩) len cap := by rw [← hwd]; exact PK.of_block rfl
      have QKr : PkAt wd (w.heap.size + 1) q (some ⟨b2, off2, none⟩) len cap2 := by rw [← hwd]; exact QK.of_block rfl
      have Ix : ItAt wd b (off + i * 19) x := by rw [← hwd]; exact Ix0.drew
      have Iy : ItAt wd b2 (off2 + i * 19) y := by rw [← hwd]; exact Iy0.drew
      cases hsame : sameI x y with
      | false =>
        have HE : Hid (r = false) := by
          show _ = _
          cases r with
          | false => rfl
          | true =>
            have h := HRr.out.1 rfl
            have h1 := HX.out
            rw [h, HY.out] at h1
            rw [(sameI_iff x y).2 h1.symm] at hsame
            cases hsame
        go_wp2
        refine wp_region_any (by kernel_rfl) ?_
        change wpAny _ _ _ _ _ _ _ (World.drew _)
        rw [hwd]
        refine S.wpAny_narrow (fun X => Below wd.heap.size wd X) _ _ _ _ ?_
        refine S.anyH_take 0 69 (.pointer (some ⟨w.heap.size, 7, none⟩)) rfl rfl (by kernel_rfl) (by kernel_rfl) (by kernel_rfl) (fun _ _ _ h => h) (Or.inl ⟨by rfl, by intro w hSw; go_simp⟩) (Below.refl _ _) ?_
        try simp only [Act.put, List.setIfInBounds_toArray, List.set_cons_zero, List.set_cons_succ]
        refine S.anyH_take 1 70 (.slice (some ⟨b, off, none⟩) len cap) rfl rfl (by kernel_rfl) (by kernel_rfl) (by kernel_rfl) (fun _ _ _ h => h) (Or.inl ⟨by rfl, by intro w hSw; have q7 := (PKr.below hSw) 7 _ rfl; go_simp⟩) (Below.refl _ _) ?_
        try simp only [Act.put, List.setIfInBounds_toArray, List.set_cons_zero, List.set_cons_succ]
        refine S.anyH_take 2 71 (.int .i64 (i : Int)) rfl rfl (by kernel_rfl) (by kernel_rfl) (by kernel_rfl) (fun _ _ _ h => h) (Or.inl ⟨by rfl, by intro w hSw; go_simp⟩) (Below.refl _ _) ?_
        try simp only [Act.put, List.setIfInBounds_toArray, List.set_cons_zero, List.set_cons_succ]
        refine S.anyH_take 3 72 (.pointer (some ⟨b, off + i * 19, none⟩)) rfl rfl (by kernel_rfl) (by kernel_rfl) (by kernel_rfl) (fun _ _ _ h => h) (Or.inl ⟨by rfl, by intro w hSw; go_simp⟩) (Below.refl _ _) ?_
        try simp only [Act.put, List.setIfInBounds_toArray, List.set_cons_zero, List.set_cons_succ]
        refine S.anyH_take 4 73 (itv x) rfl rfl (by kernel_rfl) (by kernel_rfl) (by kernel_rfl) (fun _ _ _ h => h) (Or.inl ⟨by rfl, by intro w' hSw; exact exec_load38 rfl rfl (Ix.below hSw)⟩) (Below.refl _ _) ?_
        try simp only [Act.put, List.setIfInBounds_toArray, List.set_cons_zero, List.set_cons_succ]
        refine S.anyH_take 5 74 (.pointer (some ⟨w.heap.size + 1, 7, none⟩)) rfl rfl (by kernel_rfl) (by kernel_rfl) (by kernel_rfl) (fun _ _ _ h => h) (Or.inl ⟨by rfl, by intro w hSw; go_simp⟩) (Below.refl _ _) ?_
        try simp only [Act.put, List.setIfInBounds_toArray, List.set_cons_zero, List.set_cons_succ]
        refine S.anyH_take 6 75 (.slice (some ⟨b2, off2, none⟩) len cap2) rfl rfl (by kernel_rfl) (by kernel_rfl) (by kernel_rfl) (fun _ _ _ h => h) (Or.inl ⟨by rfl, by intro w hSw; have q7 := (QKr.below hSw) 7 _ rfl; go_simp⟩) (Below.refl _ _) ?_
        try simp only [Act.put, List.setIfInBounds_toArray, List.set_cons_zero, List.set_cons_succ]
        refine S.anyH_take 7 76 (.int .i64 (i : Int)) rfl rfl (by kernel_rfl) (by kernel_rfl) (by kernel_rfl) (fun _ _ _ h => h) (Or.inl ⟨by rfl, by intro w hSw; go_simp⟩) (Below.refl _ _) ?_
        try simp only [Act.put, List.setIfInBounds_toArray, List.set_cons_zero, List.set_cons_succ]
        refine S.anyH_take 8 77 (.pointer (some ⟨b2, off2 + i * 19, none⟩)) rfl rfl (by kernel_rfl) (by kernel_rfl) (by kernel_rfl) (fun _ _ _ h => h) (Or.inl ⟨by rfl, by intro w hSw; go_simp⟩) (Below.refl _ _) ?_
        try simp only [Act.put, List.setIfInBounds_toArray, List.set_cons_zero, List.set_cons_succ]
        refine S.anyH_take 9 78 (itv y) rfl rfl (by kernel_rfl) (by kernel_rfl) (by kernel_rfl) (fun _ _ _ h => h) (Or.inl ⟨by rfl, by intro w' hSw; exact exec_load38 rfl rfl (Iy.below hSw)⟩) (Below.refl _ _) ?_
        try simp only [Act.put, List.setIfInBounds_toArray, List.set_cons_zero, List.set_cons_succ]
        refine S.anyH_take 10 79 (.bool true) rfl rfl (by kernel_rfl) (by kernel_rfl) (by kernel_rfl) (fun _ _ _ h => h) (Or.inl ⟨by rfl, by intro w9 hSw; exact (exec_neqit rfl x y rfl rfl w9).trans (by rw [hsame]; rfl)⟩) (Below.refl _ _) ?_
        try simp only [Act.put, List.setIfInBounds_toArray, List.set_cons_zero, List.set_cons_succ]
        refine wpAnyH_done (by kernel_rfl) ?_ _
        go_wp2
        go_ret
        rw [HE.out]
        exact ⟨rfl, B1.trans (Bd.mono (by omega))⟩
      | true =>
        have HXY : Hid (x = y) := (sameI_iff x y).1 hsame
        go_wp2
        refine wp_region_any (by kernel_rfl) ?_
        change wpAny _ _ _ _ _ _ _ (World.drew _)
        rw [hwd]
        refine S.wpAny_narrow (fun X => Below wd.heap.size wd X) _ _ _ _ ?_
        refine S.anyH_take 0 69 (.pointer (some ⟨w.heap.size, 7, none⟩)) rfl rfl (by kernel_rfl) (by kernel_rfl) (by kernel_rfl) (fun _ _ _ h => h) (Or.inl ⟨by rfl, by intro w hSw; go_simp⟩) (Below.refl _ _) ?_
        try simp only [Act.put, List.setIfInBounds_toArray, List.set_cons_zero, List.set_cons_succ]
        refine S.anyH_take 1 70 (.slice (some ⟨b, off, none⟩) len cap) rfl rfl (by kernel_rfl) (by kernel_rfl) (by kernel_rfl) (fun _ _ _ h => h) (Or.inl ⟨by rfl, by intro w hSw; have q7 := (PKr.below hSw) 7 _ rfl; go_simp⟩) (Below.refl _ _) ?_
        try simp only [Act.put, List.setIfInBounds_toArray, List.set_cons_zero, List.set_cons_succ]
        refine S.anyH_take 2 71 (.int .i64 (i : Int)) rfl rfl (by kernel_rfl) (by kernel_rfl) (by kernel_rfl) (fun _ _ _ h => h) (Or.inl ⟨by rfl, by intro w hSw; go_simp⟩) (Below.refl _ _) ?_
        try simp only [Act.put, List.setIfInBounds_toArray, List.set_cons_zero, List.set_cons_succ]
        refine S.anyH_take 3 72 (.pointer (some ⟨b, off + i * 19, none⟩)) rfl rfl (by kernel_rfl) (by kernel_rfl) (by kernel_rfl) (fun _ _ _ h => h) (Or.inl ⟨by rfl, by intro w hSw; go_simp⟩) (Below.refl _ _) ?_
        try simp only [Act.put, List.setIfInBounds_toArray, List.set_cons_zero, List.set_cons_succ]
        refine S.anyH_take 4 73 (itv x) rfl rfl (by kernel_rfl) (by kernel_rfl) (by kernel_rfl) (fun _ _ _ h => h) (Or.inl ⟨by rfl, by intro w' hSw; exact exec_load38 rfl rfl (Ix.below hSw)⟩) (Below.refl _ _) ?_
        try simp only [Act.put, List.setIfInBounds_toArray, List.set_cons_zero, List.set_cons_succ]
        refine S.anyH_take 5 74 (.pointer (some ⟨w.heap.size + 1, 7, none⟩)) rfl rfl (by kernel_rfl) (by kernel_rfl) (by kernel_rfl) (fun _ _ _ h => h) (Or.inl ⟨by rfl, by intro w hSw; go_simp⟩) (Below.refl _ _) ?_
        try simp only [Act.put, List.setIfInBounds_toArray, List.set_cons_zero, List.set_cons_succ]
        refine S.anyH_take 6 75 (.slice (some ⟨b2, off2, none⟩) len cap2) rfl rfl (by kernel_rfl) (by kernel_rfl) (by kernel_rfl) (fun _ _ _ h => h) (Or.inl ⟨by rfl, by intro w hSw; have q7 := (QKr.below hSw) 7 _ rfl; go_simp⟩) (Below.refl _ _) ?_
        try simp only [Act.put, List.setIfInBounds_toArray, List.set_cons_zero, List.set_cons_succ]
        refine S.anyH_take 7 76 (.int .i64 (i : Int)) rfl rfl (by kernel_rfl) (by kernel_rfl) (by kernel_rfl) (fun _ _ _ h => h) (Or.inl ⟨by rfl, by intro w hSw; go_simp⟩) (Below.refl _ _) ?_
        try simp only [Act.put, List.setIfInBounds_toArray, List.set_cons_zero, List.set_cons_succ]
        refine S.anyH_take 8 77 (.pointer (some ⟨b2, off2 + i * 19, none⟩)) rfl rfl (by kernel_rfl) (by kernel_rfl) (by kernel_rfl) (fun _ _ _ h => h) (Or.inl ⟨by rfl, by intro w hSw; go_simp⟩) (Below.refl _ _) ?_
        try simp only [Act.put, List.setIfInBounds_toArray, List.set_cons_zero, List.set_cons_succ]
        refine S.anyH_take 9 78 (itv y) rfl rfl (by kernel_rfl) (by kernel_rfl) (by kernel_rfl) (fun _ _ _ h => h) (Or.inl ⟨by rfl, by intro w' hSw; exact exec_load38 rfl rfl (Iy.below hSw)⟩) (Below.refl _ _) ?_
        try simp only [Act.put, List.setIfInBounds_toArray, List.set_cons_zero, List.set_cons_succ]
        refine S.anyH_take 10 79 (.bool false) rfl rfl (by kernel_rfl) (by kernel_rfl) (by kernel_rfl) (fun _ _ _ h => h) (Or.inl ⟨by rfl, by intro w9 hSw; exact (exec_neqit rfl x y rfl rfl w9).trans (by rw [hsame]; rfl)⟩) (Below.refl _ _) ?_
        try simp only [Act.put, List.setIfInBounds_toArray, List.set_cons_zero, List.set_cons_succ]
        refine wpAnyH_done (by kernel_rfl) ?_ _
        go_wp2
        go_roundg (gk - 1)
        case measure => have := HG.out; omega
        case rel =>
          refine ⟨i + 1, by first | rfl | go_num, by have := HG.out; omega, ?_, Bd⟩
          intro j hj
          by_cases e : j = i
          · rw [e, HX.out, HY.out, HXY.out]
          · exact HA.out j (by omega)
    · have HE : Hid (r = true) := by
        show _ = _
        refine HRr.out.2 ?_
        apply List.ext_getElem?
        intro j
        by_cases hj : j < len
        · have h := HA.out j (by omega)
          have l1 := HL.out
          have l2 := HL2.out
          rw [List.getD_eq_getElem?_getD, List.getD_eq_getElem?_getD, List.getElem?_eq_getElem (by omega), List.getElem?_eq_getElem (by omega)] at h
          rw [List.getElem?_eq_getElem (by omega), List.getElem?_eq_getElem (by omega)]
          exact congrArg some h
        · rw [List.getElem?_eq_none (by have := HL.out; omega), List.getElem?_eq_none (by have := HL2.out; omega)]
      go_wp2
      go_ret
      rw [HE.out]
      exact ⟨rfl, B1.trans (hB.mono (by omega))⟩

open Classical in
def sameP (p q : Pkt) [Decidable (p = q)] : Bool := decide (p = q)
theorem sameP_ne {p q : Pkt} [Decidable (p = q)] (h : p ≠ q) : sameP p q = false := by simp [sameP, h]
theorem rsame_any (p q : Pkt) [Decidable (p = q)] (a a2 : Option Addr) (len cap len2 cap2 : Nat) (w : World) (R : RowI w a len cap p.items) (R2 : RowI w a2 len2 cap2 q.items) : Calls Tryd.prog 14 #[pkv p a len cap, pkv q a2 len2 cap2] w fun e w' => e = .returned (.bool (sameP p q)) ∧ Below w.heap.size w w' := by
  cases e0 : (p.kind != q.kind) with
  | true => rw [sameP_ne (fun h => by rw [h] at e0; simp at e0)]; exact rsame_h0 p q a a2 len cap len2 cap2 w R R2 e0
  | false =>
  cases e1 : (p.src != q.src) with
  | true => rw [sameP_ne (fun h => by rw [h] at e1; simp at e1)]; exact rsame_h1 p q a a2 len cap len2 cap2 w R R2 e0 e1
  | false =>
  cases e2 : (p.dst != q.dst) with
  | true => rw [sameP_ne (fun h => by rw [h] at e2; simp at e2)]; exact rsame_h2 p q a a2 len cap len2 cap2 w R R2 e0 e1 e2
  | false =>
  cases e3 : (p.boot != q.boot) with
  | true => rw [sameP_ne (fun h => by rw [h] at e3; simp at e3)]; exact rsame_h3 p q a a2 len cap len2 cap2 w R R2 e0 e1 e2 e3
  | false =>
  cases e4 : (p.life != q.life) with
  | true => rw [sameP_ne (fun h => by rw [h] at e4; simp at e4)]; exact rsame_h4 p q a a2 len cap len2 cap2 w R R2 e0 e1 e2 e3 e4
  | false =>
  cases e5 : (p.echo != q.echo) with
  | true => rw [sameP_ne (fun h => by rw [h] at e5; simp at e5)]; exact rsame_h5 p q a a2 len cap len2 cap2 w R R2 e0 e1 e2 e3 e4 e5
  | false =>
  cases e6 : (p.echoLife != q.echoLife) with
  | true => rw [sameP_ne (fun h => by rw [h] at e6; simp at e6)]; exact rsame_h6 p q a a2 len cap len2 cap2 w R R2 e0 e1 e2 e3 e4 e5 e6
  | false =>
  have l1 := R.size
  have l2 := R2.size
  cases e7 : ((len : Int) != (len2 : Int)) with
  | true => rw [sameP_ne (fun h => by subst h; rw [← l1, ← l2] at e7; simp at e7)]; exact rsame_l p q a a2 len cap len2 cap2 w R R2 e0 e1 e2 e3 e4 e5 e6 e7
  | false =>
  obtain rfl : len = len2 := by have h : (len : Int) = (len2 : Int) := by simpa using e7
                                omega
  refine rsame_its p q a a2 len cap cap2 w R R2 e0 e1 e2 e3 e4 e5 e6 e7 _ ?_
  simp only [bne_eq_false_iff_eq] at e0 e1 e2 e3 e4 e5 e6
  obtain ⟨pk, ps, pd, pb, pl, pe, pel, pi⟩ := p
  obtain ⟨qk, qs, qd, qb, ql, qe, qel, qi⟩ := q
  simp only at e0 e1 e2 e3 e4 e5 e6
  simp [sameP, e0, e1, e2, e3, e4, e5, e6]

end Go.Proofs.YticmjlnpjopfbaaDoor

namespace Go.Proofs.YticmjlnpjopfbaaDoor
open Go.ChangeShapes Go.WideShapes Go.ChangeAt Go.RowKit
open S (Tab Row Byt opn bv)
set_option linter.unusedVariables false
set_option linter.unusedSimpArgs false

/-- The packet and the error that are handed back. -/
def decV : Except Int Pkt → Pkt × Int
  | .error c => (pkZ, c)
  | .ok p => (p, 0)
theorem DecOut.out {base : Nat} {w : World} {r : Except Int Pkt} {e : Ending} (h : DecOut base w r e) : ∃ a n cap, e = .returned (.tuple #[pkv (decV r).1 a n cap, .int .i64 (decV r).2]) ∧ RowI w a n cap (decV r).1.items := by
  cases r with
  | error c => exact ⟨none, 0, 0, h, rowI_nil w⟩
  | ok p => obtain ⟨a, n, cap, h, _, R⟩ := h; exact ⟨a, n, cap, h, R⟩
theorem sameP_one (p : Pkt) [Decidable (p = p)] : sameP p p = true := by simp [sameP]
theorem pkB_store {W : World} {g : Nat} {c : Array Value} {t : TypeId} (h : W.heap[g]? = some (.cells c 24 (0, 0))) (p : Pkt) (a : Option Addr) (n cap : Nat) : PkB (W.setRow g (pkc p a n cap).toArray) g p a n cap := setRow_heap _ _ _ _ _ _ h
theorem RowI.newer {w w' : World} {a : Option Addr} {n cap : Nat} {l : List Itm} (h : RowI w a n cap l) (hs : w.heap.size ≤ w'.heap.size) (hb : ∀ b, b < w.heap.size → w'.heap[b]? = w.heap[b]?) : RowI w' a n cap l where
  size := h.size
  le := h.le
  max := h.max
  nil := h.nil
  mem := h.mem.imp id fun ⟨b, off, e, hlt, hc⟩ => ⟨b, off, e, by omega, fun j hj => (hc j hj).of_block (hb b hlt)⟩

set_option maxRecDepth 100000 in
set_option maxHeartbeats 8000000 in
theorem bodies_walk (a : Option Addr) (len cap : Nat) (zs : List Int) (w : World) (R : Row .u8 w a len cap zs) (hl : len ≤ 9223372036854775807) (T : Tab w) :
    Calls Tryd.prog 6 #[.slice a len cap] w fun e w' => e = .returned (.bool true) ∧ Below w.heap.size w w' := by
  haveI : DecidableEq Pkt := fun a b => Classical.propDecidable (a = b)
  have KS := S.rseal_any a len cap zs w R hl
  unfold S.SealOut at KS
  by_cases hlong : 65535 < zs.length
  · simp only [if_pos hlong] at KS
    clear hlong
    go_enter Tryd.func6, Tryd.ntmps6
    go_wp2_with (first
      | (go_at_call 23; refine KS.mono ?_; rintro e w1 ⟨rfl, b1⟩; have T1 := T.below b1)
      | (go_at_call 15; refine (awake_any _ T1).mono ?_; rintro e w2 ⟨rfl, b2⟩))
    go_ret
    exact ⟨rfl, b1.trans (b2.mono b1.size)⟩
  · simp only [if_neg hlong] at KS
    have hby : Byt (S.frm zs) := S.byt_frm R.byte (by omega)
    have hfl : (S.frm zs).length ≤ 65543 := by rw [S.frm_len]; omega
    obtain ⟨q, hq⟩ : ∃ q, decV (decP (S.frm zs)) = q := ⟨_, rfl⟩
    obtain ⟨p, c⟩ := q
    clear hlong
    have KD : ∀ (W : World) (a1 : Option Addr) (n1 c1 : Nat), Row .u8 W a1 n1 c1 (S.frm zs) → n1 ≤ 65543 → c1 ≤ 9223372036854775807 → Tab W → Calls Tryd.prog 21 #[.slice a1 n1 c1] W fun e w' => (∃ a n cap, e = .returned (.tuple #[pkv p a n cap, .int .i64 c]) ∧ RowI w' a n cap p.items) ∧ Below W.heap.size W w' := fun W a1 n1 c1 R1 h1 h2 T1 => by
      refine (decode_any a1 n1 c1 _ W R1 T1 (by omega) h2).mono fun e w' h => ⟨?_, h.2⟩
      have := h.1.out
      rw [hq] at this
      exact this
    have KE : ∀ (W : World) (a1 : Option Addr) (n1 c1 : Nat), Row .u8 W a1 n1 c1 (S.frm zs) → n1 ≤ 65543 → c1 ≤ 9223372036854775807 → Calls Tryd.prog 22 #[.slice a1 n1 c1] W fun e w' => (∃ a n cap, e = .returned (.tuple #[pkv p a n cap, .int .i64 c]) ∧ RowI w' a n cap p.items) ∧ Below W.heap.size W w' := fun W a1 n1 c1 R1 h1 h2 => by
      refine (rdecode_any a1 n1 c1 _ W R1 (by omega) h2).mono fun e w' h => ⟨?_, h.2⟩
      have := h.1.out
      rw [hq] at this
      exact this
    have hcc : (c == c) = true := by simp
    clear hq
    go_enter Tryd.func6, Tryd.ntmps6
    go_wp2_with (first
      | (go_at_call 23; refine KS.mono ?_; rintro e w1 ⟨⟨v1, rfl, O1⟩, b1⟩; have T1 := T.below b1; obtain ⟨a1, n1, c1, rfl, R1, hn1⟩ := O1.row' hby; have hn2 : n1 ≤ 65543 := (by omega); have hcm := (S.Own.cap O1).2.2; clear hn1)
      | (go_at_call 21; refine (KD _ _ _ _ R1 hn2 hcm T1).mono ?_; rintro e w2 ⟨⟨a2, n2, c2, rfl, I2⟩, b2⟩; have z2 := b2.size)
      | ((with_reducible show wpList _ _ _ (Oper.mk _ (Op.store 24 _ _) _ _ _ _ :: _) _ _); refine wpList_store_row rfl 24 _ _ rfl w2.heap.size (pkc p a2 n2 c2).toArray rfl rfl 24 _ (World.alloc_heap_new _ _) (by kernel_rfl) rfl (by simp [pkc, Value.oneCell']) ?_; have B3 : Below w1.heap.size w1 _ := below_setRow (b2.alloc z2 (.cells zPk8 24)) z2 (pkc p a2 n2 c2).toArray; have I3 : RowI ((w2.alloc (.cells zPk8 24)).setRow w2.heap.size (pkc p a2 n2 c2).toArray) a2 n2 c2 p.items := I2.newer (by simp) (fun b hb => (setRow_other _ _ _ _ (by omega)).trans (Below.heap_alloc _ _ _ hb)); have P3 : PkB ((w2.alloc (.cells zPk8 24)).setRow w2.heap.size (pkc p a2 n2 c2).toArray) w2.heap.size p a2 n2 c2 := setRow_heap _ _ _ _ _ _ (World.alloc_heap_new _ _))
      | (go_at_call 22; refine (KE _ _ _ _ (R1.below B3) hn2 hcm).mono ?_; rintro e w4 ⟨⟨a4, n4, c4, rfl, I4⟩, b4⟩; have I5 := I3.below b4; have P5 := P3.of_block (b4.block _ P3.lt); have B4 := B3.trans (b4.mono B3.size); have z4 := P5.lt)
      | ((with_reducible show wpList _ _ _ (Oper.mk _ (Op.store 24 _ _) _ _ _ _ :: _) _ _); refine wpList_store_row rfl 24 _ _ rfl w4.heap.size (pkc p a4 n4 c4).toArray rfl rfl 24 _ (World.alloc_heap_new _ _) (by kernel_rfl) rfl (by simp [pkc, Value.oneCell']) ?_; have B6 : Below w1.heap.size w1 _ := below_setRow (B4.alloc B4.size (.cells zPk8 24)) B4.size (pkc p a4 n4 c4).toArray; have I6 : RowI ((w4.alloc (.cells zPk8 24)).setRow w4.heap.size (pkc p a4 n4 c4).toArray) a2 n2 c2 p.items := I5.newer (by simp) (fun b hb => (setRow_other _ _ _ _ (by omega)).trans (Below.heap_alloc _ _ _ hb)); have J6 : RowI ((w4.alloc (.cells zPk8 24)).setRow w4.heap.size (pkc p a4 n4 c4).toArray) a4 n4 c4 p.items := I4.newer (by simp) (fun b hb => (setRow_other _ _ _ _ (by omega)).trans (Below.heap_alloc _ _ _ hb)); have P6 : PkB ((w4.alloc (.cells zPk8 24)).setRow w4.heap.size (pkc p a4 n4 c4).toArray) w2.heap.size p a2 n2 c2 := P5.of_block ((setRow_other _ _ _ _ (by omega)).trans (Below.heap_alloc _ _ _ z4)); have Q6 : PkB ((w4.alloc (.cells zPk8 24)).setRow w4.heap.size (pkc p a4 n4 c4).toArray) w4.heap.size p a4 n4 c4 := setRow_heap _ _ _ _ _ _ (World.alloc_heap_new _ _); have T6 := T1.below B6)
      | ((with_reducible show wpList _ _ _ (Oper.mk _ (Op.load 24 _) _ _ _ _ :: _) _ _); first | refine wpList_load_row rfl 24 _ rfl w2.heap.size rfl (pkc p a2 n2 c2).toArray (load_24 P6) ?_ | refine wpList_load_row rfl 24 _ rfl w4.heap.size rfl (pkc p a4 n4 c4).toArray (load_24 Q6) ?_)
      | (go_at_call 14; refine (rsame_any p p a2 a4 n2 c2 n4 c4 _ I6 J6).mono ?_; rintro e w7 ⟨rfl, b7⟩; rw [sameP_one]; have T7 := T6.below b7; have B7 := B6.trans (b7.mono B6.size))
      | (go_at_call 15; refine (awake_any _ T7).mono ?_; rintro e w8 ⟨rfl, b8⟩))
    go_ret
    exact ⟨rfl, b1.trans ((B7.trans (b8.mono B7.size)).mono b1.size)⟩
end Go.Proofs.YticmjlnpjopfbaaDoor

namespace Go.Proofs.YticmjlnpjopfbaaDoor
open Go.ChangeShapes Go.WideShapes Go.ChangeAt Go.RowKit
open S (Tab Row Byt opn bv)
open C (Fld)
set_option linter.unusedVariables false
set_option linter.unusedSimpArgs false

/-- Whatever the packet, its body is bytes. -/
theorem nF_byte (x : Int) : ∀ c ∈ C.encF1 (nF x), 0 ≤ c ∧ c < 256 :=
  encF1_byte (nF x) (nF_fit x) (Int.emod_lt_of_pos _ (by omega)) (by have := Int.emod_nonneg x (b := 18446744073709551616) (by omega); simp only [nF]; omega) (fun h => by simp [nF] at h) (by show 0 ≤ 1048576; omega)
theorem body_byte {p : Pkt} (hr : ∀ x ∈ p.items, itRg x) (hn : ∀ x ∈ p.items, x.name.size ≤ 1048576) : Byt (bodyP p) := by
  have hs : ∀ x : Int, -9223372036854775808 ≤ x ∧ x ≤ 9223372036854775807 → ∀ c ∈ C.encF1 (sF x), 0 ≤ c ∧ c < 256 := fun x hx => encF1_byte (sF x) (sF_fit x) (by simp only [sF]; omega) (by simp only [sF]; omega) (fun _ => hx.2) (by show 0 ≤ 1048576; omega)
  have ht : ∀ s : ByteArray, s.size ≤ 1048576 → ∀ c ∈ C.encF1 (tF s), 0 ≤ c ∧ c < 256 := fun s hx => encF1_byte (tF s) (tF_fit s) (by simp [tF]) (by simp [tF]) (fun h => by simp [tF] at h) hx
  have hb : ∀ b : Bool, ∀ c ∈ C.encF1 (bF b), 0 ≤ c ∧ c < 256 := fun b => encF1_byte (bF b) (bF_fit b) (by simp [bF]) (by simp [bF]) (fun h => by simp [bF] at h) (by show 0 ≤ 1048576; omega)
  intro c hc
  rcases List.mem_append.1 hc with hc | hc
  · obtain ⟨f, hf, hc⟩ := List.mem_flatMap.1 hc
    simp only [hdF, List.mem_cons, List.not_mem_nil, or_false] at hf
    rcases hf with rfl | rfl | rfl | rfl | rfl | rfl | rfl | rfl <;> exact nF_byte _ c hc
  · obtain ⟨f, hf, hc⟩ := List.mem_flatMap.1 hc
    obtain ⟨x, hx, hf⟩ := List.mem_flatMap.1 hf
    have r := hr x hx
    simp only [itF, List.mem_cons, List.not_mem_nil, or_false] at hf
    rcases hf with rfl | rfl | rfl | rfl | rfl | rfl | rfl | rfl | rfl | rfl | rfl | rfl | rfl | rfl | rfl | rfl | rfl | rfl | rfl
    all_goals first
      | exact nF_byte _ c hc
      | exact hb _ c hc
      | exact ht _ (hn x hx) c hc
      | exact hs _ r.flow c hc
      | exact hs _ r.rest c hc
      | exact hs _ r.mn c hc
      | exact hs _ r.mx c hc
/-- A packet's bytes, sealed, fit or not. -/
def forgP (p : Pkt) : List Int := if 65535 < (bodyP p).length then [] else S.frm (bodyP p)
theorem forgP_byte {p : Pkt} (h : Byt (bodyP p)) : Byt (forgP p) := by
  unfold forgP
  split
  · intro c hc; cases hc
  · exact S.byt_frm h (by omega)
theorem forgP_len (p : Pkt) : (forgP p).length ≤ 65543 := by
  unfold forgP
  split
  · simp
  · rw [S.frm_len]; omega
set_option maxRecDepth 100000 in
set_option maxHeartbeats 4000000 in
theorem forged_any (p : Pkt) (a : Option Addr) (len cap : Nat) (w : World) (R : RowI w a len cap p.items) (hT : (bodyP p).length ≤ 70368740000000) (hr : ∀ x ∈ p.items, itRg x) (hby : Byt (bodyP p)) :
    Calls Tryd.prog 20 #[pkv p a len cap] w fun e w' => ∃ v, e = .returned v ∧ S.Own w.heap.size w' v (forgP p) ∧ Below w.heap.size w w' := by
  have B0 : Below w.heap.size w (w.alloc (pkObj p a len cap)) := (Below.refl _ _).alloc (Nat.le_refl _) _
  have P0 := pkAt_new w p a len cap
  have KB := body_any p a len cap _ (R.alloc (pkObj p a len cap)) hT hr
  by_cases hlong : 65535 < (bodyP p).length
  · have hf : forgP p = [] := by unfold forgP; rw [if_pos hlong]
    rw [hf]
    have KS : ∀ (W : World) (a1 : Option Addr) (n1 c1 : Nat), Row .u8 W a1 n1 c1 (bodyP p) → n1 ≤ 9223372036854775807 → Calls Tryd.prog 23 #[.slice a1 n1 c1] W fun e w' => e = .returned (.tuple #[.slice none 0 0, .int .i64 23]) ∧ Below W.heap.size W w' := fun W a1 n1 c1 R1 h1 => by
      have h := S.rseal_any a1 n1 c1 _ W R1 h1
      unfold S.SealOut at h
      simp only [if_pos hlong] at h
      exact h
    clear hlong hf
    go_enter Tryd.func20, Tryd.ntmps20
    go_wp2_with (first
      | ((with_reducible show wpList _ _ _ (Oper.mk _ (Op.load 24 _) _ _ _ _ :: _) _ _); refine wpList_loadPk _ rfl (by rfl) w.heap.size p a len cap P0 rfl ?_)
      | (go_at_call 37; refine KB.mono ?_; rintro e w1 ⟨v1, rfl, O1, b1⟩; have O1' : S.Own _ w1 v1 (bodyP p) := O1; obtain ⟨a1, n1, c1, rfl, R1, hn1⟩ := O1'.row' hby; have hn2 : n1 ≤ 9223372036854775807 := (by omega); clear hn1)
      | (go_at_call 23; refine (KS _ _ _ _ R1 hn2).mono ?_; rintro e w2 ⟨rfl, b2⟩))
    go_ret
    exact ⟨_, rfl, S.Own.nil _ _, B0.trans ((b1.trans (b2.mono b1.size)).mono (by simp))⟩
  · have hf : forgP p = S.frm (bodyP p) := by unfold forgP; rw [if_neg hlong]
    rw [hf]
    have KS : ∀ (W : World) (a1 : Option Addr) (n1 c1 : Nat), Row .u8 W a1 n1 c1 (bodyP p) → n1 ≤ 9223372036854775807 → Calls Tryd.prog 23 #[.slice a1 n1 c1] W fun e w' => (∃ v, e = .returned (.tuple #[v, .int .i64 0]) ∧ S.Own W.heap.size w' v (S.frm (bodyP p))) ∧ Below W.heap.size W w' := fun W a1 n1 c1 R1 h1 => by
      have h := S.rseal_any a1 n1 c1 _ W R1 h1
      unfold S.SealOut at h
      simp only [if_neg hlong] at h
      exact h
    clear hlong hf
    go_enter Tryd.func20, Tryd.ntmps20
    go_wp2_with (first
      | ((with_reducible show wpList _ _ _ (Oper.mk _ (Op.load 24 _) _ _ _ _ :: _) _ _); refine wpList_loadPk _ rfl (by rfl) w.heap.size p a len cap P0 rfl ?_)
      | (go_at_call 37; refine KB.mono ?_; rintro e w1 ⟨v1, rfl, O1, b1⟩; have O1' : S.Own _ w1 v1 (bodyP p) := O1; obtain ⟨a1, n1, c1, rfl, R1, hn1⟩ := O1'.row' hby; have hn2 : n1 ≤ 9223372036854775807 := (by omega); clear hn1)
      | (go_at_call 23; refine (KS _ _ _ _ R1 hn2).mono ?_; rintro e w2 ⟨⟨v2, rfl, O2⟩, b2⟩))
    go_ret
    exact ⟨_, rfl, O2.at (by have := b1.size; simp at this; omega), B0.trans ((b1.trans (b2.mono b1.size)).mono (by simp))⟩
end Go.Proofs.YticmjlnpjopfbaaDoor

namespace Go.Proofs.YticmjlnpjopfbaaDoor
open Go.ChangeShapes Go.WideShapes Go.ChangeAt Go.RowKit
open S (Tab Row Byt opn bv)
open C (Fld)
set_option linter.unusedVariables false
set_option linter.unusedSimpArgs false

theorem own_free {base : Nat} {w : World} {g n c : Nat} {zs : List Int} (h : S.Own base w (.slice (some ⟨g, 0, none⟩) n c) zs) (j : Nat) : w.frozen? ⟨g, j, none⟩ = false := by
  rcases h.2 with ⟨h0, _⟩ | ⟨g', cp, cur, hv, _, hh, _⟩
  · cases h0
  · cases hv
    exact row_free hh j
/-- What holds at the head of a turn: the bytes, the packet, the table. -/
structure DecS (w : World) (p : Pkt) (ap : Option Addr) (lp cp : Nat) (k : Nat) (a : Option Addr) (n c : Nat) (bs : List Int) (W : World) : Prop where
  row : Row .u8 W a n c bs
  len : n ≤ 140737488355328
  cap : c ≤ 9223372036854775807
  few : 2 ≤ k → n ≤ 65543
  pk : PkAt W w.heap.size p ap lp cp
  its : RowI W ap lp cp p.items
  tab : Tab W
  below : Below w.heap.size w W
theorem rem_k (at_ : Int) (n : Nat) (h0 : 0 < n) (hn : (n : Int) ≤ 9223372036854775807) : ∃ K : Nat, wrap64 ((IntKind.u64.wrap at_).tmod (n : Int)) = (K : Int) ∧ K < n := by
  have h1 : 0 ≤ IntKind.u64.wrap at_ := by rw [IntKind.wrap_u64]; omega
  rw [Int.tmod_eq_emod_of_nonneg h1]
  have h2 := Int.emod_nonneg (IntKind.u64.wrap at_) (b := (n : Int)) (by omega)
  have h3 := Int.emod_lt_of_pos (IntKind.u64.wrap at_) (b := (n : Int)) (by omega)
  generalize IntKind.u64.wrap at_ % (n : Int) = m at *
  refine ⟨m.toNat, ?_, by omega⟩
  unfold wrap64
  omega
theorem xor_byte {z x : Int} (hz : 0 ≤ z ∧ z < 256) (hx : 0 ≤ x ∧ x < 256) : ∃ y : Int, bits .xor .u8 z x = y ∧ 0 ≤ y ∧ y < 256 := by
  have key : ∀ a b : Fin 256, 0 ≤ bits .xor .u8 (a.val : Int) (b.val : Int) ∧ bits .xor .u8 (a.val : Int) (b.val : Int) < 256 := by decide +kernel
  have := key ⟨z.toNat, by omega⟩ ⟨x.toNat, by omega⟩
  simp only [Int.toNat_of_nonneg hz.1, Int.toNat_of_nonneg hx.1] at this
  exact ⟨_, rfl, this⟩
/-- What Decode hands back, whatever the bytes. -/
theorem decV_any (a : Option Addr) (n c : Nat) (bs : List Int) (W : World) (R : Row .u8 W a n c bs) (T : Tab W) (hn : n ≤ 140737488355328) (hc : c ≤ 9223372036854775807) :
    Calls Tryd.prog 21 #[.slice a n c] W fun e w' => (∃ a n cap, e = .returned (.tuple #[pkv (decV (decP bs)).1 a n cap, .int .i64 (decV (decP bs)).2]) ∧ RowI w' a n cap (decV (decP bs)).1.items) ∧ Below W.heap.size W w' :=
  (decode_any a n c bs W R T hn hc).mono fun e w' h => ⟨h.1.out, h.2⟩
theorem decV_rany (a : Option Addr) (n c : Nat) (bs : List Int) (W : World) (R : Row .u8 W a n c bs) (hn : n ≤ 140737488355328) (hc : c ≤ 9223372036854775807) :
    Calls Tryd.prog 22 #[.slice a n c] W fun e w' => (∃ a n cap, e = .returned (.tuple #[pkv (decV (decP bs)).1 a n cap, .int .i64 (decV (decP bs)).2]) ∧ RowI w' a n cap (decV (decP bs)).1.items) ∧ Below W.heap.size W w' :=
  (rdecode_any a n c bs W R hn hc).mono fun e w' h => ⟨h.1.out, h.2⟩
set_option maxRecDepth 100000 in
set_option maxHeartbeats 8000000 in
theorem decodes_walk (a : Option Addr) (len cap : Nat) (zs : List Int) (p : Pkt) (ap : Option Addr) (lp cp : Nat) (ix x : Int) (w : World) (R : Row .u8 w a len cap zs) (RI : RowI w ap lp cp p.items) (hT : (bodyP p).length ≤ 70368740000000) (hr : ∀ y ∈ p.items, itRg y) (hby : Byt (bodyP p)) (hl : len ≤ 140737488355328) (hcap : cap ≤ 9223372036854775807) (hix : -9223372036854775808 ≤ ix ∧ ix ≤ 9223372036854775807) (hx : 0 ≤ x ∧ x < 256) (T : Tab w) :
    Calls Tryd.prog 5 #[.slice a len cap, pkv p ap lp cp, .int .i64 ix, .int .u8 x] w fun e w' => e = .returned (.bool true) ∧ Below w.heap.size w w' := by
  haveI : DecidableEq Pkt := fun a b => Classical.propDecidable (a = b)
  have S0 : DecS w p ap lp cp 0 a len cap zs (w.alloc (pkObj p ap lp cp)) :=
    ⟨R.alloc _, hl, hcap, fun h => by omega, pkAt_new w p ap lp cp, RI.alloc _, T.alloc _, (Below.refl _ _).alloc (Nat.le_refl _) _⟩
  have hfb := forgP_byte hby
  have hfl := forgP_len p
  clear R RI T hl hcap
  go_enter Tryd.func5, Tryd.ntmps5
  go_wp2
  go_loopg [0, 9] 3 (fun g v0 v9 wr => ∃ (k : Nat) (a' : Option Addr) (n' c' : Nat) (bs : List Int), v0 = .slice a' n' c' ∧ v9 = .int .i64 (k : Int) ∧ k + g = 3 ∧ Hid (DecS w p ap lp cp k a' n' c' bs wr))
  case atStart => exact ⟨0, a, len, cap, zs, rfl, rfl, rfl, S0⟩
  case round =>
    clear S0
    obtain ⟨k, a', n', c', bs, rfl, rfl, hg, HS⟩ := hrel
    obtain ⟨R0, hn0, hc0, hfew, PX, IX, T0, D0⟩ := HS.out
    clear HS
    rcases (show k = 0 ∨ k = 1 ∨ k = 2 ∨ k = 3 by omega) with rfl | rfl | rfl | rfl
    · have HF : 2 ≤ 0 + 1 → n' ≤ 65543 := fun h => by omega
      obtain ⟨X, hX⟩ : ∃ X, wr = X := ⟨_, rfl⟩
      subst hX
      have KD := fun W R1 T1 => decV_any a' n' c' bs W R1 T1 hn0 hc0
      have KE := fun W R1 => decV_rany a' n' c' bs W R1 hn0 hc0
      obtain ⟨⟨q, cc⟩, hq⟩ : ∃ q, decV (decP bs) = q := ⟨_, rfl⟩
      simp only [hq] at KD KE
      have hcc : (cc != cc) = false := by simp
      clear hq
      go_wp2_with (first
      | (go_at_call 21; refine (KD _ R0 T0).mono ?_; rintro e w2 ⟨⟨a2, n2, c2, rfl, I2⟩, b2⟩; have z2 := b2.size)
      | ((with_reducible show wpList _ _ _ (Oper.mk _ (Op.store 24 _ _) _ _ _ _ :: _) _ _); refine wpList_store_row rfl 24 _ _ rfl w2.heap.size (pkc q a2 n2 c2).toArray rfl rfl 24 _ (World.alloc_heap_new _ _) (by kernel_rfl) rfl (by simp [pkc, Value.oneCell']) ?_; have B3 : Below wr.heap.size wr _ := below_setRow (b2.alloc z2 (.cells zPk8 24)) z2 (pkc q a2 n2 c2).toArray; have I3 : RowI ((w2.alloc (.cells zPk8 24)).setRow w2.heap.size (pkc q a2 n2 c2).toArray) a2 n2 c2 q.items := I2.newer (by simp) (fun b hb => (setRow_other _ _ _ _ (by omega)).trans (Below.heap_alloc _ _ _ hb)); have P3 : PkB ((w2.alloc (.cells zPk8 24)).setRow w2.heap.size (pkc q a2 n2 c2).toArray) w2.heap.size q a2 n2 c2 := setRow_heap _ _ _ _ _ _ (World.alloc_heap_new _ _))
      | (go_at_call 22; refine (KE _ (R0.below B3)).mono ?_; rintro e w4 ⟨⟨a4, n4, c4, rfl, I4⟩, b4⟩; have I5 := I3.below b4; have P5 := P3.of_block (b4.block _ P3.lt); have B4 := B3.trans (b4.mono B3.size); have z4 := P5.lt)
      | ((with_reducible show wpList _ _ _ (Oper.mk _ (Op.store 24 _ _) _ _ _ _ :: _) _ _); refine wpList_store_row rfl 24 _ _ rfl w4.heap.size (pkc q a4 n4 c4).toArray rfl rfl 24 _ (World.alloc_heap_new _ _) (by kernel_rfl) rfl (by simp [pkc, Value.oneCell']) ?_; have B6 : Below wr.heap.size wr _ := below_setRow (B4.alloc B4.size (.cells zPk8 24)) B4.size (pkc q a4 n4 c4).toArray; have I6 : RowI ((w4.alloc (.cells zPk8 24)).setRow w4.heap.size (pkc q a4 n4 c4).toArray) a2 n2 c2 q.items := I5.newer (by simp) (fun b hb => (setRow_other _ _ _ _ (by omega)).trans (Below.heap_alloc _ _ _ hb)); have J6 : RowI ((w4.alloc (.cells zPk8 24)).setRow w4.heap.size (pkc q a4 n4 c4).toArray) a4 n4 c4 q.items := I4.newer (by simp) (fun b hb => (setRow_other _ _ _ _ (by omega)).trans (Below.heap_alloc _ _ _ hb)); have P6 : PkB ((w4.alloc (.cells zPk8 24)).setRow w4.heap.size (pkc q a4 n4 c4).toArray) w2.heap.size q a2 n2 c2 := P5.of_block ((setRow_other _ _ _ _ (by omega)).trans (Below.heap_alloc _ _ _ z4)); have Q6 : PkB ((w4.alloc (.cells zPk8 24)).setRow w4.heap.size (pkc q a4 n4 c4).toArray) w4.heap.size q a4 n4 c4 := setRow_heap _ _ _ _ _ _ (World.alloc_heap_new _ _))
      | ((with_reducible show wpList _ _ _ (Oper.mk _ (Op.load 24 _) _ _ _ _ :: _) _ _); first | refine wpList_load_row rfl 24 _ rfl w2.heap.size rfl (pkc q a2 n2 c2).toArray (load_24 P6) ?_ | refine wpList_load_row rfl 24 _ rfl w4.heap.size rfl (pkc q a4 n4 c4).toArray (load_24 Q6) ?_)
      | (go_at_call 14; refine (rsame_any q q a2 a4 n2 c2 n4 c4 _ I6 J6).mono ?_; rintro e w7 ⟨rfl, b7⟩; rw [sameP_one]; have B7 := B6.trans (b7.mono B6.size)))
      go_roundg (gk - 1)
      case measure => omega
      case rel => exact ⟨0 + 1, a', n', c', bs, rfl, by go_num, by omega, ⟨R0.below B7, hn0, hc0, HF, PX.below B7, IX.below B7, T0.below B7, D0.trans (B7.mono D0.size)⟩⟩
    · have KF := forged_any p ap lp cp wr IX hT hr hby
      clear R0 hn0 hc0 hfew
      obtain ⟨⟨q, cc⟩, hq⟩ : ∃ q, decV (decP (forgP p)) = q := ⟨_, rfl⟩
      have KD := fun a1 n1 c1 W R1 T1 h1 h2 => decV_any a1 n1 c1 (forgP p) W R1 T1 h1 h2
      have KE := fun a1 n1 c1 W R1 h1 h2 => decV_rany a1 n1 c1 (forgP p) W R1 h1 h2
      simp only [hq] at KD KE
      have hcc : (cc != cc) = false := by simp
      clear hq
      go_wp2_with (first
        | (go_at_call 20; refine KF.mono ?_; rintro e X ⟨v1, rfl, O1, b1⟩; obtain ⟨a1, n1, c1, rfl, R0, hn1⟩ := O1.row' hfb; have hn2 : n1 ≤ 65543 := (by omega); have hn0 : n1 ≤ 140737488355328 := (by omega); have hc0 := (S.Own.cap O1).2.2; have T1 := T0.below b1; clear hn1)
        | (go_at_call 21; refine (KD _ _ _ _ R0 T1 hn0 hc0).mono ?_; rintro e w2 ⟨⟨a2, n2, c2, rfl, I2⟩, b2⟩; have z2 := b2.size)
        | ((with_reducible show wpList _ _ _ (Oper.mk _ (Op.store 24 _ _) _ _ _ _ :: _) _ _); refine wpList_store_row rfl 24 _ _ rfl w2.heap.size (pkc q a2 n2 c2).toArray rfl rfl 24 _ (World.alloc_heap_new _ _) (by kernel_rfl) rfl (by simp [pkc, Value.oneCell']) ?_; have B3 : Below X.heap.size X _ := below_setRow (b2.alloc z2 (.cells zPk8 24)) z2 (pkc q a2 n2 c2).toArray; have I3 : RowI ((w2.alloc (.cells zPk8 24)).setRow w2.heap.size (pkc q a2 n2 c2).toArray) a2 n2 c2 q.items := I2.newer (by simp) (fun b hb => (setRow_other _ _ _ _ (by omega)).trans (Below.heap_alloc _ _ _ hb)); have P3 : PkB ((w2.alloc (.cells zPk8 24)).setRow w2.heap.size (pkc q a2 n2 c2).toArray) w2.heap.size q a2 n2 c2 := setRow_heap _ _ _ _ _ _ (World.alloc_heap_new _ _))
        | (go_at_call 22; refine (KE _ _ _ _ (R0.below B3) hn0 hc0).mono ?_; rintro e w4 ⟨⟨a4, n4, c4, rfl, I4⟩, b4⟩; have I5 := I3.below b4; have P5 := P3.of_block (b4.block _ P3.lt); have B4 := B3.trans (b4.mono B3.size); have z4 := P5.lt)
        | ((with_reducible show wpList _ _ _ (Oper.mk _ (Op.store 24 _ _) _ _ _ _ :: _) _ _); refine wpList_store_row rfl 24 _ _ rfl w4.heap.size (pkc q a4 n4 c4).toArray rfl rfl 24 _ (World.alloc_heap_new _ _) (by kernel_rfl) rfl (by simp [pkc, Value.oneCell']) ?_; have B6 : Below X.heap.size X _ := below_setRow (B4.alloc B4.size (.cells zPk8 24)) B4.size (pkc q a4 n4 c4).toArray; have I6 : RowI ((w4.alloc (.cells zPk8 24)).setRow w4.heap.size (pkc q a4 n4 c4).toArray) a2 n2 c2 q.items := I5.newer (by simp) (fun b hb => (setRow_other _ _ _ _ (by omega)).trans (Below.heap_alloc _ _ _ hb)); have J6 : RowI ((w4.alloc (.cells zPk8 24)).setRow w4.heap.size (pkc q a4 n4 c4).toArray) a4 n4 c4 q.items := I4.newer (by simp) (fun b hb => (setRow_other _ _ _ _ (by omega)).trans (Below.heap_alloc _ _ _ hb)); have P6 : PkB ((w4.alloc (.cells zPk8 24)).setRow w4.heap.size (pkc q a4 n4 c4).toArray) w2.heap.size q a2 n2 c2 := P5.of_block ((setRow_other _ _ _ _ (by omega)).trans (Below.heap_alloc _ _ _ z4)); have Q6 : PkB ((w4.alloc (.cells zPk8 24)).setRow w4.heap.size (pkc q a4 n4 c4).toArray) w4.heap.size q a4 n4 c4 := setRow_heap _ _ _ _ _ _ (World.alloc_heap_new _ _))
        | ((with_reducible show wpList _ _ _ (Oper.mk _ (Op.load 24 _) _ _ _ _ :: _) _ _); first | refine wpList_loadPk _ rfl (by rfl) w.heap.size p ap lp cp PX rfl ?_ | refine wpList_load_row rfl 24 _ rfl w2.heap.size rfl (pkc q a2 n2 c2).toArray (load_24 P6) ?_ | refine wpList_load_row rfl 24 _ rfl w4.heap.size rfl (pkc q a4 n4 c4).toArray (load_24 Q6) ?_)
        | (go_at_call 14; refine (rsame_any q q a2 a4 n2 c2 n4 c4 _ I6 J6).mono ?_; rintro e w7 ⟨rfl, b7⟩; rw [sameP_one]; have B7 := B6.trans (b7.mono B6.size)))
      go_roundg (gk - 1)
      case measure => omega
      case rel => exact ⟨1 + 1, a1, n1, c1, forgP p, rfl, by go_num, by omega, ⟨R0.below B7, hn0, hc0, fun _ => hn2, (PX.below b1).below B7, (IX.below b1).below B7, T1.below B7, (D0.trans (b1.mono D0.size)).trans (B7.mono (Nat.le_trans D0.size b1.size))⟩⟩
    · by_cases hn : n' = 0
      · have hn1 : ¬ (0 : Int) < (n' : Int) := by omega
        have HF : 2 ≤ 2 + 1 → n' ≤ 65543 := fun h => by omega
        obtain ⟨X, hX⟩ : ∃ X, wr = X := ⟨_, rfl⟩
        subst hX
        clear hn
        have KD := fun W R1 T1 => decV_any a' n' c' bs W R1 T1 hn0 hc0
        have KE := fun W R1 => decV_rany a' n' c' bs W R1 hn0 hc0
        obtain ⟨⟨q, cc⟩, hq⟩ : ∃ q, decV (decP bs) = q := ⟨_, rfl⟩
        simp only [hq] at KD KE
        have hcc : (cc != cc) = false := by simp
        clear hq
        go_wp2_with (first
        | (go_at_call 21; refine (KD _ R0 T0).mono ?_; rintro e w2 ⟨⟨a2, n2, c2, rfl, I2⟩, b2⟩; have z2 := b2.size)
        | ((with_reducible show wpList _ _ _ (Oper.mk _ (Op.store 24 _ _) _ _ _ _ :: _) _ _); refine wpList_store_row rfl 24 _ _ rfl w2.heap.size (pkc q a2 n2 c2).toArray rfl rfl 24 _ (World.alloc_heap_new _ _) (by kernel_rfl) rfl (by simp [pkc, Value.oneCell']) ?_; have B3 : Below wr.heap.size wr _ := below_setRow (b2.alloc z2 (.cells zPk8 24)) z2 (pkc q a2 n2 c2).toArray; have I3 : RowI ((w2.alloc (.cells zPk8 24)).setRow w2.heap.size (pkc q a2 n2 c2).toArray) a2 n2 c2 q.items := I2.newer (by simp) (fun b hb => (setRow_other _ _ _ _ (by omega)).trans (Below.heap_alloc _ _ _ hb)); have P3 : PkB ((w2.alloc (.cells zPk8 24)).setRow w2.heap.size (pkc q a2 n2 c2).toArray) w2.heap.size q a2 n2 c2 := setRow_heap _ _ _ _ _ _ (World.alloc_heap_new _ _))
        | (go_at_call 22; refine (KE _ (R0.below B3)).mono ?_; rintro e w4 ⟨⟨a4, n4, c4, rfl, I4⟩, b4⟩; have I5 := I3.below b4; have P5 := P3.of_block (b4.block _ P3.lt); have B4 := B3.trans (b4.mono B3.size); have z4 := P5.lt)
        | ((with_reducible show wpList _ _ _ (Oper.mk _ (Op.store 24 _ _) _ _ _ _ :: _) _ _); refine wpList_store_row rfl 24 _ _ rfl w4.heap.size (pkc q a4 n4 c4).toArray rfl rfl 24 _ (World.alloc_heap_new _ _) (by kernel_rfl) rfl (by simp [pkc, Value.oneCell']) ?_; have B6 : Below wr.heap.size wr _ := below_setRow (B4.alloc B4.size (.cells zPk8 24)) B4.size (pkc q a4 n4 c4).toArray; have I6 : RowI ((w4.alloc (.cells zPk8 24)).setRow w4.heap.size (pkc q a4 n4 c4).toArray) a2 n2 c2 q.items := I5.newer (by simp) (fun b hb => (setRow_other _ _ _ _ (by omega)).trans (Below.heap_alloc _ _ _ hb)); have J6 : RowI ((w4.alloc (.cells zPk8 24)).setRow w4.heap.size (pkc q a4 n4 c4).toArray) a4 n4 c4 q.items := I4.newer (by simp) (fun b hb => (setRow_other _ _ _ _ (by omega)).trans (Below.heap_alloc _ _ _ hb)); have P6 : PkB ((w4.alloc (.cells zPk8 24)).setRow w4.heap.size (pkc q a4 n4 c4).toArray) w2.heap.size q a2 n2 c2 := P5.of_block ((setRow_other _ _ _ _ (by omega)).trans (Below.heap_alloc _ _ _ z4)); have Q6 : PkB ((w4.alloc (.cells zPk8 24)).setRow w4.heap.size (pkc q a4 n4 c4).toArray) w4.heap.size q a4 n4 c4 := setRow_heap _ _ _ _ _ _ (World.alloc_heap_new _ _))
        | ((with_reducible show wpList _ _ _ (Oper.mk _ (Op.load 24 _) _ _ _ _ :: _) _ _); first | refine wpList_load_row rfl 24 _ rfl w2.heap.size rfl (pkc q a2 n2 c2).toArray (load_24 P6) ?_ | refine wpList_load_row rfl 24 _ rfl w4.heap.size rfl (pkc q a4 n4 c4).toArray (load_24 Q6) ?_)
        | (go_at_call 14; refine (rsame_any q q a2 a4 n2 c2 n4 c4 _ I6 J6).mono ?_; rintro e w7 ⟨rfl, b7⟩; rw [sameP_one]; have B7 := B6.trans (b7.mono B6.size)))
        go_roundg (gk - 1)
        case measure => omega
        case rel => exact ⟨2 + 1, a', n', c', bs, rfl, by go_num, by omega, ⟨R0.below B7, hn0, hc0, HF, PX.below B7, IX.below B7, T0.below B7, D0.trans (B7.mono D0.size)⟩⟩
      · have hn1 : (0 : Int) < (n' : Int) := by omega
        have hf := hfew (by omega)
        obtain ⟨j, hj, hjn⟩ := rem_k ix n' (by omega) (by omega)
        have hjI : (j : Int) < (n' : Int) := by omega
        have hzb := S.byt_at R0.byte j (by have := R0.size; omega)
        obtain ⟨z, hz⟩ : ∃ z, bs.getD j 0 = z := ⟨_, rfl⟩
        rw [hz] at hzb
        obtain ⟨y, hy, hyb⟩ := xor_byte hzb hx
        obtain ⟨cs, hcs⟩ : ∃ cs, bs.set j y = cs := ⟨_, rfl⟩
        obtain ⟨⟨q, cc⟩, hq⟩ : ∃ q, decV (decP cs) = q := ⟨_, rfl⟩
        have KD := fun a1 n1 c1 W R1 T1 h1 h2 => decV_any a1 n1 c1 cs W R1 T1 h1 h2
        have KE := fun a1 n1 c1 W R1 h1 h2 => decV_rany a1 n1 c1 cs W R1 h1 h2
        simp only [hq] at KD KE
        have hcc : (cc != cc) = false := by simp
        clear hq
        go_wp2_with (first
          | ((with_reducible show wpList _ _ _ (Oper.mk _ (Op.call { callee := Callee.builtin Builtin.append, args := _, argTypes := _ }) _ _ _ _ :: _) _ _); refine S.wpList_append_row _ rfl _ _ rfl wr.heap.size (.slice none 0 0) [] rfl (S.Own.nil _ _) a' n' c' bs rfl R0 (Nat.le_refl _) (by simp; omega) ?_; intro v1 X O1 b1; rw [List.nil_append] at O1; obtain ⟨g, c1, hv1, hgb, hgz, hle1, hcm1⟩ := O1.some (fun e => by rw [e] at R0; have := R0.size; simp at this; omega); rw [R0.size] at hv1 hle1; subst hv1; have RX : Row .u8 X (some ⟨g, 0, none⟩) n' c1 bs := (by obtain ⟨aa, nn, cc', he, hR, hnn⟩ := O1.row' R0.byte; cases he; exact hR); have cj : X.cell? ⟨g, j, none⟩ = some (.int .u8 z) := (by have h := RX.at j hjn; rw [Nat.zero_add, hz] at h; exact h); have fj : X.frozen? ⟨g, j, none⟩ = false := own_free O1 j; have RY : Row .u8 (X.setCell ⟨g, j, none⟩ (.int .u8 y)) (some ⟨g, 0, none⟩) n' c1 cs := (by rw [← hcs]; exact row_set RX j y hyb hjn); have DY : Below wr.heap.size wr (X.setCell ⟨g, j, none⟩ (.int .u8 y)) := b1.setCell (p := ⟨g, j, none⟩) hgb _; have TY := T0.below DY)
          | (go_at_call 21; refine (KD _ _ _ _ RY TY hn0 hcm1).mono ?_; rintro e w2 ⟨⟨a2, n2, c2, rfl, I2⟩, b2⟩; have z2 := b2.size)
          | ((with_reducible show wpList _ _ _ (Oper.mk _ (Op.store 24 _ _) _ _ _ _ :: _) _ _); refine wpList_store_row rfl 24 _ _ rfl w2.heap.size (pkc q a2 n2 c2).toArray rfl rfl 24 _ (World.alloc_heap_new _ _) (by kernel_rfl) rfl (by simp [pkc, Value.oneCell']) ?_; have B3 : Below (X.setCell ⟨g, j, none⟩ (.int .u8 y)).heap.size (X.setCell ⟨g, j, none⟩ (.int .u8 y)) _ := below_setRow (b2.alloc z2 (.cells zPk8 24)) z2 (pkc q a2 n2 c2).toArray; have I3 : RowI ((w2.alloc (.cells zPk8 24)).setRow w2.heap.size (pkc q a2 n2 c2).toArray) a2 n2 c2 q.items := I2.newer (by simp) (fun b hb => (setRow_other _ _ _ _ (by omega)).trans (Below.heap_alloc _ _ _ hb)); have P3 : PkB ((w2.alloc (.cells zPk8 24)).setRow w2.heap.size (pkc q a2 n2 c2).toArray) w2.heap.size q a2 n2 c2 := setRow_heap _ _ _ _ _ _ (World.alloc_heap_new _ _))
          | (go_at_call 22; refine (KE _ _ _ _ (RY.below B3) hn0 hcm1).mono ?_; rintro e w4 ⟨⟨a4, n4, c4, rfl, I4⟩, b4⟩; have I5 := I3.below b4; have P5 := P3.of_block (b4.block _ P3.lt); have B4 := B3.trans (b4.mono B3.size); have z4 := P5.lt)
          | ((with_reducible show wpList _ _ _ (Oper.mk _ (Op.store 24 _ _) _ _ _ _ :: _) _ _); refine wpList_store_row rfl 24 _ _ rfl w4.heap.size (pkc q a4 n4 c4).toArray rfl rfl 24 _ (World.alloc_heap_new _ _) (by kernel_rfl) rfl (by simp [pkc, Value.oneCell']) ?_; have B6 : Below (X.setCell ⟨g, j, none⟩ (.int .u8 y)).heap.size (X.setCell ⟨g, j, none⟩ (.int .u8 y)) _ := below_setRow (B4.alloc B4.size (.cells zPk8 24)) B4.size (pkc q a4 n4 c4).toArray; have I6 : RowI ((w4.alloc (.cells zPk8 24)).setRow w4.heap.size (pkc q a4 n4 c4).toArray) a2 n2 c2 q.items := I5.newer (by simp) (fun b hb => (setRow_other _ _ _ _ (by omega)).trans (Below.heap_alloc _ _ _ hb)); have J6 : RowI ((w4.alloc (.cells zPk8 24)).setRow w4.heap.size (pkc q a4 n4 c4).toArray) a4 n4 c4 q.items := I4.newer (by simp) (fun b hb => (setRow_other _ _ _ _ (by omega)).trans (Below.heap_alloc _ _ _ hb)); have P6 : PkB ((w4.alloc (.cells zPk8 24)).setRow w4.heap.size (pkc q a4 n4 c4).toArray) w2.heap.size q a2 n2 c2 := P5.of_block ((setRow_other _ _ _ _ (by omega)).trans (Below.heap_alloc _ _ _ z4)); have Q6 : PkB ((w4.alloc (.cells zPk8 24)).setRow w4.heap.size (pkc q a4 n4 c4).toArray) w4.heap.size q a4 n4 c4 := setRow_heap _ _ _ _ _ _ (World.alloc_heap_new _ _))
          | ((with_reducible show wpList _ _ _ (Oper.mk _ (Op.load 24 _) _ _ _ _ :: _) _ _); first | refine wpList_load_row rfl 24 _ rfl w2.heap.size rfl (pkc q a2 n2 c2).toArray (load_24 P6) ?_ | refine wpList_load_row rfl 24 _ rfl w4.heap.size rfl (pkc q a4 n4 c4).toArray (load_24 Q6) ?_)
          | (go_at_call 14; refine (rsame_any q q a2 a4 n2 c2 n4 c4 _ I6 J6).mono ?_; rintro e w7 ⟨rfl, b7⟩; rw [sameP_one]; have B7 := B6.trans (b7.mono B6.size)))
        go_roundg (gk - 1)
        case measure => omega
        case rel => exact ⟨2 + 1, some ⟨g, 0, none⟩, n', c1, cs, rfl, by go_num, by omega, ⟨RY.below B7, hn0, hcm1, fun _ => hf, (PX.below DY).below B7, (IX.below DY).below B7, TY.below B7, (D0.trans (DY.mono D0.size)).trans (B7.mono (Nat.le_trans D0.size DY.size))⟩⟩
    · go_wp2_with (go_at_call 15; refine (awake_any _ T0).mono ?_; rintro e w8 ⟨rfl, b8⟩)
      go_ret
      exact ⟨rfl, D0.trans (b8.mono D0.size)⟩
end Go.Proofs.YticmjlnpjopfbaaDoor
