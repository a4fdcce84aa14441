/-
  The bytes of a packet ahead of sealing: the document's own (Body).
-/
import Derived.Test.YticmjlnpjopfbaaDoorCRefWrite
import Derived.Test.YticmjlnpjopfbaaDoorCFields
import Derived.Test.YticmjlnpjopfbaaDoorWire
import Derived.Test.YticmjlnpjopfbaaDoorSHeld
import Derived.Test.YticmjlnpjopfbaaDoorGrSlots
import Derived.Test.YticmjlnpjopfbaaDoorFitH
import Derived.Laws.AppendOwnNone
import Derived.Test.YticmjlnpjopfbaaDoorRowI
namespace Go.Proofs.YticmjlnpjopfbaaDoor
open Go.ChangeShapes Go.WideShapes Go.ChangeAt Go.RowKit
open C (Row enc txt flg sg rnumber_any rsigned_any rtext_any rflag_any)
set_option linter.unusedVariables false
set_option linter.unusedSimpArgs false


def Bt (l : List Int) : Prop := ∀ c ∈ l, 0 ≤ c ∧ c < 256
theorem Bt.app {a b : List Int} (h : Bt a) (k : Bt b) : Bt (a ++ b) := fun c hc => (List.mem_append.1 hc).elim (h c) (k c)
theorem bt_enc {x : Int} (h0 : 0 ≤ x) (h1 : x ≤ 18446744073709551615) : Bt (enc x) := C.enc_byte h0 (by omega)
theorem bt_flg (b : Bool) : Bt (flg b) := by intro c hc; cases b <;> simp [flg] at hc <;> omega
theorem bt_txt {s : ByteArray} (h : s.size ≤ 140737488355328) : Bt (txt s) := (bt_enc (by omega) (by omega)).app (C.bytesL_byte s)
/-- Bytes that were written: they lie in memory of their own. -/
structure Wrt (w w' : World) (a : Option Addr) (n c : Nat) (Z : List Int) : Prop where
  row : Row .u8 w' a n c Z
  byt : Bt Z
  own : C.Own w.heap.size w' (.slice a n c) Z
  below : Below w.heap.size w w'
theorem wrt_of {w w' : World} {v : Value} {Z : List Int} (o : C.Own w.heap.size w' v Z) (hb : Bt Z) (b : Below w.heap.size w w') : ∃ a n c, v = .slice a n c ∧ Wrt w w' a n c Z ∧ n = Z.length := by
  obtain ⟨a, c, rfl, r⟩ := o.row hb
  exact ⟨a, _, c, rfl, ⟨r, hb, o, b⟩, rfl⟩
theorem num_w (a : Option Addr) (n c : Nat) (zs : List Int) (x : Int) (w : World) (R : Row .u8 w a n c zs) (hb : Bt zs) (hl : n ≤ 70368744170000) (h0 : 0 ≤ x) (h1 : x ≤ 18446744073709551615) :
    Calls Tryd.prog 38 #[.slice a n c, .int .u64 x] w fun e w' => ∃ a' n' c' Z, e = .returned (.slice a' n' c') ∧ Wrt w w' a' n' c' Z ∧ Hid (Z = zs ++ enc x) ∧ n' ≤ n + 10 := by
  refine (rnumber_any a n c zs x w R hl h0 h1).mono ?_
  rintro e w' ⟨v, rfl, o, b⟩
  obtain ⟨a', n', c', rfl, W, hn⟩ := wrt_of o (hb.app (bt_enc h0 h1)) b
  exact ⟨a', n', c', _, rfl, W, rfl, by have := (C.enc_length x).2; have := R.size; rw [hn, List.length_append]; omega⟩
theorem sgn_w (a : Option Addr) (n c : Nat) (zs : List Int) (x : Int) (w : World) (R : Row .u8 w a n c zs) (hb : Bt zs) (hl : n ≤ 70368744170000) (h0 : -9223372036854775808 ≤ x) (h1 : x ≤ 9223372036854775807) :
    Calls Tryd.prog 61 #[.slice a n c, .int .i64 x] w fun e w' => ∃ a' n' c' Z, e = .returned (.slice a' n' c') ∧ Wrt w w' a' n' c' Z ∧ Hid (Z = zs ++ enc (sg x)) ∧ n' ≤ n + 10 := by
  refine (rsigned_any a n c zs x w R hl h0 h1).mono ?_
  rintro e w' ⟨v, rfl, o, b⟩
  obtain ⟨a', n', c', rfl, W, hn⟩ := wrt_of o (hb.app (bt_enc (C.sg_bd h0 h1).1 (C.sg_bd h0 h1).2)) b
  exact ⟨a', n', c', _, rfl, W, rfl, by have := (C.enc_length (sg x)).2; have := R.size; rw [hn, List.length_append]; omega⟩
theorem txt_w (a : Option Addr) (n c : Nat) (zs : List Int) (s : ByteArray) (w : World) (R : Row .u8 w a n c zs) (hb : Bt zs) (hl : n + s.size ≤ 70368744170000) :
    Calls Tryd.prog 59 #[.slice a n c, .string s] w fun e w' => ∃ a' n' c' Z, e = .returned (.slice a' n' c') ∧ Wrt w w' a' n' c' Z ∧ Hid (Z = zs ++ txt s) ∧ n' ≤ n + s.size + 10 := by
  refine (rtext_any a n c zs s w R hl).mono ?_
  rintro e w' ⟨v, rfl, o, b⟩
  obtain ⟨a', n', c', rfl, W, hn⟩ := wrt_of o (hb.app (bt_txt (by omega))) b
  exact ⟨a', n', c', _, rfl, W, rfl, by have := (C.enc_length (s.size : Int)).2; have := R.size; rw [hn, List.length_append, txt, List.length_append, C.bytesL_length]; omega⟩
theorem flg_w (a : Option Addr) (n c : Nat) (zs : List Int) (x : Bool) (w : World) (R : Row .u8 w a n c zs) (hb : Bt zs) (hl : n ≤ 70368744170000) :
    Calls Tryd.prog 60 #[.slice a n c, .bool x] w fun e w' => ∃ a' n' c' Z, e = .returned (.slice a' n' c') ∧ Wrt w w' a' n' c' Z ∧ Hid (Z = zs ++ flg x) ∧ n' ≤ n + 10 := by
  refine (rflag_any a n c zs x w R hl).mono ?_
  rintro e w' ⟨v, rfl, o, b⟩
  obtain ⟨a', n', c', rfl, W, hn⟩ := wrt_of o (hb.app (bt_flg x)) b
  exact ⟨a', n', c', _, rfl, W, rfl, by have := R.size; rw [hn, List.length_append]; simp [flg]; omega⟩
theorem u64_mod (x : Int) : ∃ u, x % 18446744073709551616 = u ∧ 0 ≤ u ∧ u ≤ 18446744073709551615 ∧ IntKind.u64.wrap x = u :=
  ⟨_, rfl, by omega, by omega, by rw [IntKind.wrap_u64]⟩
/-- The bytes of an extreme value. -/
def extB (e : Ex) : List Int := flg e.has ++ (enc (sg e.value) ++ (enc (e.origin % 18446744073709551616) ++ enc (e.age % 18446744073709551616)))
abbrev exV (e : Ex) : Value := .agg #[.bool e.has, .int .i64 e.value, .int .i64 e.origin, .int .i64 e.age]

set_option maxRecDepth 100000 in
set_option maxHeartbeats 8000000 in
theorem ext_any (a : Option Addr) (n c : Nat) (zs : List Int) (x : Ex) (w : World) (R : Row .u8 w a n c zs) (hb : Bt zs) (hl : n ≤ 70368744100000) (hv0 : -9223372036854775808 ≤ x.value) (hv1 : x.value ≤ 9223372036854775807) :
    Calls Tryd.prog 62 #[.slice a n c, exV x] w fun e w' => ∃ a' n' c' Z, e = .returned (.slice a' n' c') ∧ Wrt w w' a' n' c' Z ∧ Hid (Z = zs ++ extB x) ∧ n' ≤ n + 40 := by
  obtain ⟨u1, hu1, hu1a, hu1b, hw1⟩ := u64_mod x.origin
  obtain ⟨u2, hu2, hu2a, hu2b, hw2⟩ := u64_mod x.age
  have HU1 : Hid (x.origin % 18446744073709551616 = u1) := hu1
  have HU2 : Hid (x.age % 18446744073709551616 = u2) := hu2
  clear hu1 hu2
  go_enter Tryd.func62, Tryd.ntmps62
  go_wp2
  obtain ⟨wd, hwd⟩ : ∃ wd, World.drew (w.alloc (.cells #[.bool x.has, .int .i64 x.value, .int .i64 x.origin, .int .i64 x.age] 36)) = wd := ⟨_, rfl⟩
  have Bd : Below w.heap.size w wd := by rw [← hwd]; exact ((Below.refl _ _).alloc (Nat.le_refl _) _).drew
  have hzd : w.heap.size < wd.heap.size := by rw [← hwd]; simp
  have d0 : wd.cell? ⟨w.heap.size, 0, none⟩ = some (.bool x.has) := by rw [← hwd]; simp
  have d1 : wd.cell? ⟨w.heap.size, 1, none⟩ = some (.int .i64 x.value) := by rw [← hwd]; simp
  have d2 : wd.cell? ⟨w.heap.size, 2, none⟩ = some (.int .i64 x.origin) := by rw [← hwd]; simp
  have d3 : wd.cell? ⟨w.heap.size, 3, none⟩ = some (.int .i64 x.age) := by rw [← hwd]; simp
  have Rd := R.below Bd
  have g0 : ∀ X, Below wd.heap.size wd X → X.cell? ⟨w.heap.size, 0, none⟩ = some (.bool x.has) := fun X h => (h.cell (p := ⟨w.heap.size, 0, none⟩) hzd).trans d0
  have g1 : ∀ X, Below wd.heap.size wd X → X.cell? ⟨w.heap.size, 1, none⟩ = some (.int .i64 x.value) := fun X h => (h.cell (p := ⟨w.heap.size, 1, none⟩) hzd).trans d1
  refine wp_region_any (by kernel_rfl) ?_
  change wpAny _ _ _ _ _ _ _ (World.drew _)
  rw [hwd]
  refine S.wpAny_narrow (fun X => Below wd.heap.size wd X) _ _ _ _ ?_
  refine S.anyH_take 0 5 (.slice a n c) rfl rfl (by kernel_rfl) (by kernel_rfl) (by kernel_rfl) (fun _ _ _ h => h) (Or.inl ⟨by rfl, by intro w hSw; go_simp⟩) (Below.refl _ _) ?_
  try simp only [Act.put, List.setIfInBounds_toArray, List.set_cons_zero, List.set_cons_succ]
  refine S.anyH_take 1 6 (.pointer (some ⟨w.heap.size, 0, none⟩)) rfl rfl (by kernel_rfl) (by kernel_rfl) (by kernel_rfl) (fun _ _ _ h => h) (Or.inl ⟨by rfl, by intro w hSw; go_simp⟩) (Below.refl _ _) ?_
  try simp only [Act.put, List.setIfInBounds_toArray, List.set_cons_zero, List.set_cons_succ]
  refine S.anyH_take 2 7 (.bool x.has) rfl rfl (by kernel_rfl) (by kernel_rfl) (by kernel_rfl) (fun _ _ _ h => h) (Or.inl ⟨by rfl, by intro w hSw; have q := g0 _ hSw; go_simp⟩) (Below.refl _ _) ?_
  try simp only [Act.put, List.setIfInBounds_toArray, List.set_cons_zero, List.set_cons_succ]
  refine S.anyH_take 4 9 (.pointer (some ⟨w.heap.size, 1, none⟩)) rfl rfl (by kernel_rfl) (by kernel_rfl) (by kernel_rfl) (fun _ _ _ h => h) (Or.inl ⟨by rfl, by intro w hSw; go_simp⟩) (Below.refl _ _) ?_
  try simp only [Act.put, List.setIfInBounds_toArray, List.set_cons_zero, List.set_cons_succ]
  refine S.anyH_take 5 10 (.int .i64 x.value) rfl rfl (by kernel_rfl) (by kernel_rfl) (by kernel_rfl) (fun _ _ _ h => h) (Or.inl ⟨by rfl, by intro w hSw; have q := g1 _ hSw; go_simp⟩) (Below.refl _ _) ?_
  try simp only [Act.put, List.setIfInBounds_toArray, List.set_cons_zero, List.set_cons_succ]
  refine wpAnyH_ready (rs := [3]) (by kernel_rfl) (by simp) ?_
  refine AllReadyH.cons rfl (fun K hK => ?_) AllReadyH.nil
  go_simp
  go_wp2_with (go_at_call 60; refine (flg_w _ _ _ _ _ _ Rd hb (by omega)).mono ?_; rintro e w1 ⟨a1, n1, c1, Z1, rfl, W1, HZ1, l1⟩)
  refine hK.out _ _ (W1.below) (fun hS => ?_)
  clear hK
  refine wpAnyH_ready (rs := [6]) (by kernel_rfl) (by simp) ?_
  refine AllReadyH.cons rfl (fun K hK => ?_) AllReadyH.nil
  go_simp
  go_wp2_with (go_at_call 61; refine (sgn_w _ _ _ _ _ _ W1.row W1.byt (by omega) hv0 hv1).mono ?_; rintro e w2 ⟨a2, n2, c2, Z2, rfl, W2, HZ2, l2⟩; have b2 : Below wd.heap.size wd w2 := W1.below.trans (W2.below.mono W1.below.size))
  refine hK.out _ _ (b2) (fun hS => ?_)
  clear hK
  refine S.anyH_take 7 0 (.slice a2 n2 c2) rfl rfl (by kernel_rfl) (by kernel_rfl) (by kernel_rfl) (fun _ _ _ h => h) (Or.inl ⟨by rfl, by intro w hSw; go_simp⟩) (b2) ?_
  try simp only [Act.put, List.setIfInBounds_toArray, List.set_cons_zero, List.set_cons_succ]
  refine wpAnyH_done (by kernel_rfl) ?_ _
  go_wp2
  obtain ⟨we, hwe⟩ : ∃ we, World.drew w2 = we := ⟨_, rfl⟩
  have Be : Below wd.heap.size wd we := by rw [← hwe]; exact b2.drew
  have Re : Row .u8 we a2 n2 c2 Z2 := by rw [← hwe]; exact W2.row.drew
  have y2 := W2.byt
  have f2 := (Be.cell (p := ⟨w.heap.size, 2, none⟩) hzd).trans d2
  have f3 := (Be.cell (p := ⟨w.heap.size, 3, none⟩) hzd).trans d3
  have hze := Nat.lt_of_lt_of_le hzd Be.size
  have j2 : ∀ X, Below we.heap.size we X → X.cell? ⟨w.heap.size, 2, none⟩ = some (.int .i64 x.origin) := fun X h => (h.cell (p := ⟨w.heap.size, 2, none⟩) hze).trans f2
  have j3 : ∀ X, Below we.heap.size we X → X.cell? ⟨w.heap.size, 3, none⟩ = some (.int .i64 x.age) := fun X h => (h.cell (p := ⟨w.heap.size, 3, none⟩) hze).trans f3
  clear W1 W2 b2 d0 d1 d2 d3 Rd R
  refine wp_region_any (by kernel_rfl) ?_
  change wpAny _ _ _ _ _ _ _ (World.drew _)
  rw [hwe]
  refine S.wpAny_narrow (fun X => Below we.heap.size we X) _ _ _ _ ?_
  refine S.anyH_take 0 12 (.slice a2 n2 c2) rfl rfl (by kernel_rfl) (by kernel_rfl) (by kernel_rfl) (fun _ _ _ h => h) (Or.inl ⟨by rfl, by intro w hSw; go_simp⟩) (Below.refl _ _) ?_
  try simp only [Act.put, List.setIfInBounds_toArray, List.set_cons_zero, List.set_cons_succ]
  refine S.anyH_take 1 13 (.pointer (some ⟨w.heap.size, 2, none⟩)) rfl rfl (by kernel_rfl) (by kernel_rfl) (by kernel_rfl) (fun _ _ _ h => h) (Or.inl ⟨by rfl, by intro w hSw; go_simp⟩) (Below.refl _ _) ?_
  try simp only [Act.put, List.setIfInBounds_toArray, List.set_cons_zero, List.set_cons_succ]
  refine S.anyH_take 2 14 (.int .i64 x.origin) rfl rfl (by kernel_rfl) (by kernel_rfl) (by kernel_rfl) (fun _ _ _ h => h) (Or.inl ⟨by rfl, by intro w hSw; have q := j2 _ hSw; go_simp⟩) (Below.refl _ _) ?_
  try simp only [Act.put, List.setIfInBounds_toArray, List.set_cons_zero, List.set_cons_succ]
  refine S.anyH_take 3 15 (.int .u64 u1) rfl rfl (by kernel_rfl) (by kernel_rfl) (by kernel_rfl) (fun _ _ _ h => h) (Or.inl ⟨by rfl, by intro w hSw; go_simp⟩) (Below.refl _ _) ?_
  try simp only [Act.put, List.setIfInBounds_toArray, List.set_cons_zero, List.set_cons_succ]
  refine S.anyH_take 5 17 (.pointer (some ⟨w.heap.size, 3, none⟩)) rfl rfl (by kernel_rfl) (by kernel_rfl) (by kernel_rfl) (fun _ _ _ h => h) (Or.inl ⟨by rfl, by intro w hSw; go_simp⟩) (Below.refl _ _) ?_
  try simp only [Act.put, List.setIfInBounds_toArray, List.set_cons_zero, List.set_cons_succ]
  refine S.anyH_take 6 18 (.int .i64 x.age) rfl rfl (by kernel_rfl) (by kernel_rfl) (by kernel_rfl) (fun _ _ _ h => h) (Or.inl ⟨by rfl, by intro w hSw; have q := j3 _ hSw; go_simp⟩) (Below.refl _ _) ?_
  try simp only [Act.put, List.setIfInBounds_toArray, List.set_cons_zero, List.set_cons_succ]
  refine S.anyH_take 7 19 (.int .u64 u2) rfl rfl (by kernel_rfl) (by kernel_rfl) (by kernel_rfl) (fun _ _ _ h => h) (Or.inl ⟨by rfl, by intro w hSw; go_simp⟩) (Below.refl _ _) ?_
  try simp only [Act.put, List.setIfInBounds_toArray, List.set_cons_zero, List.set_cons_succ]
  refine wpAnyH_ready (rs := [4]) (by kernel_rfl) (by simp) ?_
  refine AllReadyH.cons rfl (fun K hK => ?_) AllReadyH.nil
  go_simp
  go_wp2_with (go_at_call 38; refine (num_w _ _ _ _ _ _ Re y2 (by omega) hu1a hu1b).mono ?_; rintro e w3 ⟨a3, n3, c3, Z3, rfl, W3, HZ3, l3⟩)
  refine hK.out _ _ (W3.below) (fun hS => ?_)
  clear hK
  refine wpAnyH_ready (rs := [8]) (by kernel_rfl) (by simp) ?_
  refine AllReadyH.cons rfl (fun K hK => ?_) AllReadyH.nil
  go_simp
  go_wp2_with (go_at_call 38; refine (num_w _ _ _ _ _ _ W3.row W3.byt (by omega) hu2a hu2b).mono ?_; rintro e w4 ⟨a4, n4, c4, Z4, rfl, W4, HZ4, l4⟩; have b4 : Below we.heap.size we w4 := W3.below.trans (W4.below.mono W3.below.size))
  refine hK.out _ _ (b4) (fun hS => ?_)
  clear hK
  refine S.anyH_take 9 4 (.slice a4 n4 c4) rfl rfl (by kernel_rfl) (by kernel_rfl) (by kernel_rfl) (fun _ _ _ h => h) (Or.inl ⟨by rfl, by intro w hSw; go_simp⟩) (b4) ?_
  try simp only [Act.put, List.setIfInBounds_toArray, List.set_cons_zero, List.set_cons_succ]
  refine wpAnyH_done (by kernel_rfl) ?_ _
  go_wp2
  go_ret
  have B4 : Below w.heap.size w w4 := (Bd.trans (Be.mono (Nat.le_of_lt hzd))).trans (b4.mono (by have := Be.size; omega))
  refine ⟨a4, n4, c4, Z4, rfl, ⟨W4.row, W4.byt, W4.own.at (by have := W3.below.size; have := Be.size; omega), B4⟩, ?_, by omega⟩
  show _ = _
  rw [HZ4.out, HZ3.out, HZ2.out, HZ1.out, extB, HU1.out, HU2.out]
  simp only [List.append_assoc]

end Go.Proofs.YticmjlnpjopfbaaDoor

namespace Go.Proofs.YticmjlnpjopfbaaDoor
open Go.ChangeShapes Go.WideShapes Go.ChangeAt Go.RowKit
set_option linter.unusedVariables false
set_option linter.unusedSimpArgs false

theorem info38 : (Tryd.prog.info? 38).map (fun i => (i.zero, i.size, i.bytes)) = some (some (itv itZ), 19, 160) := by kernel_rfl
theorem itc_len (x : Itm) : (itc x).length = 19 := rfl
theorem itcs_len (l : List Itm) : (l.flatMap itc).length = l.length * 19 := by
  induction l with
  | nil => rfl
  | cons x l ih => rw [List.flatMap_cons, List.length_append, ih, itc_len, List.length_cons]; omega
theorem itcs_at : ∀ (l : List Itm) (j i : Nat), j < l.length → i < 19 → (l.flatMap itc)[j * 19 + i]? = (itc (l.getD j itZ))[i]?
  | [], _, _, h, _ => by simp at h
  | f :: fs, 0, i, _, hi => by
    rw [List.flatMap_cons, List.getElem?_append_left (by rw [itc_len]; omega)]
    simp
  | f :: fs, j + 1, i, h, hi => by
    rw [List.flatMap_cons, List.getElem?_append_right (by rw [itc_len]; omega), itc_len, show (j + 1) * 19 + i - 19 = j * 19 + i by omega, itcs_at fs j i (by simpa using h) hi, List.getD_cons_succ]
theorem itc_one (x : Itm) : ∀ u ∈ itc x, u.oneCell' = true := by simp [itc, Value.oneCell']
theorem itcs_one (l : List Itm) : ∀ u ∈ l.flatMap itc, u.oneCell' = true := by
  intro u hu
  obtain ⟨x, _, h⟩ := List.mem_flatMap.1 hu
  exact itc_one x u h
theorem RowI.cells {w : World} {b off len cap : Nat} {l : List Itm} (R : RowI w (some ⟨b, off, none⟩) len cap l) : ∀ j u, (l.flatMap itc)[j]? = some u → w.cell? ((⟨b, off, none⟩ : Addr).add j) = some u := by
  intro j u hu
  have hj := (List.getElem?_eq_some_iff.1 hu).1
  rw [itcs_len] at hj
  have hsz := R.size
  rcases R.mem with h | ⟨b', off', e, _, hc⟩
  · omega
  · cases e
    have e1 : j / 19 * 19 + j % 19 = j := by omega
    have h1 : j / 19 < l.length := by omega
    have h2 : j % 19 < 19 := by omega
    rw [← e1, itcs_at l _ _ h1 h2] at hu
    rw [add_plain]
    have := hc (j / 19) (by omega) (j % 19) u hu
    rw [show off + j = off + j / 19 * 19 + j % 19 by omega]
    exact this
theorem rowI_owns {w : World} {base : Nat} {v : Value} {l : List Itm} (h : w.ownsRow base 38 19 v l.length (l.flatMap itc)) : ∃ a cap, v = .slice a l.length cap ∧ RowI w a l.length cap l ∧ (a = none ∨ ∃ g, a = some ⟨g, 0, none⟩ ∧ base ≤ g) := by
  rcases h.2 with ⟨rfl, hn⟩ | ⟨g, cap, cur, rfl, hg, hh, hn, hc, hcs, ht⟩
  · have e : l = [] := List.eq_nil_of_length_eq_zero hn
    subst e
    exact ⟨none, 0, rfl, rowI_nil _, .inl rfl⟩
  · refine ⟨_, _, rfl, ⟨rfl, hn, by unfold maxLen at hc; omega, fun h => (by cases h), .inr ⟨g, 0, rfl, (Array.getElem?_eq_some_iff.1 hh).1, fun j hj => ?_⟩⟩, .inr ⟨g, rfl, hg⟩⟩
    intro i v hv
    have hi : i < 19 := (List.getElem?_eq_some_iff.1 hv).1
    rw [cell_of_row _ _ _ _ 38 _ hh]
    have e := itcs_at l j i hj hi
    rw [← ht, List.getElem?_take, if_pos (by omega), hv] at e
    rw [Nat.zero_add]
    simpa using e

/-- append(nil, items...). -/
theorem wpList_append_its (w : World) {ops : Array Oper} {rest : List Oper} {o : Oper} {a : Act} {Q : Exit → Act → World → Prop} (hg : o.guard = none)
    (s x : Operand) (hop : o.op = Op.call { callee := Callee.builtin Builtin.append, args := #[s, x], argTypes := #[22, 22] })
    (base : Nat) (hs : a.eval s = .slice none 0 0) (ad : Option Addr) (len cap : Nat) (l : List Itm) (hx : a.eval x = .slice ad len cap) (R : RowI w ad len cap l) (hbase : base ≤ w.heap.size) (hb : len * 160 ≤ 140737488355328)
    (hK : ∀ v' w', w'.ownsRow base 38 19 v' l.length (l.flatMap itc) → Below w.heap.size w w' → wpList Tryd.prog ops Q rest (a.put o.dst v') w') : wpList Tryd.prog ops Q (o :: rest) a w := by
  obtain ⟨i0, hi, hz0, hz1, hz2⟩ := info_parts info38
  have hsz := R.size
  cases ad with
  | none =>
    obtain ⟨rfl, rfl⟩ := R.nil rfl
    have e : l = [] := List.eq_nil_of_length_eq_zero hsz
    subst e
    exact wpList_append_own_none hg s x 22 hop base 38 i0 19 Tryd.underlying22 hi (.slice none 0 0) 0 [] hs (World.ownsRow_nil w base 38 19) hx (hK _ w (World.ownsRow_nil w base 38 19) (Below.refl _ _))
  | some ad =>
    by_cases h0 : len = 0
    · subst h0
      have e : l = [] := List.eq_nil_of_length_eq_zero hsz
      subst e
      refine wpList_append_own w hg s x 22 hop base 38 i0 (itv itZ) 19 160 Tryd.underlying22 hi hz0 hz1 hz2 rfl (by decide) (.slice none 0 0) 0 [] hs (World.ownsRow_nil w base 38 19) ad 0 cap [] hx rfl (fun j u h => by simp at h) (fun u h => by simp at h) (by unfold maxLen; omega) (by omega) hbase ?_
      intro v' w' own hgr _
      exact hK v' w' own ((Below.refl _ _).grown hgr (Nat.le_refl _) (fun k hk => by cases hk))
    · obtain ⟨b, off, e, _, _⟩ := R.mem.resolve_left h0
      cases e
      refine wpList_append_own w hg s x 22 hop base 38 i0 (itv itZ) 19 160 Tryd.underlying22 hi hz0 hz1 hz2 rfl (by decide) (.slice none 0 0) 0 [] hs (World.ownsRow_nil w base 38 19) ⟨b, off, none⟩ len cap (l.flatMap itc) hx (by rw [itcs_len, hsz]) R.cells (itcs_one l) (by unfold maxLen; omega) (by omega) hbase ?_
      intro v' w' own hgr _
      rw [List.nil_append, Nat.zero_add, ← hsz] at own
      exact hK v' w' own ((Below.refl _ _).grown hgr (Nat.le_refl _) (fun k hk => by cases hk))
theorem wpList_loadPk {ops : Array Oper} {rest : List Oper} {o : Oper} {a : Act} {W : World} {Q : Exit → Act → World → Prop} (x : Operand) (ho : o.op = .load 24 x)
    (hw : Region.wanted o (yielded ops a.tmps) = true) (pb : Nat) (p : Pkt) (ad : Option Addr) (len cap : Nat) (P : PkAt W pb p ad len cap) (hx : a.eval x = .pointer (some ⟨pb, 0, none⟩))
    (h : wpList Tryd.prog ops Q rest (a.put o.dst (pkv p ad len cap)) W) : wpList Tryd.prog ops Q (o :: rest) a W :=
  wpList_step fun K hK => by
    rw [if_pos hw]
    exact wp_load_agg 24 x ho pb 0 hx (pkc p ad len cap) _ (fun j v h => by rw [Nat.zero_add]; exact P j v h) Tryd.underlying24 rfl (by kernel_rfl) (hK _ _ h)
theorem PkAt.set7 {W : World} {pb : Nat} {p : Pkt} {a : Option Addr} {len cap : Nat} (h : PkAt W pb p a len cap) (a' : Option Addr) (len' cap' : Nat) : PkAt (W.setCell ⟨pb, 7, none⟩ (.slice a' len' cap')) pb p a' len' cap' := by
  intro j v hj
  by_cases e : j = 7
  · subst e
    rw [World.cell?_setCell_same _ _ _ (h 7 _ rfl)]
    simpa [pkc] using hj
  · have hj' : (pkc p a len cap)[j]? = some v := by
      match j, e with
      | 0, _ => exact hj
      | 1, _ => exact hj
      | 2, _ => exact hj
      | 3, _ => exact hj
      | 4, _ => exact hj
      | 5, _ => exact hj
      | 6, _ => exact hj
      | 7, e => exact absurd rfl e
      | n + 8, _ => simp [pkc] at hj
    rw [World.cell?_setCell_other _ _ _ _ (by intro h; injection h with _ h; exact e h.symm)]
    exact h j v hj'
def zPk8 : Array Value := #[.int .i64 0, .int .i64 0, .int .i64 0, .int .i64 0, .int .i64 0, .int .i64 0, .int .i64 0, .slice none 0 0]

set_option maxRecDepth 100000 in
set_option maxHeartbeats 4000000 in
theorem copied_any (p : Pkt) (a : Option Addr) (len cap : Nat) (w : World) (R : RowI w a len cap p.items) (hb : len * 160 ≤ 140737488355328) :
    Calls Tryd.prog 9 #[pkv p a len cap] w fun e w' => ∃ a' cap', e = .returned (pkv p a' len cap') ∧ RowI w' a' len cap' p.items ∧ Below w.heap.size w w' := by
  have hsz := R.size
  have R3 := ((R.alloc (pkObj p a len cap)).alloc (.cells zPk8 24)).alloc (pkObj p none 0 0)
  have B3 : Below w.heap.size w (((w.alloc (pkObj p a len cap)).alloc (.cells zPk8 24)).alloc (pkObj p none 0 0)) := (((Below.refl _ _).alloc (Nat.le_refl _) _).alloc (by simp) _).alloc (by simp; omega) _
  have HL : Hid (p.items.length = len) := hsz
  clear hsz
  go_enter Tryd.func9, Tryd.ntmps9
  go_wp2_with (at_builtin; refine wpList_append_its _ rfl _ _ rfl (w.heap.size + 3) rfl a len cap p.items rfl R3 (by first | (simp; done) | (simp; omega)) hb ?_)
  intro v4 w4 own4 hb40
  obtain ⟨W3, hW3⟩ : ∃ W3, ((w.alloc (pkObj p a len cap)).alloc (.cells zPk8 24)).alloc (pkObj p none 0 0) = W3 := ⟨_, rfl⟩
  have e3 : W3.heap.size = w.heap.size + 1 + 1 + 1 := by rw [← hW3]; simp
  have hb4 : Below W3.heap.size W3 w4 := by rw [e3, ← hW3]; exact hb40
  clear hb40
  have p3 : PkAt W3 (w.heap.size + 1 + 1) p none 0 0 := by
    rw [← hW3]
    have := pkAt_new ((w.alloc (pkObj p a len cap)).alloc (.cells zPk8 24)) p none 0 0
    simpa using this
  have f3 : W3.frozen? ⟨w.heap.size + 1 + 1, 7, none⟩ = false := by
    rw [← hW3]
    have h := World.alloc_heap_new ((w.alloc (pkObj p a len cap)).alloc (.cells zPk8 24)) (pkObj p none 0 0)
    rw [World.size_alloc, World.size_alloc] at h
    unfold World.frozen?
    rw [show (⟨w.heap.size + 1 + 1, 7, none⟩ : Addr).block = w.heap.size + 1 + 1 from rfl, h]
    rfl
  have g1 : W3.heap[w.heap.size + 1]? = some (.cells zPk8 24 (0, 0)) := by
    rw [← hW3]
    have := World.alloc_heap_new (w.alloc (pkObj p a len cap)) (.cells zPk8 24)
    rw [World.size_alloc] at this
    exact (Below.heap_alloc _ _ _ (by simp)).trans this
  rw [hW3] at B3 R3
  clear hW3
  obtain ⟨a4, c4, rfl, R4, hA4⟩ := rowI_owns own4
  have P4 : PkAt w4 (w.heap.size + 1 + 1) p none 0 0 := p3.below hb4
  have q7 := P4 7 _ rfl
  have z7 := P4.lt
  have fz : w4.frozen? ⟨w.heap.size + 1 + 1, 7, none⟩ = false := (World.frozen?_of_block (a := ⟨w.heap.size + 1 + 1, 7, none⟩) (hb4.block (w.heap.size + 1 + 1) (by omega))).trans f3
  have PKx := P4.set7 a4 p.items.length c4
  have G1 : (w4.setCell ⟨w.heap.size + 1 + 1, 7, none⟩ (.slice a4 p.items.length c4)).heap[w.heap.size + 1]? = some (.cells zPk8 24 (0, 0)) :=
    (Below.heap_setCell _ _ _ _ (by show w.heap.size + 1 ≠ w.heap.size + 1 + 1; omega)).trans ((hb4.block (w.heap.size + 1) (by omega)).trans g1)
  have z3 : w.heap.size ≤ W3.heap.size := by omega
  clear g1 own4 P4 e3 p3 f3
  go_wp2_with (first
    | ((with_reducible show wpList _ _ _ (Oper.mk _ (Op.load 24 _) _ _ _ _ :: _) _ _); refine wpList_loadPk _ rfl rfl _ _ _ _ _ PKx rfl ?_)
    | ((with_reducible show wpList _ _ _ (Oper.mk _ (Op.store 24 _ _) _ _ _ _ :: _) _ _); refine wpList_store_row rfl 24 _ _ rfl (w.heap.size + 1) (pkc p a4 p.items.length c4).toArray rfl rfl 24 _ G1 (by kernel_rfl) rfl (by simp [pkc, Value.oneCell']) ?_))
  have B4 : Below w.heap.size w w4 := B3.trans (hb4.mono z3)
  have hl := HL.out
  refine bodyPost_ret (results_cell_row rfl _ _ (w.heap.size + 1) 24 (pkc p a4 p.items.length c4).toArray (0, 0) _ rfl (setRow_heap _ _ _ _ _ _ G1) Tryd.underlying24 rfl (by kernel_rfl)) rfl ⟨a4, c4, by rw [hl]; rfl, ?_, ?_⟩
  · rw [← hl]
    refine ⟨R4.size, R4.le, R4.max, R4.nil, R4.mem.imp id fun ⟨b, off, e, h, c⟩ => ⟨b, off, e, by simpa using h, fun j hj => (c j hj).of_block ?_⟩⟩
    have hbb : w.heap.size + 3 ≤ b := by
      rcases hA4 with h' | ⟨g, h', hg⟩
      · rw [h'] at e; cases e
      · rw [h'] at e; cases e; exact hg
    exact (setRow_other _ _ _ _ (by omega)).trans (Below.heap_setCell _ _ _ _ (by show b ≠ w.heap.size + 1 + 1; omega))
  · have B5 := B4.setCell (p := ⟨w.heap.size + 1 + 1, 7, none⟩) (by show w.heap.size ≤ w.heap.size + 1 + 1; omega) (.slice a4 p.items.length c4)
    exact ⟨B5.os, B5.tape, B5.output, by rw [size_setRow]; exact B5.size, fun b hb => (setRow_other _ _ _ _ (by omega)).trans (B5.block b hb)⟩

end Go.Proofs.YticmjlnpjopfbaaDoor

namespace Go.Proofs.YticmjlnpjopfbaaDoor
open Go.ChangeShapes Go.WideShapes Go.ChangeAt Go.RowKit
open C (Row enc txt flg sg rnumber_any rsigned_any rtext_any rflag_any)
set_option linter.unusedVariables false
set_option linter.unusedSimpArgs false


theorem flds_it (x : Itm) : C.flds (itF x) = txt x.name ++ (enc (x.epoch % 18446744073709551616) ++ (enc (x.maker % 18446744073709551616) ++ (flg x.alive ++ (enc (x.kind % 18446744073709551616) ++ (enc (x.scale % 18446744073709551616) ++ (enc (x.ver % 18446744073709551616) ++ (enc (x.writer % 18446744073709551616) ++ (enc (sg x.flow) ++ (flg x.hasRest ++ (enc (sg x.rest) ++ (extB x.mn ++ extB x.mx))))))))))) := by
  simp [C.flds, itF, C.encF1, C.encFld, nF, tF, sF, bF, extB]
def hdN (p : Pkt) : List Int := [p.kind, p.src, p.dst, p.boot, p.life, p.echo, p.echoLife]
def hdB (p : Pkt) (k : Nat) : List Int := ((hdN p).take k).flatMap fun x => enc (x % 18446744073709551616)
theorem hdB_succ (p : Pkt) (k : Nat) (x : Int) (h : (hdN p)[k]? = some x) : hdB p (k + 1) = hdB p k ++ enc (x % 18446744073709551616) := by
  simp [hdB, List.take_add_one, h]
theorem flds_hd (p : Pkt) : C.flds (hdF p) = hdB p 7 ++ enc ((p.items.length : Int) % 18446744073709551616) := by
  simp [C.flds, hdF, C.encF1, C.encFld, nF, hdB, hdN]
abbrev hdV (p : Pkt) : Value := .agg #[.int .i64 p.kind, .int .i64 p.src, .int .i64 p.dst, .int .i64 p.boot, .int .i64 p.life, .int .i64 p.echo, .int .i64 p.echoLife]
theorem hd_at (p : Pkt) : ∀ (k : Nat) (x : Int), (hdN p)[k]? = some x → ∀ w, (Instr.index 102 (hdV p) (.int .i64 (k : Int))).run Tryd.prog w = .ok (.int .i64 x) w := by
  intro k x hx w
  have hk : k < 7 := (List.getElem?_eq_some_iff.1 hx).1
  match k, hk with
  | 0, _ => cases hx; show _ = _; kernel_rfl
  | 1, _ => cases hx; show _ = _; kernel_rfl
  | 2, _ => cases hx; show _ = _; kernel_rfl
  | 3, _ => cases hx; show _ = _; kernel_rfl
  | 4, _ => cases hx; show _ = _; kernel_rfl
  | 5, _ => cases hx; show _ = _; kernel_rfl
  | 6, _ => cases hx; show _ = _; kernel_rfl
theorem take_itsF (l : List Itm) (i : Nat) (h : i < l.length) : itsF (l.take (i + 1)) = itsF (l.take i) ++ itF (l.getD i itZ) := by
  rw [List.take_succ_eq_append_getElem h, itsF_append]
  simp [itsF, List.getD, List.getElem?_eq_getElem h]
theorem part_le (p : Pkt) (i : Nat) (h : i < p.items.length) : (C.flds (hdF p) ++ C.flds (itsF (p.items.take i))).length + (p.items.getD i itZ).name.size ≤ (bodyP p).length := by
  have e : itsF p.items = itsF (p.items.take (i + 1)) ++ itsF (p.items.drop (i + 1)) := by rw [← itsF_append, List.take_append_drop]
  rw [bodyP, e, take_itsF _ _ h, flds_append, flds_append, flds_it]
  simp only [List.length_append, txt, C.bytesL_length]
  omega
structure itRg (x : Itm) : Prop where
  flow : -9223372036854775808 ≤ x.flow ∧ x.flow ≤ 9223372036854775807
  rest : -9223372036854775808 ≤ x.rest ∧ x.rest ≤ 9223372036854775807
  mn : -9223372036854775808 ≤ x.mn.value ∧ x.mn.value ≤ 9223372036854775807
  mx : -9223372036854775808 ≤ x.mx.value ∧ x.mx.value ≤ 9223372036854775807

set_option maxRecDepth 100000 in
set_option maxHeartbeats 8000000 in
theorem body_any (p : Pkt) (a : Option Addr) (len cap : Nat) (w : World) (R : RowI w a len cap p.items) (hT : (bodyP p).length ≤ 70368740000000) (hrgs : ∀ x ∈ p.items, itRg x) :
    Calls Tryd.prog 37 #[pkv p a len cap] w fun e w' => ∃ v, e = .returned v ∧ C.Own w.heap.size w' v (bodyP p) ∧ Below w.heap.size w w' := by
  have B1 : Below w.heap.size w (w.alloc (pkObj p a len cap)) := (Below.refl _ _).alloc (Nat.le_refl _) _
  have HR : Hid (RowI (w.alloc (pkObj p a len cap)) a len cap p.items) := R.alloc _
  have HPK : Hid (PkAt (w.alloc (pkObj p a len cap)) w.heap.size p a len cap) := pkAt_new w p a len cap
  have HL : Hid (p.items.length = len) := R.size
  have hle := R.le
  have hcp := R.max
  have HT : Hid ((bodyP p).length ≤ 70368740000000) := hT
  have HRG : Hid (∀ x ∈ p.items, itRg x) := hrgs
  clear R hT hrgs
  go_enter Tryd.func37, Tryd.ntmps37
  go_wp2
  obtain ⟨W0, hW0⟩ : ∃ W0, w.alloc (pkObj p a len cap) = W0 := ⟨_, rfl⟩
  have hz0 : w.heap.size < W0.heap.size := by rw [← hW0]; simp
  rw [hW0] at HR HPK B1 ⊢
  clear hW0
  go_loopg [3, 24] 7 (fun g v c wr => ∃ (k : Nat) (a0 : Option Addr) (n0 c0 : Nat) (Z0 : List Int), v = .slice a0 n0 c0 ∧ c = .int .i64 k ∧ k + g = 7 ∧ Row .u8 wr a0 n0 c0 Z0 ∧ Bt Z0 ∧ n0 ≤ 10 * k ∧ Below W0.heap.size W0 wr ∧ Hid (Z0 = hdB p k))
  case atStart => exact ⟨0, none, 0, 0, [], rfl, rfl, by omega, C.row_nil _ _, (fun c h => (by simp at h)), by omega, Below.refl _ _, rfl⟩
  case round =>
    rename World => wh
    rename Nat => gkh
    obtain ⟨k, a0, n0, c0, Z0, rfl, rfl, hg, r0, hbt, hn0, hB, HZ0⟩ := hrel
    have HG : Hid (k + gkh = 7) := hg
    have hk7 : k ≤ 7 := by omega
    clear hg
    by_cases hk : k < 7
    · obtain ⟨x, hx⟩ : ∃ x, (hdN p)[k]? = some x := ⟨_, List.getElem?_eq_getElem (show k < (hdN p).length from hk)⟩
      have hix := hd_at p k x hx
      obtain ⟨u, hu, hu0, hu1, hwu⟩ := u64_mod x
      have HE : Hid (hdB p (k + 1) = hdB p k ++ enc u) := by show _ = _; rw [hdB_succ p k x hx, hu]
      clear hu hx
      go_wp2_with (go_at_call 38; refine (num_w _ _ _ _ _ _ r0 hbt (by omega) hu0 hu1).mono ?_; rintro e w1 ⟨a1, n1, c1, Z1, rfl, W1, HZ1, l1⟩)
      go_roundg (gkh - 1)
      case measure => have := HG.out; omega
      case rel => exact ⟨k + 1, a1, n1, c1, Z1, rfl, by first | rfl | go_num, by have := HG.out; omega, W1.row, W1.byt, by omega, hB.trans (W1.below.mono hB.size), by show _ = _; rw [HZ1.out, HZ0.out, HE.out]⟩
    · obtain rfl : k = 7 := by omega
      have PK := HPK.out.below hB
      have c7 := PK 7 _ rfl
      obtain ⟨u, hu, hu0, hu1, hwu⟩ := u64_mod (len : Int)
      have HU : Hid ((len : Int) % 18446744073709551616 = u) := hu
      clear hu HG hk hk7
      go_wp2_with (go_at_call 38; refine (num_w _ _ _ _ _ _ r0 hbt (by omega) hu0 hu1).mono ?_; rintro e w1 ⟨a1, n1, c1, Z1, rfl, W1, HZ1, l1⟩)
      have HH : Hid (Z1 = C.flds (hdF p)) := by show _ = _; rw [HZ1.out, HZ0.out, flds_hd, HL.out, HU.out]
      have B1' : Below W0.heap.size W0 w1 := hB.trans (W1.below.mono hB.size)
      have OW1 : C.Own w.heap.size w1 (.slice a1 n1 c1) Z1 := W1.own.at (by have := hB.size; omega)
      have rr1 := W1.row
      have yy1 := W1.byt
      clear r0 hbt hB PK c7 HZ0 HZ1 W1 HU hu0 hu1 hwu
      go_loopg [3, 6] len (fun g v c wr => ∃ (i : Nat) (a0 : Option Addr) (n0 c0 : Nat) (Z0 : List Int), v = .slice a0 n0 c0 ∧ c = .int .i64 i ∧ i + g = len ∧ Row .u8 wr a0 n0 c0 Z0 ∧ Bt Z0 ∧ C.Own w.heap.size wr (.slice a0 n0 c0) Z0 ∧ Below W0.heap.size W0 wr ∧ Hid (Z0 = C.flds (hdF p) ++ C.flds (itsF (p.items.take i))))
      case atStart => exact ⟨0, a1, n1, c1, Z1, rfl, rfl, by omega, rr1, yy1, OW1, B1', by show _ = _; rw [HH.out]; simp [itsF, C.flds]⟩
      case round =>
        clear OW1 rr1 yy1 HH B1' l1 hn0
        obtain ⟨i, a0, n0, c0, Z0, rfl, rfl, hg, r0', hbt, own0, hB, HZ0⟩ := hrel
        have HG : Hid (i + gk = len) := hg
        have hi8 : i ≤ len := by omega
        clear hg
        have PK := HPK.out.below hB
        have c7 := PK 7 _ rfl
        by_cases hlt : i < len
        · have hI64 : (i : Int) < (len : Int) := by omega
          obtain ⟨b, off, rfl, hbz, hIt⟩ := (HR.out.below hB).mem.resolve_left (by omega)
          have Ir0 := hIt i hlt
          have hpl := part_le p i (by have := HL.out; omega)
          have hsz0 := r0'.size
          have hmem : p.items.getD i itZ ∈ p.items := by
            have hi' : i < p.items.length := by have := HL.out; omega
            simp [List.getD, List.getElem?_eq_getElem hi']
          have hrg := HRG.out _ hmem
          obtain ⟨x, hx⟩ : ∃ x, p.items.getD i itZ = x := ⟨_, rfl⟩
          rw [hx] at Ir0 hrg hpl
          have HX : Hid (p.items.getD i itZ = x) := hx
          rw [← HZ0.out, hsz0] at hpl
          have hn0 : n0 + x.name.size ≤ 70368740000000 := by have := HT.out; omega
          clear hx hmem hpl hsz0 hIt
          go_wp2_with (first
            | ((with_reducible show wpList _ _ _ (Oper.mk _ (Op.load 38 _) _ _ _ _ :: _) _ _); refine wpList_load38 _ rfl rfl _ _ x rfl Ir0 ?_)
            | ((with_reducible show wpList _ _ _ (Oper.mk _ (Op.store 38 _ _) _ _ _ _ :: _) _ _); refine wpList_store38 _ _ rfl rfl x _ rfl rfl rfl ?_))
          obtain ⟨wb, hwb⟩ : ∃ wb, (wr.alloc (itObj x)).alloc (.cells #[.string x.name, .int .i64 x.epoch, .int .i64 x.maker, .bool x.alive, .int .i64 x.kind, .int .i64 x.scale] 32) = wb := ⟨_, rfl⟩
          have hzb : wr.heap.size + 1 < wb.heap.size := by rw [← hwb]; simp
          have hza : wr.heap.size < wb.heap.size := by omega
          have hBb : Below wr.heap.size wr wb := by rw [← hwb]; exact ((Below.refl _ _).alloc (Nat.le_refl _) _).alloc (by simp) _
          have hItb : ∀ j v, (itc x)[j]? = some v → wb.cell? ⟨wr.heap.size, j, none⟩ = some v := by
            intro j v hj
            have h := (itAt_new wr x).alloc (.cells #[.string x.name, .int .i64 x.epoch, .int .i64 x.maker, .bool x.alive, .int .i64 x.kind, .int .i64 x.scale] 32)
            rw [hwb] at h
            have h2 := h j v hj
            rw [Nat.zero_add] at h2
            exact h2
          have hc0 : ∀ X, Below wb.heap.size wb X → X.cell? ⟨wr.heap.size + 1, 0, none⟩ = some (.string x.name) := fun X h => (h.cell (p := ⟨wr.heap.size + 1, 0, none⟩) hzb).trans (by rw [← hwb]; simp)
          have hc1 : ∀ X, Below wb.heap.size wb X → X.cell? ⟨wr.heap.size + 1, 1, none⟩ = some (.int .i64 x.epoch) := fun X h => (h.cell (p := ⟨wr.heap.size + 1, 1, none⟩) hzb).trans (by rw [← hwb]; simp)
          have hc2 : ∀ X, Below wb.heap.size wb X → X.cell? ⟨wr.heap.size + 1, 2, none⟩ = some (.int .i64 x.maker) := fun X h => (h.cell (p := ⟨wr.heap.size + 1, 2, none⟩) hzb).trans (by rw [← hwb]; simp)
          have hc3 : ∀ X, Below wb.heap.size wb X → X.cell? ⟨wr.heap.size + 1, 3, none⟩ = some (.bool x.alive) := fun X h => (h.cell (p := ⟨wr.heap.size + 1, 3, none⟩) hzb).trans (by rw [← hwb]; simp)
          have hc4 : ∀ X, Below wb.heap.size wb X → X.cell? ⟨wr.heap.size + 1, 4, none⟩ = some (.int .i64 x.kind) := fun X h => (h.cell (p := ⟨wr.heap.size + 1, 4, none⟩) hzb).trans (by rw [← hwb]; simp)
          have hc5 : ∀ X, Below wb.heap.size wb X → X.cell? ⟨wr.heap.size + 1, 5, none⟩ = some (.int .i64 x.scale) := fun X h => (h.cell (p := ⟨wr.heap.size + 1, 5, none⟩) hzb).trans (by rw [← hwb]; simp)
          have hx6 : ∀ X, Below wb.heap.size wb X → X.cell? ⟨wr.heap.size, 6, none⟩ = some (.int .i64 x.ver) := fun X h => (h.cell (p := ⟨wr.heap.size, 6, none⟩) hza).trans (hItb 6 _ rfl)
          have hx7 : ∀ X, Below wb.heap.size wb X → X.cell? ⟨wr.heap.size, 7, none⟩ = some (.int .i64 x.writer) := fun X h => (h.cell (p := ⟨wr.heap.size, 7, none⟩) hza).trans (hItb 7 _ rfl)
          have hx8 : ∀ X, Below wb.heap.size wb X → X.cell? ⟨wr.heap.size, 8, none⟩ = some (.int .i64 x.flow) := fun X h => (h.cell (p := ⟨wr.heap.size, 8, none⟩) hza).trans (hItb 8 _ rfl)
          have hx9 : ∀ X, Below wb.heap.size wb X → X.cell? ⟨wr.heap.size, 9, none⟩ = some (.bool x.hasRest) := fun X h => (h.cell (p := ⟨wr.heap.size, 9, none⟩) hza).trans (hItb 9 _ rfl)
          have hx10 : ∀ X, Below wb.heap.size wb X → X.cell? ⟨wr.heap.size, 10, none⟩ = some (.int .i64 x.rest) := fun X h => (h.cell (p := ⟨wr.heap.size, 10, none⟩) hza).trans (hItb 10 _ rfl)
          have hx11 : ∀ X, Below wb.heap.size wb X → X.cell? ⟨wr.heap.size, 11, none⟩ = some (.bool x.mn.has) := fun X h => (h.cell (p := ⟨wr.heap.size, 11, none⟩) hza).trans (hItb 11 _ rfl)
          have hx12 : ∀ X, Below wb.heap.size wb X → X.cell? ⟨wr.heap.size, 12, none⟩ = some (.int .i64 x.mn.value) := fun X h => (h.cell (p := ⟨wr.heap.size, 12, none⟩) hza).trans (hItb 12 _ rfl)
          have hx13 : ∀ X, Below wb.heap.size wb X → X.cell? ⟨wr.heap.size, 13, none⟩ = some (.int .i64 x.mn.origin) := fun X h => (h.cell (p := ⟨wr.heap.size, 13, none⟩) hza).trans (hItb 13 _ rfl)
          have hx14 : ∀ X, Below wb.heap.size wb X → X.cell? ⟨wr.heap.size, 14, none⟩ = some (.int .i64 x.mn.age) := fun X h => (h.cell (p := ⟨wr.heap.size, 14, none⟩) hza).trans (hItb 14 _ rfl)
          have hx15 : ∀ X, Below wb.heap.size wb X → X.cell? ⟨wr.heap.size, 15, none⟩ = some (.bool x.mx.has) := fun X h => (h.cell (p := ⟨wr.heap.size, 15, none⟩) hza).trans (hItb 15 _ rfl)
          have hx16 : ∀ X, Below wb.heap.size wb X → X.cell? ⟨wr.heap.size, 16, none⟩ = some (.int .i64 x.mx.value) := fun X h => (h.cell (p := ⟨wr.heap.size, 16, none⟩) hza).trans (hItb 16 _ rfl)
          have hx17 : ∀ X, Below wb.heap.size wb X → X.cell? ⟨wr.heap.size, 17, none⟩ = some (.int .i64 x.mx.origin) := fun X h => (h.cell (p := ⟨wr.heap.size, 17, none⟩) hza).trans (hItb 17 _ rfl)
          have hx18 : ∀ X, Below wb.heap.size wb X → X.cell? ⟨wr.heap.size, 18, none⟩ = some (.int .i64 x.mx.age) := fun X h => (h.cell (p := ⟨wr.heap.size, 18, none⟩) hza).trans (hItb 18 _ rfl)
          rw [hwb]
          clear hItb hwb
          obtain ⟨uE, huE, uE0, uE1, hwE⟩ := u64_mod x.epoch
          have HUE : Hid (x.epoch % 18446744073709551616 = uE) := huE
          clear huE
          obtain ⟨uM, huM, uM0, uM1, hwM⟩ := u64_mod x.maker
          have HUM : Hid (x.maker % 18446744073709551616 = uM) := huM
          clear huM
          obtain ⟨uK, huK, uK0, uK1, hwK⟩ := u64_mod x.kind
          have HUK : Hid (x.kind % 18446744073709551616 = uK) := huK
          clear huK
          obtain ⟨uS, huS, uS0, uS1, hwS⟩ := u64_mod x.scale
          have HUS : Hid (x.scale % 18446744073709551616 = uS) := huS
          clear huS
          obtain ⟨uV, huV, uV0, uV1, hwV⟩ := u64_mod x.ver
          have HUV : Hid (x.ver % 18446744073709551616 = uV) := huV
          clear huV
          obtain ⟨uW, huW, uW0, uW1, hwW⟩ := u64_mod x.writer
          have HUW : Hid (x.writer % 18446744073709551616 = uW) := huW
          clear huW
          have r0 := r0'.below hBb
          have b0 : Below wb.heap.size wb wb := Below.refl _ _
          clear r0'
          obtain ⟨wi, hwi⟩ : ∃ wi, World.drew wb = wi := ⟨_, rfl⟩
          have Bwi : Below wb.heap.size wb wi := by rw [← hwi]; exact b0.drew
          have Rwi : Row .u8 wi a0 n0 c0 Z0 := by rw [← hwi]; exact r0.drew
          refine wp_region_any (by kernel_rfl) ?_
          change wpAny _ _ _ _ _ _ _ (World.drew _)
          rw [hwi]
          refine S.wpAny_narrow (fun X => Below wi.heap.size wi X) _ _ _ _ ?_
          refine S.anyH_take 0 52 (.slice a0 n0 c0) rfl rfl (by kernel_rfl) (by kernel_rfl) (by kernel_rfl) (fun _ _ _ h => h) (Or.inl ⟨by rfl, by intro w hSw; go_simp⟩) (Below.refl _ _) ?_
          try simp only [Act.put, List.setIfInBounds_toArray, List.set_cons_zero, List.set_cons_succ]
          refine S.anyH_take 1 53 (.pointer (some ⟨wr.heap.size + 1, 0, none⟩)) rfl rfl (by kernel_rfl) (by kernel_rfl) (by kernel_rfl) (fun _ _ _ h => h) (Or.inl ⟨by rfl, by intro w hSw; go_simp⟩) (Below.refl _ _) ?_
          try simp only [Act.put, List.setIfInBounds_toArray, List.set_cons_zero, List.set_cons_succ]
          refine S.anyH_take 2 54 (.string x.name) rfl rfl (by kernel_rfl) (by kernel_rfl) (by kernel_rfl) (fun _ _ _ h => h) (Or.inl ⟨by rfl, by intro w hSw; have q := hc0 _ (Bwi.trans (hSw.mono Bwi.size)); go_simp⟩) (Below.refl _ _) ?_
          try simp only [Act.put, List.setIfInBounds_toArray, List.set_cons_zero, List.set_cons_succ]
          refine S.anyH_take 4 56 (.pointer (some ⟨wr.heap.size + 1, 1, none⟩)) rfl rfl (by kernel_rfl) (by kernel_rfl) (by kernel_rfl) (fun _ _ _ h => h) (Or.inl ⟨by rfl, by intro w hSw; go_simp⟩) (Below.refl _ _) ?_
          try simp only [Act.put, List.setIfInBounds_toArray, List.set_cons_zero, List.set_cons_succ]
          refine S.anyH_take 5 57 (.int .i64 x.epoch) rfl rfl (by kernel_rfl) (by kernel_rfl) (by kernel_rfl) (fun _ _ _ h => h) (Or.inl ⟨by rfl, by intro w hSw; have q := hc1 _ (Bwi.trans (hSw.mono Bwi.size)); go_simp⟩) (Below.refl _ _) ?_
          try simp only [Act.put, List.setIfInBounds_toArray, List.set_cons_zero, List.set_cons_succ]
          refine S.anyH_take 6 58 (.int .u64 uE) rfl rfl (by kernel_rfl) (by kernel_rfl) (by kernel_rfl) (fun _ _ _ h => h) (Or.inl ⟨by rfl, by intro w hSw; go_simp⟩) (Below.refl _ _) ?_
          try simp only [Act.put, List.setIfInBounds_toArray, List.set_cons_zero, List.set_cons_succ]
          refine S.anyH_take 8 60 (.pointer (some ⟨wr.heap.size + 1, 2, none⟩)) rfl rfl (by kernel_rfl) (by kernel_rfl) (by kernel_rfl) (fun _ _ _ h => h) (Or.inl ⟨by rfl, by intro w hSw; go_simp⟩) (Below.refl _ _) ?_
          try simp only [Act.put, List.setIfInBounds_toArray, List.set_cons_zero, List.set_cons_succ]
          refine S.anyH_take 9 61 (.int .i64 x.maker) rfl rfl (by kernel_rfl) (by kernel_rfl) (by kernel_rfl) (fun _ _ _ h => h) (Or.inl ⟨by rfl, by intro w hSw; have q := hc2 _ (Bwi.trans (hSw.mono Bwi.size)); go_simp⟩) (Below.refl _ _) ?_
          try simp only [Act.put, List.setIfInBounds_toArray, List.set_cons_zero, List.set_cons_succ]
          refine S.anyH_take 10 62 (.int .u64 uM) rfl rfl (by kernel_rfl) (by kernel_rfl) (by kernel_rfl) (fun _ _ _ h => h) (Or.inl ⟨by rfl, by intro w hSw; go_simp⟩) (Below.refl _ _) ?_
          try simp only [Act.put, List.setIfInBounds_toArray, List.set_cons_zero, List.set_cons_succ]
          refine wpAnyH_ready (rs := [3]) (by kernel_rfl) (by simp) ?_
          refine AllReadyH.cons rfl (fun K hK => ?_) AllReadyH.nil
          go_simp
          go_wp2_with (go_at_call 59; refine (txt_w _ _ _ _ _ _ Rwi hbt (by omega)).mono ?_; rintro e w1 ⟨a1, n1, c1, Z1, rfl, W1, HZ1, l1⟩; have c1' : Below wi.heap.size wi w1 := W1.below)
          refine hK.out _ _ (c1') (fun hS => ?_)
          clear hK
          refine wpAnyH_ready (rs := [7]) (by kernel_rfl) (by simp) ?_
          refine AllReadyH.cons rfl (fun K hK => ?_) AllReadyH.nil
          go_simp
          go_wp2_with (go_at_call 38; refine (num_w _ _ _ _ _ _ W1.row W1.byt (by omega) uE0 uE1).mono ?_; rintro e w2 ⟨a2, n2, c2, Z2, rfl, W2, HZ2, l2⟩; have c2' : Below wi.heap.size wi w2 := c1'.trans (W2.below.mono c1'.size))
          refine hK.out _ _ (c2') (fun hS => ?_)
          clear hK
          refine wpAnyH_ready (rs := [11]) (by kernel_rfl) (by simp) ?_
          refine AllReadyH.cons rfl (fun K hK => ?_) AllReadyH.nil
          go_simp
          go_wp2_with (go_at_call 38; refine (num_w _ _ _ _ _ _ W2.row W2.byt (by omega) uM0 uM1).mono ?_; rintro e w3 ⟨a3, n3, c3, Z3, rfl, W3, HZ3, l3⟩; have c3' : Below wi.heap.size wi w3 := c2'.trans (W3.below.mono c2'.size))
          refine hK.out _ _ (c3') (fun hS => ?_)
          clear hK
          refine S.anyH_take 12 3 (.slice a3 n3 c3) rfl rfl (by kernel_rfl) (by kernel_rfl) (by kernel_rfl) (fun _ _ _ h => h) (Or.inl ⟨by rfl, by intro w hSw; go_simp⟩) (c3') ?_
          try simp only [Act.put, List.setIfInBounds_toArray, List.set_cons_zero, List.set_cons_succ]
          refine wpAnyH_done (by kernel_rfl) ?_ _
          have r3 := W3.row
          have b3 : Below wb.heap.size wb w3 := Bwi.trans (c3'.mono Bwi.size)
          have q := hc3 _ b3
          clear c1' c2' c3' W1 W2 Rwi
          go_wp2_with (go_at_call 60; refine (flg_w _ _ _ _ _ _ r3 W3.byt (by omega)).mono ?_; rintro e w4 ⟨a4, n4, c4, Z4, rfl, W4, HZ4, l4⟩)
          have r4 := W4.row
          have b4 : Below wb.heap.size wb w4 := b3.trans (W4.below.mono b3.size)
          clear q W3
          obtain ⟨wj, hwj⟩ : ∃ wj, World.drew w4 = wj := ⟨_, rfl⟩
          have Bwj : Below wb.heap.size wb wj := by rw [← hwj]; exact b4.drew
          have Rwj : Row .u8 wj a4 n4 c4 Z4 := by rw [← hwj]; exact r4.drew
          refine wp_region_any (by kernel_rfl) ?_
          change wpAny _ _ _ _ _ _ _ (World.drew _)
          rw [hwj]
          refine S.wpAny_narrow (fun X => Below wj.heap.size wj X) _ _ _ _ ?_
          refine S.anyH_take 0 68 (.slice a4 n4 c4) rfl rfl (by kernel_rfl) (by kernel_rfl) (by kernel_rfl) (fun _ _ _ h => h) (Or.inl ⟨by rfl, by intro w hSw; go_simp⟩) (Below.refl _ _) ?_
          try simp only [Act.put, List.setIfInBounds_toArray, List.set_cons_zero, List.set_cons_succ]
          refine S.anyH_take 1 69 (.pointer (some ⟨wr.heap.size + 1, 4, none⟩)) rfl rfl (by kernel_rfl) (by kernel_rfl) (by kernel_rfl) (fun _ _ _ h => h) (Or.inl ⟨by rfl, by intro w hSw; go_simp⟩) (Below.refl _ _) ?_
          try simp only [Act.put, List.setIfInBounds_toArray, List.set_cons_zero, List.set_cons_succ]
          refine S.anyH_take 2 70 (.int .i64 x.kind) rfl rfl (by kernel_rfl) (by kernel_rfl) (by kernel_rfl) (fun _ _ _ h => h) (Or.inl ⟨by rfl, by intro w hSw; have q := hc4 _ (Bwj.trans (hSw.mono Bwj.size)); go_simp⟩) (Below.refl _ _) ?_
          try simp only [Act.put, List.setIfInBounds_toArray, List.set_cons_zero, List.set_cons_succ]
          refine S.anyH_take 3 71 (.int .u64 uK) rfl rfl (by kernel_rfl) (by kernel_rfl) (by kernel_rfl) (fun _ _ _ h => h) (Or.inl ⟨by rfl, by intro w hSw; go_simp⟩) (Below.refl _ _) ?_
          try simp only [Act.put, List.setIfInBounds_toArray, List.set_cons_zero, List.set_cons_succ]
          refine S.anyH_take 5 73 (.pointer (some ⟨wr.heap.size + 1, 5, none⟩)) rfl rfl (by kernel_rfl) (by kernel_rfl) (by kernel_rfl) (fun _ _ _ h => h) (Or.inl ⟨by rfl, by intro w hSw; go_simp⟩) (Below.refl _ _) ?_
          try simp only [Act.put, List.setIfInBounds_toArray, List.set_cons_zero, List.set_cons_succ]
          refine S.anyH_take 6 74 (.int .i64 x.scale) rfl rfl (by kernel_rfl) (by kernel_rfl) (by kernel_rfl) (fun _ _ _ h => h) (Or.inl ⟨by rfl, by intro w hSw; have q := hc5 _ (Bwj.trans (hSw.mono Bwj.size)); go_simp⟩) (Below.refl _ _) ?_
          try simp only [Act.put, List.setIfInBounds_toArray, List.set_cons_zero, List.set_cons_succ]
          refine S.anyH_take 7 75 (.int .u64 uS) rfl rfl (by kernel_rfl) (by kernel_rfl) (by kernel_rfl) (fun _ _ _ h => h) (Or.inl ⟨by rfl, by intro w hSw; go_simp⟩) (Below.refl _ _) ?_
          try simp only [Act.put, List.setIfInBounds_toArray, List.set_cons_zero, List.set_cons_succ]
          refine wpAnyH_ready (rs := [4]) (by kernel_rfl) (by simp) ?_
          refine AllReadyH.cons rfl (fun K hK => ?_) AllReadyH.nil
          go_simp
          go_wp2_with (go_at_call 38; refine (num_w _ _ _ _ _ _ Rwj W4.byt (by omega) uK0 uK1).mono ?_; rintro e w5 ⟨a5, n5, c5, Z5, rfl, W5, HZ5, l5⟩; have c5' : Below wj.heap.size wj w5 := W5.below)
          refine hK.out _ _ (c5') (fun hS => ?_)
          clear hK
          refine wpAnyH_ready (rs := [8]) (by kernel_rfl) (by simp) ?_
          refine AllReadyH.cons rfl (fun K hK => ?_) AllReadyH.nil
          go_simp
          go_wp2_with (go_at_call 38; refine (num_w _ _ _ _ _ _ W5.row W5.byt (by omega) uS0 uS1).mono ?_; rintro e w6 ⟨a6, n6, c6, Z6, rfl, W6, HZ6, l6⟩; have c6' : Below wj.heap.size wj w6 := c5'.trans (W6.below.mono c5'.size))
          refine hK.out _ _ (c6') (fun hS => ?_)
          clear hK
          refine S.anyH_take 9 3 (.slice a6 n6 c6) rfl rfl (by kernel_rfl) (by kernel_rfl) (by kernel_rfl) (fun _ _ _ h => h) (Or.inl ⟨by rfl, by intro w hSw; go_simp⟩) (c6') ?_
          try simp only [Act.put, List.setIfInBounds_toArray, List.set_cons_zero, List.set_cons_succ]
          refine wpAnyH_done (by kernel_rfl) ?_ _
          have r6 := W6.row
          have b6 : Below wb.heap.size wb w6 := Bwj.trans (c6'.mono Bwj.size)
          clear c5' c6' W4 W5 Rwj
          go_wp2
          obtain ⟨wk, hwk⟩ : ∃ wk, World.drew w6 = wk := ⟨_, rfl⟩
          have Bwk : Below wb.heap.size wb wk := by rw [← hwk]; exact b6.drew
          have Rwk : Row .u8 wk a6 n6 c6 Z6 := by rw [← hwk]; exact r6.drew
          refine wp_region_any (by kernel_rfl) ?_
          change wpAny _ _ _ _ _ _ _ (World.drew _)
          rw [hwk]
          refine S.wpAny_narrow (fun X => Below wk.heap.size wk X) _ _ _ _ ?_
          refine S.anyH_take 0 77 (.slice a6 n6 c6) rfl rfl (by kernel_rfl) (by kernel_rfl) (by kernel_rfl) (fun _ _ _ h => h) (Or.inl ⟨by rfl, by intro w hSw; go_simp⟩) (Below.refl _ _) ?_
          try simp only [Act.put, List.setIfInBounds_toArray, List.set_cons_zero, List.set_cons_succ]
          refine S.anyH_take 1 78 (.pointer (some ⟨wr.heap.size, 6, none⟩)) rfl rfl (by kernel_rfl) (by kernel_rfl) (by kernel_rfl) (fun _ _ _ h => h) (Or.inl ⟨by rfl, by intro w hSw; go_simp⟩) (Below.refl _ _) ?_
          try simp only [Act.put, List.setIfInBounds_toArray, List.set_cons_zero, List.set_cons_succ]
          refine S.anyH_take 2 79 (.pointer (some ⟨wr.heap.size, 6, none⟩)) rfl rfl (by kernel_rfl) (by kernel_rfl) (by kernel_rfl) (fun _ _ _ h => h) (Or.inl ⟨by rfl, by intro w hSw; go_simp⟩) (Below.refl _ _) ?_
          try simp only [Act.put, List.setIfInBounds_toArray, List.set_cons_zero, List.set_cons_succ]
          refine S.anyH_take 3 80 (.int .i64 x.ver) rfl rfl (by kernel_rfl) (by kernel_rfl) (by kernel_rfl) (fun _ _ _ h => h) (Or.inl ⟨by rfl, by intro w hSw; have q := hx6 _ (Bwk.trans (hSw.mono Bwk.size)); go_simp⟩) (Below.refl _ _) ?_
          try simp only [Act.put, List.setIfInBounds_toArray, List.set_cons_zero, List.set_cons_succ]
          refine S.anyH_take 4 81 (.int .u64 uV) rfl rfl (by kernel_rfl) (by kernel_rfl) (by kernel_rfl) (fun _ _ _ h => h) (Or.inl ⟨by rfl, by intro w hSw; go_simp⟩) (Below.refl _ _) ?_
          try simp only [Act.put, List.setIfInBounds_toArray, List.set_cons_zero, List.set_cons_succ]
          refine S.anyH_take 6 83 (.pointer (some ⟨wr.heap.size, 6, none⟩)) rfl rfl (by kernel_rfl) (by kernel_rfl) (by kernel_rfl) (fun _ _ _ h => h) (Or.inl ⟨by rfl, by intro w hSw; go_simp⟩) (Below.refl _ _) ?_
          try simp only [Act.put, List.setIfInBounds_toArray, List.set_cons_zero, List.set_cons_succ]
          refine S.anyH_take 7 84 (.pointer (some ⟨wr.heap.size, 7, none⟩)) rfl rfl (by kernel_rfl) (by kernel_rfl) (by kernel_rfl) (fun _ _ _ h => h) (Or.inl ⟨by rfl, by intro w hSw; go_simp⟩) (Below.refl _ _) ?_
          try simp only [Act.put, List.setIfInBounds_toArray, List.set_cons_zero, List.set_cons_succ]
          refine S.anyH_take 8 85 (.int .i64 x.writer) rfl rfl (by kernel_rfl) (by kernel_rfl) (by kernel_rfl) (fun _ _ _ h => h) (Or.inl ⟨by rfl, by intro w hSw; have q := hx7 _ (Bwk.trans (hSw.mono Bwk.size)); go_simp⟩) (Below.refl _ _) ?_
          try simp only [Act.put, List.setIfInBounds_toArray, List.set_cons_zero, List.set_cons_succ]
          refine S.anyH_take 9 86 (.int .u64 uW) rfl rfl (by kernel_rfl) (by kernel_rfl) (by kernel_rfl) (fun _ _ _ h => h) (Or.inl ⟨by rfl, by intro w hSw; go_simp⟩) (Below.refl _ _) ?_
          try simp only [Act.put, List.setIfInBounds_toArray, List.set_cons_zero, List.set_cons_succ]
          refine wpAnyH_ready (rs := [5]) (by kernel_rfl) (by simp) ?_
          refine AllReadyH.cons rfl (fun K hK => ?_) AllReadyH.nil
          go_simp
          go_wp2_with (go_at_call 38; refine (num_w _ _ _ _ _ _ Rwk W6.byt (by omega) uV0 uV1).mono ?_; rintro e w7 ⟨a7, n7, c7, Z7, rfl, W7, HZ7, l7⟩; have c7' : Below wk.heap.size wk w7 := W7.below)
          refine hK.out _ _ (c7') (fun hS => ?_)
          clear hK
          refine wpAnyH_ready (rs := [10]) (by kernel_rfl) (by simp) ?_
          refine AllReadyH.cons rfl (fun K hK => ?_) AllReadyH.nil
          go_simp
          go_wp2_with (go_at_call 38; refine (num_w _ _ _ _ _ _ W7.row W7.byt (by omega) uW0 uW1).mono ?_; rintro e w8 ⟨a8, n8, c8, Z8, rfl, W8, HZ8, l8⟩; have c8' : Below wk.heap.size wk w8 := c7'.trans (W8.below.mono c7'.size))
          refine hK.out _ _ (c8') (fun hS => ?_)
          clear hK
          refine S.anyH_take 11 3 (.slice a8 n8 c8) rfl rfl (by kernel_rfl) (by kernel_rfl) (by kernel_rfl) (fun _ _ _ h => h) (Or.inl ⟨by rfl, by intro w hSw; go_simp⟩) (c8') ?_
          try simp only [Act.put, List.setIfInBounds_toArray, List.set_cons_zero, List.set_cons_succ]
          refine wpAnyH_done (by kernel_rfl) ?_ _
          have r8 := W8.row
          have b8 : Below wb.heap.size wb w8 := Bwk.trans (c8'.mono Bwk.size)
          clear c7' c8' W6 W7 Rwk
          go_wp2
          obtain ⟨wl, hwl⟩ : ∃ wl, World.drew w8 = wl := ⟨_, rfl⟩
          have Bwl : Below wb.heap.size wb wl := by rw [← hwl]; exact b8.drew
          have Rwl : Row .u8 wl a8 n8 c8 Z8 := by rw [← hwl]; exact r8.drew
          refine wp_region_any (by kernel_rfl) ?_
          change wpAny _ _ _ _ _ _ _ (World.drew _)
          rw [hwl]
          refine S.wpAny_narrow (fun X => Below wl.heap.size wl X) _ _ _ _ ?_
          refine S.anyH_take 0 88 (.slice a8 n8 c8) rfl rfl (by kernel_rfl) (by kernel_rfl) (by kernel_rfl) (fun _ _ _ h => h) (Or.inl ⟨by rfl, by intro w hSw; go_simp⟩) (Below.refl _ _) ?_
          try simp only [Act.put, List.setIfInBounds_toArray, List.set_cons_zero, List.set_cons_succ]
          refine S.anyH_take 1 89 (.pointer (some ⟨wr.heap.size, 6, none⟩)) rfl rfl (by kernel_rfl) (by kernel_rfl) (by kernel_rfl) (fun _ _ _ h => h) (Or.inl ⟨by rfl, by intro w hSw; go_simp⟩) (Below.refl _ _) ?_
          try simp only [Act.put, List.setIfInBounds_toArray, List.set_cons_zero, List.set_cons_succ]
          refine S.anyH_take 2 90 (.pointer (some ⟨wr.heap.size, 8, none⟩)) rfl rfl (by kernel_rfl) (by kernel_rfl) (by kernel_rfl) (fun _ _ _ h => h) (Or.inl ⟨by rfl, by intro w hSw; go_simp⟩) (Below.refl _ _) ?_
          try simp only [Act.put, List.setIfInBounds_toArray, List.set_cons_zero, List.set_cons_succ]
          refine S.anyH_take 3 91 (.int .i64 x.flow) rfl rfl (by kernel_rfl) (by kernel_rfl) (by kernel_rfl) (fun _ _ _ h => h) (Or.inl ⟨by rfl, by intro w hSw; have q := hx8 _ (Bwl.trans (hSw.mono Bwl.size)); go_simp⟩) (Below.refl _ _) ?_
          try simp only [Act.put, List.setIfInBounds_toArray, List.set_cons_zero, List.set_cons_succ]
          refine S.anyH_take 5 93 (.pointer (some ⟨wr.heap.size, 9, none⟩)) rfl rfl (by kernel_rfl) (by kernel_rfl) (by kernel_rfl) (fun _ _ _ h => h) (Or.inl ⟨by rfl, by intro w hSw; go_simp⟩) (Below.refl _ _) ?_
          try simp only [Act.put, List.setIfInBounds_toArray, List.set_cons_zero, List.set_cons_succ]
          refine S.anyH_take 6 94 (.bool x.hasRest) rfl rfl (by kernel_rfl) (by kernel_rfl) (by kernel_rfl) (fun _ _ _ h => h) (Or.inl ⟨by rfl, by intro w hSw; have q := hx9 _ (Bwl.trans (hSw.mono Bwl.size)); go_simp⟩) (Below.refl _ _) ?_
          try simp only [Act.put, List.setIfInBounds_toArray, List.set_cons_zero, List.set_cons_succ]
          refine S.anyH_take 8 96 (.pointer (some ⟨wr.heap.size, 10, none⟩)) rfl rfl (by kernel_rfl) (by kernel_rfl) (by kernel_rfl) (fun _ _ _ h => h) (Or.inl ⟨by rfl, by intro w hSw; go_simp⟩) (Below.refl _ _) ?_
          try simp only [Act.put, List.setIfInBounds_toArray, List.set_cons_zero, List.set_cons_succ]
          refine S.anyH_take 9 97 (.int .i64 x.rest) rfl rfl (by kernel_rfl) (by kernel_rfl) (by kernel_rfl) (fun _ _ _ h => h) (Or.inl ⟨by rfl, by intro w hSw; have q := hx10 _ (Bwl.trans (hSw.mono Bwl.size)); go_simp⟩) (Below.refl _ _) ?_
          try simp only [Act.put, List.setIfInBounds_toArray, List.set_cons_zero, List.set_cons_succ]
          refine wpAnyH_ready (rs := [4]) (by kernel_rfl) (by simp) ?_
          refine AllReadyH.cons rfl (fun K hK => ?_) AllReadyH.nil
          go_simp
          go_wp2_with (go_at_call 61; refine (sgn_w _ _ _ _ _ _ Rwl W8.byt (by omega) hrg.flow.1 hrg.flow.2).mono ?_; rintro e w9 ⟨a9, n9, c9, Z9, rfl, W9, HZ9, l9⟩; have c9' : Below wl.heap.size wl w9 := W9.below)
          refine hK.out _ _ (c9') (fun hS => ?_)
          clear hK
          refine wpAnyH_ready (rs := [7]) (by kernel_rfl) (by simp) ?_
          refine AllReadyH.cons rfl (fun K hK => ?_) AllReadyH.nil
          go_simp
          go_wp2_with (go_at_call 60; refine (flg_w _ _ _ _ _ _ W9.row W9.byt (by omega)).mono ?_; rintro e w10 ⟨a10, n10, c10, Z10, rfl, W10, HZ10, l10⟩; have c10' : Below wl.heap.size wl w10 := c9'.trans (W10.below.mono c9'.size))
          refine hK.out _ _ (c10') (fun hS => ?_)
          clear hK
          refine wpAnyH_ready (rs := [10]) (by kernel_rfl) (by simp) ?_
          refine AllReadyH.cons rfl (fun K hK => ?_) AllReadyH.nil
          go_simp
          go_wp2_with (go_at_call 61; refine (sgn_w _ _ _ _ _ _ W10.row W10.byt (by omega) hrg.rest.1 hrg.rest.2).mono ?_; rintro e w11 ⟨a11, n11, c11, Z11, rfl, W11, HZ11, l11⟩; have c11' : Below wl.heap.size wl w11 := c10'.trans (W11.below.mono c10'.size))
          refine hK.out _ _ (c11') (fun hS => ?_)
          clear hK
          refine S.anyH_take 11 3 (.slice a11 n11 c11) rfl rfl (by kernel_rfl) (by kernel_rfl) (by kernel_rfl) (fun _ _ _ h => h) (Or.inl ⟨by rfl, by intro w hSw; go_simp⟩) (c11') ?_
          try simp only [Act.put, List.setIfInBounds_toArray, List.set_cons_zero, List.set_cons_succ]
          refine wpAnyH_done (by kernel_rfl) ?_ _
          have r11 := W11.row
          have b11 : Below wb.heap.size wb w11 := Bwl.trans (c11'.mono Bwl.size)
          clear c9' c10' c11' W8 W9 W10 Rwl
          go_wp2
          obtain ⟨wm, hwm⟩ : ∃ wm, World.drew w11 = wm := ⟨_, rfl⟩
          have Bwm : Below wb.heap.size wb wm := by rw [← hwm]; exact b11.drew
          have Rwm : Row .u8 wm a11 n11 c11 Z11 := by rw [← hwm]; exact r11.drew
          refine wp_region_any (by kernel_rfl) ?_
          change wpAny _ _ _ _ _ _ _ (World.drew _)
          rw [hwm]
          refine S.wpAny_narrow (fun X => Below wm.heap.size wm X) _ _ _ _ ?_
          refine S.anyH_take 0 99 (.slice a11 n11 c11) rfl rfl (by kernel_rfl) (by kernel_rfl) (by kernel_rfl) (fun _ _ _ h => h) (Or.inl ⟨by rfl, by intro w hSw; go_simp⟩) (Below.refl _ _) ?_
          try simp only [Act.put, List.setIfInBounds_toArray, List.set_cons_zero, List.set_cons_succ]
          refine S.anyH_take 1 100 (.pointer (some ⟨wr.heap.size, 11, none⟩)) rfl rfl (by kernel_rfl) (by kernel_rfl) (by kernel_rfl) (fun _ _ _ h => h) (Or.inl ⟨by rfl, by intro w hSw; go_simp⟩) (Below.refl _ _) ?_
          try simp only [Act.put, List.setIfInBounds_toArray, List.set_cons_zero, List.set_cons_succ]
          refine S.anyH_take 2 101 (exV x.mn) rfl rfl (by kernel_rfl) (by kernel_rfl) (by kernel_rfl) (fun _ _ _ h => h) (Or.inl ⟨by rfl, by intro w hSw; have q0 := hx11 _ (Bwm.trans (hSw.mono Bwm.size)); have q1 := hx12 _ (Bwm.trans (hSw.mono Bwm.size)); have q2 := hx13 _ (Bwm.trans (hSw.mono Bwm.size)); have q3 := hx14 _ (Bwm.trans (hSw.mono Bwm.size)); go_simp⟩) (Below.refl _ _) ?_
          try simp only [Act.put, List.setIfInBounds_toArray, List.set_cons_zero, List.set_cons_succ]
          refine S.anyH_take 4 103 (.pointer (some ⟨wr.heap.size, 15, none⟩)) rfl rfl (by kernel_rfl) (by kernel_rfl) (by kernel_rfl) (fun _ _ _ h => h) (Or.inl ⟨by rfl, by intro w hSw; go_simp⟩) (Below.refl _ _) ?_
          try simp only [Act.put, List.setIfInBounds_toArray, List.set_cons_zero, List.set_cons_succ]
          refine S.anyH_take 5 104 (exV x.mx) rfl rfl (by kernel_rfl) (by kernel_rfl) (by kernel_rfl) (fun _ _ _ h => h) (Or.inl ⟨by rfl, by intro w hSw; have q0 := hx15 _ (Bwm.trans (hSw.mono Bwm.size)); have q1 := hx16 _ (Bwm.trans (hSw.mono Bwm.size)); have q2 := hx17 _ (Bwm.trans (hSw.mono Bwm.size)); have q3 := hx18 _ (Bwm.trans (hSw.mono Bwm.size)); go_simp⟩) (Below.refl _ _) ?_
          try simp only [Act.put, List.setIfInBounds_toArray, List.set_cons_zero, List.set_cons_succ]
          refine wpAnyH_ready (rs := [3]) (by kernel_rfl) (by simp) ?_
          refine AllReadyH.cons rfl (fun K hK => ?_) AllReadyH.nil
          go_simp
          go_wp2_with (go_at_call 62; refine (ext_any _ _ _ _ _ _ Rwm W11.byt (by omega) hrg.mn.1 hrg.mn.2).mono ?_; rintro e w12 ⟨a12, n12, c12, Z12, rfl, W12, HZ12, l12⟩; have c12' : Below wm.heap.size wm w12 := W12.below)
          refine hK.out _ _ (c12') (fun hS => ?_)
          clear hK
          refine wpAnyH_ready (rs := [6]) (by kernel_rfl) (by simp) ?_
          refine AllReadyH.cons rfl (fun K hK => ?_) AllReadyH.nil
          go_simp
          go_wp2_with (go_at_call 62; refine (ext_any _ _ _ _ _ _ W12.row W12.byt (by omega) hrg.mx.1 hrg.mx.2).mono ?_; rintro e w13 ⟨a13, n13, c13, Z13, rfl, W13, HZ13, l13⟩; have c13' : Below wm.heap.size wm w13 := c12'.trans (W13.below.mono c12'.size))
          refine hK.out _ _ (c13') (fun hS => ?_)
          clear hK
          refine S.anyH_take 7 3 (.slice a13 n13 c13) rfl rfl (by kernel_rfl) (by kernel_rfl) (by kernel_rfl) (fun _ _ _ h => h) (Or.inl ⟨by rfl, by intro w hSw; go_simp⟩) (c13') ?_
          try simp only [Act.put, List.setIfInBounds_toArray, List.set_cons_zero, List.set_cons_succ]
          refine wpAnyH_done (by kernel_rfl) ?_ _
          have r13 := W13.row
          have b13 : Below wb.heap.size wb w13 := Bwm.trans (c13'.mono Bwm.size)
          go_wp2
          go_roundg (gk - 1)
          case measure => have := HG.out; omega
          case rel =>
            refine ⟨i + 1, a13, n13, c13, Z13, rfl, by first | rfl | go_num, by have := HG.out; omega, r13, W13.byt, W13.own.at (by have h1 := c12'.size; have h2 := Bwm.size; have h3 := hB.size; omega), (hB.trans (hBb.mono hB.size)).trans (b13.mono (by have h3 := hB.size; have h4 := hBb.size; omega)), ?_⟩
            show _ = _
            rw [take_itsF _ _ (by have := HL.out; omega), HX.out, flds_append, flds_it, HUE.out, HUM.out, HUK.out, HUS.out, HUV.out, HUW.out]
            rw [HZ13.out, HZ12.out, HZ11.out, HZ10.out, HZ9.out, HZ8.out, HZ7.out, HZ6.out, HZ5.out, HZ4.out, HZ3.out, HZ2.out, HZ1.out, HZ0.out]
            simp only [List.append_assoc]
        · have HE : Hid (Z0 = bodyP p) := by
            show _ = _
            rw [HZ0.out, bodyP, List.take_of_length_le (by have := HL.out; omega)]
          go_wp2
          go_ret
          refine ⟨_, rfl, ?_, B1.trans (hB.mono (Nat.le_of_lt hz0))⟩
          rw [← HE.out]
          exact own0

end Go.Proofs.YticmjlnpjopfbaaDoor
