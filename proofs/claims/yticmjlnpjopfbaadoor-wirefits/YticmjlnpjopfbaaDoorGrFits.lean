/-
  Fit and Encode answer as the document says, whatever the packet, which stays as it is (P5.1, P5.2): the law WireFits returns true for every input.
-/
import Derived.Test.YticmjlnpjopfbaaDoorGrBody
import Derived.Test.YticmjlnpjopfbaaDoorGrRFit
import Derived.Test.YticmjlnpjopfbaaDoorSSeal
import Derived.Test.YticmjlnpjopfbaaDoorGrEnc
import Derived.Test.YticmjlnpjopfbaaDoorFitH
import Derived.Test.YticmjlnpjopfbaaDoorRows
import Derived.Test.YticmjlnpjopfbaaDoorLoad
import Derived.ChangeSame
import Derived.ProofKit
import Derived.OpenShut
import Derived.Test.YticmjlnpjopfbaaDoorRowI
import Derived.Deep.Slices
import Derived.SizedLaws
import Derived.Deep.DeepHandedRow
import Derived.Test.YticmjlnpjopfbaaDoorCards
import Derived.Test.YticmjlnpjopfbaaDoorTie
import Derived.WalkKit
import Derived.ChangeOld
import Derived.Below
import Derived.Lib.LaidTab
namespace Go.Proofs.YticmjlnpjopfbaaDoor
open Go.ChangeShapes Go.WideShapes Go.ChangeAt Go.RowKit
set_option linter.unusedVariables false
set_option linter.unusedSimpArgs false

theorem rg_ok {x : Itm} (h : itOk x) : itRg x := ⟨h.flow, h.rest, h.mn.value, h.mx.value⟩

set_option maxRecDepth 100000 in
set_option maxHeartbeats 4000000 in
theorem rencode_any (p : Pkt) (a : Option Addr) (len cap : Nat) (w : World) (R : RowI w a len cap p.items) :
    Calls Tryd.prog 13 #[pkv p a len cap] w fun e w' => ∃ v, e = .returned v ∧ S.Own w.heap.size w' v (encP p) ∧ Below w.heap.size w w' := by
  have B1 : Below w.heap.size w (w.alloc (pkObj p a len cap)) := (Below.refl _ _).alloc (Nat.le_refl _) _
  have R1 := R.alloc (pkObj p a len cap)
  have P1 := pkAt_new w p a len cap
  have KF := fun w1 (R' : RowI w1 a len cap p.items) => rfit_any p a len cap w1 R'
  cases hf : fitP p with
  | false =>
    rw [show encP p = [] by rw [encP, hf]; rfl]
    rw [hf] at KF
    go_enter Tryd.func13, Tryd.ntmps13
    go_wp2_with (go_at_call 11; refine (KF _ R1).mono ?_; rintro e w1 ⟨rfl, hb1⟩)
    go_ret
    exact ⟨_, rfl, S.Own.nil _ _, B1.trans (hb1.mono B1.size)⟩
  | true =>
    rw [encP_fit hf]
    rw [hf] at KF
    have hbl := bodyP_len hf
    have hok := (fitP_ok hf).1
    have hby : S.Byt (bodyP p) := bodyP_byte hok
    have KB := fun w1 (R' : RowI w1 a len cap p.items) => body_any p a len cap w1 R' (by omega) (fun x hx => rg_ok (hok.items x hx))
    obtain ⟨zs, hzs⟩ : ∃ zs, bodyP p = zs := ⟨_, rfl⟩
    rw [hzs] at KB hbl hby ⊢
    clear hzs hok hf
    go_enter Tryd.func13, Tryd.ntmps13
    go_wp2_with (first
      | (go_at_call 11; refine (KF _ R1).mono ?_; rintro e w1 ⟨rfl, hb1⟩; have PKx := P1.below hb1; have R2 := R1.below hb1; have B2 : Below w.heap.size w w1 := B1.trans (hb1.mono B1.size))
      | ((with_reducible show wpList _ _ _ (Oper.mk _ (Op.load 24 _) _ _ _ _ :: _) _ _); refine wpList_loadPk _ rfl rfl _ _ _ _ _ PKx rfl ?_)
      | (go_at_call 37; refine (KB _ R2).mono ?_; rintro e w2 ⟨v2, rfl, own2, hb2⟩; have O2 : S.Own w1.heap.size w2 v2 zs := own2; obtain ⟨a2, n2, c2, rfl, r2, hn2⟩ := O2.row' hby; have hn3 : n2 ≤ 9223372036854775807 := (by omega); clear hn2; have B3 : Below w.heap.size w w2 := B2.trans (hb2.mono B2.size))
      | (go_at_call 23; refine (S.rseal_any _ _ _ _ w2 r2 hn3).mono ?_; rintro e w3 ⟨so3, hb3⟩; unfold S.SealOut at so3; rw [if_neg (by omega)] at so3; obtain ⟨v3, rfl, own3⟩ := so3))
    go_ret
    exact ⟨_, rfl, own3.at (by have := B3.size; omega), B3.trans (hb3.mono B3.size)⟩

end Go.Proofs.YticmjlnpjopfbaaDoor

namespace Go.Proofs.YticmjlnpjopfbaaDoor
open Go.ChangeShapes Go.WideShapes Go.ChangeAt Go.RowKit
set_option linter.unusedVariables false
set_option linter.unusedSimpArgs false

def sameI (x y : Itm) : Bool := (((x.name.toList == y.name.toList) && ((x.epoch == y.epoch) && ((x.maker == y.maker) && ((x.alive == y.alive) && ((x.kind == y.kind) && ((x.scale == y.scale) && true)))))) && (((x.ver == y.ver) && ((x.writer == y.writer) && ((x.flow == y.flow) && true))) && ((x.hasRest == y.hasRest) && ((x.rest == y.rest) && (((x.mn.has == y.mn.has) && ((x.mn.value == y.mn.value) && ((x.mn.origin == y.mn.origin) && ((x.mn.age == y.mn.age) && true)))) && (((x.mx.has == y.mx.has) && ((x.mx.value == y.mx.value) && ((x.mx.origin == y.mx.origin) && ((x.mx.age == y.mx.age) && true)))) && true))))))
theorem bytes_ext {a b : ByteArray} (h : a.toList = b.toList) : a = b := by
  cases a; cases b; simp [ByteArray.toList_eq] at h; simpa using h
theorem sameI_iff (x y : Itm) : sameI x y = true ↔ x = y := by
  constructor
  · intro h
    simp only [sameI, Bool.and_eq_true, beq_iff_eq, Bool.and_true] at h
    obtain ⟨⟨h0, h1, h2, h3, h4, h5⟩, ⟨h6, h7, h8⟩, h9, h10, ⟨h11, h12, h13, h14⟩, h15, h16, h17, h18⟩ := h
    have h0 := bytes_ext h0
    obtain ⟨x0, x1, x2, x3, x4, x5, x6, x7, x8, x9, x10, ⟨x11, x12, x13, x14⟩, x15, x16, x17, x18⟩ := x
    obtain ⟨y0, y1, y2, y3, y4, y5, y6, y7, y8, y9, y10, ⟨y11, y12, y13, y14⟩, y15, y16, y17, y18⟩ := y
    simp_all
  · rintro rfl
    simp [sameI]
theorem neq_it (w : World) (x y : Itm) : (binOp .neq 38 (itv x) (itv y)).run Tryd.prog w = .ok (.bool (!sameI x y)) w := neq38 w _ _ _ _ _ _ _ _ _ _ _ _ _ _ _ _ _ _ _ _ _ _ _ _ _ _ _ _ _ _ _ _ _ _ _ _ _ _
theorem eql_it (w : World) (x y : Itm) : (binOp .eql 38 (itv x) (itv y)).run Tryd.prog w = .ok (.bool (sameI x y)) w := eql38 w _ _ _ _ _ _ _ _ _ _ _ _ _ _ _ _ _ _ _ _ _ _ _ _ _ _ _ _ _ _ _ _ _ _ _ _ _ _
attribute [local go_sem 5000] neq_it eql_it
set_option maxRecDepth 100000 in
set_option maxHeartbeats 4000000 in
theorem rsame_h0 (p q : Pkt) (a a2 : Option Addr) (len cap len2 cap2 : Nat) (w : World) (R : RowI w a len cap p.items) (R2 : RowI w a2 len2 cap2 q.items)  (e0 : (p.kind != q.kind) = true) : Calls Tryd.prog 14 #[pkv p a len cap, pkv q a2 len2 cap2] w fun e w' => e = .returned (.bool false) ∧ Below w.heap.size w w' := by
  clear R R2
  go_enter Tryd.func14, Tryd.ntmps14
  go_wp2
  all_goals go_ret
  all_goals exact ⟨by first | rfl | exact C.ret_bool (by simp_all), ((Below.refl _ _).alloc (Nat.le_refl _) _).alloc (by simp) _⟩
set_option maxRecDepth 100000 in
set_option maxHeartbeats 4000000 in
theorem rsame_h1 (p q : Pkt) (a a2 : Option Addr) (len cap len2 cap2 : Nat) (w : World) (R : RowI w a len cap p.items) (R2 : RowI w a2 len2 cap2 q.items) (e0 : (p.kind != q.kind) = false) (e1 : (p.src != q.src) = true) : Calls Tryd.prog 14 #[pkv p a len cap, pkv q a2 len2 cap2] w fun e w' => e = .returned (.bool false) ∧ Below w.heap.size w w' := by
  clear R R2
  go_enter Tryd.func14, Tryd.ntmps14
  go_wp2
  all_goals go_ret
  all_goals exact ⟨by first | rfl | exact C.ret_bool (by simp_all), ((Below.refl _ _).alloc (Nat.le_refl _) _).alloc (by simp) _⟩
set_option maxRecDepth 100000 in
set_option maxHeartbeats 4000000 in
theorem rsame_h2 (p q : Pkt) (a a2 : Option Addr) (len cap len2 cap2 : Nat) (w : World) (R : RowI w a len cap p.items) (R2 : RowI w a2 len2 cap2 q.items) (e0 : (p.kind != q.kind) = false) (e1 : (p.src != q.src) = false) (e2 : (p.dst != q.dst) = true) : Calls Tryd.prog 14 #[pkv p a len cap, pkv q a2 len2 cap2] w fun e w' => e = .returned (.bool false) ∧ Below w.heap.size w w' := by
  clear R R2
  go_enter Tryd.func14, Tryd.ntmps14
  go_wp2
  all_goals go_ret
  all_goals exact ⟨by first | rfl | exact C.ret_bool (by simp_all), ((Below.refl _ _).alloc (Nat.le_refl _) _).alloc (by simp) _⟩
set_option maxRecDepth 100000 in
set_option maxHeartbeats 4000000 in
theorem rsame_h3 (p q : Pkt) (a a2 : Option Addr) (len cap len2 cap2 : Nat) (w : World) (R : RowI w a len cap p.items) (R2 : RowI w a2 len2 cap2 q.items) (e0 : (p.kind != q.kind) = false) (e1 : (p.src != q.src) = false) (e2 : (p.dst != q.dst) = false) (e3 : (p.boot != q.boot) = true) : Calls Tryd.prog 14 #[pkv p a len cap, pkv q a2 len2 cap2] w fun e w' => e = .returned (.bool false) ∧ Below w.heap.size w w' := by
  clear R R2
  go_enter Tryd.func14, Tryd.ntmps14
  go_wp2
  all_goals go_ret
  all_goals exact ⟨by first | rfl | exact C.ret_bool (by simp_all), ((Below.refl _ _).alloc (Nat.le_refl _) _).alloc (by simp) _⟩
set_option maxRecDepth 100000 in
set_option maxHeartbeats 4000000 in
theorem rsame_h4 (p q : Pkt) (a a2 : Option Addr) (len cap len2 cap2 : Nat) (w : World) (R : RowI w a len cap p.items) (R2 : RowI w a2 len2 cap2 q.items) (e0 : (p.kind != q.kind) = false) (e1 : (p.src != q.src) = false) (e2 : (p.dst != q.dst) = false) (e3 : (p.boot != q.boot) = false) (e4 : (p.life != q.life) = true) : Calls Tryd.prog 14 #[pkv p a len cap, pkv q a2 len2 cap2] w fun e w' => e = .returned (.bool false) ∧ Below w.heap.size w w' := by
  clear R R2
  go_enter Tryd.func14, Tryd.ntmps14
  go_wp2
  all_goals go_ret
  all_goals exact ⟨by first | rfl | exact C.ret_bool (by simp_all), ((Below.refl _ _).alloc (Nat.le_refl _) _).alloc (by simp) _⟩
set_option maxRecDepth 100000 in
set_option maxHeartbeats 4000000 in
theorem rsame_h5 (p q : Pkt) (a a2 : Option Addr) (len cap len2 cap2 : Nat) (w : World) (R : RowI w a len cap p.items) (R2 : RowI w a2 len2 cap2 q.items) (e0 : (p.kind != q.kind) = false) (e1 : (p.src != q.src) = false) (e2 : (p.dst != q.dst) = false) (e3 : (p.boot != q.boot) = false) (e4 : (p.life != q.life) = false) (e5 : (p.echo != q.echo) = true) : Calls Tryd.prog 14 #[pkv p a len cap, pkv q a2 len2 cap2] w fun e w' => e = .returned (.bool false) ∧ Below w.heap.size w w' := by
  clear R R2
  go_enter Tryd.func14, Tryd.ntmps14
  go_wp2
  all_goals go_ret
  all_goals exact ⟨by first | rfl | exact C.ret_bool (by simp_all), ((Below.refl _ _).alloc (Nat.le_refl _) _).alloc (by simp) _⟩
set_option maxRecDepth 100000 in
set_option maxHeartbeats 4000000 in
theorem rsame_h6 (p q : Pkt) (a a2 : Option Addr) (len cap len2 cap2 : Nat) (w : World) (R : RowI w a len cap p.items) (R2 : RowI w a2 len2 cap2 q.items) (e0 : (p.kind != q.kind) = false) (e1 : (p.src != q.src) = false) (e2 : (p.dst != q.dst) = false) (e3 : (p.boot != q.boot) = false) (e4 : (p.life != q.life) = false) (e5 : (p.echo != q.echo) = false) (e6 : (p.echoLife != q.echoLife) = true) : Calls Tryd.prog 14 #[pkv p a len cap, pkv q a2 len2 cap2] w fun e w' => e = .returned (.bool false) ∧ Below w.heap.size w w' := by
  clear R R2
  go_enter Tryd.func14, Tryd.ntmps14
  go_wp2
  all_goals go_ret
  all_goals exact ⟨by first | rfl | exact C.ret_bool (by simp_all), ((Below.refl _ _).alloc (Nat.le_refl _) _).alloc (by simp) _⟩
set_option maxRecDepth 100000 in
set_option maxHeartbeats 4000000 in
theorem rsame_l (p q : Pkt) (a a2 : Option Addr) (len cap len2 cap2 : Nat) (w : World) (R : RowI w a len cap p.items) (R2 : RowI w a2 len2 cap2 q.items) (e0 : (p.kind != q.kind) = false) (e1 : (p.src != q.src) = false) (e2 : (p.dst != q.dst) = false) (e3 : (p.boot != q.boot) = false) (e4 : (p.life != q.life) = false) (e5 : (p.echo != q.echo) = false) (e6 : (p.echoLife != q.echoLife) = false) (e7 : ((len : Int) != (len2 : Int)) = true) : Calls Tryd.prog 14 #[pkv p a len cap, pkv q a2 len2 cap2] w fun e w' => e = .returned (.bool false) ∧ Below w.heap.size w w' := by
  clear R R2
  go_enter Tryd.func14, Tryd.ntmps14
  go_wp2
  all_goals go_ret
  all_goals exact ⟨by first | rfl | exact C.ret_bool (by simp_all), ((Below.refl _ _).alloc (Nat.le_refl _) _).alloc (by simp) _⟩
set_option maxRecDepth 100000 in
set_option maxHeartbeats 4000000 in
theorem rsame_its (p q : Pkt) (a a2 : Option Addr) (len cap cap2 : Nat) (w : World) (R : RowI w a len cap p.items) (R2 : RowI w a2 len cap2 q.items) (e0 : (p.kind != q.kind) = false) (e1 : (p.src != q.src) = false) (e2 : (p.dst != q.dst) = false) (e3 : (p.boot != q.boot) = false) (e4 : (p.life != q.life) = false) (e5 : (p.echo != q.echo) = false) (e6 : (p.echoLife != q.echoLife) = false) (e7 : ((len : Int) != (len : Int)) = false) (r : Bool) (hr : r = true ↔ p.items = q.items) : Calls Tryd.prog 14 #[pkv p a len cap, pkv q a2 len cap2] w fun e w' => e = .returned (.bool r) ∧ Below w.heap.size w w' := by
  have B1 : Below w.heap.size w ((w.alloc (pkObj p a len cap)).alloc (pkObj q a2 len cap2)) := ((Below.refl _ _).alloc (Nat.le_refl _) _).alloc (by simp) _
  have HR : Hid (RowI ((w.alloc (pkObj p a len cap)).alloc (pkObj q a2 len cap2)) a len cap p.items) := (R.alloc _).alloc _
  have HR2 : Hid (RowI ((w.alloc (pkObj p a len cap)).alloc (pkObj q a2 len cap2)) a2 len cap2 q.items) := (R2.alloc _).alloc _
  have HPK : Hid (PkAt ((w.alloc (pkObj p a len cap)).alloc (pkObj q a2 len cap2)) w.heap.size p a len cap) := (pkAt_new w p a len cap).below ((Below.refl _ _).alloc (Nat.le_refl _) _)
  have HQK : Hid (PkAt ((w.alloc (pkObj p a len cap)).alloc (pkObj q a2 len cap2)) (w.heap.size + 1) q a2 len cap2) := by have := pkAt_new (w.alloc (pkObj p a len cap)) q a2 len cap2; rw [World.size_alloc] at this; exact this
  have HL : Hid (p.items.length = len) := R.size
  have HL2 : Hid (q.items.length = len) := R2.size
  have hle := R.le
  have hcp := R.max
  have hle2 := R2.le
  have hcp2 := R2.max
  have HRr : Hid (r = true ↔ p.items = q.items) := hr
  clear R R2 hr
  go_enter Tryd.func14, Tryd.ntmps14
  go_wp2
  clear e0 e1 e2 e3 e4 e5 e6 e7
  obtain ⟨W0, hW0⟩ : ∃ W0, (w.alloc (pkObj p a len cap)).alloc (pkObj q a2 len cap2) = W0 := ⟨_, rfl⟩
  have hz0 : w.heap.size + 1 < W0.heap.size := by rw [← hW0]; simp
  rw [hW0] at HR HR2 HPK HQK B1 ⊢
  clear hW0
  go_loopg [5] len (fun g c wr => ∃ i : Nat, c = .int .i64 i ∧ i + g = len ∧ Hid (∀ j, j < i → p.items.getD j itZ = q.items.getD j itZ) ∧ Below W0.heap.size W0 wr)
  case atStart => exact ⟨0, rfl, by omega, fun j hj => by omega, Below.refl _ _⟩
  case round =>
    obtain ⟨i, rfl, hg, HA, hB⟩ := hrel
    have HG : Hid (i + gk = len) := hg
    have hi8 : i ≤ len := by omega
    clear hg
    have PK := HPK.out.below hB
    have QK := HQK.out.below hB
    have c7 := PK 7 _ rfl
    by_cases hlt : i < len
    · have hI64 : (i : Int) < (len : Int) := by omega
      obtain ⟨b, off, rfl, hbz, hIt⟩ := (HR.out.below hB).mem.resolve_left (by omega)
      obtain ⟨b2, off2, rfl, hbz2, hIt2⟩ := (HR2.out.below hB).mem.resolve_left (by omega)
      have Ix0 := hIt i hlt
      have Iy0 := hIt2 i hlt
      obtain ⟨x, hx⟩ : ∃ x, p.items.getD i itZ = x := ⟨_, rfl⟩
      obtain ⟨y, hy⟩ : ∃ y, q.items.getD i itZ = y := ⟨_, rfl⟩
      rw [hx] at Ix0
      rw [hy] at Iy0
      have HX : Hid (p.items.getD i itZ = x) := hx
      have HY : Hid (q.items.getD i itZ = y) := hy
      clear hx hy
      obtain ⟨wd, hwd⟩ : ∃ wd, World.drew wr = wd := ⟨_, rfl⟩
      have Bd : Below W0.heap.size W0 wd := by rw [← hwd]; exact hB.drew
      have PKr : PkAt wd w.heap.size p (some ⟨b, off, none⟩) len cap := by rw [← hwd]; exact PK.of_block rfl
      have QKr : PkAt wd (w.heap.size + 1) q (some ⟨b2, off2, none⟩) len cap2 := by rw [← hwd]; exact QK.of_block rfl
      have Ix : ItAt wd b (off + i * 19) x := by rw [← hwd]; exact Ix0.drew
      have Iy : ItAt wd b2 (off2 + i * 19) y := by rw [← hwd]; exact Iy0.drew
      cases hsame : sameI x y with
      | false =>
        have HE : Hid (r = false) := by
          show _ = _
          cases r with
          | false => rfl
          | true =>
            have h := HRr.out.1 rfl
            have h1 := HX.out
            rw [h, HY.out] at h1
            rw [(sameI_iff x y).2 h1.symm] at hsame
            cases hsame
        go_wp2
        refine wp_region_any (by kernel_rfl) ?_
        change wpAny _ _ _ _ _ _ _ (World.drew _)
        rw [hwd]
        refine S.wpAny_narrow (fun X => Below wd.heap.size wd X) _ _ _ _ ?_
        refine S.anyH_take 0 69 (.pointer (some ⟨w.heap.size, 7, none⟩)) rfl rfl (by kernel_rfl) (by kernel_rfl) (by kernel_rfl) (fun _ _ _ h => h) (Or.inl ⟨by rfl, by intro w hSw; go_simp⟩) (Below.refl _ _) ?_
        try simp only [Act.put, List.setIfInBounds_toArray, List.set_cons_zero, List.set_cons_succ]
        refine S.anyH_take 1 70 (.slice (some ⟨b, off, none⟩) len cap) rfl rfl (by kernel_rfl) (by kernel_rfl) (by kernel_rfl) (fun _ _ _ h => h) (Or.inl ⟨by rfl, by intro w hSw; have q7 := (PKr.below hSw) 7 _ rfl; go_simp⟩) (Below.refl _ _) ?_
        try simp only [Act.put, List.setIfInBounds_toArray, List.set_cons_zero, List.set_cons_succ]
        refine S.anyH_take 2 71 (.int .i64 (i : Int)) rfl rfl (by kernel_rfl) (by kernel_rfl) (by kernel_rfl) (fun _ _ _ h => h) (Or.inl ⟨by rfl, by intro w hSw; go_simp⟩) (Below.refl _ _) ?_
        try simp only [Act.put, List.setIfInBounds_toArray, List.set_cons_zero, List.set_cons_succ]
        refine S.anyH_take 3 72 (.pointer (some ⟨b, off + i * 19, none⟩)) rfl rfl (by kernel_rfl) (by kernel_rfl) (by kernel_rfl) (fun _ _ _ h => h) (Or.inl ⟨by rfl, by intro w hSw; go_simp⟩) (Below.refl _ _) ?_
        try simp only [Act.put, List.setIfInBounds_toArray, List.set_cons_zero, List.set_cons_succ]
        refine S.anyH_take 4 73 (itv x) rfl rfl (by kernel_rfl) (by kernel_rfl) (by kernel_rfl) (fun _ _ _ h => h) (Or.inl ⟨by rfl, by intro w' hSw; exact exec_load38 rfl rfl (Ix.below hSw)⟩) (Below.refl _ _) ?_
        try simp only [Act.put, List.setIfInBounds_toArray, List.set_cons_zero, List.set_cons_succ]
        refine S.anyH_take 5 74 (.pointer (some ⟨w.heap.size + 1, 7, none⟩)) rfl rfl (by kernel_rfl) (by kernel_rfl) (by kernel_rfl) (fun _ _ _ h => h) (Or.inl ⟨by rfl, by intro w hSw; go_simp⟩) (Below.refl _ _) ?_
        try simp only [Act.put, List.setIfInBounds_toArray, List.set_cons_zero, List.set_cons_succ]
        refine S.anyH_take 6 75 (.slice (some ⟨b2, off2, none⟩) len cap2) rfl rfl (by kernel_rfl) (by kernel_rfl) (by kernel_rfl) (fun _ _ _ h => h) (Or.inl ⟨by rfl, by intro w hSw; have q7 := (QKr.below hSw) 7 _ rfl; go_simp⟩) (Below.refl _ _) ?_
        try simp only [Act.put, List.setIfInBounds_toArray, List.set_cons_zero, List.set_cons_succ]
        refine S.anyH_take 7 76 (.int .i64 (i : Int)) rfl rfl (by kernel_rfl) (by kernel_rfl) (by kernel_rfl) (fun _ _ _ h => h) (Or.inl ⟨by rfl, by intro w hSw; go_simp⟩) (Below.refl _ _) ?_
        try simp only [Act.put, List.setIfInBounds_toArray, List.set_cons_zero, List.set_cons_succ]
        refine S.anyH_take 8 77 (.pointer (some ⟨b2, off2 + i * 19, none⟩)) rfl rfl (by kernel_rfl) (by kernel_rfl) (by kernel_rfl) (fun _ _ _ h => h) (Or.inl ⟨by rfl, by intro w hSw; go_simp⟩) (Below.refl _ _) ?_
        try simp only [Act.put, List.setIfInBounds_toArray, List.set_cons_zero, List.set_cons_succ]
        refine S.anyH_take 9 78 (itv y) rfl rfl (by kernel_rfl) (by kernel_rfl) (by kernel_rfl) (fun _ _ _ h => h) (Or.inl ⟨by rfl, by intro w' hSw; exact exec_load38 rfl rfl (Iy.below hSw)⟩) (Below.refl _ _) ?_
        try simp only [Act.put, List.setIfInBounds_toArray, List.set_cons_zero, List.set_cons_succ]
        refine S.anyH_take 10 79 (.bool true) rfl rfl (by kernel_rfl) (by kernel_rfl) (by kernel_rfl) (fun _ _ _ h => h) (Or.inl ⟨by rfl, by intro w hSw; go_simp⟩) (Below.refl _ _) ?_
        try simp only [Act.put, List.setIfInBounds_toArray, List.set_cons_zero, List.set_cons_succ]
        refine wpAnyH_done (by kernel_rfl) ?_ _
        go_wp2
        go_ret
        rw [HE.out]
        exact ⟨rfl, B1.trans (Bd.mono (by omega))⟩
      | true =>
        have HXY : Hid (x = y) := (sameI_iff x y).1 hsame
        go_wp2
        refine wp_region_any (by kernel_rfl) ?_
        change wpAny _ _ _ _ _ _ _ (World.drew _)
        rw [hwd]
        refine S.wpAny_narrow (fun X => Below wd.heap.size wd X) _ _ _ _ ?_
        refine S.anyH_take 0 69 (.pointer (some ⟨w.heap.size, 7, none⟩)) rfl rfl (by kernel_rfl) (by kernel_rfl) (by kernel_rfl) (fun _ _ _ h => h) (Or.inl ⟨by rfl, by intro w hSw; go_simp⟩) (Below.refl _ _) ?_
        try simp only [Act.put, List.setIfInBounds_toArray, List.set_cons_zero, List.set_cons_succ]
        refine S.anyH_take 1 70 (.slice (some ⟨b, off, none⟩) len cap) rfl rfl (by kernel_rfl) (by kernel_rfl) (by kernel_rfl) (fun _ _ _ h => h) (Or.inl ⟨by rfl, by intro w hSw; have q7 := (PKr.below hSw) 7 _ rfl; go_simp⟩) (Below.refl _ _) ?_
        try simp only [Act.put, List.setIfInBounds_toArray, List.set_cons_zero, List.set_cons_succ]
        refine S.anyH_take 2 71 (.int .i64 (i : Int)) rfl rfl (by kernel_rfl) (by kernel_rfl) (by kernel_rfl) (fun _ _ _ h => h) (Or.inl ⟨by rfl, by intro w hSw; go_simp⟩) (Below.refl _ _) ?_
        try simp only [Act.put, List.setIfInBounds_toArray, List.set_cons_zero, List.set_cons_succ]
        refine S.anyH_take 3 72 (.pointer (some ⟨b, off + i * 19, none⟩)) rfl rfl (by kernel_rfl) (by kernel_rfl) (by kernel_rfl) (fun _ _ _ h => h) (Or.inl ⟨by rfl, by intro w hSw; go_simp⟩) (Below.refl _ _) ?_
        try simp only [Act.put, List.setIfInBounds_toArray, List.set_cons_zero, List.set_cons_succ]
        refine S.anyH_take 4 73 (itv x) rfl rfl (by kernel_rfl) (by kernel_rfl) (by kernel_rfl) (fun _ _ _ h => h) (Or.inl ⟨by rfl, by intro w' hSw; exact exec_load38 rfl rfl (Ix.below hSw)⟩) (Below.refl _ _) ?_
        try simp only [Act.put, List.setIfInBounds_toArray, List.set_cons_zero, List.set_cons_succ]
        refine S.anyH_take 5 74 (.pointer (some ⟨w.heap.size + 1, 7, none⟩)) rfl rfl (by kernel_rfl) (by kernel_rfl) (by kernel_rfl) (fun _ _ _ h => h) (Or.inl ⟨by rfl, by intro w hSw; go_simp⟩) (Below.refl _ _) ?_
        try simp only [Act.put, List.setIfInBounds_toArray, List.set_cons_zero, List.set_cons_succ]
        refine S.anyH_take 6 75 (.slice (some ⟨b2, off2, none⟩) len cap2) rfl rfl (by kernel_rfl) (by kernel_rfl) (by kernel_rfl) (fun _ _ _ h => h) (Or.inl ⟨by rfl, by intro w hSw; have q7 := (QKr.below hSw) 7 _ rfl; go_simp⟩) (Below.refl _ _) ?_
        try simp only [Act.put, List.setIfInBounds_toArray, List.set_cons_zero, List.set_cons_succ]
        refine S.anyH_take 7 76 (.int .i64 (i : Int)) rfl rfl (by kernel_rfl) (by kernel_rfl) (by kernel_rfl) (fun _ _ _ h => h) (Or.inl ⟨by rfl, by intro w hSw; go_simp⟩) (Below.refl _ _) ?_
        try simp only [Act.put, List.setIfInBounds_toArray, List.set_cons_zero, List.set_cons_succ]
        refine S.anyH_take 8 77 (.pointer (some ⟨b2, off2 + i * 19, none⟩)) rfl rfl (by kernel_rfl) (by kernel_rfl) (by kernel_rfl) (fun _ _ _ h => h) (Or.inl ⟨by rfl, by intro w hSw; go_simp⟩) (Below.refl _ _) ?_
        try simp only [Act.put, List.setIfInBounds_toArray, List.set_cons_zero, List.set_cons_succ]
        refine S.anyH_take 9 78 (itv y) rfl rfl (by kernel_rfl) (by kernel_rfl) (by kernel_rfl) (fun _ _ _ h => h) (Or.inl ⟨by rfl, by intro w' hSw; exact exec_load38 rfl rfl (Iy.below hSw)⟩) (Below.refl _ _) ?_
        try simp only [Act.put, List.setIfInBounds_toArray, List.set_cons_zero, List.set_cons_succ]
        refine S.anyH_take 10 79 (.bool false) rfl rfl (by kernel_rfl) (by kernel_rfl) (by kernel_rfl) (fun _ _ _ h => h) (Or.inl ⟨by rfl, by intro w hSw; go_simp⟩) (Below.refl _ _) ?_
        try simp only [Act.put, List.setIfInBounds_toArray, List.set_cons_zero, List.set_cons_succ]
        refine wpAnyH_done (by kernel_rfl) ?_ _
        go_wp2
        go_roundg (gk - 1)
        case measure => have := HG.out; omega
        case rel =>
          refine ⟨i + 1, by first | rfl | go_num, by have := HG.out; omega, ?_, Bd⟩
          intro j hj
          by_cases e : j = i
          · rw [e, HX.out, HY.out, HXY.out]
          · exact HA.out j (by omega)
    · have HE : Hid (r = true) := by
        show _ = _
        refine HRr.out.2 ?_
        apply List.ext_getElem?
        intro j
        by_cases hj : j < len
        · have h := HA.out j (by omega)
          have l1 := HL.out
          have l2 := HL2.out
          rw [List.getD_eq_getElem?_getD, List.getD_eq_getElem?_getD, List.getElem?_eq_getElem (by omega), List.getElem?_eq_getElem (by omega)] at h
          rw [List.getElem?_eq_getElem (by omega), List.getElem?_eq_getElem (by omega)]
          exact congrArg some h
        · rw [List.getElem?_eq_none (by have := HL.out; omega), List.getElem?_eq_none (by have := HL2.out; omega)]
      go_wp2
      go_ret
      rw [HE.out]
      exact ⟨rfl, B1.trans (hB.mono (by omega))⟩

open Classical in
noncomputable def sameP (p q : Pkt) : Bool := decide (p = q)
theorem sameP_ne {p q : Pkt} (h : p ≠ q) : sameP p q = false := by simp [sameP, h]
theorem rsame_any (p q : Pkt) (a a2 : Option Addr) (len cap len2 cap2 : Nat) (w : World) (R : RowI w a len cap p.items) (R2 : RowI w a2 len2 cap2 q.items) : Calls Tryd.prog 14 #[pkv p a len cap, pkv q a2 len2 cap2] w fun e w' => e = .returned (.bool (sameP p q)) ∧ Below w.heap.size w w' := by
  cases e0 : (p.kind != q.kind) with
  | true => rw [sameP_ne (fun h => by rw [h] at e0; simp at e0)]; exact rsame_h0 p q a a2 len cap len2 cap2 w R R2 e0
  | false =>
  cases e1 : (p.src != q.src) with
  | true => rw [sameP_ne (fun h => by rw [h] at e1; simp at e1)]; exact rsame_h1 p q a a2 len cap len2 cap2 w R R2 e0 e1
  | false =>
  cases e2 : (p.dst != q.dst) with
  | true => rw [sameP_ne (fun h => by rw [h] at e2; simp at e2)]; exact rsame_h2 p q a a2 len cap len2 cap2 w R R2 e0 e1 e2
  | false =>
  cases e3 : (p.boot != q.boot) with
  | true => rw [sameP_ne (fun h => by rw [h] at e3; simp at e3)]; exact rsame_h3 p q a a2 len cap len2 cap2 w R R2 e0 e1 e2 e3
  | false =>
  cases e4 : (p.life != q.life) with
  | true => rw [sameP_ne (fun h => by rw [h] at e4; simp at e4)]; exact rsame_h4 p q a a2 len cap len2 cap2 w R R2 e0 e1 e2 e3 e4
  | false =>
  cases e5 : (p.echo != q.echo) with
  | true => rw [sameP_ne (fun h => by rw [h] at e5; simp at e5)]; exact rsame_h5 p q a a2 len cap len2 cap2 w R R2 e0 e1 e2 e3 e4 e5
  | false =>
  cases e6 : (p.echoLife != q.echoLife) with
  | true => rw [sameP_ne (fun h => by rw [h] at e6; simp at e6)]; exact rsame_h6 p q a a2 len cap len2 cap2 w R R2 e0 e1 e2 e3 e4 e5 e6
  | false =>
  have l1 := R.size
  have l2 := R2.size
  cases e7 : ((len : Int) != (len2 : Int)) with
  | true => rw [sameP_ne (fun h => by subst h; rw [← l1, ← l2] at e7; simp at e7)]; exact rsame_l p q a a2 len cap len2 cap2 w R R2 e0 e1 e2 e3 e4 e5 e6 e7
  | false =>
  obtain rfl : len = len2 := by have h : (len : Int) = (len2 : Int) := by simpa using e7
                                omega
  refine rsame_its p q a a2 len cap cap2 w R R2 e0 e1 e2 e3 e4 e5 e6 e7 _ ?_
  simp only [bne_eq_false_iff_eq] at e0 e1 e2 e3 e4 e5 e6
  obtain ⟨pk, ps, pd, pb, pl, pe, pel, pi⟩ := p
  obtain ⟨qk, qs, qd, qb, ql, qe, qel, qi⟩ := q
  simp only at e0 e1 e2 e3 e4 e5 e6
  simp [sameP, e0, e1, e2, e3, e4, e5, e6]

end Go.Proofs.YticmjlnpjopfbaaDoor

namespace Go.Proofs.YticmjlnpjopfbaaDoor
open Go.ChangeShapes Go.WideShapes Go.ChangeAt Go.RowKit
open S (Tab)
set_option linter.unusedVariables false
set_option linter.unusedSimpArgs false

theorem exec_load24 {o : Oper} {a : Act} {w : World} {xx : Operand} {pb : Nat} {p : Pkt} {ad : Option Addr} {len cap : Nat} (ho : o.op = .load 24 xx) (hx : a.eval xx = .pointer (some ⟨pb, 0, none⟩)) (hc : PkAt w pb p ad len cap) :
    (execOp a.eval o).run Tryd.prog w = .ok (.value (pkv p ad len cap)) w := by
  unfold execOp
  simp only [ho, hx, Instr.loadAt, Instr.sureAddr, Sem.run_bind, Sem.run_pure, Result.andThen_ok, load_agg w pb 0 24 (pkc p ad len cap) _ (fun j v h => by rw [Nat.zero_add]; exact hc j v h) Tryd.underlying24 rfl (by kernel_rfl)]
  rfl
theorem sameP_self (p : Pkt) : sameP p p = true := by simp [sameP]

set_option maxRecDepth 100000 in
set_option maxHeartbeats 8000000 in
theorem fits_walk (p : Pkt) (a : Option Addr) (len cap : Nat) (w : World) (R : RowI w a len cap p.items) (hb : len * 160 ≤ 140737488355328) (Tw : Tab w) :
    Calls Tryd.prog 3 #[pkv p a len cap] w fun e w' => e = .returned (.bool true) ∧ Below w.heap.size w w' := by
  have hby : S.Byt (encP p) := by
    cases hf : fitP p with
    | true => rw [encP_fit hf]; exact S.byt_frm (bodyP_byte (fitP_ok hf).1) (by have := bodyP_len hf; omega)
    | false => rw [encP, hf]; intro z hz; cases hz
  obtain ⟨es, hes⟩ : ∃ s, strOfNums (encP p) = s := ⟨_, rfl⟩
  obtain ⟨bF, hbF⟩ : ∃ b, fitP p = b := ⟨_, rfl⟩
  have heF : (bF == bF) = true := by simp
  have heS : (es.toList == es.toList) = true := by simp
  have B0 : Below w.heap.size w (w.alloc (pkObj p a len cap)) := (Below.refl _ _).alloc (Nat.le_refl _) _
  have R0 := R.alloc (pkObj p a len cap)
  have P0 := pkAt_new w p a len cap
  have KC := copied_any p a len cap _ R0 hb
  clear R
  go_enter Tryd.func3, Tryd.ntmps3
  go_wp2_with (go_at_call 9; refine KC.mono ?_; rintro e w1 ⟨a1, c1, rfl, RR1, hb1⟩)
  obtain ⟨wd, hwd⟩ : ∃ wd, World.drew (w1.alloc (pkObj p a1 len c1)) = wd := ⟨_, rfl⟩
  have B1d : Below w1.heap.size w1 wd := by rw [← hwd]; exact ((Below.refl _ _).alloc (Nat.le_refl _) _).drew
  have K3 : PkAt wd w1.heap.size p a1 len c1 := by rw [← hwd]; exact (pkAt_new w1 p a1 len c1).of_block rfl
  have K1 : PkAt wd w.heap.size p a len cap := (P0.below hb1).below B1d
  have R3 := RR1.below B1d
  have R1 := (R0.below hb1).below B1d
  have B1 : Below w.heap.size w w1 := B0.trans (hb1.mono B0.size)
  have Bd : Below w.heap.size w wd := B1.trans (B1d.mono B1.size)
  have Td := Tw.below Bd
  clear KC P0 R0 RR1 hb1 B1 B0
  refine wp_region_any (by kernel_rfl) ?_
  change wpAny _ _ _ _ _ _ _ (World.drew _)
  rw [hwd]
  refine S.wpAny_narrow (fun X => Below wd.heap.size wd X) _ _ _ _ ?_
  refine S.anyH_take 0 6 (pkv p a1 len c1) rfl rfl (by kernel_rfl) (by kernel_rfl) (by kernel_rfl) (fun _ _ _ h => h) (Or.inl ⟨by rfl, by intro w' hSw; exact exec_load24 rfl rfl (K3.below hSw)⟩) (Below.refl _ _) ?_
  try simp only [Act.put, List.setIfInBounds_toArray, List.set_cons_zero, List.set_cons_succ]
  refine S.anyH_take 2 8 (pkv p a len cap) rfl rfl (by kernel_rfl) (by kernel_rfl) (by kernel_rfl) (fun _ _ _ h => h) (Or.inl ⟨by rfl, by intro w' hSw; exact exec_load24 rfl rfl (K1.below hSw)⟩) (Below.refl _ _) ?_
  try simp only [Act.put, List.setIfInBounds_toArray, List.set_cons_zero, List.set_cons_succ]
  refine wpAnyH_ready (rs := [1]) (by kernel_rfl) (by simp) ?_
  refine AllReadyH.cons rfl (fun K hK => ?_) AllReadyH.nil
  go_simp
  go_wp2_with (go_at_call 10; refine (fit_any p a1 len c1 _ R3).mono ?_; rintro e w2 ⟨rfl, b2⟩; rw [hbF])
  refine hK.out _ _ (b2) (fun hS => ?_)
  clear hK
  refine wpAnyH_ready (rs := [3]) (by kernel_rfl) (by simp) ?_
  refine AllReadyH.cons rfl (fun K hK => ?_) AllReadyH.nil
  go_simp
  go_wp2_with (go_at_call 11; refine (rfit_any p a len cap _ (R1.below b2)).mono ?_; rintro e w3 ⟨rfl, d3⟩; rw [hbF]; have b3 : Below wd.heap.size wd w3 := b2.trans (d3.mono b2.size))
  refine hK.out _ _ (b3) (fun hS => ?_)
  clear hK
  refine S.anyH_take 4 10 (.bool true) rfl rfl (by kernel_rfl) (by kernel_rfl) (by kernel_rfl) (fun _ _ _ h => h) (Or.inl ⟨by rfl, by intro w hSw; go_simp⟩) (b3) ?_
  try simp only [Act.put, List.setIfInBounds_toArray, List.set_cons_zero, List.set_cons_succ]
  refine S.anyH_take 5 11 (.bool true) rfl rfl (by kernel_rfl) (by kernel_rfl) (by kernel_rfl) (fun _ _ _ h => h) (Or.inl ⟨by rfl, by intro w hSw; go_simp⟩) (b3) ?_
  try simp only [Act.put, List.setIfInBounds_toArray, List.set_cons_zero, List.set_cons_succ]
  refine S.anyH_take 6 12 (pkv p a1 len c1) rfl rfl (by kernel_rfl) (by kernel_rfl) (by kernel_rfl) (fun _ _ _ h => h) (Or.inl ⟨by rfl, by intro w' hSw; exact exec_load24 rfl rfl (K3.below hSw)⟩) (b3) ?_
  try simp only [Act.put, List.setIfInBounds_toArray, List.set_cons_zero, List.set_cons_succ]
  refine S.anyH_take 9 15 (pkv p a len cap) rfl rfl (by kernel_rfl) (by kernel_rfl) (by kernel_rfl) (fun _ _ _ h => h) (Or.inl ⟨by rfl, by intro w' hSw; exact exec_load24 rfl rfl (K1.below hSw)⟩) (b3) ?_
  try simp only [Act.put, List.setIfInBounds_toArray, List.set_cons_zero, List.set_cons_succ]
  refine wpAnyH_ready (rs := [7]) (by kernel_rfl) (by simp) ?_
  refine AllReadyH.cons rfl (fun K hK => ?_) AllReadyH.nil
  go_simp
  go_wp2_with (go_at_call 12; refine (encode_any p a1 len c1 _ (R3.below b3) (Td.below b3)).mono ?_; rintro e w4 ⟨v4, rfl, o4, d4⟩; have b4 : Below wd.heap.size wd w4 := b3.trans (d4.mono b3.size); obtain ⟨a4, n4, c4, rfl, r4, hn4⟩ := o4.row' hby; clear hn4)
  refine hK.out _ _ (b4) (fun hS => ?_)
  clear hK
  refine S.wpAnyH_narrow (fun X => Below w4.heap.size w4 X) (fun _ h => b4.trans (h.mono b4.size)) _ _ _ _ ?_
  refine S.anyH_take 8 14 (.string es) rfl rfl (by kernel_rfl) (by kernel_rfl) (by kernel_rfl) (fun _ _ _ h => h) (Or.inl ⟨by rfl, by intro w hSw; have kk := S.conv_row (r4.below hSw); rw [hes] at kk; go_simp⟩) (Below.refl _ _) ?_
  try simp only [Act.put, List.setIfInBounds_toArray, List.set_cons_zero, List.set_cons_succ]
  refine wpAnyH_ready (rs := [10]) (by kernel_rfl) (by simp) ?_
  refine AllReadyH.cons rfl (fun K hK => ?_) AllReadyH.nil
  go_simp
  go_wp2_with (go_at_call 13; refine (rencode_any p a len cap _ (R1.below b4)).mono ?_; rintro e w5 ⟨v5, rfl, o5, d5⟩; have b5 : Below wd.heap.size wd w5 := b4.trans (d5.mono b4.size); obtain ⟨a5, n5, c5, rfl, r5, hn5⟩ := o5.row' hby; clear hn5)
  refine hK.out _ _ (d5) (fun hS => ?_)
  clear hK
  refine S.wpAnyH_narrow (fun X => Below w5.heap.size w5 X) (fun _ h => d5.trans (h.mono d5.size)) _ _ _ _ ?_
  refine S.anyH_take 11 17 (.string es) rfl rfl (by kernel_rfl) (by kernel_rfl) (by kernel_rfl) (fun _ _ _ h => h) (Or.inl ⟨by rfl, by intro w hSw; have kk := S.conv_row (r5.below hSw); rw [hes] at kk; go_simp⟩) (Below.refl _ _) ?_
  try simp only [Act.put, List.setIfInBounds_toArray, List.set_cons_zero, List.set_cons_succ]
  refine S.anyH_take 12 18 (.bool true) rfl rfl (by kernel_rfl) (by kernel_rfl) (by kernel_rfl) (fun _ _ _ h => h) (Or.inl ⟨by rfl, by intro w hSw; go_simp⟩) (Below.refl _ _) ?_
  try simp only [Act.put, List.setIfInBounds_toArray, List.set_cons_zero, List.set_cons_succ]
  refine S.anyH_take 13 19 (.bool true) rfl rfl (by kernel_rfl) (by kernel_rfl) (by kernel_rfl) (fun _ _ _ h => h) (Or.inl ⟨by rfl, by intro w hSw; go_simp⟩) (Below.refl _ _) ?_
  try simp only [Act.put, List.setIfInBounds_toArray, List.set_cons_zero, List.set_cons_succ]
  refine S.anyH_take 14 20 (.bool true) rfl rfl (by kernel_rfl) (by kernel_rfl) (by kernel_rfl) (fun _ _ _ h => h) (Or.inl ⟨by rfl, by intro w hSw; go_simp⟩) (Below.refl _ _) ?_
  try simp only [Act.put, List.setIfInBounds_toArray, List.set_cons_zero, List.set_cons_succ]
  refine S.anyH_take 15 21 (pkv p a1 len c1) rfl rfl (by kernel_rfl) (by kernel_rfl) (by kernel_rfl) (fun _ _ _ h => h) (Or.inl ⟨by rfl, by intro w' hSw; exact exec_load24 rfl rfl (K3.below (b5.trans (hSw.mono b5.size)))⟩) (Below.refl _ _) ?_
  try simp only [Act.put, List.setIfInBounds_toArray, List.set_cons_zero, List.set_cons_succ]
  refine S.anyH_take 16 22 (pkv p a len cap) rfl rfl (by kernel_rfl) (by kernel_rfl) (by kernel_rfl) (fun _ _ _ h => h) (Or.inl ⟨by rfl, by intro w' hSw; exact exec_load24 rfl rfl (K1.below (b5.trans (hSw.mono b5.size)))⟩) (Below.refl _ _) ?_
  try simp only [Act.put, List.setIfInBounds_toArray, List.set_cons_zero, List.set_cons_succ]
  refine wpAnyH_ready (rs := [17]) (by kernel_rfl) (by simp) ?_
  refine AllReadyH.cons rfl (fun K hK => ?_) AllReadyH.nil
  go_simp
  go_wp2_with (go_at_call 14; refine (rsame_any p p a1 a len c1 len cap _ (R3.below b5) (R1.below b5)).mono ?_; rintro e w6 ⟨rfl, d6⟩; rw [sameP_self])
  refine hK.out _ _ (d6) (fun hS => ?_)
  clear hK
  refine S.anyH_take 18 24 (.bool true) rfl rfl (by kernel_rfl) (by kernel_rfl) (by kernel_rfl) (fun _ _ _ h => h) (Or.inl ⟨by rfl, by intro w hSw; go_simp⟩) (d6) ?_
  try simp only [Act.put, List.setIfInBounds_toArray, List.set_cons_zero, List.set_cons_succ]
  refine S.anyH_take 19 25 (.bool true) rfl rfl (by kernel_rfl) (by kernel_rfl) (by kernel_rfl) (fun _ _ _ h => h) (Or.inl ⟨by rfl, by intro w hSw; go_simp⟩) (d6) ?_
  try simp only [Act.put, List.setIfInBounds_toArray, List.set_cons_zero, List.set_cons_succ]
  refine wpAnyH_ready (rs := [20]) (by kernel_rfl) (by simp) ?_
  refine AllReadyH.cons rfl (fun K hK => ?_) AllReadyH.nil
  go_simp
  go_wp2_with (go_at_call 15; refine (awake_any _ (Td.below (b5.trans (d6.mono b5.size)))).mono ?_; rintro e w7 ⟨rfl, d7⟩; have d67 : Below w5.heap.size w5 w7 := d6.trans (d7.mono d6.size))
  refine hK.out _ _ (d67) (fun hS => ?_)
  clear hK
  refine S.anyH_take 21 27 (.bool true) rfl rfl (by kernel_rfl) (by kernel_rfl) (by kernel_rfl) (fun _ _ _ h => h) (Or.inl ⟨by rfl, by intro w hSw; go_simp⟩) (d67) ?_
  try simp only [Act.put, List.setIfInBounds_toArray, List.set_cons_zero, List.set_cons_succ]
  refine S.anyH_take 22 2 (.bool true) rfl rfl (by kernel_rfl) (by kernel_rfl) (by kernel_rfl) (fun _ _ _ h => h) (Or.inl ⟨by rfl, by intro w hSw; go_simp⟩) (d67) ?_
  try simp only [Act.put, List.setIfInBounds_toArray, List.set_cons_zero, List.set_cons_succ]
  refine wpAnyH_done (by kernel_rfl) ?_ _
  go_wp2
  go_ret
  exact ⟨rfl, (Bd.trans (b5.mono Bd.size)).trans (d67.mono (by have := b5.size; have := Bd.size; omega))⟩

end Go.Proofs.YticmjlnpjopfbaaDoor

namespace Go.Proofs.YticmjlnpjopfbaaDoor
open Go.ChangeShapes Go.WideShapes Go.ChangeAt Go.RowKit
set_option linter.unusedVariables false

theorem cell_int {P : Program} {w : World} {r : Reach} {b t : Nat} {k : IntKind} {v : Value} (ht : P.underlying t = some (.int k)) (h : Cell.okWide P w r b t v) : ∃ n, v = .int k n ∧ k.has n := by
  simp only [Cell.okWide, Cell.ok, ht] at h
  cases v <;> simp_all
theorem cell_bool {P : Program} {w : World} {r : Reach} {b t : Nat} {v : Value} (ht : P.underlying t = some .bool) (h : Cell.okWide P w r b t v) : ∃ n, v = .bool n := by
  simp only [Cell.okWide, Cell.ok, ht] at h
  cases v <;> simp_all
theorem cell_string {P : Program} {w : World} {r : Reach} {b t : Nat} {v : Value} (ht : P.underlying t = some .string) (h : Cell.okWide P w r b t v) : ∃ n, v = .string n ∧ (n.size : Int) ≤ IntKind.i64.max := by
  simp only [Cell.okWide, Cell.ok, ht] at h
  cases v <;> simp_all
theorem okWide_cell {P : Program} {w : World} {r : Reach} {b t : Nat} {v : Value} (h : Value.okWide P w r b t v) (ht : (match P.underlying t with | some (.struct _) => false | some (.array _ _) => false | _ => true) = true) : Cell.okWide P w r b t v := by
  unfold Value.okWide at h
  split at h <;> simp_all

/-- The numbers of an item are 64 bits wide. -/
structure itWf (x : Itm) : Prop where
  name : (x.name.size : Int) ≤ IntKind.i64.max
  epoch : IntKind.i64.has x.epoch
  maker : IntKind.i64.has x.maker
  kind : IntKind.i64.has x.kind
  scale : IntKind.i64.has x.scale
  ver : IntKind.i64.has x.ver
  writer : IntKind.i64.has x.writer
  flow : IntKind.i64.has x.flow
  rest : IntKind.i64.has x.rest
  mnv : IntKind.i64.has x.mn.value
  mno : IntKind.i64.has x.mn.origin
  mna : IntKind.i64.has x.mn.age
  mxv : IntKind.i64.has x.mx.value
  mxo : IntKind.i64.has x.mx.origin
  mxa : IntKind.i64.has x.mx.age
theorem cells38 : Tryd.prog.cellsOf 38 = 19 := by kernel_rfl
theorem types38 : Tryd.prog.cellTypes Tryd.prog.depth 38 = some [9, 2, 3, 4, 3, 2, 2, 3, 2, 4, 2, 4, 2, 3, 2, 4, 2, 3, 2] := by kernel_rfl
set_option maxRecDepth 100000 in
theorem open_item {w : World} {r : Reach} {b : Nat} {v : Value} (h : Value.okWide Tryd.prog w r b 38 v) : ∃ x : Itm, v = itv x ∧ itWf x := by
  simp only [Value.okWide, Tryd.underlying38] at h
  obtain ⟨cs, rfl, hsz, ts, hts, _, hc⟩ := h
  rw [cells38] at hsz
  rw [types38] at hts
  cases hts
  have key : ∀ (i : Nat) (t : Nat), i < 19 → [9, 2, 3, 4, 3, 2, 2, 3, 2, 4, 2, 4, 2, 3, 2, 4, 2, 3, 2][i]? = some t → ∃ v, cs[i]? = some v ∧ Cell.okWide Tryd.prog w r b t v := by
    intro i t hi ht
    have hlt : i < cs.size := by rw [hsz]; exact hi
    obtain ⟨u, hu, hk⟩ := hc i (cs[i]'hlt) (Array.getElem?_eq_getElem hlt)
    rw [show ([9, 2, 3, 4, 3, 2, 2, 3, 2, 4, 2, 4, 2, 3, 2, 4, 2, 3, 2] : List Nat).length = 19 from rfl, Nat.mod_eq_of_lt hi, ht] at hu
    cases hu
    exact ⟨_, Array.getElem?_eq_getElem hlt, hk⟩
  obtain ⟨v0, c0, k0⟩ := key 0 9 (by omega) rfl
  obtain ⟨v1, c1, k1⟩ := key 1 2 (by omega) rfl
  obtain ⟨v2, c2, k2⟩ := key 2 3 (by omega) rfl
  obtain ⟨v3, c3, k3⟩ := key 3 4 (by omega) rfl
  obtain ⟨v4, c4, k4⟩ := key 4 3 (by omega) rfl
  obtain ⟨v5, c5, k5⟩ := key 5 2 (by omega) rfl
  obtain ⟨v6, c6, k6⟩ := key 6 2 (by omega) rfl
  obtain ⟨v7, c7, k7⟩ := key 7 3 (by omega) rfl
  obtain ⟨v8, c8, k8⟩ := key 8 2 (by omega) rfl
  obtain ⟨v9, c9, k9⟩ := key 9 4 (by omega) rfl
  obtain ⟨v10, c10, k10⟩ := key 10 2 (by omega) rfl
  obtain ⟨v11, c11, k11⟩ := key 11 4 (by omega) rfl
  obtain ⟨v12, c12, k12⟩ := key 12 2 (by omega) rfl
  obtain ⟨v13, c13, k13⟩ := key 13 3 (by omega) rfl
  obtain ⟨v14, c14, k14⟩ := key 14 2 (by omega) rfl
  obtain ⟨v15, c15, k15⟩ := key 15 4 (by omega) rfl
  obtain ⟨v16, c16, k16⟩ := key 16 2 (by omega) rfl
  obtain ⟨v17, c17, k17⟩ := key 17 3 (by omega) rfl
  obtain ⟨v18, c18, k18⟩ := key 18 2 (by omega) rfl
  obtain ⟨x0, rfl, h0⟩ := cell_string Tryd.underlying9 k0
  obtain ⟨x1, rfl, h1⟩ := cell_int Tryd.underlying2 k1
  obtain ⟨x2, rfl, h2⟩ := cell_int Tryd.underlying3 k2
  obtain ⟨x3, rfl⟩ := cell_bool Tryd.underlying4 k3
  obtain ⟨x4, rfl, h4⟩ := cell_int Tryd.underlying3 k4
  obtain ⟨x5, rfl, h5⟩ := cell_int Tryd.underlying2 k5
  obtain ⟨x6, rfl, h6⟩ := cell_int Tryd.underlying2 k6
  obtain ⟨x7, rfl, h7⟩ := cell_int Tryd.underlying3 k7
  obtain ⟨x8, rfl, h8⟩ := cell_int Tryd.underlying2 k8
  obtain ⟨x9, rfl⟩ := cell_bool Tryd.underlying4 k9
  obtain ⟨x10, rfl, h10⟩ := cell_int Tryd.underlying2 k10
  obtain ⟨x11, rfl⟩ := cell_bool Tryd.underlying4 k11
  obtain ⟨x12, rfl, h12⟩ := cell_int Tryd.underlying2 k12
  obtain ⟨x13, rfl, h13⟩ := cell_int Tryd.underlying3 k13
  obtain ⟨x14, rfl, h14⟩ := cell_int Tryd.underlying2 k14
  obtain ⟨x15, rfl⟩ := cell_bool Tryd.underlying4 k15
  obtain ⟨x16, rfl, h16⟩ := cell_int Tryd.underlying2 k16
  obtain ⟨x17, rfl, h17⟩ := cell_int Tryd.underlying3 k17
  obtain ⟨x18, rfl, h18⟩ := cell_int Tryd.underlying2 k18
  refine ⟨⟨x0, x1, x2, x3, x4, x5, x6, x7, x8, x9, x10, ⟨x11, x12, x13, x14⟩, ⟨x15, x16, x17, x18⟩⟩, ?_, ⟨h0, h1, h2, h4, h5, h6, h7, h8, h10, h12, h13, h14, h16, h17, h18⟩⟩
  have e : cs = (itc ⟨x0, x1, x2, x3, x4, x5, x6, x7, x8, x9, x10, ⟨x11, x12, x13, x14⟩, ⟨x15, x16, x17, x18⟩⟩).toArray := by
    apply Array.ext_getElem?
    intro i
    by_cases hi : i < 19
    · match i, hi with
      | 0, _ => exact c0
      | 1, _ => exact c1
      | 2, _ => exact c2
      | 3, _ => exact c3
      | 4, _ => exact c4
      | 5, _ => exact c5
      | 6, _ => exact c6
      | 7, _ => exact c7
      | 8, _ => exact c8
      | 9, _ => exact c9
      | 10, _ => exact c10
      | 11, _ => exact c11
      | 12, _ => exact c12
      | 13, _ => exact c13
      | 14, _ => exact c14
      | 15, _ => exact c15
      | 16, _ => exact c16
      | 17, _ => exact c17
      | 18, _ => exact c18
      | n + 19, h => exact absurd h (by omega)
    · rw [Array.getElem?_eq_none (by omega), Array.getElem?_eq_none (by simp [itc]; omega)]
  rw [e]
  rfl

end Go.Proofs.YticmjlnpjopfbaaDoor

namespace Go.Proofs.YticmjlnpjopfbaaDoor
open Go.ChangeShapes Go.WideShapes Go.ChangeAt Go.RowKit Go.Deep
set_option linter.unusedVariables false
set_option linter.unusedSimpArgs false
set_option maxRecDepth 100000

theorem cn2 : Tryd.prog.cellsOf 2 = 1 := by kernel_rfl
theorem cn3 : Tryd.prog.cellsOf 3 = 1 := by kernel_rfl
theorem cn4 : Tryd.prog.cellsOf 4 = 1 := by kernel_rfl
theorem cn9 : Tryd.prog.cellsOf 9 = 1 := by kernel_rfl
theorem cn32 : Tryd.prog.cellsOf 32 = 6 := by kernel_rfl
theorem cn34 : Tryd.prog.cellsOf 34 = 3 := by kernel_rfl
theorem cn36 : Tryd.prog.cellsOf 36 = 4 := by kernel_rfl
theorem cn38 : Tryd.prog.cellsOf 38 = 19 := by kernel_rfl
theorem wf_bd {n : Int} (h : (Lit.int .i64 n).wf = true) : -9223372036854775808 ≤ n ∧ n ≤ 9223372036854775807 := by
  have h2 : IntKind.i64.max = 9223372036854775807 := rfl
  have h3 : IntKind.i64.min = -9223372036854775808 := rfl
  simp only [Lit.wf, Bool.and_eq_true, decide_eq_true_eq, h2, h3] at h
  exact h

section
variable {H : Type} {enc : TypeId × Value → H} {W : World} {base n : Nat} {sp : Nat → Bool} {held : Bool} {x : DataW H × List MemPlace}
theorem open_chan {v0 v1 v2 v3 v4 v5 : Value} (h : DataW.trod enc Tryd.prog W base sp held n 32 [v0, v1, v2, v3, v4, v5] = some x) :
    ∃ (x0 : ByteArray) (x1 : Int) (x2 : Int) (x3 : Bool) (x4 : Int) (x5 : Int), (v0 = .string x0 ∧ v1 = .int .i64 x1 ∧ v2 = .int .i64 x2 ∧ v3 = .bool x3 ∧ v4 = .int .i64 x4 ∧ v5 = .int .i64 x5) ∧ ((-9223372036854775808 ≤ x1 ∧ x1 ≤ 9223372036854775807) ∧ (-9223372036854775808 ≤ x2 ∧ x2 ≤ 9223372036854775807) ∧ (-9223372036854775808 ≤ x4 ∧ x4 ≤ 9223372036854775807) ∧ (-9223372036854775808 ≤ x5 ∧ x5 ≤ 9223372036854775807)) := by
  obtain ⟨xs, k, hk, hxy, _, hxl, hf⟩ := DataW.trod_struct Tryd.underlying32 h
  match xs, hxl with
  | [y0, y1, y2, y3, y4, y5], _ =>
  have e0 := hf 0 _ rfl
  have e1 := hf 1 _ rfl
  have e2 := hf 2 _ rfl
  have e3 := hf 3 _ rfl
  have e4 := hf 4 _ rfl
  have e5 := hf 5 _ rfl
  simp [cn9] at e0
  simp [cn2] at e1
  simp [cn3] at e2
  simp [cn4] at e3
  simp [cn3] at e4
  simp [cn2] at e5
  obtain ⟨x0, q0, _, w0⟩ := DataW.trod_string Tryd.underlying9 e0
  obtain ⟨x1, q1, _, w1⟩ := DataW.trod_int Tryd.underlying2 e1
  obtain ⟨x2, q2, _, w2⟩ := DataW.trod_int Tryd.underlying3 e2
  obtain ⟨x3, q3, _⟩ := DataW.trod_bool Tryd.underlying4 e3
  obtain ⟨x4, q4, _, w4⟩ := DataW.trod_int Tryd.underlying3 e4
  obtain ⟨x5, q5, _, w5⟩ := DataW.trod_int Tryd.underlying2 e5
  simp at q0 q1 q2 q3 q4 q5
  exact ⟨x0, x1, x2, x3, x4, x5, ⟨q0, q1, q2, q3, q4, q5⟩, wf_bd w1, wf_bd w2, wf_bd w4, wf_bd w5⟩
theorem open_reg {v0 v1 v2 : Value} (h : DataW.trod enc Tryd.prog W base sp held n 34 [v0, v1, v2] = some x) :
    ∃ (x0 : Int) (x1 : Int) (x2 : Int), (v0 = .int .i64 x0 ∧ v1 = .int .i64 x1 ∧ v2 = .int .i64 x2) ∧ ((-9223372036854775808 ≤ x0 ∧ x0 ≤ 9223372036854775807) ∧ (-9223372036854775808 ≤ x1 ∧ x1 ≤ 9223372036854775807) ∧ (-9223372036854775808 ≤ x2 ∧ x2 ≤ 9223372036854775807)) := by
  obtain ⟨xs, k, hk, hxy, _, hxl, hf⟩ := DataW.trod_struct Tryd.underlying34 h
  match xs, hxl with
  | [y0, y1, y2], _ =>
  have e0 := hf 0 _ rfl
  have e1 := hf 1 _ rfl
  have e2 := hf 2 _ rfl
  simp [cn2] at e0
  simp [cn3] at e1
  simp [cn2] at e2
  obtain ⟨x0, q0, _, w0⟩ := DataW.trod_int Tryd.underlying2 e0
  obtain ⟨x1, q1, _, w1⟩ := DataW.trod_int Tryd.underlying3 e1
  obtain ⟨x2, q2, _, w2⟩ := DataW.trod_int Tryd.underlying2 e2
  simp at q0 q1 q2
  exact ⟨x0, x1, x2, ⟨q0, q1, q2⟩, wf_bd w0, wf_bd w1, wf_bd w2⟩
theorem open_ext {v0 v1 v2 v3 : Value} (h : DataW.trod enc Tryd.prog W base sp held n 36 [v0, v1, v2, v3] = some x) :
    ∃ (x0 : Bool) (x1 : Int) (x2 : Int) (x3 : Int), (v0 = .bool x0 ∧ v1 = .int .i64 x1 ∧ v2 = .int .i64 x2 ∧ v3 = .int .i64 x3) ∧ ((-9223372036854775808 ≤ x1 ∧ x1 ≤ 9223372036854775807) ∧ (-9223372036854775808 ≤ x2 ∧ x2 ≤ 9223372036854775807) ∧ (-9223372036854775808 ≤ x3 ∧ x3 ≤ 9223372036854775807)) := by
  obtain ⟨xs, k, hk, hxy, _, hxl, hf⟩ := DataW.trod_struct Tryd.underlying36 h
  match xs, hxl with
  | [y0, y1, y2, y3], _ =>
  have e0 := hf 0 _ rfl
  have e1 := hf 1 _ rfl
  have e2 := hf 2 _ rfl
  have e3 := hf 3 _ rfl
  simp [cn4] at e0
  simp [cn2] at e1
  simp [cn3] at e2
  simp [cn2] at e3
  obtain ⟨x0, q0, _⟩ := DataW.trod_bool Tryd.underlying4 e0
  obtain ⟨x1, q1, _, w1⟩ := DataW.trod_int Tryd.underlying2 e1
  obtain ⟨x2, q2, _, w2⟩ := DataW.trod_int Tryd.underlying3 e2
  obtain ⟨x3, q3, _, w3⟩ := DataW.trod_int Tryd.underlying2 e3
  simp at q0 q1 q2 q3
  exact ⟨x0, x1, x2, x3, ⟨q0, q1, q2, q3⟩, wf_bd w1, wf_bd w2, wf_bd w3⟩
structure itBd (x : Itm) : Prop where
  epoch : -9223372036854775808 ≤ x.epoch ∧ x.epoch ≤ 9223372036854775807
  rg : itRg x
theorem open_itm {v0 v1 v2 v3 v4 v5 v6 v7 v8 v9 v10 v11 v12 v13 v14 v15 v16 v17 v18 : Value} (h : DataW.trod enc Tryd.prog W base sp held n 38 [v0, v1, v2, v3, v4, v5, v6, v7, v8, v9, v10, v11, v12, v13, v14, v15, v16, v17, v18] = some x) : ∃ y : Itm, [v0, v1, v2, v3, v4, v5, v6, v7, v8, v9, v10, v11, v12, v13, v14, v15, v16, v17, v18] = itc y ∧ itRg y := by
  obtain ⟨xs, k, hk, hxy, _, hxl, hf⟩ := DataW.trod_struct Tryd.underlying38 h
  match xs, hxl with
  | [y0, y1, y2, y3, y4, y5], _ =>
  have e0 := hf 0 _ rfl
  have e1 := hf 1 _ rfl
  have e2 := hf 2 _ rfl
  have e3 := hf 3 _ rfl
  have e4 := hf 4 _ rfl
  have e5 := hf 5 _ rfl
  simp [cn32] at e0
  simp [cn34] at e1
  simp [cn4] at e2
  simp [cn2] at e3
  simp [cn36] at e4
  simp [cn36] at e5
  obtain ⟨c0, c1, c2, c3, c4, c5, ⟨rfl, rfl, rfl, rfl, rfl, rfl⟩, _⟩ := open_chan e0
  obtain ⟨r0, r1, r2, ⟨rfl, rfl, rfl⟩, _, _, hr2⟩ := open_reg e1
  obtain ⟨hr, q2, _⟩ := DataW.trod_bool Tryd.underlying4 e2
  obtain ⟨re, q3, _, w3⟩ := DataW.trod_int Tryd.underlying2 e3
  obtain ⟨m0, m1, m2, m3, ⟨rfl, rfl, rfl, rfl⟩, hm1, _⟩ := open_ext e4
  obtain ⟨k0, k1, k2, k3, ⟨rfl, rfl, rfl, rfl⟩, hk1, _⟩ := open_ext e5
  simp at q2 q3
  subst q2 q3
  exact ⟨⟨c0, c1, c2, c3, c4, c5, r0, r1, r2, hr, re, ⟨m0, m1, m2, m3⟩, ⟨k0, k1, k2, k3⟩⟩, rfl, ⟨hr2, wf_bd w3, hm1, hk1⟩⟩
theorem list19 {α : Type} {l : List α} (h : l.length = 19) : ∃ v0 v1 v2 v3 v4 v5 v6 v7 v8 v9 v10 v11 v12 v13 v14 v15 v16 v17 v18, l = [v0, v1, v2, v3, v4, v5, v6, v7, v8, v9, v10, v11, v12, v13, v14, v15, v16, v17, v18] := by
  match l, h with
  | [v0, v1, v2, v3, v4, v5, v6, v7, v8, v9, v10, v11, v12, v13, v14, v15, v16, v17, v18], _ => exact ⟨v0, v1, v2, v3, v4, v5, v6, v7, v8, v9, v10, v11, v12, v13, v14, v15, v16, v17, v18, rfl⟩
end

instance : Inhabited Itm := ⟨itZ⟩
/-- The items of a packet that came in; sl: what the bound on all that came in says of them. -/
theorem open_its {H : Type} {enc : TypeId × Value → H} {W : World} {fuel : Nat} {v : Value} {x : DataW H × List MemPlace}
    (hf : DataW.trod enc Tryd.prog W 0 (fun _ => true) true fuel 22 [v] = some x) : ∃ (a : Option Addr) (len cap : Nat) (its : List Itm), v = .slice a len cap ∧ RowI W a len cap its ∧ (∀ y ∈ its, itRg y) ∧ (cap = 0 ∨ cap * 160 ∈ x.1.weights Tryd.prog 22) := by
  rcases open_slice Tryd.underlying22 hf with ⟨hcs, hx⟩ | ⟨ad, l, c, m, n, D, Pl, hcs, _, hl, hm, hmm, hx, hel⟩
  · simp at hcs
    subst hcs
    exact ⟨none, 0, 0, [], rfl, rowI_nil W, fun y hy => (by simp at hy), .inl rfl⟩
  · simp at hcs
    subst hcs
    have hmc : m = c := by simpa using hmm
    subst hmc
    rw [cn38] at hel
    have each : ∀ i, i < m → ∃ y : Itm, (∀ j v, (itc y)[j]? = some v → W.cell? ((ad.add (i * 19)).add j) = some v) ∧ itRg y := by
      intro i hi
      obtain ⟨cs', h1, h2⟩ := hel i hi
      obtain ⟨_, hlen, hcell⟩ := World.cells?_some h1
      obtain ⟨v0, v1, v2, v3, v4, v5, v6, v7, v8, v9, v10, v11, v12, v13, v14, v15, v16, v17, v18, rfl⟩ := list19 hlen
      obtain ⟨y, hy, hg⟩ := open_itm h2
      refine ⟨y, fun j v hj => ?_, hg⟩
      have hjl : j < 19 := (List.getElem?_eq_some_iff.1 hj).1
      have hc := hcell j hjl
      rw [hy] at hc
      rw [hc]
      exact hj
    obtain ⟨F, hF⟩ := choose_lt each
    refine ⟨some ad, l, m, (List.range l).map F, rfl, ⟨by simp, hl, by unfold maxLen at hm; omega, fun h => (by cases h), ?_⟩, ?_, .inr ?_⟩
    · by_cases h0 : l = 0
      · exact .inl h0
      · obtain ⟨b, off, spot⟩ := ad
        have hc := (hF 0 (by omega)).1 0 _ rfl
        have hspot : spot = none := by simpa [Addr.add] using World.cell?_spot hc
        subst hspot
        refine .inr ⟨b, off, rfl, World.block_lt_of_cell? _ _ hc, fun j hj => ?_⟩
        have hget : ((List.range l).map F).getD j itZ = F j := by simp [List.getD, hj]
        rw [hget]
        intro i v hv
        have := (hF j (by omega)).1 i v hv
        rw [add_plain, add_plain] at this
        exact this
    · intro y hy
      obtain ⟨i, hi, rfl⟩ := List.mem_map.1 hy
      exact (hF i (by have := List.mem_range.1 hi; omega)).2
    · rw [hx]
      simp only [DataW.weights, Tryd.underlying22, List.length_map, List.length_range]
      rw [show Tryd.prog.bytesOf 38 = 160 by kernel_rfl, show l + (m - l) = m by omega]
      exact List.mem_cons_self
theorem list8 {α : Type} {l : List α} (h : l.length = 8) : ∃ v0 v1 v2 v3 v4 v5 v6 v7, l = [v0, v1, v2, v3, v4, v5, v6, v7] := by
  match l, h with
  | [v0, v1, v2, v3, v4, v5, v6, v7], _ => exact ⟨v0, v1, v2, v3, v4, v5, v6, v7, rfl⟩
/-- A packet that came in. -/
theorem open_pkc {H : Type} {enc : TypeId × Value → H} {W : World} {fuel : Nat} {cs : List Value} {x : DataW H × List MemPlace} (hl : cs.length = 8)
    (hf : DataW.trod enc Tryd.prog W 0 (fun _ => true) true fuel 24 cs = some x) : ∃ (p : Pkt) (a : Option Addr) (len cap : Nat), cs = [.int .i64 p.kind, .int .i64 p.src, .int .i64 p.dst, .int .i64 p.boot, .int .i64 p.life, .int .i64 p.echo, .int .i64 p.echoLife, .slice a len cap] ∧ RowI W a len cap p.items ∧ (∀ y ∈ p.items, itRg y) ∧ (cap = 0 ∨ cap * 160 ∈ x.1.weights Tryd.prog 24) := by
  obtain ⟨v0, v1, v2, v3, v4, v5, v6, v7, rfl⟩ := list8 hl
  obtain ⟨xs, k, hk, hxy, _, hxl, hg⟩ := DataW.trod_struct Tryd.underlying24 hf
  match xs, hxl with
  | [y0, y1, y2, y3, y4, y5, y6, y7], _ =>
  have e0 := hg 0 _ rfl
  have e1 := hg 1 _ rfl
  have e2 := hg 2 _ rfl
  have e3 := hg 3 _ rfl
  have e4 := hg 4 _ rfl
  have e5 := hg 5 _ rfl
  have e6 := hg 6 _ rfl
  have e7 := hg 7 _ rfl
  simp [cn3] at e0 e1 e2
  simp [cn2] at e3 e4 e5 e6
  simp [show Tryd.prog.cellsOf 22 = 1 by kernel_rfl] at e7
  obtain ⟨x0, q0, _, _⟩ := DataW.trod_int Tryd.underlying3 e0
  obtain ⟨x1, q1, _, _⟩ := DataW.trod_int Tryd.underlying3 e1
  obtain ⟨x2, q2, _, _⟩ := DataW.trod_int Tryd.underlying3 e2
  obtain ⟨x3, q3, _, _⟩ := DataW.trod_int Tryd.underlying2 e3
  obtain ⟨x4, q4, _, _⟩ := DataW.trod_int Tryd.underlying2 e4
  obtain ⟨x5, q5, _, _⟩ := DataW.trod_int Tryd.underlying2 e5
  obtain ⟨x6, q6, _, _⟩ := DataW.trod_int Tryd.underlying2 e6
  simp at q0 q1 q2 q3 q4 q5 q6
  subst q0 q1 q2 q3 q4 q5 q6
  obtain ⟨a, len, cap, its, rfl, R, hr, hw⟩ := open_its e7
  refine ⟨⟨x0, x1, x2, x3, x4, x5, x6, its⟩, a, len, cap, rfl, R, hr, hw.imp id fun h => ?_⟩
  rw [hxy]
  simp only [DataW.weights, Tryd.underlying24, List.map_cons, List.map_nil, DataW.weightsEach, List.mem_append]
  simp only [h, or_true, true_or]
set_option maxRecDepth 100000 in
theorem open_pkt {H : Type} {enc : TypeId × Value → H} {W : World} {r : Reach} {b : Nat} {v : Value} {d : DataW H} {ps : List MemPlace} (hv : Value.okWide Tryd.prog W r b 24 v) (h : DataW.Trod enc Tryd.prog W 0 (fun _ => true) true 24 v d ps) :
    ∃ (p : Pkt) (a : Option Addr) (len cap : Nat), v = pkv p a len cap ∧ RowI W a len cap p.items ∧ (∀ y ∈ p.items, itRg y) ∧ (cap = 0 ∨ cap * 160 ∈ d.weights Tryd.prog 24) := by
  simp only [Value.okWide, Tryd.underlying24] at hv
  obtain ⟨cs, rfl, hsz, _⟩ := hv
  rw [show Tryd.prog.cellsOf 24 = 8 by kernel_rfl] at hsz
  obtain ⟨fuel, hf⟩ := h
  obtain ⟨p, a, len, cap, hcs, R, hr, hw⟩ := open_pkc (x := (d, ps)) (by simpa [Value.cells] using hsz) hf
  refine ⟨p, a, len, cap, ?_, R, hr, hw⟩
  have : cs = (cs.toList).toArray := by simp
  rw [this, show cs.toList = _ from hcs]

end Go.Proofs.YticmjlnpjopfbaaDoor

namespace Go.Proofs.YticmjlnpjopfbaaDoor.wireFits
open Go.ChangeShapes Go.WideShapes Go.ChangeAt Go.RowKit
open S (Tab leaf Row)
set_option linter.unusedVariables false

theorem own : ownKnob Tryd.prog.godebug = none := by kernel_rfl
theorem laidOut : laidOutB Tryd.prog = true := by kernel_rfl
theorem gTab : Tryd.prog.globalNamed "eddy/seal.leaves" = some 0 := by kernel_rfl
theorem gTabType : (Tryd.prog.globals[0]?).map (·.type) = some 137 := by kernel_rfl
theorem cellsT : Tryd.prog.cellsOf 137 = 16 := by kernel_rfl
theorem cellsU : Tryd.prog.cellsOf 91 = 1 := by kernel_rfl
def leafI : List Int := [0, 498536548, 997073096, 651767980, 1994146192, 1802195444, 1303535960, 1342533948, 3988292384, 4027552580, 3604390888, 3412177804, 2607071920, 2262029012, 2685067896, 3183342108]
theorem leaf_int : ∀ i : Fin 16, leafI.getD i.val 0 = ((leaf i.val : Nat) : Int) := by decide +kernel
theorem table {W : World} (h : laidMetH Tryd.prog Rows.wireFitsRow.laid W) : Tab W := by
  have t : Lib.TabIs Tryd.prog W "eddy/seal.leaves" .u32 leafI := Lib.tabIs_of_head (rest := []) gTab gTabType Tryd.underlying137 Tryd.underlying91 cellsU cellsT h
  intro i hi
  have := t.cell gTab i (by show i < 16; exact hi)
  rw [leaf_int ⟨i, hi⟩] at this
  exact this

set_option maxRecDepth 100000 in
theorem contract (H : Type) (enc : TypeId × Value → H) (W : World) (base : Nat) (args : Array Value) (ds gs : List (DataW H)) (before : List MemPlace)
    (hval0 : ∀ (j : Nat) t v, Tryd.f3.params[j]? = some t → args[j]? = some v → Value.okWide Tryd.prog W .any base t v)
    (hW : DataW.Whole enc Tryd.prog Tryd.f3.params.toList Rows.wireFitsSpec.vars false W args.toList ds gs before) (hL : laidMetH Tryd.prog Rows.wireFitsRow.laid W)
    (hsz : (DataW.weightsEach Tryd.prog (Tryd.f3.params.toList ++ Rows.wireFitsSpec.plain.varTypes Tryd.prog) (ds ++ gs)).all (· ≤ reachBytes) = true) :
    Calls Tryd.prog 3 args W fun e W' => ∃ v, e = .returned v ∧ Rows.wireFitsSpec.post enc Tryd.prog Tryd.f3 false true false false W args v W' := by
  have hval : ∀ (j : Nat) t v, Tryd.f3.params[j]? = some t → args[j]? = some v → Value.okWide Tryd.prog W .any base t v := hval0
  have hW' := hW
  obtain ⟨p, q, hA0, hV, rfl, hfz, hnd⟩ := hW
  have hA : DataW.TrodAll enc Tryd.prog W 0 (fun _ => true) true Tryd.f3.params.toList args.toList ds p := hA0
  rw [Tryd.params3] at hA hval hsz
  have htab : Tab W := table hL
  obtain ⟨v0, vs0, d0, ds0, p0, q0, hargs, rfl, rfl, h0, r0⟩ := trodAll_cons hA
  obtain ⟨rfl, rfl, rfl⟩ := trodAll_nil r0
  obtain rfl : args = #[v0] := by cases args; simp_all
  obtain ⟨rfl, rfl⟩ := trodVars_none hV
  have k0 := h0
  have lt0 : ∀ x ∈ p0, x.block < W.heap.size := by obtain ⟨m, hm⟩ := k0; exact DataW.trod_lt m _ _ _ hm
  obtain ⟨x0, a0, len0, cap0, rfl, R0, g0, s0⟩ := open_pkt (hval 0 24 v0 rfl rfl) k0
  have hb0 : len0 * 160 ≤ 140737488355328 := by
    have hle := R0.le
    rcases s0 with h | h
    · omega
    · have := List.all_eq_true.1 hsz _ (DataW.weights_mem_each (j := 0) rfl rfl _ h)
      have h2 : cap0 * 160 ≤ reachBytes := by simpa using this
      unfold reachBytes at h2
      omega
  clear hA0 hval0
  refine (fits_walk x0 a0 len0 cap0 W R0 hb0 htab).mono fun e W' ⟨he, bel⟩ => ?_
  subst he
  exact ⟨_, rfl, _, _, _, [], _, [], hW', trodAll_mk1 (shut_bool Tryd.underlying4 _), (trodAll_cons_mk (Below.trod laidOut (by kernel_rfl) (of_decide_eq_true (by kernel_rfl)) k0 bel lt0) trodAll_mk0), rfl, bel.frame _, fun h => by cases h⟩

/-- A world for the witness: the settled one, the table holding what its initialiser lays. -/
noncomputable def laidWorld (os : Os) : World :=
  { World.holding Tryd.prog os ⟨#[], #[], []⟩ with heap := (World.holding Tryd.prog os ⟨#[], #[], []⟩).heap.modify 0 fun
      | .cells _ t frozen => .cells #[.int .u32 0, .int .u32 498536548, .int .u32 997073096, .int .u32 651767980, .int .u32 1994146192, .int .u32 1802195444, .int .u32 1303535960, .int .u32 1342533948, .int .u32 3988292384, .int .u32 4027552580, .int .u32 3604390888, .int .u32 3412177804, .int .u32 2607071920, .int .u32 2262029012, .int .u32 2685067896, .int .u32 3183342108] t frozen
      | o => o }
theorem laid_met (os : Os) : laidMet Tryd.prog Rows.wireFitsRow.laid ((laidWorld os).forCall (fun _ _ => 0) ⟨#[], #[.agg #[.int .i64 0, .int .i64 0, .int .i64 0, .int .i64 0, .int .i64 0, .int .i64 0, .int .i64 0, .slice none 0 0]], []⟩).memory :=
  laidMet_of_run' 8 (by kernel_rfl) (by kernel_rfl)
theorem reads (os : Os) {H : Type} (enc : TypeId × Value → H) : ∃ places, DataW.whole enc Tryd.prog ((laidWorld os).forCall (fun _ _ => 0) ⟨#[], #[.agg #[.int .i64 0, .int .i64 0, .int .i64 0, .int .i64 0, .int .i64 0, .int .i64 0, .int .i64 0, .slice none 0 0]], []⟩).memory Tryd.f3.params.toList Rows.wireFitsSpec.vars false (#[.agg #[.int .i64 0, .int .i64 0, .int .i64 0, .int .i64 0, .int .i64 0, .int .i64 0, .int .i64 0, .slice none 0 0]] : Array Value).toList 8 = some ([.agg [.lit (.int .i64 0), .lit (.int .i64 0), .lit (.int .i64 0), .lit (.int .i64 0), .lit (.int .i64 0), .lit (.int .i64 0), .lit (.int .i64 0), .nil]], [], places) :=
  ⟨[], by kernel_rfl⟩

set_option maxRecDepth 100000 in
theorem lifted (os : Os) (started : os.Started) (H : Type) (enc : TypeId × Value → H) (F : Stop.Interp) :
    ReturnsInHanded {} Tryd.checked os 3 .any ((OpenSpec.ofChange Rows.wireFitsSpec).preRow enc Tryd.prog Tryd.f3 Rows.wireFitsRow.domain false Rows.wireFitsRow.laid) (((OpenSpec.ofChange Rows.wireFitsSpec).at F).post enc Tryd.prog Tryd.f3 false true false false) := by
  obtain ⟨places, hx⟩ := reads os enc
  refine returnsInHanded_of_row (C := Tryd.checked) (s := (OpenSpec.ofChange Rows.wireFitsSpec)) own started (by kernel_rfl) Tryd.func3
    (witness_row_at (enc := enc) (C := Tryd.checked) false (laidWorld os) #[.agg #[.int .i64 0, .int .i64 0, .int .i64 0, .int .i64 0, .int .i64 0, .int .i64 0, .int .i64 0, .slice none 0 0]] rfl (by kernel_rfl) (by kernel_rfl) (by kernel_rfl)
      (OpenSpec.preRow_of_cond 8 hx (by kernel_rfl) (fun k hk => by cases hk) (by kernel_rfl) (laid_met os))) ?_
  intro W base args ds gs before hval hW _ hcond hsz hL _ _
  exact contract H enc W base args ds gs before hval hW hL hsz

theorem over : Rows.WireFitsSaid :=
  OpenClaim.holds_of_cond 3 Tryd.f3 rfl rfl rfl rfl rfl rfl rfl ⟨rfl, rfl, rfl, rfl, rfl⟩ rfl rfl rfl rfl rfl (by kernel_rfl) Tryd.func3 (by kernel_rfl)
    (of_decide_eq_true (by kernel_rfl)) (by unfold Func.isWrapper; first | (rw [if_pos (by decide +kernel)]; kernel_rfl) | (rw [if_neg (by decide +kernel)]; exact ⟨rfl, rfl⟩))
    (fun os started H enc _ F => by rw [OpenClaim.pre_eq_preRow]; exact lifted os started H enc F)

theorem plain (f : FuncId) (fn : Func) (hf : Tryd.pinned.checked.prog.funcNamed "eddy/eddylaw05.WireFits" = some f) (hfn : Tryd.pinned.checked.prog.funcs[f]? = some fn) :
    true = Tryd.pinned.checked.prog.looks [] ∧ ∀ (j : Nat) t, fn.params[j]? = some t → Tryd.pinned.checked.prog.wantsStandIn t = false := by
  obtain rfl : f = 3 := Option.some.inj ((show Tryd.prog.funcNamed "eddy/eddylaw05.WireFits" = some 3 by kernel_rfl).symm.trans hf) |>.symm
  obtain rfl : fn = Tryd.f3 := (Option.some.inj (Tryd.func3.symm.trans hfn)).symm
  refine ⟨by kernel_rfl, fun j t ht => ?_⟩
  rw [Tryd.params3] at ht
  have h3 : t ∈ [24] := List.mem_of_getElem? (by simpa using ht)
  simp only [List.mem_cons, List.not_mem_nil, or_false] at h3
  rcases h3 with rfl
  · exact (show Tryd.prog.wantsStandIn 24 = false by kernel_rfl)

/-- The statement: the tied card. -/
theorem proved : Rows.WireFitsCardSaid :=
  Claim7.holds_tied_plain_at .later [] _ _ _ _ over (fun _ h => by cases h) (by kernel_rfl) (fun _ h => by cases h) wireFits_row_tie rfl ⟨rfl, rfl⟩ (by kernel_rfl) rfl plain (by kernel_rfl)
#print axioms proved
end Go.Proofs.YticmjlnpjopfbaaDoor.wireFits
