/-
  A bag made out of another's state goes on as that one does (P6.10): the law BagGoes returns true for every input.
-/
import Derived.Test.YtoppecppmjpgiaaGrAct
import Derived.Test.YtoppecppmjpgiaaBiA
import Derived.Test.YtoppecppmjpgiaaBiJ
import Derived.Test.YtoppecppmjpgiaaBhJ
import Derived.Lib.SliceRun
import Derived.Test.YtoppecppmjpgiaaBiK
import Derived.Test.YtoppecppmjpgiaaBgM
import Derived.Test.YtoppecppmjpgiaaBgK
import Derived.SizedLaws
import Derived.Test.YtoppecppmjpgiaaRows
import Derived.WalkKit
import Derived.ProofKit
import Derived.OpenShut
import Derived.ShutString
import Derived.ChangeOld
import Derived.Below
namespace Go.Proofs.Ytoppecppmjpgiaa
open Go.ChangeShapes Go.WideShapes Go.ChangeAt Go.RowKit Go.Maps
set_option linter.unusedVariables false
set_option linter.unusedSimpArgs false
theorem Bt.sever_same {W0 W : World} {C0 : Nat → Prop} {b M r k : Nat} {next : Int} {ds : List DG} {D : DataW Unit} {rn : Int} {rds : List DG} {ls : List LK} (h : Bt W0 C0 b M r k next ds D rn rds ls W) (x : Int) :
    Calls Try.prog 19 #[.pointer (some ⟨b, 0, none⟩), .int .i64 x, .int .i64 x] W fun e W' => e = .returned (.int .i64 0) ∧ Bt W0 C0 b M r k next ds D rn rds ls W' := by
  obtain ⟨a, cap, ra, rc, la, lc, B, R, h1, h2⟩ := h.out
  exact (Go.Proofs.Ytoppecppmjpgiaa.sever_same b M a _ cap k next ds D x W B).mono fun e W' ⟨he, hw⟩ => ⟨he, by rw [hw]; exact h⟩
theorem Bt.rsever_same {W0 W : World} {C0 : Nat → Prop} {b M r k : Nat} {next : Int} {ds : List DG} {D : DataW Unit} {rn : Int} {rds : List DG} {ls : List LK} (h : Bt W0 C0 b M r k next ds D rn rds ls W) (x : Int) :
    Calls Try.prog 31 #[.pointer (some ⟨r, 0, none⟩), .int .i64 x, .int .i64 x] W fun e W' => e = .returned (.int .i64 0) ∧ Bt W0 C0 b M r k next ds D rn rds ls W' :=
  (Go.Proofs.Ytoppecppmjpgiaa.rsever_same r x W).mono fun e W' ⟨he, hw⟩ => ⟨he, by rw [hw]; exact h⟩
set_option maxRecDepth 100000 in
set_option maxHeartbeats 8000000 in
theorem act_same {W0 W : World} {C0 : Nat → Prop} {b M r k : Nat} {D : DataW Unit} (s0 : St) {L : Nat} (h : Bt W0 C0 b M r k s0.next s0.ds D s0.next s0.ds s0.ls W) (O : Ok L k D s0) (hL : L < 8796093022206) (nn x : Int) (s : ByteArray) (hx : I64 x) :
    Calls Try.prog 11 #[.pointer (some ⟨b, 0, none⟩), .pointer (some ⟨r, 0, none⟩), act5 5 nn x x s] W fun e W' => e = .returned (.bool true) ∧ ∃ k' D', Bt W0 C0 b M r k' (stp ⟨5, nn, x, x, s⟩ s0).next (stp ⟨5, nn, x, x, s⟩ s0).ds D' (stp ⟨5, nn, x, x, s⟩ s0).next (stp ⟨5, nn, x, x, s⟩ s0).ds (stp ⟨5, nn, x, x, s⟩ s0).ls W' ∧ Ok (L + 1) k' D' (stp ⟨5, nn, x, x, s⟩ s0) := by
  obtain ⟨W1, C, hW1, Z, back⟩ := h.within 5 nn x x s
  obtain ⟨next, ds, ls⟩ := s0
  have f0 := row_cell Z.at_ 0 _ rfl
  have f1 := row_cell Z.at_ 1 _ rfl
  have f2 := row_cell Z.at_ 2 _ rfl
  have f3 := row_cell Z.at_ 3 _ rfl
  have f4 := row_cell Z.at_ 4 _ rfl
  have HB : Hid (∀ (k' : Nat) (next' : Int) (ds' : List DG) (D' : DataW Unit) (rn' : Int) (rds' : List DG) (ls' : List LK) (W' : World), Bt W1 C b M r k' next' ds' D' rn' rds' ls' W' → Bt W0 C0 b M r k' next' ds' D' rn' rds' ls' W') := ⟨back⟩
  have HO : Hid (Ok L k D ⟨next, ds, ls⟩) := ⟨O⟩
  clear h O back
  simp only at Z
  have HS : Hid (stp ⟨5, nn, x, x, s⟩ ⟨next, ds, ls⟩ = ⟨next, ds, ls⟩) := ⟨by simp [stp]⟩
  have Zd : Bz W1 C _ _ b M r k next ds D next ds ls W1.drew := ⟨Z.bt.later ((Below.refl _ _).drew), Z.lt, Z.no, Z.was⟩
  have K1 := Zd.bt.sever_same x
  go_enter Try.func11, Try.ntmps11
  go_wp2
  refine wp_region_any (by kernel_rfl) ?_
  change wpAny _ _ _ _ _ _ _ (World.drew _)
  refine wpAny_narrow (fun X => X.heap[W.heap.size]? = some (actO 5 nn x x s)) _ _ _ _ ?_
  refine anyH_take 0 118 (.pointer (some ⟨b, 0, none⟩)) rfl rfl (by kernel_rfl) (by kernel_rfl) (by kernel_rfl) (fun _ _ _ h => h) (Or.inl ⟨by rfl, by intro w hSw; go_simp⟩) (Z.at_) ?_
  try simp only [Act.put, List.setIfInBounds_toArray, List.set_cons_zero, List.set_cons_succ]
  refine anyH_take 1 119 (.pointer (some ⟨W.heap.size, 2, none⟩)) rfl rfl (by kernel_rfl) (by kernel_rfl) (by kernel_rfl) (fun _ _ _ h => h) (Or.inl ⟨by rfl, by intro w hSw; go_simp⟩) (Z.at_) ?_
  try simp only [Act.put, List.setIfInBounds_toArray, List.set_cons_zero, List.set_cons_succ]
  refine anyH_take 2 120 (.int .i64 x) rfl rfl (by kernel_rfl) (by kernel_rfl) (by kernel_rfl) (fun _ _ _ h => h) (Or.inl ⟨by rfl, by intro w hSw; have k0 := row_cell hSw 2 _ rfl; go_simp⟩) (Z.at_) ?_
  try simp only [Act.put, List.setIfInBounds_toArray, List.set_cons_zero, List.set_cons_succ]
  refine anyH_take 3 121 (.pointer (some ⟨W.heap.size, 3, none⟩)) rfl rfl (by kernel_rfl) (by kernel_rfl) (by kernel_rfl) (fun _ _ _ h => h) (Or.inl ⟨by rfl, by intro w hSw; go_simp⟩) (Z.at_) ?_
  try simp only [Act.put, List.setIfInBounds_toArray, List.set_cons_zero, List.set_cons_succ]
  refine anyH_take 4 122 (.int .i64 x) rfl rfl (by kernel_rfl) (by kernel_rfl) (by kernel_rfl) (fun _ _ _ h => h) (Or.inl ⟨by rfl, by intro w hSw; have k0 := row_cell hSw 3 _ rfl; go_simp⟩) (Z.at_) ?_
  try simp only [Act.put, List.setIfInBounds_toArray, List.set_cons_zero, List.set_cons_succ]
  refine anyH_take 6 124 (.pointer (some ⟨r, 0, none⟩)) rfl rfl (by kernel_rfl) (by kernel_rfl) (by kernel_rfl) (fun _ _ _ h => h) (Or.inl ⟨by rfl, by intro w hSw; go_simp⟩) (Z.at_) ?_
  try simp only [Act.put, List.setIfInBounds_toArray, List.set_cons_zero, List.set_cons_succ]
  refine anyH_take 7 125 (.pointer (some ⟨W.heap.size, 2, none⟩)) rfl rfl (by kernel_rfl) (by kernel_rfl) (by kernel_rfl) (fun _ _ _ h => h) (Or.inl ⟨by rfl, by intro w hSw; go_simp⟩) (Z.at_) ?_
  try simp only [Act.put, List.setIfInBounds_toArray, List.set_cons_zero, List.set_cons_succ]
  refine anyH_take 8 126 (.int .i64 x) rfl rfl (by kernel_rfl) (by kernel_rfl) (by kernel_rfl) (fun _ _ _ h => h) (Or.inl ⟨by rfl, by intro w hSw; have k0 := row_cell hSw 2 _ rfl; go_simp⟩) (Z.at_) ?_
  try simp only [Act.put, List.setIfInBounds_toArray, List.set_cons_zero, List.set_cons_succ]
  refine anyH_take 9 127 (.pointer (some ⟨W.heap.size, 3, none⟩)) rfl rfl (by kernel_rfl) (by kernel_rfl) (by kernel_rfl) (fun _ _ _ h => h) (Or.inl ⟨by rfl, by intro w hSw; go_simp⟩) (Z.at_) ?_
  try simp only [Act.put, List.setIfInBounds_toArray, List.set_cons_zero, List.set_cons_succ]
  refine anyH_take 10 128 (.int .i64 x) rfl rfl (by kernel_rfl) (by kernel_rfl) (by kernel_rfl) (fun _ _ _ h => h) (Or.inl ⟨by rfl, by intro w hSw; have k0 := row_cell hSw 3 _ rfl; go_simp⟩) (Z.at_) ?_
  try simp only [Act.put, List.setIfInBounds_toArray, List.set_cons_zero, List.set_cons_succ]
  refine wpAnyH_ready (rs := [5]) (by kernel_rfl) (by simp) ?_
  refine AllReadyH.cons rfl (fun K hK => ?_) AllReadyH.nil
  go_simp
  go_wp2_with (go_at_call 19; go_must (refine K1.mono ?_; clear K1; rintro e W2 ⟨rfl, T2⟩; have Z2 : Bz W1 C _ _ b M r _ _ _ _ _ _ _ W2 := ⟨T2, Z.lt, Z.no, Z.was⟩; have K2 := T2.rsever_same x))
  refine hK.out _ _ (Z2.at_) (fun hS => ?_)
  clear hK
  refine wpAnyH_ready (rs := [11]) (by kernel_rfl) (by simp) ?_
  refine AllReadyH.cons rfl (fun K hK => ?_) AllReadyH.nil
  go_simp
  go_wp2_with (go_at_call 31; go_must (refine K2.mono ?_; clear K2; rintro e W3 ⟨rfl, T3⟩; have Z3 : Bz W1 C _ _ b M r _ _ _ _ _ _ _ W3 := ⟨T3, Z.lt, Z.no, Z.was⟩))
  refine hK.out _ _ (Z3.at_) (fun hS => ?_)
  clear hK
  refine anyH_take 12 130 (.bool true) rfl rfl (by kernel_rfl) (by kernel_rfl) (by kernel_rfl) (fun _ _ _ h => h) (Or.inl ⟨by rfl, by intro w hSw; go_simp⟩) (Z3.at_) ?_
  try simp only [Act.put, List.setIfInBounds_toArray, List.set_cons_zero, List.set_cons_succ]
  refine anyH_take 13 6 (.bool true) rfl rfl (by kernel_rfl) (by kernel_rfl) (by kernel_rfl) (fun _ _ _ h => h) (Or.inl ⟨by rfl, by intro w hSw; go_simp⟩) (Z3.at_) ?_
  try simp only [Act.put, List.setIfInBounds_toArray, List.set_cons_zero, List.set_cons_succ]
  refine wpAnyH_done (by kernel_rfl) ?_ _
  go_wp2
  go_ret
  rw [HS.out]
  exact ⟨rfl, _, _, HB.out _ _ _ _ _ _ _ _ T3, by have O := HO.out; exact ⟨O.good, O.top, O.lnk, O.lt, O.tidy, Nat.le_succ_of_le O.size, Nat.le_succ_of_le O.len, Nat.le_succ_of_le O.kk⟩⟩
set_option maxRecDepth 100000 in
set_option maxHeartbeats 8000000 in
theorem act_other {W0 W : World} {C0 : Nat → Prop} {b M r k : Nat} {D : DataW Unit} (s0 : St) {L : Nat} (h : Bt W0 C0 b M r k s0.next s0.ds D s0.next s0.ds s0.ls W) (O : Ok L k D s0) (hL : L < 8796093022206) (kd nn x y : Int) (s : ByteArray) (hx : I64 x) (hy : I64 y) (n1 : kd ≠ 1) (n2 : kd ≠ 2) (n3 : kd ≠ 3) (n4 : kd ≠ 4) (n5 : kd ≠ 5) (n6 : kd ≠ 6) (n7 : kd ≠ 7) :
    Calls Try.prog 11 #[.pointer (some ⟨b, 0, none⟩), .pointer (some ⟨r, 0, none⟩), act5 kd nn x y s] W fun e W' => e = .returned (.bool true) ∧ ∃ k' D', Bt W0 C0 b M r k' (stp ⟨kd, nn, x, y, s⟩ s0).next (stp ⟨kd, nn, x, y, s⟩ s0).ds D' (stp ⟨kd, nn, x, y, s⟩ s0).next (stp ⟨kd, nn, x, y, s⟩ s0).ds (stp ⟨kd, nn, x, y, s⟩ s0).ls W' ∧ Ok (L + 1) k' D' (stp ⟨kd, nn, x, y, s⟩ s0) := by
  obtain ⟨W1, C, hW1, Z, back⟩ := h.within kd nn x y s
  obtain ⟨next, ds, ls⟩ := s0
  have f0 := row_cell Z.at_ 0 _ rfl
  have f1 := row_cell Z.at_ 1 _ rfl
  have f2 := row_cell Z.at_ 2 _ rfl
  have f3 := row_cell Z.at_ 3 _ rfl
  have f4 := row_cell Z.at_ 4 _ rfl
  have HB : Hid (∀ (k' : Nat) (next' : Int) (ds' : List DG) (D' : DataW Unit) (rn' : Int) (rds' : List DG) (ls' : List LK) (W' : World), Bt W1 C b M r k' next' ds' D' rn' rds' ls' W' → Bt W0 C0 b M r k' next' ds' D' rn' rds' ls' W') := ⟨back⟩
  have HO : Hid (Ok L k D ⟨next, ds, ls⟩) := ⟨O⟩
  clear h O back
  simp only at Z
  have HS : Hid (stp ⟨kd, nn, x, y, s⟩ ⟨next, ds, ls⟩ = ⟨next, ds, ls⟩) := ⟨by simp [stp, n1, n2, n3, n4, n5, n6, n7]⟩
  have m1 : (kd == 1) = false := by simpa using n1
  have m2 : (kd == 2) = false := by simpa using n2
  have m3 : (kd == 3) = false := by simpa using n3
  have m4 : (kd == 4) = false := by simpa using n4
  have m5 : (kd == 5) = false := by simpa using n5
  have m6 : (kd == 6) = false := by simpa using n6
  have m7 : (kd == 7) = false := by simpa using n7
  clear n1 n2 n3 n4 n5 n6 n7
  go_enter Try.func11, Try.ntmps11
  go_wp2
  go_ret
  rw [HS.out]
  exact ⟨rfl, k, D, HB.out _ _ _ _ _ _ _ _ Z.bt, by have O := HO.out; exact ⟨O.good, O.top, O.lnk, O.lt, O.tidy, Nat.le_succ_of_le O.size, Nat.le_succ_of_le O.len, Nat.le_succ_of_le O.kk⟩⟩
theorem act_any {W0 W : World} {C0 : Nat → Prop} {b M r k : Nat} {D : DataW Unit} (s0 : St) {L : Nat} (h : Bt W0 C0 b M r k s0.next s0.ds D s0.next s0.ds s0.ls W) (O : Ok L k D s0) (hL : L < 8796093022206) (q : ActS) (hq : ActOk q) :
    Calls Try.prog 11 #[.pointer (some ⟨b, 0, none⟩), .pointer (some ⟨r, 0, none⟩), act5 q.kd q.nn q.x q.y q.s] W fun e W' => e = .returned (.bool true) ∧ ∃ k' D', Bt W0 C0 b M r k' (stp q s0).next (stp q s0).ds D' (stp q s0).next (stp q s0).ds (stp q s0).ls W' ∧ Ok (L + 1) k' D' (stp q s0) := by
  obtain ⟨kd, nn, x, y, s⟩ := q
  have hx : I64 x := hq.x
  have hy : I64 y := hq.y
  by_cases n1 : kd = 1
  · subst n1; exact act_put s0 h O hL nn x y s hx hy
  by_cases n2 : kd = 2
  · subst n2; exact act_take s0 h O hL nn x y s hx hy
  by_cases n3 : kd = 3
  · subst n3; exact act_double s0 h O hL nn x y s hx hy
  by_cases n4 : kd = 4
  · subst n4; exact act_between s0 h O hL nn x y s hx hy
  by_cases n5 : kd = 5
  · subst n5
    by_cases hxy : x = y
    · subst hxy; exact act_same s0 h O hL nn x s hx
    · exact act_sever s0 h O hL nn x y s hx hy hxy
  by_cases n6 : kd = 6
  · subst n6; exact act_mend s0 h O hL nn x y s hx hy
  by_cases n7 : kd = 7
  · subst n7; exact act_forget s0 h O hL nn x y s hx hy
  exact act_other s0 h O hL kd nn x y s hx hy n1 n2 n3 n4 n5 n6 n7
end Go.Proofs.Ytoppecppmjpgiaa

namespace Go.Proofs.Ytoppecppmjpgiaa
open Go.ChangeShapes Go.WideShapes Go.ChangeAt Go.RowKit Go.Maps Go.Sort
set_option linter.unusedVariables false
set_option linter.unusedSimpArgs false
theorem exec_load65m {o : Oper} {ρ : Operand → Value} {x : Operand} (ho : o.op = .load 65 x) (g off : Nat) (q : LK) (hx : ρ x = .pointer (some ⟨g, off, none⟩)) (X : World) (hc : X.rangeAt g off q.cells) : (execOp ρ o).run Try.prog X = .ok (.value q.v) X := by
  unfold execOp
  simp only [ho, hx, Instr.loadAt, Instr.sureAddr, Sem.run_bind, Sem.run_pure, Result.andThen_ok, run_loadVar_mid X g off 65 q.cells _ hc Try.underlying65 rfl (by kernel_rfl)]
  rfl
theorem wpList_load65m {ops : Array Oper} {rest : List Oper} {o : Oper} {a : Act} {W : World} {Q : Exit → Act → World → Prop} (hgd : o.guard = none) (x : Operand) (ho : o.op = .load 65 x) (g off : Nat) (p q : Int) (hx : a.eval x = .pointer (some ⟨g, off, none⟩)) (hc : W.rangeAt g off (LK.cells ⟨p, q⟩))
    (h : wpList Try.prog ops Q rest (a.put o.dst (.agg #[.int .i64 p, .int .i64 q])) W) : wpList Try.prog ops Q (o :: rest) a W := by
  refine wpList_plain hgd fun K hK => ?_
  unfold Oper.wp
  rw [exec_load65m ho g off ⟨p, q⟩ hx W hc]
  exact hK _ _ h
set_option maxRecDepth 100000 in
set_option maxHeartbeats 4000000 in
theorem rising_yes (a : Option Addr) (n cap : Nat) (ds : List DG) (next : Int) (w : World) (L : Lst w a n cap ds) (G : Good next ds) : Calls Try.prog 44 #[.slice a n cap, .int .i64 next] w fun e w' => e = .returned (.bool true) ∧ Below w.heap.size w w' := by
  have HN : Hid (n ≤ 65536 ∧ ds.length = n) := ⟨by have := G.len; have := L.size; omega, L.size⟩
  have HG : Hid (Good next ds) := ⟨G⟩
  clear G
  go_enter Try.func44, Try.ntmps44
  go_wp2
  go_loopg [5, 10] n (fun g v5 v10 wr => ∃ (i : Nat) (l : Int), v5 = .int .i64 l ∧ v10 = .int .i64 (i : Int) ∧ i + g = n ∧ Below w.heap.size w wr ∧ Hid (l ≤ next ∧ ∀ j d, i ≤ j → ds[j]? = some d → l < d.num))
  case atStart => exact ⟨0, 0, by first | rfl | go_num, by first | rfl | go_num, by omega, Below.refl _ _, ⟨HG.out.n0, fun j d _ h => by have := (HG.out.num d (List.mem_of_getElem? h)).1; omega⟩⟩
  case round =>
    obtain ⟨i, l, rfl, rfl, hg, hb, HL⟩ := hrel
    by_cases hi : i < n
    · have hiI : (i : Int) < (n : Int) := by omega
      have hi0 : (0 : Int) ≤ (i : Int) := by omega
      obtain ⟨g1, off, rfl, hdm, hr⟩ := (L.below hb).at i hi
      obtain ⟨⟨num, src, dst, body⟩, hd⟩ : ∃ d, ds.getD i DG.z = d := ⟨_, rfl⟩
      rw [hd] at hr
      have hdi : ds[i]? = some ⟨num, src, dst, body⟩ := by rw [← hd]; exact hdm
      have hlt := HL.out.2 i _ (Nat.le_refl _) hdi
      have HX : Hid (num ≤ next ∧ ∀ j d, i + 1 ≤ j → ds[j]? = some d → num < d.num) := ⟨(HG.out.num _ (List.mem_of_getElem? hdi)).2, fun j d hj h => by
        obtain ⟨h1, e1⟩ := List.getElem?_eq_some_iff.1 hdi
        obtain ⟨h2, e2⟩ := List.getElem?_eq_some_iff.1 h
        have := List.pairwise_iff_getElem.1 HG.out.asc i j h1 h2 (by omega)
        rw [e1, e2] at this
        exact this⟩
      have hle : ¬ num ≤ l := by have : l < num := hlt; omega
      have hin : IntKind.i64.wrap ((i : Int) + 1) = (i : Int) + 1 := by rw [IntKind.wrap_i64]; have := HN.out; omega
      have hb2 := hb.alloc hb.size (.cells #[.int .i64 num, .int .i64 src, .int .i64 dst, .string body] 33)
      clear hlt hdi hdm hd
      go_wp2_with ((with_reducible show wpList _ _ _ (Oper.mk _ (Op.load 33 (Operand.tmp 12)) _ _ _ _ :: _) _ _); refine wpList_load33x rfl _ rfl g1 (off + i * 4) num src dst body rfl hr ?_)
      go_roundg (gk - 1)
      case measure => omega
      case rel => exact ⟨i + 1, num, by first | rfl | go_num, by first | rfl | go_num, by omega, hb2, HX⟩
    · have hiI : ¬ (i : Int) < (n : Int) := by omega
      have hle := HL.out.1
      go_wp2
      go_ret
      exact ⟨by simp [hle], hb⟩
theorem below_grow (w : World) (n : Nat) (os : Array Obj) : Below w.heap.size w (grow (w.drewN n) os) := by
  refine ⟨rfl, rfl, rfl, ?_, fun q hq => ?_⟩
  · show w.heap.size ≤ (w.heap ++ os).size
    simp
  · show (w.heap ++ os)[q]? = w.heap[q]?
    rw [Array.getElem?_append_left hq]
set_option maxRecDepth 100000 in
set_option maxHeartbeats 8000000 in
theorem pairs_yes (la : Option Addr) (m lc : Nat) (ls : List LK) (w : World) (K : Lks w la m lc ls) (hr : Rise (ls.map pr)) (hlt : ∀ d ∈ ls, d.fst < d.snd) (hm : m * 16 ≤ 140737488355328) : Calls Try.prog 45 #[.slice la m lc] w fun e w' => e = .returned (.bool true) ∧ Below w.heap.size w w' := by
  have HM : Hid (m * 16 ≤ 140737488355328 ∧ ls.length = m) := ⟨hm, K.size⟩
  have HR : Hid (Rise (ls.map pr)) := ⟨hr⟩
  have HT : Hid (∀ d ∈ ls, d.fst < d.snd) := ⟨hlt⟩
  clear hm hr hlt
  go_enter Try.func45, Try.ntmps45
  go_wp2
  go_loopg [7] m (fun g v7 wr => ∃ i : Nat, v7 = .int .i64 (i : Int) ∧ i + g = m ∧ Below w.heap.size w wr)
  case atStart => exact ⟨0, by first | rfl | go_num, by omega, Below.refl _ _⟩
  case round =>
    obtain ⟨i, rfl, hg, hb⟩ := hrel
    by_cases hi : i < m
    · have hiI : (i : Int) < (m : Int) := by omega
      have hi0 : (0 : Int) ≤ (i : Int) := by omega
      obtain ⟨g1, off, rfl, hgl, hra⟩ : ∃ g off, la = some ⟨g, off, none⟩ ∧ g < w.heap.size ∧ ∀ i, i < m → w.rangeAt g (off + i * 2) (ls.getD i LK.z).cells := by
        rcases K.mem with ⟨e, h0⟩ | h
        · have := K.le; omega
        · exact h
      obtain ⟨⟨p0, p1⟩, hp⟩ : ∃ d, ls.getD i LK.z = d := ⟨_, rfl⟩
      have hrp := range_later (hra i hi) hgl hb
      rw [hp] at hrp
      have hpi : ls[i]? = some ⟨p0, p1⟩ := by rw [get_z ls i (by have := HM.out; omega), hp]
      have hpl : ¬ p1 ≤ p0 := by have := HT.out _ (List.mem_of_getElem? hpi); simp at this; omega
      have hin : IntKind.i64.wrap ((i : Int) + 1) = (i : Int) + 1 := by rw [IntKind.wrap_i64]; have := HM.out; omega
      by_cases hz : i = 0
      · subst hz
        go_wp2_with ((with_reducible show wpList _ _ _ (Oper.mk _ (Op.load 65 (Operand.tmp 10)) _ _ _ _ :: _) _ _); refine wpList_load65m rfl _ rfl g1 (off + 0 * 2) p0 p1 (by simp; try rfl) hrp ?_)
        have b4 := hb.alloc hb.size (.cells #[.int .i64 p0, .int .i64 p1] 65)
        generalize hW4 : World.alloc wr _ = W4 at *
        refine wp_region_any (by kernel_rfl) ?_
        change wpAny _ _ _ _ _ _ _ (World.drew _)
        refine wpAny_narrow (fun W' => Below W4.heap.size W4 W') _ _ _ _ ?_
        refine anyH_take 0 17 (.int .i64 0) rfl rfl (by kernel_rfl) (by kernel_rfl) (by kernel_rfl) (fun _ _ _ h => h) (Or.inl ⟨by rfl, by intro w hSw; go_simp⟩) ((Below.refl _ _).drew) ?_
        try simp only [Act.put, List.setIfInBounds_toArray, List.set_cons_zero, List.set_cons_succ]
        refine anyH_take 1 18 (.bool false) rfl rfl (by kernel_rfl) (by kernel_rfl) (by kernel_rfl) (fun _ _ _ h => h) (Or.inl ⟨by rfl, by intro w hSw; go_simp⟩) ((Below.refl _ _).drew) ?_
        try simp only [Act.put, List.setIfInBounds_toArray, List.set_cons_zero, List.set_cons_succ]
        refine anyH_take 2 19 (.bool false) rfl rfl (by kernel_rfl) (by kernel_rfl) (by kernel_rfl) (fun _ _ _ h => h) (Or.inl ⟨by rfl, by intro w hSw; go_simp⟩) ((Below.refl _ _).drew) ?_
        try simp only [Act.put, List.setIfInBounds_toArray, List.set_cons_zero, List.set_cons_succ]
        refine anyH_take 3 20 (undef) rfl rfl (by kernel_rfl) (by kernel_rfl) (by kernel_rfl) (fun _ _ _ h => h) (Or.inr ⟨by rfl, rfl⟩) ((Below.refl _ _).drew) ?_
        try simp only [Act.put, List.setIfInBounds_toArray, List.set_cons_zero, List.set_cons_succ]
        refine anyH_take 4 21 (undef) rfl rfl (by kernel_rfl) (by kernel_rfl) (by kernel_rfl) (fun _ _ _ h => h) (Or.inr ⟨by rfl, rfl⟩) ((Below.refl _ _).drew) ?_
        try simp only [Act.put, List.setIfInBounds_toArray, List.set_cons_zero, List.set_cons_succ]
        refine anyH_take 5 22 (undef) rfl rfl (by kernel_rfl) (by kernel_rfl) (by kernel_rfl) (fun _ _ _ h => h) (Or.inr ⟨by rfl, rfl⟩) ((Below.refl _ _).drew) ?_
        try simp only [Act.put, List.setIfInBounds_toArray, List.set_cons_zero, List.set_cons_succ]
        refine anyH_take 6 23 (undef) rfl rfl (by kernel_rfl) (by kernel_rfl) (by kernel_rfl) (fun _ _ _ h => h) (Or.inr ⟨by rfl, rfl⟩) ((Below.refl _ _).drew) ?_
        try simp only [Act.put, List.setIfInBounds_toArray, List.set_cons_zero, List.set_cons_succ]
        refine anyH_take 7 24 (undef) rfl rfl (by kernel_rfl) (by kernel_rfl) (by kernel_rfl) (fun _ _ _ h => h) (Or.inr ⟨by rfl, rfl⟩) ((Below.refl _ _).drew) ?_
        try simp only [Act.put, List.setIfInBounds_toArray, List.set_cons_zero, List.set_cons_succ]
        refine anyH_take 8 25 (undef) rfl rfl (by kernel_rfl) (by kernel_rfl) (by kernel_rfl) (fun _ _ _ h => h) (Or.inr ⟨by rfl, rfl⟩) ((Below.refl _ _).drew) ?_
        try simp only [Act.put, List.setIfInBounds_toArray, List.set_cons_zero, List.set_cons_succ]
        refine anyH_take 9 26 (undef) rfl rfl (by kernel_rfl) (by kernel_rfl) (by kernel_rfl) (fun _ _ _ h => h) (Or.inr ⟨by rfl, rfl⟩) ((Below.refl _ _).drew) ?_
        try simp only [Act.put, List.setIfInBounds_toArray, List.set_cons_zero, List.set_cons_succ]
        refine anyH_take 10 27 (undef) rfl rfl (by kernel_rfl) (by kernel_rfl) (by kernel_rfl) (fun _ _ _ h => h) (Or.inr ⟨by rfl, rfl⟩) ((Below.refl _ _).drew) ?_
        try simp only [Act.put, List.setIfInBounds_toArray, List.set_cons_zero, List.set_cons_succ]
        refine anyH_take 11 28 (.bool false) rfl rfl (by kernel_rfl) (by kernel_rfl) (by kernel_rfl) (fun _ _ _ h => h) (Or.inl ⟨by rfl, by intro w hSw; go_simp⟩) ((Below.refl _ _).drew) ?_
        try simp only [Act.put, List.setIfInBounds_toArray, List.set_cons_zero, List.set_cons_succ]
        refine wpAnyH_done (by kernel_rfl) ?_ _
        have b5 := b4.drew
        go_wp2
        go_roundg (gk - 1)
        case measure => omega
        case rel => exact ⟨1, by first | rfl | go_num, by omega, b5⟩
      · have hzI : (0 : Int) < (i : Int) := by omega
        have hzN : 0 < i := by omega
        obtain ⟨⟨q0, q1⟩, hq⟩ : ∃ d, ls.getD (i - 1) LK.z = d := ⟨_, rfl⟩
        have hrq := range_later (hra (i - 1) (by omega)) hgl hb
        rw [hq] at hrq
        have hqi : ls[i - 1]? = some ⟨q0, q1⟩ := by rw [get_z ls (i - 1) (by have := HM.out; omega), hq]
        have hlk : ¬ 0 ≤ lkz (q0, q1) (p0, p1) := by
          have h1 := (rise_iff ls).1 HR.out
          obtain ⟨k1, e1⟩ := List.getElem?_eq_some_iff.1 hqi
          obtain ⟨k2, e2⟩ := List.getElem?_eq_some_iff.1 hpi
          have := List.pairwise_iff_getElem.1 h1 (i - 1) i k1 k2 (by omega)
          rw [e1, e2, ← ltP_pr] at this
          have h2 := lt_lkz (q0, q1) (p0, p1)
          rw [decide_eq_true (show ltP (q0, q1) (p0, p1) from this)] at h2
          unfold ltOf at h2
          have := of_decide_eq_true h2
          omega
        have hsub : IntKind.i64.wrap ((i : Int) - 1) = ((i - 1 : Nat) : Int) := by rw [IntKind.wrap_i64]; have := HM.out; omega
        have hs1 : ((i - 1 : Nat) : Int) < (m : Int) := by omega
        have hs0 : (0 : Int) ≤ ((i - 1 : Nat) : Int) := by omega
        clear hp hq hpi hqi
        go_wp2_with ((with_reducible show wpList _ _ _ (Oper.mk _ (Op.load 65 (Operand.tmp 10)) _ _ _ _ :: _) _ _); refine wpList_load65m rfl _ rfl g1 (off + i * 2) p0 p1 rfl hrp ?_)
        have y0 : (wr.alloc (.cells #[.int .i64 p0, .int .i64 p1] 65)).cell? ⟨wr.heap.size, 0, none⟩ = some (.int .i64 p0) := by simp
        have y1 : (wr.alloc (.cells #[.int .i64 p0, .int .i64 p1] 65)).cell? ⟨wr.heap.size, 1, none⟩ = some (.int .i64 p1) := by simp
        have z4 : wr.heap.size < (wr.alloc (.cells #[.int .i64 p0, .int .i64 p1] 65)).heap.size := by simp
        have b4 := hb.alloc hb.size (.cells #[.int .i64 p0, .int .i64 p1] 65)
        have b04 : Below wr.heap.size wr (wr.alloc (.cells #[.int .i64 p0, .int .i64 p1] 65)) := (Below.refl _ _).alloc (Nat.le_refl _) _
        have hq4 := range_later hrq (Nat.lt_of_lt_of_le hgl hb.size) b04
        have hg4 := Nat.lt_of_lt_of_le hgl b4.size
        obtain ⟨W4, hW4⟩ : ∃ X, wr.alloc (.cells #[.int .i64 p0, .int .i64 p1] 65) = X := ⟨_, rfl⟩
        rw [hW4] at y0 y1 z4 b4 hq4 hg4 ⊢
        clear hW4 b04 hrq hrp
        refine wp_region_any (by kernel_rfl) ?_
        change wpAny _ _ _ _ _ _ _ (World.drew _)
        refine wpAny_narrow (fun W' => Below W4.heap.size W4 W') _ _ _ _ ?_
        refine anyH_take 0 17 (.int .i64 (i : Int)) rfl rfl (by kernel_rfl) (by kernel_rfl) (by kernel_rfl) (fun _ _ _ h => h) (Or.inl ⟨by rfl, by intro w hSw; go_simp⟩) ((Below.refl _ _).drew) ?_
        try simp only [Act.put, List.setIfInBounds_toArray, List.set_cons_zero, List.set_cons_succ]
        refine anyH_take 1 18 (.bool true) rfl rfl (by kernel_rfl) (by kernel_rfl) (by kernel_rfl) (fun _ _ _ h => h) (Or.inl ⟨by rfl, by intro w hSw; go_simp⟩) ((Below.refl _ _).drew) ?_
        try simp only [Act.put, List.setIfInBounds_toArray, List.set_cons_zero, List.set_cons_succ]
        refine anyH_take 2 19 (.bool true) rfl rfl (by kernel_rfl) (by kernel_rfl) (by kernel_rfl) (fun _ _ _ h => h) (Or.inl ⟨by rfl, by intro w hSw; go_simp⟩) ((Below.refl _ _).drew) ?_
        try simp only [Act.put, List.setIfInBounds_toArray, List.set_cons_zero, List.set_cons_succ]
        refine anyH_take 3 20 (.slice (some ⟨g1, off, none⟩) m lc) rfl rfl (by kernel_rfl) (by kernel_rfl) (by kernel_rfl) (fun _ _ _ h => h) (Or.inl ⟨by rfl, by intro w hSw; go_simp⟩) ((Below.refl _ _).drew) ?_
        try simp only [Act.put, List.setIfInBounds_toArray, List.set_cons_zero, List.set_cons_succ]
        refine anyH_take 4 21 (.int .i64 (i : Int)) rfl rfl (by kernel_rfl) (by kernel_rfl) (by kernel_rfl) (fun _ _ _ h => h) (Or.inl ⟨by rfl, by intro w hSw; go_simp⟩) ((Below.refl _ _).drew) ?_
        try simp only [Act.put, List.setIfInBounds_toArray, List.set_cons_zero, List.set_cons_succ]
        refine anyH_take 5 22 (.int .i64 ((i - 1 : Nat) : Int)) rfl rfl (by kernel_rfl) (by kernel_rfl) (by kernel_rfl) (fun _ _ _ h => h) (Or.inl ⟨by rfl, by intro w hSw; have w1 := hsub; go_simp⟩) ((Below.refl _ _).drew) ?_
        try simp only [Act.put, List.setIfInBounds_toArray, List.set_cons_zero, List.set_cons_succ]
        refine anyH_take 6 23 (.pointer (some ⟨g1, off + (i - 1) * 2, none⟩)) rfl rfl (by kernel_rfl) (by kernel_rfl) (by kernel_rfl) (fun _ _ _ h => h) (Or.inl ⟨by rfl, by intro w hSw; go_simp⟩) ((Below.refl _ _).drew) ?_
        try simp only [Act.put, List.setIfInBounds_toArray, List.set_cons_zero, List.set_cons_succ]
        refine anyH_take 7 24 (LK.v ⟨q0, q1⟩) rfl rfl (by kernel_rfl) (by kernel_rfl) (by kernel_rfl) (fun _ _ _ h => h) (Or.inl ⟨by rfl, fun X hSw => exec_load65m rfl g1 (off + (i - 1) * 2) ⟨q0, q1⟩ rfl X (range_later hq4 hg4 hSw)⟩) ((Below.refl _ _).drew) ?_
        try simp only [Act.put, List.setIfInBounds_toArray, List.set_cons_zero, List.set_cons_succ]
        refine anyH_take 8 25 (lnk p0 p1) rfl rfl (by kernel_rfl) (by kernel_rfl) (by kernel_rfl) (fun _ _ _ h => h) (Or.inl ⟨by rfl, by intro w hSw; have k0 := (hSw.cell (p := ⟨wr.heap.size, 0, none⟩) z4).trans y0; have k1 := (hSw.cell (p := ⟨wr.heap.size, 1, none⟩) z4).trans y1; go_simp⟩) ((Below.refl _ _).drew) ?_
        try simp only [Act.put, List.setIfInBounds_toArray, List.set_cons_zero, List.set_cons_succ]
        refine wpAnyH_ready (rs := [9]) (by kernel_rfl) (by simp) ?_
        refine AllReadyH.cons rfl (fun K hK => ?_) AllReadyH.nil
        go_simp
        go_wp2_with (go_at_call 37; refine (byNodes_any q0 q1 p0 p1 _).mono ?_; rintro e x1 ⟨rfl, qn, os', hw1⟩; have b1 : Below W4.drew.heap.size W4.drew x1 := (by rw [hw1]; exact below_grow _ _ _); clear hw1)
        refine hK.out _ _ ((Below.refl _ _).drew.trans b1) (fun hS => ?_)
        clear hK
        refine anyH_take 10 27 (.bool false) rfl rfl (by kernel_rfl) (by kernel_rfl) (by kernel_rfl) (fun _ _ _ h => h) (Or.inl ⟨by rfl, by intro w hSw; have w1 := hlk; go_simp⟩) (hS) ?_
        try simp only [Act.put, List.setIfInBounds_toArray, List.set_cons_zero, List.set_cons_succ]
        refine anyH_take 11 28 (.bool false) rfl rfl (by kernel_rfl) (by kernel_rfl) (by kernel_rfl) (fun _ _ _ h => h) (Or.inl ⟨by rfl, by intro w hSw; go_simp⟩) (hS) ?_
        try simp only [Act.put, List.setIfInBounds_toArray, List.set_cons_zero, List.set_cons_succ]
        refine wpAnyH_done (by kernel_rfl) ?_ _
        have b5 := b4.trans (hS.mono b4.size)
        clear hS y0 y1 z4 hq4 hg4
        go_wp2
        go_roundg (gk - 1)
        case measure => omega
        case rel => exact ⟨i + 1, by first | rfl | go_num, by omega, b5⟩
    · have hiI : ¬ (i : Int) < (m : Int) := by omega
      go_wp2
      go_ret
      exact ⟨rfl, hb⟩
end Go.Proofs.Ytoppecppmjpgiaa

namespace Go.Proofs.Ytoppecppmjpgiaa
open Go.ChangeShapes Go.WideShapes Go.ChangeAt Go.RowKit Go.Maps
set_option linter.unusedVariables false
set_option linter.unusedSimpArgs false

set_option maxRecDepth 100000 in
set_option maxHeartbeats 4000000 in
theorem fit_yes (next : Int) (a : Option Addr) (n c : Nat) (ds : List DG) (la : Option Addr) (m lc : Nat) (ls : List LK) (w : World) (L : Lst w a n c ds) (K : Lks w la m lc ls) (G : Good next ds) (hx : next ≤ 4611686018427387904) (hr : Rise (ls.map pr)) (hlt : ∀ d ∈ ls, d.fst < d.snd) (hm : m * 16 ≤ 140737488355328) :
    Calls Try.prog 23 #[mailV next a n c la m lc] w fun e w' => e = .returned (.bool true) ∧ Below w.heap.size w w' := by
  have hn0 : ¬ next < 0 := by have := G.n0; omega
  have hn1 : ¬ 4611686018427387904 < next := by omega
  have hn2 : (n : Int) ≤ 65536 := by have := G.len; have := L.size; omega
  have K1 := fun W (b : Below w.heap.size w W) => rising_yes a n c ds next W (L.below b) G
  have K2 := fun W (b : Below w.heap.size w W) => pairs_yes la m lc ls W (K.below b) hr hlt hm
  have b0 : Below w.heap.size w (w.alloc (.cells #[.int .i64 next, .slice a n c, .slice la m lc] 25)) := (Below.refl _ _).alloc (Nat.le_refl _) _
  have c0 := World.alloc_heap_new w (.cells #[.int .i64 next, .slice a n c, .slice la m lc] 25)
  clear hr hlt hm hx G
  go_enter Try.func23, Try.ntmps23
  go_wp2_with (first
    | (go_at_call 44; go_must (refine (K1 _ b0).mono ?_; rintro e w1 ⟨rfl, b1⟩; have c1 := (b1.block _ (row_lt c0)).trans c0; have q2 := row_cell c1 2 (.slice la m lc) rfl; have b01 := b0.trans (b1.mono b0.size)))
    | (go_at_call 45; go_must (refine (K2 _ b01).mono ?_; rintro e w2 ⟨rfl, b2⟩; have b02 := b01.trans (b2.mono b01.size))))
  go_ret
  exact ⟨rfl, b02⟩
set_option maxRecDepth 100000 in
set_option maxHeartbeats 2000000 in
theorem clone_any (a : Option Addr) (n cap : Nat) (ds : List DG) (w : World) (L : Lst w a n cap ds) (hn : n ≤ 65536) :
    Calls Try.prog 24 #[.slice a n cap] w fun e w' => ∃ a' c', e = .returned (.slice a' n c') ∧ Below w.heap.size w w' ∧ (∀ g off, a' = some ⟨g, off, none⟩ → w.heap.size ≤ g) ∧ Lst w' a' n c' ds := by
  have q22 : ∀ (w : World) (a : Option Addr) (n c n' c' : Nat), (binOp .eql 22 (.slice a n c) (.slice none n' c')).run Try.prog w = .ok (.bool a.isNone) w := fun w a n c n' c' => Lib.run_eql_slice_nil w 22 33 a n c n' c' Try.underlying22
  rcases id L.mem with ⟨rfl, h0⟩ | ⟨g, off, cur, rfl, hh, hcs, htk⟩
  · have hn0 : n = 0 := by have := L.le; omega
    subst hn0
    subst h0
    go_enter Try.func24, Try.ntmps24
    go_wp2
    go_ret
    exact ⟨none, 0, rfl, Below.refl _ _, fun g off e => (by cases e), L⟩
  · have HS : Hid (ds.length = n) := ⟨L.size⟩
    have HN : Hid (n ≤ 65536) := ⟨hn⟩
    have b0 : Below w.heap.size w (w.alloc (.cells #[] 33)) := (Below.refl _ _).alloc (Nat.le_refl _) _
    have HC : Hid (∀ W, Below w.heap.size w W → ∀ j u, (dcs ds)[j]? = some u → W.cell? ⟨g, off + j, none⟩ = some u) := ⟨fun W b j u hj => (World.cell?_of_block (a := ⟨g, off + j, none⟩) (b.block g L.lt)).trans (L.cells_at j u hj)⟩
    clear hh hcs htk hn L
    go_enter Try.func24, Try.ntmps24
    go_wp2_with ((with_reducible show wpList _ _ _ (Oper.mk _ (Op.call { callee := Callee.builtin Builtin.append, args := _, argTypes := _ }) _ _ _ _ :: _) _ _); go_must (refine wpList_more_lst rfl _ _ rfl (base := w.heap.size) (k := 0) (es := []) (ds := ds) (g := g) (off := off) rfl rfl ⟨rfl, .inr ⟨_, _, #[], rfl, Nat.le_refl _, World.alloc_heap_new _ _, Nat.le_refl _, by decide, rfl, rfl⟩⟩ HS.out (HC.out _ b0) (by have := HN.out; omega) b0.size ?_; intro v1 w2 O2 b2))
    all_goals
      go_ret
      rw [Nat.zero_add, List.nil_append] at O2
      obtain ⟨a', c', rfl, L2, hf⟩ := own_lst O2 HS.out
      exact ⟨a', c', rfl, b0.trans b2, hf, L2⟩
end Go.Proofs.Ytoppecppmjpgiaa

namespace Go.Proofs.Ytoppecppmjpgiaa
open Go.ChangeShapes Go.WideShapes Go.ChangeAt Go.RowKit Go.Maps
set_option linter.unusedVariables false
set_option linter.unusedSimpArgs false
theorem Lnk.snoc {D : DataW Unit} {ls : List LK} {i : Nat} {p : LK} (h : Lnk D (ls.take i)) (hD : Tidy D) (hr : Rise (ls.map pr)) (hp : ls[i]? = some p) (h1 : I64 p.fst) (h2 : I64 p.snd) : Lnk (D.put (klOf p.fst p.snd) (.agg [])) (ls.take (i + 1)) := by
  have hr' : Rise ((ls.take (i + 1)).map pr) := hr.sublist ((List.take_sublist _ _).map pr)
  refine ⟨⟨rise_nodup hr', fun x => ?_⟩, hr'⟩
  have hm : x ∈ (ls.take (i + 1)).map pr ↔ x ∈ (ls.take i).map pr ∨ x = pr p := by
    rw [List.take_add_one, hp]
    simp
  rw [hm, h.keys.2 x]
  by_cases e : x = pr p
  · subst e
    exact ⟨fun _ => ⟨⟨wf_of h1, wf_of h2⟩, has_put_same hD.isMap (show WideAt.IsKeyLit (klOf p.fst p.snd) from trivial) _⟩, fun _ => .inr rfl⟩
  · constructor
    · rintro (⟨hw, hh⟩ | h)
      · have hne : klOf x.1 x.2 ≠ klOf p.fst p.snd := fun he => by
          obtain ⟨e1, e2⟩ := kl_inj hw.1 hw.2 (wf_of h1) (wf_of h2) he
          exact e (Prod.ext e1 e2)
        rw [has_put_other hne]
        exact ⟨hw, hh⟩
      · exact absurd h e
    · rintro ⟨hw, hh⟩
      have hne : klOf x.1 x.2 ≠ klOf p.fst p.snd := fun he => by
        obtain ⟨e1, e2⟩ := kl_inj hw.1 hw.2 (wf_of h1) (wf_of h2) he
        exact e (Prod.ext e1 e2)
      rw [has_put_other hne] at hh
      exact .inl ⟨hw, hh⟩
set_option maxRecDepth 100000 in
set_option maxHeartbeats 2000000 in
theorem of_yes (next : Int) (a : Option Addr) (n c : Nat) (ds : List DG) (la : Option Addr) (m lc : Nat) (ls : List LK) (w : World) (L : Lst w a n c ds) (K : Lks w la m lc ls) (G : Good next ds) (hx : next ≤ 4611686018427387904) (hr : Rise (ls.map pr)) (hlt : ∀ d ∈ ls, d.fst < d.snd) (h64 : ∀ d ∈ ls, I64 d.fst ∧ I64 d.snd) (hm : m * 16 ≤ 140737488355328) :
    Calls Try.prog 8 #[mailV next a n c la m lc] w fun e w' => ∃ b, e = .returned (.tuple #[.pointer (some ⟨b, 0, none⟩), .bool true]) ∧ Below w.heap.size w w' ∧ ∃ M a' cap' D, BagAt w' b M a' n cap' m next ds D ∧ (∀ q, bagC b M a' q → w.heap.size ≤ q) ∧ Lnk D ls ∧ Tidy D ∧ Maps.size D ≤ m := by
  have HM : Hid (m * 16 ≤ 140737488355328 ∧ ls.length = m) := ⟨hm, K.size⟩
  have HR : Hid (Rise (ls.map pr) ∧ (∀ d ∈ ls, d.fst < d.snd) ∧ (∀ d ∈ ls, I64 d.fst ∧ I64 d.snd)) := ⟨hr, hlt, h64⟩
  have hn : n ≤ 65536 := by have := G.len; have := L.size; omega
  have K1 := fun W (b : Below w.heap.size w W) => fit_yes next a n c ds la m lc ls W (L.below b) (K.below b) G hx hr hlt hm
  have K3 := fun W (b : Below w.heap.size w W) => clone_any a n c ds W (L.below b) hn
  obtain ⟨w0, hw0⟩ : ∃ w0, w.alloc (.cells #[.int .i64 next, .slice a n c, .slice la m lc] 25) = w0 := ⟨_, rfl⟩
  have b0 : Below w.heap.size w w0 := by rw [← hw0]; exact (Below.refl _ _).alloc (Nat.le_refl _) _
  have X0 : w0.heap[w.heap.size]? = some (.cells #[.int .i64 next, .slice a n c, .slice la m lc] 25 (0, 0)) := by rw [← hw0]; exact World.alloc_heap_new _ _
  have x0 := row_cell X0 0 (.int .i64 next) rfl
  have x1 := row_cell X0 1 (.slice a n c) rfl
  have x2 := row_cell X0 2 (.slice la m lc) rfl
  clear hx hr hlt h64 hm G
  go_enter Try.func8, Try.ntmps8
  go_wp2_with (first
    | (go_at_call 23; go_must (refine (K1 _ b0).mono ?_; clear K1; rintro e w1 ⟨rfl, b1⟩; have X1 := (b1.block _ (row_lt X0)).trans X0; have b01 := b0.trans (b1.mono b0.size); have hs1 := row_lt X1))
    | (go_at_call 15; go_must (refine (new_any _).mono ?_; rintro e w2 ⟨b, rfl, hb2, M, hM2, B2, b2⟩; have X2 := (b2.block _ (row_lt X1)).trans X1; have b02 := b01.trans (b2.mono b01.size); have p0 := row_cell X2 0 (.int .i64 next) rfl; have p1 := row_cell X2 1 (.slice a n c) rfl; have q0 := row_cell B2.obj 0 _ rfl; have q1 := row_cell B2.obj 1 _ rfl; have r0 := row_free B2.obj 0; have r1 := row_free B2.obj 1))
    | (go_at_call 24; go_must (have hb0 : w.heap.size ≤ b := (by have := b01.size; omega); have hM0 : w.heap.size ≤ M := (by have := b01.size; omega); have b03 : Below w.heap.size w (w2.setCell ⟨b, 0, none⟩ (.int .i64 next)) := b02.setCell (p := ⟨b, 0, none⟩) hb0 _; refine (K3 _ b03).mono ?_; clear K3; rintro e w4 ⟨a', c', rfl, b4, hf, L4⟩; have B3 := B2.setNext next; have B4 := B3.below b4; have X4 : w4.heap[w.heap.size]? = _ := (b4.block _ (row_lt (set_far X2 (show w.heap.size ≠ b by omega) 0 (.int .i64 next)))).trans (set_far X2 (show w.heap.size ≠ b by omega) 0 (.int .i64 next)); have hfb : ∀ g off, a' = some ⟨g, off, none⟩ → g ≠ b := (fun g off e => by have := hf g off e; have := row_lt B3.obj; omega); have B5 := B4.setList (Only.refl _ _) L4 hfb; have b04 : Below w.heap.size w w4 := b03.trans (b4.mono b03.size); have b05 : Below w.heap.size w (w4.setCell ⟨b, 1, none⟩ (.slice a' n c')) := b04.setCell (p := ⟨b, 1, none⟩) hb0 _; have X5 := set_far X4 (show w.heap.size ≠ b by omega) 1 (.slice a' n c'); have s0 := row_cell B4.obj 1 _ rfl; have s1 := row_free B4.obj 1; have s2 := row_cell X5 2 (.slice la m lc) rfl)))
  have hC : ∀ q, bagC b M a' q → w.heap.size ≤ q := by
    rintro q (e | e | ⟨off, e⟩)
    · omega
    · omega
    · have := hf q off e; have := b03.size; omega
  have HC : Hid (∀ q, bagC b M a' q → w.heap.size ≤ q) := ⟨hC⟩
  clear hC hf hfb X0 X1 X2 X4 B2 B3 B4 p0 p1 q0 q1 r0 r1 s0 s1 b4 b04 b03 b02 b01 b2 L4
  go_loopg [25] m (fun g v25 wr => ∃ (i : Nat) (D : DataW Unit), v25 = .int .i64 (i : Int) ∧ i + g = m ∧ BagAt wr b M a' n c' i next ds D ∧ Below w.heap.size w wr ∧ Hid (Lnk D (ls.take i) ∧ Tidy D ∧ Maps.size D ≤ i))
  case atStart => exact ⟨0, _, by first | rfl | go_num, by omega, B5, b05, ⟨lnk_nil, tidy_empty, Nat.le_refl _⟩⟩
  case round =>
    obtain ⟨i, D, rfl, hg, B, hb, HL⟩ := hrel
    by_cases hi : i < m
    · have hiI : (i : Int) < (m : Int) := by omega
      have hi0 : (0 : Int) ≤ (i : Int) := by omega
      obtain ⟨g1, off, rfl, hgl, hra⟩ : ∃ g off, la = some ⟨g, off, none⟩ ∧ g < w.heap.size ∧ ∀ i, i < m → w.rangeAt g (off + i * 2) (ls.getD i LK.z).cells := by
        rcases K.mem with ⟨e, h0⟩ | h
        · have := K.le; omega
        · exact h
      obtain ⟨⟨p0, p1⟩, hp⟩ : ∃ d, ls.getD i LK.z = d := ⟨_, rfl⟩
      have hrp := range_later (hra i hi) hgl hb
      rw [hp] at hrp
      have hpi : ls[i]? = some ⟨p0, p1⟩ := by rw [get_z ls i (by have := HM.out; omega), hp]
      have hpl : p0 < p1 := HR.out.2.1 _ (List.mem_of_getElem? hpi)
      have hp64 : I64 p0 ∧ I64 p1 := HR.out.2.2 _ (List.mem_of_getElem? hpi)
      have hmin : min p0 p1 = p0 := by omega
      have hmax : max p0 p1 = p1 := by omega
      have HL2 : Hid (Lnk (D.put (klOf p0 p1) (.agg [])) (ls.take (i + 1)) ∧ Tidy (D.put (klOf p0 p1) (.agg [])) ∧ Maps.size (D.put (klOf p0 p1) (.agg [])) ≤ i + 1) := ⟨Lnk.snoc (p := ⟨p0, p1⟩) HL.out.1 HL.out.2.1 HR.out.1 hpi hp64.1 hp64.2, HL.out.2.1.put (show WideAt.IsKeyLit (klOf p0 p1) from trivial) _, by have := HL.out.2.2; rw [size_put HL.out.2.1]; split <;> omega⟩
      have hin : IntKind.i64.wrap ((i : Int) + 1) = (i : Int) + 1 := by rw [IntKind.wrap_i64]; have := HM.out; omega
      have hMn := HC.out M (.inr (.inl rfl))
      have hwr := hb.size
      clear hpl hra hp hpi
      go_wp2_with ((with_reducible show wpList _ _ _ (Oper.mk _ (Op.load 65 (Operand.tmp 27)) _ _ _ _ :: _) _ _); refine wpList_load65m rfl _ rfl g1 (off + i * 2) p0 p1 rfl hrp ?_)
      refine wp_region_any (by kernel_rfl) ?_
      change wpAny _ _ _ _ _ _ _ (World.drew _)
      obtain ⟨w6, hw6⟩ : ∃ X, World.drew (wr.alloc (.cells #[.int .i64 p0, .int .i64 p1] 65)) = X := ⟨_, rfl⟩
      have b6 : Below wr.heap.size wr w6 := by rw [← hw6]; exact ((Below.refl _ _).alloc (Nat.le_refl _) _).drew
      have H6 : w6.heap[wr.heap.size]? = some (.cells #[.int .i64 p0, .int .i64 p1] 65 (0, 0)) := by rw [← hw6]; exact World.alloc_heap_new _ _
      rw [hw6]
      clear hw6
      have B6 := B.below b6
      have hlM : wr.heap.size ≠ M := by have := B.map.lt; omega
      refine any_take 0 29 (.pointer (some ⟨b, 0, none⟩)) rfl rfl (by kernel_rfl) (by kernel_rfl) (by kernel_rfl) (fun _ _ _ h => h) (Or.inl ⟨by rfl, by intro w; go_simp⟩) ?_
      try simp only [Act.put, List.setIfInBounds_toArray, List.set_cons_zero, List.set_cons_succ]
      refine any_take 1 30 (.pointer (some ⟨b, 0, none⟩)) rfl rfl (by kernel_rfl) (by kernel_rfl) (by kernel_rfl) (fun _ _ _ h => h) (Or.inl ⟨by rfl, by intro w; go_simp⟩) ?_
      try simp only [Act.put, List.setIfInBounds_toArray, List.set_cons_zero, List.set_cons_succ]
      refine any_take 2 31 (.pointer (some ⟨b, 2, none⟩)) rfl rfl (by kernel_rfl) (by kernel_rfl) (by kernel_rfl) (fun _ _ _ h => h) (Or.inl ⟨by rfl, by intro w; go_simp⟩) ?_
      try simp only [Act.put, List.setIfInBounds_toArray, List.set_cons_zero, List.set_cons_succ]
      refine any_take 5 34 (.agg #[]) rfl rfl (by kernel_rfl) (by kernel_rfl) (by kernel_rfl) (fun _ _ _ h => h) (Or.inl ⟨by rfl, by intro w; go_simp⟩) ?_
      try simp only [Act.put, List.setIfInBounds_toArray, List.set_cons_zero, List.set_cons_succ]
      refine wpAny_narrow (fun W => Only (at1 M) w6 W) _ _ _ _ ?_
      refine anyH_take 3 32 (.map (some M)) rfl rfl (by kernel_rfl) (by kernel_rfl) (by kernel_rfl) (fun _ _ _ h => h) (Or.inl ⟨by rfl, by intro w hSw; have c2 := row_cell ((hSw.block b (row_lt B6.obj) B6.bM).trans B6.obj) 2 (.map (some M)) rfl; go_simp⟩) ((Only.refl _ _)) ?_
      try simp only [Act.put, List.setIfInBounds_toArray, List.set_cons_zero, List.set_cons_succ]
      refine anyH_take 4 33 (lnk p0 p1) rfl rfl (by kernel_rfl) (by kernel_rfl) (by kernel_rfl) (fun _ _ _ h => h) (Or.inl ⟨by rfl, by intro X hSw; exact exec_load65 rfl rfl ((hSw.block _ (row_lt H6) hlM).trans H6)⟩) (Only.refl _ _) ?_
      try simp only [Act.put, List.setIfInBounds_toArray, List.set_cons_zero, List.set_cons_succ]
      refine wpAnyH_ready (rs := [6]) (by kernel_rfl) (by simp) ?_
      refine AllReadyH.cons rfl (fun K hK => ?_) AllReadyH.nil
      rw [if_pos (by rfl)]
      refine wp_update65 (D := D) (k := i) (M := M) (x := p0) (y := p1) (Operand.tmp 32) (Operand.tmp 33) (Operand.tmp 34) (by rfl) (by rfl) (by show lnk p0 p1 = _; rw [hmin, hmax]) (by rfl) B6.map (by have := HM.out; unfold maxLen; omega) hp64.1 hp64.2 ?_
      intro w7 m7 o7
      refine hK.out _ _ o7 (fun hS => ?_)
      clear hK
      refine wpAnyH_done (by kernel_rfl) ?_ _
      have B7 := B6.turned o7 m7
      rw [hmin, hmax] at B7
      have b7 : Below w.heap.size w w7 := (hb.trans (b6.mono hb.size)).trans (o7.below (hb.trans (b6.mono hb.size)).size (fun q hq => by have e : q = M := hq; rw [e]; exact hMn))
      clear hS H6 B6 m7 o7 b6 hlM
      go_wp2
      go_roundg (gk - 1)
      case measure => omega
      case rel => exact ⟨i + 1, _, by first | rfl | go_num, by omega, B7, b7, HL2⟩
    · have hiI : ¬ (i : Int) < (m : Int) := by omega
      have e : i = m := by omega
      subst e
      have HE : Hid (ls.take i = ls) := ⟨by rw [← K.size]; exact List.take_length⟩
      go_wp2
      refine bodyPost_ret (results_tmp2 rfl _ _ _) rfl ?_
      refine ⟨b, rfl, hb, M, a', c', D, B, HC.out, ?_, HL.out.2.1, HL.out.2.2⟩
      have := HL.out.1
      rwa [HE.out] at this
end Go.Proofs.Ytoppecppmjpgiaa

namespace Go.Proofs.Ytoppecppmjpgiaa
open Go.ChangeShapes Go.WideShapes Go.ChangeAt Go.RowKit Go.Maps
set_option linter.unusedVariables false
set_option linter.unusedSimpArgs false
theorem of_wf {x : Int} (h : Wf x) : I64 x := by
  unfold Wf at h
  simp [Lit.wf, IntKind.min, IntKind.max, IntKind.signed, IntKind.bits] at h
  unfold I64
  omega
theorem Lnk.i64 {D : DataW Unit} {ls : List LK} (h : Lnk D ls) : ∀ d ∈ ls, I64 d.fst ∧ I64 d.snd := by
  intro d hd
  have := ((h.keys.2 (pr d)).1 (List.mem_map_of_mem hd)).1
  exact ⟨of_wf this.1, of_wf this.2⟩
theorem map_back (ls : List LK) : (ls.map pr).map toLK = ls := by
  rw [List.map_map]
  exact List.map_id'' (fun _ => rfl) ls
theorem state_ok {b M k L : Nat} {a : Option Addr} {cap : Nat} {s : St} {D : DataW Unit} {W : World} (B : BagAt W b M a s.ds.length cap k s.next s.ds D) (O : Ok L k D s) (hL : L ≤ 8796093022208) :
    Calls Try.prog 12 #[.pointer (some ⟨b, 0, none⟩)] W fun e W' => ∃ a' c' la lc, e = .returned (mailV s.next a' s.ds.length c' la s.ls.length lc) ∧ Below W.heap.size W W' ∧ Lst W' a' s.ds.length c' s.ds ∧ Lks W' la s.ls.length lc s.ls := by
  refine (state_any b M a s.ds.length cap k s.next s.ds D W B (by have := O.good.len; omega) (by have := O.size; omega)).mono ?_
  rintro e W' ⟨a', c', la, m, lc, rfl, bel, _, _, L1, ts, hk, hr, K1⟩
  have e1 : ts = s.ls.map pr := rise_one hr O.lnk.rise (hk.one O.lnk.keys)
  rw [e1, map_back] at K1
  have e2 := K1.size
  subst e2
  exact ⟨a', c', la, lc, rfl, bel, L1, K1⟩
/-- Three bags: b in the state s1; c, and the document's r, in the state s2. -/
structure Tr (w : World) (b M k : Nat) (D : DataW Unit) (s1 : St) (c M2 k2 : Nat) (D2 : DataW Unit) (r : Nat) (s2 : St) (W : World) : Prop where
  out : ∃ a cap a2 cap2 ra rc la lc, BagAt W b M a s1.ds.length cap k s1.next s1.ds D ∧ BagAt W c M2 a2 s2.ds.length cap2 k2 s2.next s2.ds D2 ∧ RAt W r s2.next ra s2.ds.length rc s2.ds la s2.ls.length lc s2.ls ∧ (∀ q, bagC b M a q → ¬ bagC c M2 a2 q) ∧ (∀ q, bagC b M a q → ¬ ragC r ra la q) ∧ (∀ q, bagC c M2 a2 q → ¬ ragC r ra la q) ∧ (∀ q, bagC b M a q ∨ bagC c M2 a2 q ∨ ragC r ra la q → w.heap.size ≤ q)
  below : Below w.heap.size w W
section
variable {w W W' : World} {b M k : Nat} {D : DataW Unit} {s1 s2 : St} {c M2 k2 r L : Nat} {D2 : DataW Unit}
theorem Tr.later (h : Tr w b M k D s1 c M2 k2 D2 r s2 W) (hb : Below W.heap.size W W') : Tr w b M k D s1 c M2 k2 D2 r s2 W' := by
  obtain ⟨a, cap, a2, cap2, ra, rc, la, lc, B, B2, R, g1, g2, g3, g4⟩ := h.out
  exact ⟨⟨a, cap, a2, cap2, ra, rc, la, lc, B.below hb, B2.below hb, R.below hb, g1, g2, g3, g4⟩, h.below.trans (hb.mono h.below.size)⟩
theorem Tr.second (h : Tr w b M k D s1 c M2 k2 D2 r s2 W) (O : Ok L k2 D2 s2) (hL : L < 8796093022206) (q : ActS) (hq : ActOk q) :
    Calls Try.prog 11 #[.pointer (some ⟨c, 0, none⟩), .pointer (some ⟨r, 0, none⟩), act5 q.kd q.nn q.x q.y q.s] W fun e W' => e = .returned (.bool true) ∧ ∃ k2' D2', Tr w b M k D s1 c M2 k2' D2' r (stp q s2) W' ∧ Ok (L + 1) k2' D2' (stp q s2) := by
  obtain ⟨a, cap, a2, cap2, ra, rc, la, lc, B, B2, R, g1, g2, g3, g4⟩ := h.out
  have T : Bt W (fun q => bagC c M2 a2 q ∨ ragC r ra la q) c M2 r k2 s2.next s2.ds D2 s2.next s2.ds s2.ls W := ⟨⟨a2, cap2, ra, rc, la, lc, B2, R, g3, fun q hq => .inl hq⟩, Only.refl _ _⟩
  refine (act_any s2 T O hL q hq).mono ?_
  rintro e W' ⟨he, k', D', T', O'⟩
  obtain ⟨a2', cap2', ra', rc', la', lc', B2', R', h1, h2⟩ := T'.out
  have no : ∀ q, bagC b M a q → bagC c M2 a2' q ∨ ragC r ra' la' q → False := by
    intro q hq hc
    rcases h2 q hc with (h | h) | h
    · exact g1 q hq h
    · exact g2 q hq h
    · have := B.ltC q hq; omega
  refine ⟨he, k', D', ⟨⟨a, cap, a2', cap2', ra', rc', la', lc', B.of_blocks fun q hq => T'.only.block q (B.ltC q hq) (fun hc => hc.elim (g1 q hq) (g2 q hq)), B2', R', fun q hq hc => no q hq (.inl hc), fun q hq hc => no q hq (.inr hc), h1, ?_⟩, ?_⟩, O'⟩
  · rintro q (hq | hq)
    · exact g4 q (.inl hq)
    · rcases h2 q hq with h' | h'
      · exact g4 q (.inr h')
      · exact Nat.le_trans h.below.size h'
  · exact h.below.trans (T'.only.below h.below.size fun q hq => g4 q (.inr hq))
theorem Tr.first {V : World} (h : Tr w b M k D s1 c M2 k2 D2 r s2 V) (hb : Below V.heap.size V W) (O : Ok L k D s1) (hL : L < 8796093022206) (q : ActS) (hq : ActOk q) {r' : Nat} {ra' : Option Addr} {rc' : Nat} {la' : Option Addr} {lc' : Nat} (R' : RAt W r' s1.next ra' s1.ds.length rc' s1.ds la' s1.ls.length lc' s1.ls) (hn : ∀ q, ragC r' ra' la' q → V.heap.size ≤ q) :
    Calls Try.prog 11 #[.pointer (some ⟨b, 0, none⟩), .pointer (some ⟨r', 0, none⟩), act5 q.kd q.nn q.x q.y q.s] W fun e W' => e = .returned (.bool true) ∧ ∃ k' D', Tr w b M k' D' (stp q s1) c M2 k2 D2 r s2 W' ∧ Ok (L + 1) k' D' (stp q s1) := by
  obtain ⟨a, cap, a2, cap2, ra, rc, la, lc, B0, B20, R0, g1, g2, g3, g4⟩ := h.out
  have B := B0.below hb
  have B2 := B20.below hb
  have R := R0.below hb
  have T : Bt W (fun q => bagC b M a q ∨ ragC r' ra' la' q) b M r' k s1.next s1.ds D s1.next s1.ds s1.ls W := ⟨⟨a, cap, ra', rc', la', lc', B, R', fun q hq hc => (by have := B0.ltC q hq; have := hn q hc; omega), fun q hq => .inl hq⟩, Only.refl _ _⟩
  refine (act_any s1 T O hL q hq).mono ?_
  rintro e W' ⟨he, k', D', T', O'⟩
  obtain ⟨a', cap', ra1, rc1, la1, lc1, B', R1, h1, h2⟩ := T'.out
  have hs := hb.size
  have noc : ∀ q, bagC c M2 a2 q → ¬ (bagC b M a q ∨ ragC r' ra' la' q) := fun q hq hc => hc.elim (fun h => g1 q h hq) (fun h => by have := B20.ltC q hq; have := hn q h; omega)
  have nor : ∀ q, ragC r ra la q → ¬ (bagC b M a q ∨ ragC r' ra' la' q) := fun q hq hc => hc.elim (fun h => g2 q h hq) (fun h => by have := R0.ltC q hq; have := hn q h; omega)
  have keepR : ∀ q, ragC r ra la q → W'.heap[q]? = W.heap[q]? := fun q hq => T'.only.block q (R.ltC q hq) (nor q hq)
  refine ⟨he, k', D', ⟨⟨a', cap', a2, cap2, ra, rc, la, lc, B', B2.of_blocks fun q hq => T'.only.block q (B2.ltC q hq) (noc q hq), R.of_blocks T'.only.size (keepR _ (.inl rfl)) (fun q ⟨o, e⟩ => keepR q (.inr (.inl ⟨o, e⟩))) (fun g o e => keepR g (.inr (.inr ⟨o, e⟩))), ?_, ?_, g3, ?_⟩, ?_⟩, O'⟩
  · intro q hq hc
    rcases h2 q (.inl hq) with h' | h'
    · exact noc q hc h'
    · have := B20.ltC q hc; omega
  · intro q hq hc
    rcases h2 q (.inl hq) with h' | h'
    · exact nor q hc h'
    · have := R0.ltC q hc; omega
  · rintro q (hq | hq)
    · rcases h2 q (.inl hq) with (h' | h') | h'
      · exact g4 q (.inl h')
      · exact Nat.le_trans h.below.size (hn q h')
      · have := h.below.size; omega
    · exact g4 q (.inr hq)
  · refine (h.below.trans (hb.mono h.below.size)).trans (T'.only.below (Nat.le_trans h.below.size hs) fun q hq => hq.elim (fun h' => g4 q (.inl h')) fun h' => Nat.le_trans h.below.size (hn q h'))
end
end Go.Proofs.Ytoppecppmjpgiaa

namespace Go.Proofs.Ytoppecppmjpgiaa
open Go.ChangeShapes Go.WideShapes Go.ChangeAt Go.RowKit Go.Maps
set_option linter.unusedVariables false
set_option linter.unusedSimpArgs false
theorem own_typ {W : World} {base : Nat} {a : Option Addr} {n c m : Nat} {cs : List Value} (h : W.ownsRow base 65 2 (.slice a n c) m cs) {g off : Nat} (e : a = some ⟨g, off, none⟩) : ∃ cur, W.heap[g]? = some (.cells cur 65 (0, 0)) := by
  rcases h.2 with ⟨h1, h0⟩ | ⟨g', cap, cur, h1, hg, hh, _⟩
  · subst e; cases h1
  · subst e; cases h1; exact ⟨cur, hh⟩
theorem run_copy_lksT {W : World} {a : Option Addr} {m cap : Nat} {ls : List LK} (ty : TypeId) (L : Lks W a m cap ls) (hm : m * 16 ≤ 140737488355328) :
    ∃ a' cap' w', (Builtin.append_ #[23, 23] ty #[.slice none 0 0, .slice a m cap]).run Try.prog W = .ok (.slice a' m cap') w' ∧ Lks w' a' m cap' ls ∧ (∀ g off, a' = some ⟨g, off, none⟩ → W.heap.size ≤ g) ∧ Below W.heap.size W w' ∧ (∀ g off, a' = some ⟨g, off, none⟩ → ∃ cur, w'.heap[g]? = some (.cells cur 65 (0, 0))) := by
  obtain ⟨i0, hi, hz0, hz1, hz2⟩ := info_parts info65
  rcases L.mem with ⟨rfl, rfl⟩ | ⟨g, off, rfl, hlt, hr⟩
  · have h0 : m = 0 := by have := L.le; omega
    subst h0
    have e := List.eq_nil_of_length_eq_zero L.size
    subst e
    exact ⟨none, 0, W, run_append_owned_none (P := Try.prog) (w := W) W.heap.size 23 ty 65 i0 2 Try.underlying23 hi _ 0 [] (World.ownsRow_nil W _ 65 2), ⟨rfl, Nat.le_refl _, by omega, .inl ⟨rfl, rfl⟩⟩, fun g off e => (by cases e), Below.refl _ _, fun g off e => (by cases e)⟩
  · have hl : (lcs ls).length = m * 2 := by rw [lcs_len, L.size]
    obtain ⟨v', w', hrun, r1, r2, _⟩ := run_append_own (P := Try.prog) W W.heap.size 23 ty 65 i0 _ 2 16 Try.underlying23 hi hz0 hz1 hz2 rfl (by decide) (.slice none 0 0) 0 [] (World.ownsRow_nil W _ 65 2) ⟨g, off, none⟩ m cap (lcs ls) hl (fun j u hj => by
      rw [add_plain]
      exact Lks.cells_at (cap := cap) L.size hr j u hj) (lcs_one ls) (by unfold maxLen; omega) (by omega) (Nat.le_refl _)
    rw [Nat.zero_add, List.nil_append] at r1
    have r1' := r1
    obtain ⟨a', cap', rfl, L', hb⟩ := own_lks r1 L.size
    exact ⟨a', cap', w', hrun, L', hb, ⟨r2.os, r2.tape, r2.output, r2.size, fun q hq => r2.block q hq (by simp [Value.ownBlock])⟩, fun g off e => own_typ r1' e⟩
theorem wpList_copy_lksT {ops : Array Oper} {rest : List Oper} {o : Oper} {A : Act} {W : World} {Q : Exit → Act → World → Prop} (hgd : o.guard = none) (s x : Operand) (ho : o.op = .call { callee := .builtin .append, args := #[s, x], argTypes := #[23, 23] }) {a : Option Addr} {m cap : Nat} {ls : List LK}
    (hs : A.eval s = .slice none 0 0) (hx : A.eval x = .slice a m cap) (L : Lks W a m cap ls) (hm : m * 16 ≤ 140737488355328)
    (h : ∀ a' cap' w', Lks w' a' m cap' ls → (∀ g off, a' = some ⟨g, off, none⟩ → W.heap.size ≤ g) → Below W.heap.size W w' → (∀ g off, a' = some ⟨g, off, none⟩ → ∃ cur, w'.heap[g]? = some (.cells cur 65 (0, 0))) → wpList Try.prog ops Q rest (A.put o.dst (.slice a' m cap')) w') : wpList Try.prog ops Q (o :: rest) A W := by
  obtain ⟨a', cap', w', hrun, L', hb, hB, hT⟩ := run_copy_lksT o.type L hm
  refine wpList_plain hgd fun K hK => ?_
  unfold Oper.wp
  simp [execOp, ho, resolve, invoke, builtin, hs, hx, hrun, Result.andThen]
  exact hK _ _ (h a' cap' w' L' hb hB hT)
set_option maxHeartbeats 4000000 in
theorem copy_anyT (next : Int) (a : Option Addr) (n c : Nat) (ds : List DG) (la : Option Addr) (m lc : Nat) (ls : List LK) (w : World) (L : Lst w a n c ds) (K : Lks w la m lc ls) (hn : n * 40 ≤ 140737488355328) (hm : m * 16 ≤ 140737488355328) :
    Calls Try.prog 7 #[mailV next a n c la m lc] w fun e w' => ∃ a' c' la' lc', e = .returned (mailV next a' n c' la' m lc') ∧ Lst w' a' n c' ds ∧ Lks w' la' m lc' ls ∧ (∀ g off, a' = some ⟨g, off, none⟩ → w.heap.size ≤ g) ∧ (∀ g off, la' = some ⟨g, off, none⟩ → w.heap.size ≤ g) ∧ Below w.heap.size w w' ∧ (∀ g off, la' = some ⟨g, off, none⟩ → ∃ cur, w'.heap[g]? = some (.cells cur 65 (0, 0))) := by
  have C0 := Cp.start w #[.int .i64 next, .slice a n c, .slice la m lc] #[.int .i64 0, .slice none 0 0, .slice none 0 0] #[.int .i64 next, .slice none 0 0, .slice none 0 0]
  have HN : Hid (n * 40 ≤ 140737488355328) := ⟨hn⟩
  have HM : Hid (m * 16 ≤ 140737488355328) := ⟨hm⟩
  have LL := L.below C0.below
  clear hn hm
  go_enter Try.func7, Try.ntmps7
  go_wp2_with (first
    | ((with_reducible show wpList _ _ _ (Oper.mk _ (Op.call { callee := Callee.builtin Builtin.append, args := _, argTypes := #[22, 22] }) _ _ _ _ :: _) _ _); go_must (refine wpList_copy_lst rfl _ _ rfl rfl rfl LL HN.out ?_; intro a1 c1 w1 L1 o1 b1; have C1 := C0.later b1; have ⟨p0, p1, p2⟩ := cel3 C1.one; have ⟨z0, z1, z2⟩ := cel3 C1.two; have ⟨q0, q1, q2⟩ := cel3 C1.three; have f1 := row_free C1.three 1))
    | ((with_reducible show wpList _ _ _ (Oper.mk _ (Op.call { callee := Callee.builtin Builtin.append, args := _, argTypes := #[23, 23] }) _ _ _ _ :: _) _ _); go_must (have C2 := C1.set 1 (.slice a1 n c1); have KK := K.below C2.below; refine wpList_copy_lksT rfl _ _ rfl rfl rfl KK HM.out ?_; intro a2 c2 w2 K2 o2 b2 hty2; have C3 := C2.later b2; have ⟨r0, r1, r2⟩ := cel3 C3.one; have ⟨s0, s1, s2⟩ := cel3 C3.two; have ⟨t0, t1, t2⟩ := cel3 C3.three; have f2 := row_free C3.three 2; have f3 := row_free C3.two 0; have f4 := row_free C3.two 1; have f5 := row_free C3.two 2)))
  have C4 := (((C3.set 2 (.slice a2 m c2)).out 0 (.int .i64 next)).out 1 (.slice a1 n c1)).out 2 (.slice a2 m c2)
  have far : ∀ g, w.heap.size + 3 ≤ g → g < w2.heap.size → ((((w2.setCell ⟨w.heap.size + 1 + 1, 2, none⟩ (.slice a2 m c2)).setCell ⟨w.heap.size + 1, 0, none⟩ (.int .i64 next)).setCell ⟨w.heap.size + 1, 1, none⟩ (.slice a1 n c1)).setCell ⟨w.heap.size + 1, 2, none⟩ (.slice a2 m c2)).heap[g]? = w2.heap[g]? := fun g h1 h2 =>
    set_far (set_far (set_far (set_far rfl (by omega) _ _) (by omega) _ _) (by omega) _ _) (by omega) _ _
  have hs1 : w1.heap.size ≤ w2.heap.size := by have := b2.size; simpa [World.setCell] using this
  have e1 : ∀ g off, a1 = some ⟨g, off, none⟩ → w.heap.size + 3 ≤ g := fun g off e => by have := o1 g off e; simp at this; omega
  have hsz2 := C2.size
  have e2 : ∀ g off, a2 = some ⟨g, off, none⟩ → w.heap.size + 3 ≤ g := fun g off e => by have := o2 g off e; omega
  refine bodyPost_ret (results_row1 rfl _ _ (w.heap.size + 1) _ rfl (load_25m C4.two)) rfl ⟨a1, c1, a2, c2, rfl, L1.of_block fun g off e => ?_, K2.of_block (by simp [World.setCell]) fun g off e => ?_, fun g off e => by have := e1 g off e; omega, fun g off e => by have := e2 g off e; omega, C4.below, fun g off e => ?_⟩
  · have hlt : g < w1.heap.size := by subst e; exact L1.lt
    refine (far g (e1 g off e) (by omega)).trans ((b2.block g (by simpa [World.setCell] using hlt)).trans ?_)
    exact set_far rfl (by have := e1 g off e; omega) _ _
  · refine far g (e2 g off e) ?_
    rcases K2.mem with ⟨e', _⟩ | ⟨g', off', e', hl, _⟩
    · rw [e'] at e; cases e
    · rw [e'] at e; cases e; exact hl
  · obtain ⟨cur, ht⟩ := hty2 g off e
    exact ⟨cur, (far g (e2 g off e) (row_lt ht)).trans ht⟩
end Go.Proofs.Ytoppecppmjpgiaa

namespace Go.Proofs.Ytoppecppmjpgiaa
open Go.ChangeShapes Go.WideShapes Go.ChangeAt Go.RowKit Go.Maps
set_option linter.unusedVariables false
set_option linter.unusedSimpArgs false
theorem exec_load40 {o : Oper} {ρ : Operand → Value} {X : World} {p : Operand} {g off : Nat} {kd nn x y : Int} {s : ByteArray} (ho : o.op = .load 40 p) (hp : ρ p = .pointer (some ⟨g, off, none⟩)) (hc : X.rangeAt g off (act5c kd nn x y s)) : (execOp ρ o).run Try.prog X = .ok (.value (act5 kd nn x y s)) X := by
  have h0 : X.cell? ⟨g, off, none⟩ = _ := hc 0 _ rfl
  have h1 := hc 1 _ rfl
  have h2 := hc 2 _ rfl
  have h3 := hc 3 _ rfl
  have h4 := hc 4 _ rfl
  unfold execOp
  simp only [ho, hp]
  go_simp
/-- Ahead of each call of the first list. -/
structure G1 (w : World) (b M r : Nat) (L : Nat) (W : World) : Prop where
  out : ∃ (k : Nat) (D : DataW Unit) (s : St), Bt w none_ b M r k s.next s.ds D s.next s.ds s.ls W ∧ Ok L k D s
/-- Ahead of each call of the second list. -/
structure G2 (w : World) (b M c M2 r : Nat) (L : Nat) (W : World) : Prop where
  out : ∃ (k : Nat) (D : DataW Unit) (k2 : Nat) (D2 : DataW Unit) (s : St), Tr w b M k D s c M2 k2 D2 r s W ∧ Ok L k D s ∧ Ok L k2 D2 s
theorem ok_mono {L L' k : Nat} {D : DataW Unit} {s : St} (O : Ok L k D s) (h : L ≤ L') : Ok L' k D s := ⟨O.good, O.top, O.lnk, O.lt, O.tidy, Nat.le_trans O.size h, Nat.le_trans O.len h, Nat.le_trans O.kk h⟩
set_option maxRecDepth 100000 in
set_option maxHeartbeats 4000000 in
theorem goes_walk (a0 : Option Addr) (len0 cap0 : Nat) (q0 : List ActS) (a1 : Option Addr) (len1 cap1 : Nat) (q1 : List ActS) (w : World) (R0 : RowC w a0 len0 cap0 q0) (R1 : RowC w a1 len1 cap1 q1) (hl0 : len0 ≤ 2932031007402) (hl1 : len1 ≤ 2932031007402) :
    Calls Try.prog 5 #[.slice a0 len0 cap0, .slice a1 len1 cap1] w fun e w' => e = .returned (.bool true) ∧ Below w.heap.size w w' := by
  have HB : Hid (len0 ≤ 2932031007402 ∧ len1 ≤ 2932031007402) := ⟨hl0, hl1⟩
  clear hl0 hl1
  go_enter Try.func5, Try.ntmps5
  go_wp2_with (go_at_call 15; go_must (refine (new_any w).mono ?_; rintro e w0 ⟨b, rfl, hb, M, hM, B0, b0⟩))
  have b1 : Below w0.heap.size w0 (w0.alloc (.cells #[.int .i64 0, .slice none 0 0, .slice none 0 0] 37)) := (Below.refl _ _).alloc (Nat.le_refl _) _
  have X1 := World.alloc_heap_new w0 (.cells #[.int .i64 0, .slice none 0 0, .slice none 0 0] 37)
  have G0 : G1 w b M w0.heap.size 0 (w0.alloc (.cells #[.int .i64 0, .slice none 0 0, .slice none 0 0] 37)) := by
    have bs := b0.size
    refine ⟨0, .map [], ⟨0, [], []⟩, ⟨⟨none, 0, none, 0, none, 0, B0.below b1, ⟨X1, lst_nil _, ⟨rfl, Nat.le_refl _, by omega, .inl ⟨rfl, rfl⟩⟩, fun g off e => by cases e⟩, fun q hq hc => ?_, fun q hq => .inr ?_⟩, Only.of_below (b0.trans (b1.mono bs))⟩, ⟨good_nil, by decide, lnk_nil, fun d hd => (by cases hd), tidy_empty, Nat.le_refl _, Nat.le_refl _, Nat.le_refl _⟩⟩
    · have := B0.ltC q hq
      rcases hc with e | ⟨off, e⟩ | ⟨off, e⟩
      · omega
      · cases e
      · cases e
    · rcases hq with (e | e | ⟨off, e⟩) | e | ⟨off, e⟩ | ⟨off, e⟩
      · omega
      · omega
      · cases e
      · omega
      · cases e
      · cases e
  obtain ⟨r, hr⟩ : ∃ r, w0.heap.size = r := ⟨_, rfl⟩
  rw [hr] at G0
  simp only [hr]
  clear hb hM B0 b0 b1 X1 hr
  go_loopg [7] len0 (fun g v7 wr => ∃ i : Nat, v7 = .int .i64 (i : Int) ∧ i + g = len0 ∧ G1 w b M r i wr)
  case atStart => exact ⟨0, by first | rfl | go_num, by omega, G0⟩
  case round =>
    obtain ⟨i, rfl, hg, C⟩ := hrel
    clear G0
    obtain ⟨k, D, s0, T, O⟩ := C.out
    have bw : Below w.heap.size w wr := T.only.calm
    clear C
    by_cases hi : i < len0
    · have hiI : (i : Int) < (len0 : Int) := by omega
      have hi0 : (0 : Int) ≤ (i : Int) := by omega
      obtain ⟨ab, aoff, rfl, hab, hq⟩ := R0.mem.resolve_left (by omega)
      obtain ⟨⟨kd, nn, x, y, s⟩, hql, hra⟩ := hq i hi
      have hrw := range_belowC hra hab bw
      have hok := R0.ok _ (List.mem_of_getElem? hql)
      have K1 := act_any s0 T O (by have := HB.out; omega) ⟨kd, nn, x, y, s⟩ hok
      have hin : IntKind.i64.wrap ((i : Int) + 1) = (i : Int) + 1 := by rw [IntKind.wrap_i64]; have := HB.out; omega
      clear hq hql hra hok
      go_wp2_with (first
        | ((with_reducible show wpList _ _ _ (Oper.mk _ (Op.load 40 _) _ _ _ _ :: _) _ _); refine load_act5 rfl _ rfl ab (aoff + i * 5) kd nn x y s rfl hrw ?_)
        | (go_at_call 11; go_must (refine K1.mono ?_; clear K1; rintro e W2 ⟨rfl, k', D', T2, O2⟩)))
      go_roundg (gk - 1)
      case measure => omega
      case rel => exact ⟨i + 1, by first | rfl | go_num, by omega, ⟨k', D', _, T2, O2⟩⟩
    · have hiI : ¬ (i : Int) < (len0 : Int) := by omega
      have hiE : i = len0 := by omega
      obtain ⟨a, cap, ra, rc, la, lc, B, R, h1, h2⟩ := T.out
      have h2' : ∀ q, bagC b M a q ∨ ragC r ra la q → w.heap.size ≤ q := fun q hq => (h2 q hq).elim (fun h => h.elim) id
      have K1 := state_ok B O (by have := HB.out; omega)
      clear h2 T
      go_wp2_with (first
        | (go_at_call 12; go_must (refine K1.mono ?_; clear K1; rintro e w2 ⟨a2, c2, la2, lc2, rfl, b2, L2, K2⟩; have K3 := of_yes s0.next a2 s0.ds.length c2 s0.ds la2 s0.ls.length lc2 s0.ls w2 L2 K2 O.good O.top O.lnk.rise O.lt O.lnk.i64 (by have := O.len; have := HB.out; omega)))
        | (go_at_call 8; go_must (refine K3.mono ?_; clear K3; rintro e w3 ⟨c, rfl, b3, M2, a3, cap3, D3, B3, hC3, Ln3, Ti3, Si3⟩)))
      have G0 : G2 w b M c M2 r len0 w3 := by
        have b23 : Below wr.heap.size wr w3 := b2.trans (b3.mono b2.size)
        have s2 := b2.size
        refine ⟨k, D, s0.ls.length, D3, s0, ⟨⟨a, cap, a3, cap3, ra, rc, la, lc, B.below b23, B3, R.below b23, fun q hq hc => ?_, h1, fun q hc hq => ?_, fun q hq => ?_⟩, bw.trans (b23.mono bw.size)⟩, ok_mono O (by omega), ok_mono (L := i) ⟨O.good, O.top, Ln3, O.lt, Ti3, Nat.le_trans Si3 O.len, O.len, O.len⟩ (by omega)⟩
        · have := B.ltC q hq; have := hC3 q hc; omega
        · have := R.ltC q hq; have := hC3 q hc; omega
        · rcases hq with hq | hq | hq
          · exact h2' q (.inl hq)
          · have := hC3 q hq; have := bw.size; omega
          · exact h2' q (.inr hq)
      clear b2 L2 K2 b3 B3 hC3 Ln3 Ti3 Si3 B R h1 h2' O bw
      go_loopg [10] len1 (fun g v10 wr => ∃ j : Nat, v10 = .int .i64 (j : Int) ∧ j + g = len1 ∧ G2 w b M c M2 r (len0 + j) wr)
      case atStart => exact ⟨0, by first | rfl | go_num, by omega, G0⟩
      case round =>
        obtain ⟨j, rfl, hg1, C⟩ := hrel
        clear G0
        obtain ⟨k, D, k2, D2, s0, T, O, O2⟩ := C.out
        clear C
        by_cases hj : j < len1
        · have hjI : (j : Int) < (len1 : Int) := by omega
          have hj0 : (0 : Int) ≤ (j : Int) := by omega
          obtain ⟨ab, aoff, rfl, hab, hq⟩ := R1.mem.resolve_left (by omega)
          obtain ⟨⟨kd, nn, x, y, s⟩, hql, hra⟩ := hq j hj
          have hok := R1.ok _ (List.mem_of_getElem? hql)
          have hin : IntKind.i64.wrap ((j : Int) + 1) = (j : Int) + 1 := by rw [IntKind.wrap_i64]; have := HB.out; omega
          have HL : Hid (len0 + j < 8796093022206) := ⟨by have := HB.out; omega⟩
          have HL1 : Hid (len0 + j + 1 ≤ 8796093022208) := ⟨by have := HB.out; omega⟩
          have HO : Hid (Ok (len0 + j) k D s0) := ⟨O⟩
          have HO2 : Hid (Ok (len0 + j) k2 D2 s0) := ⟨O2⟩
          obtain ⟨a, cap, a2, cap2, ra, rc, la, lc, B, B2, R, g⟩ := T.out
          have K0 := copy_anyT s0.next ra s0.ds.length rc s0.ds la s0.ls.length lc s0.ls wr R.lst R.lks (by have := O.good.len; omega) (by have := O.len; have := HB.out; omega)
          have c0 := row_cell R.obj 0 _ rfl
          have c1 := row_cell R.obj 1 _ rfl
          have c2 := row_cell R.obj 2 _ rfl
          clear hq hql g B B2 O O2
          go_wp2_with (go_at_call 7; go_must (refine K0.mono ?_; clear K0; rintro e w4 ⟨a4, c4, la4, lc4, rfl, L4, K4, f4, f4', b4, t4⟩))
          have b5 : Below w4.heap.size w4 (World.drew (w4.alloc (.cells #[.int .i64 s0.next, .slice a4 s0.ds.length c4, .slice la4 s0.ls.length lc4] 37))) := ((Below.refl _ _).alloc (Nat.le_refl _) _).drew
          have X5 : (World.drew (w4.alloc (.cells #[.int .i64 s0.next, .slice a4 s0.ds.length c4, .slice la4 s0.ls.length lc4] 37))).heap[w4.heap.size]? = some (.cells #[.int .i64 s0.next, .slice a4 s0.ds.length c4, .slice la4 s0.ls.length lc4] 37 (0, 0)) := World.alloc_heap_new w4 _
          obtain ⟨W1, hW1⟩ : ∃ X, World.drew (w4.alloc (.cells #[.int .i64 s0.next, .slice a4 s0.ds.length c4, .slice la4 s0.ls.length lc4] 37)) = X := ⟨_, rfl⟩
          rw [hW1] at b5 X5
          have R5 : RAt W1 w4.heap.size s0.next a4 s0.ds.length c4 s0.ds la4 s0.ls.length lc4 s0.ls := ⟨X5, L4.below b5, K4.below b5, fun g off e => (by obtain ⟨cur, h⟩ := t4 g off e; exact ⟨cur, (b5.block g (row_lt h)).trans h⟩)⟩
          have b45 : Below wr.heap.size wr W1 := b4.trans (b5.mono b4.size)
          have bw : Below w.heap.size w W1 := T.below.trans (b45.mono T.below.size)
          have K1 := T.first b45 HO.out HL.out ⟨kd, nn, x, y, s⟩ hok R5 (by
            rintro q (e | ⟨off, e⟩ | ⟨off, e⟩)
            · have := b4.size; omega
            · exact f4 q off e
            · exact f4' q off e)
          obtain ⟨r2, hr2⟩ : ∃ r2, w4.heap.size = r2 := ⟨_, rfl⟩
          rw [hr2] at K1
          simp only [hr2]
          clear c0 c1 c2 R b4 b5 b45 R5 X5 f4 f4' t4 L4 K4 hr2
          refine wp_region_any (by kernel_rfl) ?_
          change wpAny _ _ _ _ _ _ _ (World.drew _)
          rw [hW1]
          clear hW1
          refine wpAny_narrow (fun X => Below w.heap.size w X) _ _ _ _ ?_
          refine anyH_take 0 53 (.pointer (some ⟨b, 0, none⟩)) rfl rfl (by kernel_rfl) (by kernel_rfl) (by kernel_rfl) (fun _ _ _ h => h) (Or.inl ⟨by rfl, by intro w hSw; go_simp⟩) (bw) ?_
          try simp only [Act.put, List.setIfInBounds_toArray, List.set_cons_zero, List.set_cons_succ]
          refine anyH_take 1 54 (.pointer (some ⟨r2, 0, none⟩)) rfl rfl (by kernel_rfl) (by kernel_rfl) (by kernel_rfl) (fun _ _ _ h => h) (Or.inl ⟨by rfl, by intro w hSw; go_simp⟩) (bw) ?_
          try simp only [Act.put, List.setIfInBounds_toArray, List.set_cons_zero, List.set_cons_succ]
          refine anyH_take 2 55 (.slice (some ⟨ab, aoff, none⟩) len1 cap1) rfl rfl (by kernel_rfl) (by kernel_rfl) (by kernel_rfl) (fun _ _ _ h => h) (Or.inl ⟨by rfl, by intro w hSw; go_simp⟩) (bw) ?_
          try simp only [Act.put, List.setIfInBounds_toArray, List.set_cons_zero, List.set_cons_succ]
          refine anyH_take 3 56 (.int .i64 (j : Int)) rfl rfl (by kernel_rfl) (by kernel_rfl) (by kernel_rfl) (fun _ _ _ h => h) (Or.inl ⟨by rfl, by intro w hSw; go_simp⟩) (bw) ?_
          try simp only [Act.put, List.setIfInBounds_toArray, List.set_cons_zero, List.set_cons_succ]
          refine anyH_take 4 57 (.pointer (some ⟨ab, aoff + j * 5, none⟩)) rfl rfl (by kernel_rfl) (by kernel_rfl) (by kernel_rfl) (fun _ _ _ h => h) (Or.inl ⟨by rfl, by intro w hSw; go_simp⟩) (bw) ?_
          try simp only [Act.put, List.setIfInBounds_toArray, List.set_cons_zero, List.set_cons_succ]
          refine anyH_take 5 58 (act5 kd nn x y s) rfl rfl (by kernel_rfl) (by kernel_rfl) (by kernel_rfl) (fun _ _ _ h => h) (Or.inl ⟨by rfl, by intro X hSw; exact exec_load40 rfl rfl (range_belowC hra hab hSw)⟩) (bw) ?_
          try simp only [Act.put, List.setIfInBounds_toArray, List.set_cons_zero, List.set_cons_succ]
          refine anyH_take 7 60 (.pointer (some ⟨c, 0, none⟩)) rfl rfl (by kernel_rfl) (by kernel_rfl) (by kernel_rfl) (fun _ _ _ h => h) (Or.inl ⟨by rfl, by intro w hSw; go_simp⟩) (bw) ?_
          try simp only [Act.put, List.setIfInBounds_toArray, List.set_cons_zero, List.set_cons_succ]
          refine anyH_take 8 61 (.pointer (some ⟨r, 0, none⟩)) rfl rfl (by kernel_rfl) (by kernel_rfl) (by kernel_rfl) (fun _ _ _ h => h) (Or.inl ⟨by rfl, by intro w hSw; go_simp⟩) (bw) ?_
          try simp only [Act.put, List.setIfInBounds_toArray, List.set_cons_zero, List.set_cons_succ]
          refine anyH_take 9 62 (.slice (some ⟨ab, aoff, none⟩) len1 cap1) rfl rfl (by kernel_rfl) (by kernel_rfl) (by kernel_rfl) (fun _ _ _ h => h) (Or.inl ⟨by rfl, by intro w hSw; go_simp⟩) (bw) ?_
          try simp only [Act.put, List.setIfInBounds_toArray, List.set_cons_zero, List.set_cons_succ]
          refine anyH_take 10 63 (.int .i64 (j : Int)) rfl rfl (by kernel_rfl) (by kernel_rfl) (by kernel_rfl) (fun _ _ _ h => h) (Or.inl ⟨by rfl, by intro w hSw; go_simp⟩) (bw) ?_
          try simp only [Act.put, List.setIfInBounds_toArray, List.set_cons_zero, List.set_cons_succ]
          refine anyH_take 11 64 (.pointer (some ⟨ab, aoff + j * 5, none⟩)) rfl rfl (by kernel_rfl) (by kernel_rfl) (by kernel_rfl) (fun _ _ _ h => h) (Or.inl ⟨by rfl, by intro w hSw; go_simp⟩) (bw) ?_
          try simp only [Act.put, List.setIfInBounds_toArray, List.set_cons_zero, List.set_cons_succ]
          refine anyH_take 12 65 (act5 kd nn x y s) rfl rfl (by kernel_rfl) (by kernel_rfl) (by kernel_rfl) (fun _ _ _ h => h) (Or.inl ⟨by rfl, by intro X hSw; exact exec_load40 rfl rfl (range_belowC hra hab hSw)⟩) (bw) ?_
          try simp only [Act.put, List.setIfInBounds_toArray, List.set_cons_zero, List.set_cons_succ]
          refine wpAnyH_ready (rs := [6]) (by kernel_rfl) (by simp) ?_
          refine AllReadyH.cons rfl (fun K hK => ?_) AllReadyH.nil
          go_simp
          go_wp2_with (go_at_call 11; go_must (refine K1.mono ?_; clear K1; rintro e W2 ⟨rfl, k', D', T2, O2⟩; have K2 := T2.second HO2.out HL.out ⟨kd, nn, x, y, s⟩ hok))
          refine hK.out _ _ (T2.below) (fun hS => ?_)
          clear hK
          refine wpAnyH_ready (rs := [13]) (by kernel_rfl) (by simp) ?_
          refine AllReadyH.cons rfl (fun K hK => ?_) AllReadyH.nil
          go_simp
          go_wp2_with (go_at_call 11; go_must (refine K2.mono ?_; clear K2; rintro e W3 ⟨rfl, k2', D2', T3, O3⟩; obtain ⟨a4, cap4, a5, cap5, ra5, rc5, la5, lc5, B4, B5, R5, g5⟩ := T3.out; have K3 := state_ok B4 O2 HL1.out))
          refine hK.out _ _ (T3.below) (fun hS => ?_)
          clear hK
          refine anyH_take 14 67 (.bool false) rfl rfl (by kernel_rfl) (by kernel_rfl) (by kernel_rfl) (fun _ _ _ h => h) (Or.inl ⟨by rfl, by intro w hSw; go_simp⟩) (T3.below) ?_
          try simp only [Act.put, List.setIfInBounds_toArray, List.set_cons_zero, List.set_cons_succ]
          refine anyH_take 15 68 (.bool false) rfl rfl (by kernel_rfl) (by kernel_rfl) (by kernel_rfl) (fun _ _ _ h => h) (Or.inl ⟨by rfl, by intro w hSw; go_simp⟩) (T3.below) ?_
          try simp only [Act.put, List.setIfInBounds_toArray, List.set_cons_zero, List.set_cons_succ]
          refine anyH_take 16 69 (.pointer (some ⟨b, 0, none⟩)) rfl rfl (by kernel_rfl) (by kernel_rfl) (by kernel_rfl) (fun _ _ _ h => h) (Or.inl ⟨by rfl, by intro w hSw; go_simp⟩) (T3.below) ?_
          try simp only [Act.put, List.setIfInBounds_toArray, List.set_cons_zero, List.set_cons_succ]
          refine anyH_take 18 71 (.pointer (some ⟨c, 0, none⟩)) rfl rfl (by kernel_rfl) (by kernel_rfl) (by kernel_rfl) (fun _ _ _ h => h) (Or.inl ⟨by rfl, by intro w hSw; go_simp⟩) (T3.below) ?_
          try simp only [Act.put, List.setIfInBounds_toArray, List.set_cons_zero, List.set_cons_succ]
          refine wpAnyH_ready (rs := [17]) (by kernel_rfl) (by simp) ?_
          refine AllReadyH.cons rfl (fun K hK => ?_) AllReadyH.nil
          go_simp
          go_wp2_with (go_at_call 12; go_must (refine K3.mono ?_; clear K3; rintro e W4 ⟨a6, c6, la6, lc6, rfl, b4, L6, K6⟩; have T4 := T3.later b4; have K4 := state_ok (B5.below b4) O3 HL1.out))
          refine hK.out _ _ (T4.below) (fun hS => ?_)
          clear hK
          refine wpAnyH_ready (rs := [19]) (by kernel_rfl) (by simp) ?_
          refine AllReadyH.cons rfl (fun K hK => ?_) AllReadyH.nil
          go_simp
          go_wp2_with (go_at_call 12; go_must (refine K4.mono ?_; clear K4; rintro e W5 ⟨a7, c7, la7, lc7, rfl, b5, L7, K7⟩; have T5 := T4.later b5; have K5 := same_any (stp ⟨kd, nn, x, y, s⟩ s0).next a6 a7 _ c6 c7 _ la6 la7 _ lc6 lc7 _ W5 (L6.below b5) L7 (K6.below b5) K7))
          refine hK.out _ _ (T5.below) (fun hS => ?_)
          clear hK
          refine wpAnyH_ready (rs := [20]) (by kernel_rfl) (by simp) ?_
          refine AllReadyH.cons rfl (fun K hK => ?_) AllReadyH.nil
          go_simp
          go_wp2_with (go_at_call 13; go_must (refine K5.mono ?_; clear K5; rintro e W6 ⟨rfl, b6⟩; have T6 := T5.later b6))
          refine hK.out _ _ (T6.below) (fun hS => ?_)
          clear hK
          refine anyH_take 21 74 (.bool false) rfl rfl (by kernel_rfl) (by kernel_rfl) (by kernel_rfl) (fun _ _ _ h => h) (Or.inl ⟨by rfl, by intro w hSw; go_simp⟩) (T6.below) ?_
          try simp only [Act.put, List.setIfInBounds_toArray, List.set_cons_zero, List.set_cons_succ]
          refine anyH_take 22 75 (.bool false) rfl rfl (by kernel_rfl) (by kernel_rfl) (by kernel_rfl) (fun _ _ _ h => h) (Or.inl ⟨by rfl, by intro w hSw; go_simp⟩) (T6.below) ?_
          try simp only [Act.put, List.setIfInBounds_toArray, List.set_cons_zero, List.set_cons_succ]
          refine wpAnyH_done (by kernel_rfl) ?_ _
          go_wp2
          go_roundg (gk - 1)
          case measure => omega
          case rel => exact ⟨j + 1, by first | rfl | go_num, by omega, ⟨_, _, _, _, _, T6, O2, O3⟩⟩
        · have hjI : ¬ (j : Int) < (len1 : Int) := by omega
          have bw := T.below
          clear T O O2
          go_wp2_with (go_at_call 10; go_must (refine (awake_any _).mono ?_; rintro e wz ⟨rfl, bz⟩))
          go_ret
          exact ⟨rfl, bw.trans (bz.mono bw.size)⟩
end Go.Proofs.Ytoppecppmjpgiaa

namespace Go.Proofs.Ytoppecppmjpgiaa
open Go.ChangeShapes Go.WideShapes Go.ChangeAt Go.RowKit Go.Deep
set_option linter.unusedVariables false
set_option linter.unusedSimpArgs false

theorem by40 : Try.prog.bytesOf 40 = 48 := by kernel_rfl
abbrev actL (q : ActS) : List Value := [.int .i64 q.kd, .int .i64 q.nn, .int .i64 q.x, .int .i64 q.y, .string q.s]
theorem add_plain' (g o j : Nat) : (⟨g, o, none⟩ : Addr).add j = ⟨g, o + j, none⟩ := by unfold Addr.add; split <;> simp_all
/-- The bound on one argument, out of that on all. -/
theorem sized_arg {H : Type} {ts : List TypeId} {ds : List (DataW H)} (h : (DataW.weightsEach Try.prog ts ds).all (· ≤ reachBytes) = true) {j : Nat} {t : TypeId} {d : DataW H} (ht : ts[j]? = some t) (hd : ds[j]? = some d) : ∀ k ∈ d.weights Try.prog t, k ≤ reachBytes := by
  intro k hk
  have := List.all_eq_true.1 h _ (DataW.weights_mem_each ht hd k hk)
  simpa using this
theorem open_actsC {H : Type} {enc : TypeId × Value → H} {W : World} {a : Option Addr} {len cap : Nat} {d : DataW H} {ps : List MemPlace}
    (h : DataW.Trod enc Try.prog W 0 (fun _ => true) true 26 (.slice a len cap) d ps) (hB : ∀ k ∈ d.weights Try.prog 26, k ≤ reachBytes) :
    ∃ l : List ActS, l.length = len ∧ len ≤ cap ∧ (len = 0 ∨ ∃ b off, a = some ⟨b, off, none⟩ ∧ b < W.heap.size ∧ ∀ j, j < len → ∃ q, l[j]? = some q ∧ W.rangeAt b (off + j * 5) (actL q)) ∧ (∀ q ∈ l, ActOk q) ∧ cap ≤ 2932031007402 := by
  obtain ⟨fuel, hf⟩ := h
  rcases open_slice Try.underlying26 hf with ⟨hcs, hx⟩ | ⟨x, l, c, m, n, D, Pl, hcs, _, hl, hm, hmm, hx, hel⟩
  · simp [Value.cells] at hcs
    obtain ⟨rfl, rfl, rfl⟩ := hcs
    exact ⟨[], rfl, Nat.le_refl _, .inl rfl, fun q hq => (by cases hq), by omega⟩
  · simp [Value.cells] at hcs
    obtain ⟨rfl, rfl, rfl⟩ := hcs
    have hmc : m = cap := by simpa using hmm
    subst hmc
    simp only [Prod.mk.injEq] at hx
    obtain ⟨hd, _⟩ := hx
    rw [cn40] at hel
    have each : ∀ i, i < m → ∃ q : ActS, (∀ j v, (actL q)[j]? = some v → W.cell? ((x.add (i * 5)).add j) = some v) ∧ ActOk q := by
      intro i hi
      obtain ⟨cs', h1, h2⟩ := hel i hi
      obtain ⟨_, hlen, hcell⟩ := World.cells?_some h1
      obtain ⟨q, hcs', hq⟩ := open_actc hlen h2
      refine ⟨q, fun j v hj => ?_, hq⟩
      have hjl : j < 5 := (List.getElem?_eq_some_iff.1 hj).1
      have hc := hcell j hjl
      rw [hcs'] at hc
      rw [hc]
      exact hj
    have hz : ActS := ⟨0, 0, 0, 0, ByteArray.empty⟩
    haveI : Inhabited ActS := ⟨hz⟩
    obtain ⟨F, hF⟩ := choose_lt each
    have hget : ∀ j, j < len → ((List.range len).map F)[j]? = some (F j) := by
      intro j hj
      simp [hj]
    refine ⟨(List.range len).map F, by simp, hl, ?_, ?_, ?_⟩
    · by_cases h0 : len = 0
      · exact .inl h0
      · obtain ⟨b, off, spot⟩ := x
        have hc := (hF 0 (by omega)).1 0 _ rfl
        have hspot : spot = none := by simpa [Addr.add] using World.cell?_spot hc
        subst hspot
        refine .inr ⟨b, off, rfl, World.block_lt_of_cell? _ _ hc, fun j hj => ⟨F j, hget j hj, ?_⟩⟩
        intro i v hv
        have := (hF j (by omega)).1 i v hv
        rw [add_plain', add_plain'] at this
        exact this
    · intro q hq
      obtain ⟨i, hi, rfl⟩ := List.mem_map.1 hq
      exact (hF i (by have := List.mem_range.1 hi; omega)).2
    · have h0 := hB (m * 48) (by
        rw [hd]
        simp only [DataW.weights, Try.underlying26]
        refine List.mem_cons.2 (.inl ?_)
        rw [by40]
        simp only [List.length_map, List.length_range, List.length_take, List.length_drop]
        first | omega | (simp; omega))
      unfold reachBytes at h0
      omega
end Go.Proofs.Ytoppecppmjpgiaa

namespace Go.Proofs.Ytoppecppmjpgiaa.bagGoes
open Go.ChangeShapes Go.WideShapes Go.ChangeAt Go.RowKit
set_option linter.unusedVariables false

theorem own : ownKnob Try.prog.godebug = none := by kernel_rfl
theorem laidOut : laidOutB Try.prog = true := by kernel_rfl

set_option maxRecDepth 100000 in
theorem lifted (os : Os) (started : os.Started) (H : Type) (enc : TypeId × Value → H) :
    ReturnsInHanded {} Try.checked os 5 .any (Rows.bagGoesSpec.pre6 enc Try.prog Try.f5 Rows.bagGoesRow.domain false) (Rows.bagGoesSpec.post enc Try.prog Try.f5 false true false false) := by
  refine returnsInHanded_of_change_sized (C := Try.checked) own started (by kernel_rfl) Try.func5
    (ChangeSpec.witness6 (enc := enc) (C := Try.checked) false ⟨#[], #[.slice none 0 0, .slice none 0 0], []⟩ 8 (by kernel_rfl) (by kernel_rfl) (by kernel_rfl) (by kernel_rfl)) ?_
  intro W base args ds gs before hval0 hW hcnd hsz0 _
  have hsz : (DataW.weightsEach Try.prog (Try.f5.params.toList ++ Rows.bagGoesSpec.plain.varTypes Try.prog) (ds ++ gs)).all (· ≤ reachBytes) = true := hsz0
  clear hsz0
  have hval : ∀ (j : Nat) t v, Try.f5.params[j]? = some t → args[j]? = some v → Value.okWide Try.prog W .any base t v := hval0
  have hW' := hW
  obtain ⟨p, q, hA0, hV, rfl, hfz, hnd⟩ := hW
  have hA : DataW.TrodAll enc Try.prog W 0 (fun _ => true) true Try.f5.params.toList args.toList ds p := hA0
  rw [Try.params5] at hA hval hsz
  obtain ⟨v0, vs0, d0, ds0, p0, q0, hargs, rfl, rfl, h0, r0⟩ := trodAll_cons hA
  obtain ⟨v1, vs1, d1, ds1, p1, q1, rfl, rfl, rfl, h1, r1⟩ := trodAll_cons r0
  obtain ⟨rfl, rfl, rfl⟩ := trodAll_nil r1
  obtain rfl : args = #[v0, v1] := by cases args; simp_all
  obtain ⟨rfl, rfl⟩ := trodVars_none hV
  have k0 := h0
  have lt0 : ∀ x ∈ p0, x.block < W.heap.size := by obtain ⟨m, hm⟩ := k0; exact DataW.trod_lt m _ _ _ hm
  obtain ⟨a0, len0, cap0, rfl⟩ := okWide_slice Try.underlying26 (hval 0 26 v0 rfl rfl)
  obtain ⟨z0, O0, le0, me0, ok0, c0⟩ := open_actsC k0 (sized_arg hsz (j := 0) (t := 26) rfl rfl)
  have k1 := h1
  have lt1 : ∀ x ∈ p1, x.block < W.heap.size := by obtain ⟨m, hm⟩ := k1; exact DataW.trod_lt m _ _ _ hm
  obtain ⟨a1, len1, cap1, rfl⟩ := okWide_slice Try.underlying26 (hval 1 26 v1 rfl rfl)
  obtain ⟨z1, O1, le1, me1, ok1, c1⟩ := open_actsC k1 (sized_arg hsz (j := 1) (t := 26) rfl rfl)
  clear hA0 hval0
  refine (goes_walk a0 len0 cap0 z0 a1 len1 cap1 z1 W ⟨O0, le0, me0, ok0⟩ ⟨O1, le1, me1, ok1⟩ (by omega) (by omega)).mono fun e W' ⟨he, bel⟩ => ?_
  subst he
  exact ⟨_, rfl, _, _, _, [], _, [], hW', trodAll_mk1 (shut_bool Try.underlying4 _), (trodAll_cons_mk (Below.trod laidOut (by kernel_rfl) (of_decide_eq_true (by kernel_rfl)) k0 bel lt0) (trodAll_cons_mk (Below.trod laidOut (by kernel_rfl) (of_decide_eq_true (by kernel_rfl)) k1 bel lt1) trodAll_mk0)), rfl, bel.frame _, fun h => by cases h⟩

theorem over : Rows.bagGoesRow.holds Try.pinned (OpenSpec.ofChange Rows.bagGoesSpec) :=
  OpenClaim.holds_of_wide 5 Try.f5 rfl rfl rfl rfl rfl rfl rfl ⟨rfl, rfl, rfl, rfl, rfl⟩ rfl rfl rfl rfl rfl (by kernel_rfl) Try.func5 (by kernel_rfl)
    (of_decide_eq_true (by kernel_rfl)) (by unfold Func.isWrapper; first | (rw [if_pos (by decide +kernel)]; kernel_rfl) | (rw [if_neg (by decide +kernel)]; exact ⟨rfl, rfl⟩))
    (fun os started H enc _ => lifted os started H enc)

/-- The statement. -/
theorem proved : Rows.BagGoesSaid := over
#print axioms proved
end Go.Proofs.Ytoppecppmjpgiaa.bagGoes
