/-
  A bag made out of a state answers each call as the document does, and so does its State (P6.1 to P6.8), where what is read is of bulk at most 1048576: the law BagPlays returns true.
-/
import Derived.Test.YtoppecppmjpgiaaGrAct
import Derived.Test.YtoppecppmjpgiaaBiA
import Derived.Test.YtoppecppmjpgiaaBiJ
import Derived.Test.YtoppecppmjpgiaaBhJ
import Derived.Lib.SliceRun
import Derived.Test.YtoppecppmjpgiaaBiK
import Derived.Test.YtoppecppmjpgiaaBgM
import Derived.Test.YtoppecppmjpgiaaBgK
import Derived.SizedLaws
import Derived.Test.YtoppecppmjpgiaaRows
import Derived.Deep.LoopGhost
import Derived.Deep.Cut
import Derived.WalkKit
import Derived.ProofKit
import Derived.OpenShut
import Derived.ShutString
import Derived.ChangeOld
import Derived.ChangeMaps5
import Derived.Below
import Derived.JoinedCond
namespace Go.Proofs.Ytoppecppmjpgiaa
open Go.ChangeShapes Go.WideShapes Go.ChangeAt Go.RowKit Go.Maps
set_option linter.unusedVariables false
set_option linter.unusedSimpArgs false
theorem Bt.sever_same {W0 W : World} {C0 : Nat → Prop} {b M r k : Nat} {next : Int} {ds : List DG} {D : DataW Unit} {rn : Int} {rds : List DG} {ls : List LK} (h : Bt W0 C0 b M r k next ds D rn rds ls W) (x : Int) :
    Calls Try.prog 19 #[.pointer (some ⟨b, 0, none⟩), .int .i64 x, .int .i64 x] W fun e W' => e = .returned (.int .i64 0) ∧ Bt W0 C0 b M r k next ds D rn rds ls W' := by
  obtain ⟨a, cap, ra, rc, la, lc, B, R, h1, h2⟩ := h.out
  exact (Go.Proofs.Ytoppecppmjpgiaa.sever_same b M a _ cap k next ds D x W B).mono fun e W' ⟨he, hw⟩ => ⟨he, by rw [hw]; exact h⟩
theorem Bt.rsever_same {W0 W : World} {C0 : Nat → Prop} {b M r k : Nat} {next : Int} {ds : List DG} {D : DataW Unit} {rn : Int} {rds : List DG} {ls : List LK} (h : Bt W0 C0 b M r k next ds D rn rds ls W) (x : Int) :
    Calls Try.prog 31 #[.pointer (some ⟨r, 0, none⟩), .int .i64 x, .int .i64 x] W fun e W' => e = .returned (.int .i64 0) ∧ Bt W0 C0 b M r k next ds D rn rds ls W' :=
  (Go.Proofs.Ytoppecppmjpgiaa.rsever_same r x W).mono fun e W' ⟨he, hw⟩ => ⟨he, by rw [hw]; exact h⟩
set_option maxRecDepth 100000 in
set_option maxHeartbeats 8000000 in
theorem act_same {W0 W : World} {C0 : Nat → Prop} {b M r k : Nat} {D : DataW Unit} (s0 : St) {L : Nat} (h : Bt W0 C0 b M r k s0.next s0.ds D s0.next s0.ds s0.ls W) (O : Ok L k D s0) (hL : L < 8796093022206) (nn x : Int) (s : ByteArray) (hx : I64 x) :
    Calls Try.prog 11 #[.pointer (some ⟨b, 0, none⟩), .pointer (some ⟨r, 0, none⟩), act5 5 nn x x s] W fun e W' => e = .returned (.bool true) ∧ ∃ k' D', Bt W0 C0 b M r k' (stp ⟨5, nn, x, x, s⟩ s0).next (stp ⟨5, nn, x, x, s⟩ s0).ds D' (stp ⟨5, nn, x, x, s⟩ s0).next (stp ⟨5, nn, x, x, s⟩ s0).ds (stp ⟨5, nn, x, x, s⟩ s0).ls W' ∧ Ok (L + 1) k' D' (stp ⟨5, nn, x, x, s⟩ s0) := by
  obtain ⟨W1, C, hW1, Z, back⟩ := h.within 5 nn x x s
  obtain ⟨next, ds, ls⟩ := s0
  have f0 := row_cell Z.at_ 0 _ rfl
  have f1 := row_cell Z.at_ 1 _ rfl
  have f2 := row_cell Z.at_ 2 _ rfl
  have f3 := row_cell Z.at_ 3 _ rfl
  have f4 := row_cell Z.at_ 4 _ rfl
  have HB : Hid (∀ (k' : Nat) (next' : Int) (ds' : List DG) (D' : DataW Unit) (rn' : Int) (rds' : List DG) (ls' : List LK) (W' : World), Bt W1 C b M r k' next' ds' D' rn' rds' ls' W' → Bt W0 C0 b M r k' next' ds' D' rn' rds' ls' W') := ⟨back⟩
  have HO : Hid (Ok L k D ⟨next, ds, ls⟩) := ⟨O⟩
  clear h O back
  simp only at Z
  have HS : Hid (stp ⟨5, nn, x, x, s⟩ ⟨next, ds, ls⟩ = ⟨next, ds, ls⟩) := ⟨by simp [stp]⟩
  have Zd : Bz W1 C _ _ b M r k next ds D next ds ls W1.drew := ⟨Z.bt.later ((Below.refl _ _).drew), Z.lt, Z.no, Z.was⟩
  have K1 := Zd.bt.sever_same x
  go_enter Try.func11, Try.ntmps11
  go_wp2
  refine wp_region_any (by kernel_rfl) ?_
  change wpAny _ _ _ _ _ _ _ (World.drew _)
  refine wpAny_narrow (fun X => X.heap[W.heap.size]? = some (actO 5 nn x x s)) _ _ _ _ ?_
  refine anyH_take 0 118 (.pointer (some ⟨b, 0, none⟩)) rfl rfl (by kernel_rfl) (by kernel_rfl) (by kernel_rfl) (fun _ _ _ h => h) (Or.inl ⟨by rfl, by intro w hSw; go_simp⟩) (Z.at_) ?_
  try simp only [Act.put, List.setIfInBounds_toArray, List.set_cons_zero, List.set_cons_succ]
  refine anyH_take 1 119 (.pointer (some ⟨W.heap.size, 2, none⟩)) rfl rfl (by kernel_rfl) (by kernel_rfl) (by kernel_rfl) (fun _ _ _ h => h) (Or.inl ⟨by rfl, by intro w hSw; go_simp⟩) (Z.at_) ?_
  try simp only [Act.put, List.setIfInBounds_toArray, List.set_cons_zero, List.set_cons_succ]
  refine anyH_take 2 120 (.int .i64 x) rfl rfl (by kernel_rfl) (by kernel_rfl) (by kernel_rfl) (fun _ _ _ h => h) (Or.inl ⟨by rfl, by intro w hSw; have k0 := row_cell hSw 2 _ rfl; go_simp⟩) (Z.at_) ?_
  try simp only [Act.put, List.setIfInBounds_toArray, List.set_cons_zero, List.set_cons_succ]
  refine anyH_take 3 121 (.pointer (some ⟨W.heap.size, 3, none⟩)) rfl rfl (by kernel_rfl) (by kernel_rfl) (by kernel_rfl) (fun _ _ _ h => h) (Or.inl ⟨by rfl, by intro w hSw; go_simp⟩) (Z.at_) ?_
  try simp only [Act.put, List.setIfInBounds_toArray, List.set_cons_zero, List.set_cons_succ]
  refine anyH_take 4 122 (.int .i64 x) rfl rfl (by kernel_rfl) (by kernel_rfl) (by kernel_rfl) (fun _ _ _ h => h) (Or.inl ⟨by rfl, by intro w hSw; have k0 := row_cell hSw 3 _ rfl; go_simp⟩) (Z.at_) ?_
  try simp only [Act.put, List.setIfInBounds_toArray, List.set_cons_zero, List.set_cons_succ]
  refine anyH_take 6 124 (.pointer (some ⟨r, 0, none⟩)) rfl rfl (by kernel_rfl) (by kernel_rfl) (by kernel_rfl) (fun _ _ _ h => h) (Or.inl ⟨by rfl, by intro w hSw; go_simp⟩) (Z.at_) ?_
  try simp only [Act.put, List.setIfInBounds_toArray, List.set_cons_zero, List.set_cons_succ]
  refine anyH_take 7 125 (.pointer (some ⟨W.heap.size, 2, none⟩)) rfl rfl (by kernel_rfl) (by kernel_rfl) (by kernel_rfl) (fun _ _ _ h => h) (Or.inl ⟨by rfl, by intro w hSw; go_simp⟩) (Z.at_) ?_
  try simp only [Act.put, List.setIfInBounds_toArray, List.set_cons_zero, List.set_cons_succ]
  refine anyH_take 8 126 (.int .i64 x) rfl rfl (by kernel_rfl) (by kernel_rfl) (by kernel_rfl) (fun _ _ _ h => h) (Or.inl ⟨by rfl, by intro w hSw; have k0 := row_cell hSw 2 _ rfl; go_simp⟩) (Z.at_) ?_
  try simp only [Act.put, List.setIfInBounds_toArray, List.set_cons_zero, List.set_cons_succ]
  refine anyH_take 9 127 (.pointer (some ⟨W.heap.size, 3, none⟩)) rfl rfl (by kernel_rfl) (by kernel_rfl) (by kernel_rfl) (fun _ _ _ h => h) (Or.inl ⟨by rfl, by intro w hSw; go_simp⟩) (Z.at_) ?_
  try simp only [Act.put, List.setIfInBounds_toArray, List.set_cons_zero, List.set_cons_succ]
  refine anyH_take 10 128 (.int .i64 x) rfl rfl (by kernel_rfl) (by kernel_rfl) (by kernel_rfl) (fun _ _ _ h => h) (Or.inl ⟨by rfl, by intro w hSw; have k0 := row_cell hSw 3 _ rfl; go_simp⟩) (Z.at_) ?_
  try simp only [Act.put, List.setIfInBounds_toArray, List.set_cons_zero, List.set_cons_succ]
  refine wpAnyH_ready (rs := [5]) (by kernel_rfl) (by simp) ?_
  refine AllReadyH.cons rfl (fun K hK => ?_) AllReadyH.nil
  go_simp
  go_wp2_with (go_at_call 19; go_must (refine K1.mono ?_; clear K1; rintro e W2 ⟨rfl, T2⟩; have Z2 : Bz W1 C _ _ b M r _ _ _ _ _ _ _ W2 := ⟨T2, Z.lt, Z.no, Z.was⟩; have K2 := T2.rsever_same x))
  refine hK.out _ _ (Z2.at_) (fun hS => ?_)
  clear hK
  refine wpAnyH_ready (rs := [11]) (by kernel_rfl) (by simp) ?_
  refine AllReadyH.cons rfl (fun K hK => ?_) AllReadyH.nil
  go_simp
  go_wp2_with (go_at_call 31; go_must (refine K2.mono ?_; clear K2; rintro e W3 ⟨rfl, T3⟩; have Z3 : Bz W1 C _ _ b M r _ _ _ _ _ _ _ W3 := ⟨T3, Z.lt, Z.no, Z.was⟩))
  refine hK.out _ _ (Z3.at_) (fun hS => ?_)
  clear hK
  refine anyH_take 12 130 (.bool true) rfl rfl (by kernel_rfl) (by kernel_rfl) (by kernel_rfl) (fun _ _ _ h => h) (Or.inl ⟨by rfl, by intro w hSw; go_simp⟩) (Z3.at_) ?_
  try simp only [Act.put, List.setIfInBounds_toArray, List.set_cons_zero, List.set_cons_succ]
  refine anyH_take 13 6 (.bool true) rfl rfl (by kernel_rfl) (by kernel_rfl) (by kernel_rfl) (fun _ _ _ h => h) (Or.inl ⟨by rfl, by intro w hSw; go_simp⟩) (Z3.at_) ?_
  try simp only [Act.put, List.setIfInBounds_toArray, List.set_cons_zero, List.set_cons_succ]
  refine wpAnyH_done (by kernel_rfl) ?_ _
  go_wp2
  go_ret
  rw [HS.out]
  exact ⟨rfl, _, _, HB.out _ _ _ _ _ _ _ _ T3, by have O := HO.out; exact ⟨O.good, O.top, O.lnk, O.lt, O.tidy, Nat.le_succ_of_le O.size, Nat.le_succ_of_le O.len, Nat.le_succ_of_le O.kk⟩⟩
set_option maxRecDepth 100000 in
set_option maxHeartbeats 8000000 in
theorem act_other {W0 W : World} {C0 : Nat → Prop} {b M r k : Nat} {D : DataW Unit} (s0 : St) {L : Nat} (h : Bt W0 C0 b M r k s0.next s0.ds D s0.next s0.ds s0.ls W) (O : Ok L k D s0) (hL : L < 8796093022206) (kd nn x y : Int) (s : ByteArray) (hx : I64 x) (hy : I64 y) (n1 : kd ≠ 1) (n2 : kd ≠ 2) (n3 : kd ≠ 3) (n4 : kd ≠ 4) (n5 : kd ≠ 5) (n6 : kd ≠ 6) (n7 : kd ≠ 7) :
    Calls Try.prog 11 #[.pointer (some ⟨b, 0, none⟩), .pointer (some ⟨r, 0, none⟩), act5 kd nn x y s] W fun e W' => e = .returned (.bool true) ∧ ∃ k' D', Bt W0 C0 b M r k' (stp ⟨kd, nn, x, y, s⟩ s0).next (stp ⟨kd, nn, x, y, s⟩ s0).ds D' (stp ⟨kd, nn, x, y, s⟩ s0).next (stp ⟨kd, nn, x, y, s⟩ s0).ds (stp ⟨kd, nn, x, y, s⟩ s0).ls W' ∧ Ok (L + 1) k' D' (stp ⟨kd, nn, x, y, s⟩ s0) := by
  obtain ⟨W1, C, hW1, Z, back⟩ := h.within kd nn x y s
  obtain ⟨next, ds, ls⟩ := s0
  have f0 := row_cell Z.at_ 0 _ rfl
  have f1 := row_cell Z.at_ 1 _ rfl
  have f2 := row_cell Z.at_ 2 _ rfl
  have f3 := row_cell Z.at_ 3 _ rfl
  have f4 := row_cell Z.at_ 4 _ rfl
  have HB : Hid (∀ (k' : Nat) (next' : Int) (ds' : List DG) (D' : DataW Unit) (rn' : Int) (rds' : List DG) (ls' : List LK) (W' : World), Bt W1 C b M r k' next' ds' D' rn' rds' ls' W' → Bt W0 C0 b M r k' next' ds' D' rn' rds' ls' W') := ⟨back⟩
  have HO : Hid (Ok L k D ⟨next, ds, ls⟩) := ⟨O⟩
  clear h O back
  simp only at Z
  have HS : Hid (stp ⟨kd, nn, x, y, s⟩ ⟨next, ds, ls⟩ = ⟨next, ds, ls⟩) := ⟨by simp [stp, n1, n2, n3, n4, n5, n6, n7]⟩
  have m1 : (kd == 1) = false := by simpa using n1
  have m2 : (kd == 2) = false := by simpa using n2
  have m3 : (kd == 3) = false := by simpa using n3
  have m4 : (kd == 4) = false := by simpa using n4
  have m5 : (kd == 5) = false := by simpa using n5
  have m6 : (kd == 6) = false := by simpa using n6
  have m7 : (kd == 7) = false := by simpa using n7
  clear n1 n2 n3 n4 n5 n6 n7
  go_enter Try.func11, Try.ntmps11
  go_wp2
  go_ret
  rw [HS.out]
  exact ⟨rfl, k, D, HB.out _ _ _ _ _ _ _ _ Z.bt, by have O := HO.out; exact ⟨O.good, O.top, O.lnk, O.lt, O.tidy, Nat.le_succ_of_le O.size, Nat.le_succ_of_le O.len, Nat.le_succ_of_le O.kk⟩⟩
theorem act_any {W0 W : World} {C0 : Nat → Prop} {b M r k : Nat} {D : DataW Unit} (s0 : St) {L : Nat} (h : Bt W0 C0 b M r k s0.next s0.ds D s0.next s0.ds s0.ls W) (O : Ok L k D s0) (hL : L < 8796093022206) (q : ActS) (hq : ActOk q) :
    Calls Try.prog 11 #[.pointer (some ⟨b, 0, none⟩), .pointer (some ⟨r, 0, none⟩), act5 q.kd q.nn q.x q.y q.s] W fun e W' => e = .returned (.bool true) ∧ ∃ k' D', Bt W0 C0 b M r k' (stp q s0).next (stp q s0).ds D' (stp q s0).next (stp q s0).ds (stp q s0).ls W' ∧ Ok (L + 1) k' D' (stp q s0) := by
  obtain ⟨kd, nn, x, y, s⟩ := q
  have hx : I64 x := hq.x
  have hy : I64 y := hq.y
  by_cases n1 : kd = 1
  · subst n1; exact act_put s0 h O hL nn x y s hx hy
  by_cases n2 : kd = 2
  · subst n2; exact act_take s0 h O hL nn x y s hx hy
  by_cases n3 : kd = 3
  · subst n3; exact act_double s0 h O hL nn x y s hx hy
  by_cases n4 : kd = 4
  · subst n4; exact act_between s0 h O hL nn x y s hx hy
  by_cases n5 : kd = 5
  · subst n5
    by_cases hxy : x = y
    · subst hxy; exact act_same s0 h O hL nn x s hx
    · exact act_sever s0 h O hL nn x y s hx hy hxy
  by_cases n6 : kd = 6
  · subst n6; exact act_mend s0 h O hL nn x y s hx hy
  by_cases n7 : kd = 7
  · subst n7; exact act_forget s0 h O hL nn x y s hx hy
  exact act_other s0 h O hL kd nn x y s hx hy n1 n2 n3 n4 n5 n6 n7
end Go.Proofs.Ytoppecppmjpgiaa

namespace Go.Proofs.Ytoppecppmjpgiaa
open Go.ChangeShapes Go.WideShapes Go.ChangeAt Go.RowKit Go.Maps Go.Sort
set_option linter.unusedVariables false
set_option linter.unusedSimpArgs false
theorem exec_load65m {o : Oper} {ρ : Operand → Value} {x : Operand} (ho : o.op = .load 65 x) (g off : Nat) (q : LK) (hx : ρ x = .pointer (some ⟨g, off, none⟩)) (X : World) (hc : X.rangeAt g off q.cells) : (execOp ρ o).run Try.prog X = .ok (.value q.v) X := by
  unfold execOp
  simp only [ho, hx, Instr.loadAt, Instr.sureAddr, Sem.run_bind, Sem.run_pure, Result.andThen_ok, run_loadVar_mid X g off 65 q.cells _ hc Try.underlying65 rfl (by kernel_rfl)]
  rfl
theorem wpList_load65m {ops : Array Oper} {rest : List Oper} {o : Oper} {a : Act} {W : World} {Q : Exit → Act → World → Prop} (hgd : o.guard = none) (x : Operand) (ho : o.op = .load 65 x) (g off : Nat) (p q : Int) (hx : a.eval x = .pointer (some ⟨g, off, none⟩)) (hc : W.rangeAt g off (LK.cells ⟨p, q⟩))
    (h : wpList Try.prog ops Q rest (a.put o.dst (.agg #[.int .i64 p, .int .i64 q])) W) : wpList Try.prog ops Q (o :: rest) a W := by
  refine wpList_plain hgd fun K hK => ?_
  unfold Oper.wp
  rw [exec_load65m ho g off ⟨p, q⟩ hx W hc]
  exact hK _ _ h
set_option maxRecDepth 100000 in
set_option maxHeartbeats 4000000 in
theorem rising_yes (a : Option Addr) (n cap : Nat) (ds : List DG) (next : Int) (w : World) (L : Lst w a n cap ds) (G : Good next ds) : Calls Try.prog 44 #[.slice a n cap, .int .i64 next] w fun e w' => e = .returned (.bool true) ∧ Below w.heap.size w w' := by
  have HN : Hid (n ≤ 65536 ∧ ds.length = n) := ⟨by have := G.len; have := L.size; omega, L.size⟩
  have HG : Hid (Good next ds) := ⟨G⟩
  clear G
  go_enter Try.func44, Try.ntmps44
  go_wp2
  go_loopg [5, 10] n (fun g v5 v10 wr => ∃ (i : Nat) (l : Int), v5 = .int .i64 l ∧ v10 = .int .i64 (i : Int) ∧ i + g = n ∧ Below w.heap.size w wr ∧ Hid (l ≤ next ∧ ∀ j d, i ≤ j → ds[j]? = some d → l < d.num))
  case atStart => exact ⟨0, 0, by first | rfl | go_num, by first | rfl | go_num, by omega, Below.refl _ _, ⟨HG.out.n0, fun j d _ h => by have := (HG.out.num d (List.mem_of_getElem? h)).1; omega⟩⟩
  case round =>
    obtain ⟨i, l, rfl, rfl, hg, hb, HL⟩ := hrel
    by_cases hi : i < n
    · have hiI : (i : Int) < (n : Int) := by omega
      have hi0 : (0 : Int) ≤ (i : Int) := by omega
      obtain ⟨g1, off, rfl, hdm, hr⟩ := (L.below hb).at i hi
      obtain ⟨⟨num, src, dst, body⟩, hd⟩ : ∃ d, ds.getD i DG.z = d := ⟨_, rfl⟩
      rw [hd] at hr
      have hdi : ds[i]? = some ⟨num, src, dst, body⟩ := by rw [← hd]; exact hdm
      have hlt := HL.out.2 i _ (Nat.le_refl _) hdi
      have HX : Hid (num ≤ next ∧ ∀ j d, i + 1 ≤ j → ds[j]? = some d → num < d.num) := ⟨(HG.out.num _ (List.mem_of_getElem? hdi)).2, fun j d hj h => by
        obtain ⟨h1, e1⟩ := List.getElem?_eq_some_iff.1 hdi
        obtain ⟨h2, e2⟩ := List.getElem?_eq_some_iff.1 h
        have := List.pairwise_iff_getElem.1 HG.out.asc i j h1 h2 (by omega)
        rw [e1, e2] at this
        exact this⟩
      have hle : ¬ num ≤ l := by have : l < num := hlt; omega
      have hin : IntKind.i64.wrap ((i : Int) + 1) = (i : Int) + 1 := by rw [IntKind.wrap_i64]; have := HN.out; omega
      have hb2 := hb.alloc hb.size (.cells #[.int .i64 num, .int .i64 src, .int .i64 dst, .string body] 33)
      clear hlt hdi hdm hd
      go_wp2_with ((with_reducible show wpList _ _ _ (Oper.mk _ (Op.load 33 (Operand.tmp 12)) _ _ _ _ :: _) _ _); refine wpList_load33x rfl _ rfl g1 (off + i * 4) num src dst body rfl hr ?_)
      go_roundg (gk - 1)
      case measure => omega
      case rel => exact ⟨i + 1, num, by first | rfl | go_num, by first | rfl | go_num, by omega, hb2, HX⟩
    · have hiI : ¬ (i : Int) < (n : Int) := by omega
      have hle := HL.out.1
      go_wp2
      go_ret
      exact ⟨by simp [hle], hb⟩
theorem below_grow (w : World) (n : Nat) (os : Array Obj) : Below w.heap.size w (grow (w.drewN n) os) := by
  refine ⟨rfl, rfl, rfl, ?_, fun q hq => ?_⟩
  · show w.heap.size ≤ (w.heap ++ os).size
    simp
  · show (w.heap ++ os)[q]? = w.heap[q]?
    rw [Array.getElem?_append_left hq]
set_option maxRecDepth 100000 in
set_option maxHeartbeats 8000000 in
theorem pairs_yes (la : Option Addr) (m lc : Nat) (ls : List LK) (w : World) (K : Lks w la m lc ls) (hr : Rise (ls.map pr)) (hlt : ∀ d ∈ ls, d.fst < d.snd) (hm : m * 16 ≤ 140737488355328) : Calls Try.prog 45 #[.slice la m lc] w fun e w' => e = .returned (.bool true) ∧ Below w.heap.size w w' := by
  have HM : Hid (m * 16 ≤ 140737488355328 ∧ ls.length = m) := ⟨hm, K.size⟩
  have HR : Hid (Rise (ls.map pr)) := ⟨hr⟩
  have HT : Hid (∀ d ∈ ls, d.fst < d.snd) := ⟨hlt⟩
  clear hm hr hlt
  go_enter Try.func45, Try.ntmps45
  go_wp2
  go_loopg [7] m (fun g v7 wr => ∃ i : Nat, v7 = .int .i64 (i : Int) ∧ i + g = m ∧ Below w.heap.size w wr)
  case atStart => exact ⟨0, by first | rfl | go_num, by omega, Below.refl _ _⟩
  case round =>
    obtain ⟨i, rfl, hg, hb⟩ := hrel
    by_cases hi : i < m
    · have hiI : (i : Int) < (m : Int) := by omega
      have hi0 : (0 : Int) ≤ (i : Int) := by omega
      obtain ⟨g1, off, rfl, hgl, hra⟩ : ∃ g off, la = some ⟨g, off, none⟩ ∧ g < w.heap.size ∧ ∀ i, i < m → w.rangeAt g (off + i * 2) (ls.getD i LK.z).cells := by
        rcases K.mem with ⟨e, h0⟩ | h
        · have := K.le; omega
        · exact h
      obtain ⟨⟨p0, p1⟩, hp⟩ : ∃ d, ls.getD i LK.z = d := ⟨_, rfl⟩
      have hrp := range_later (hra i hi) hgl hb
      rw [hp] at hrp
      have hpi : ls[i]? = some ⟨p0, p1⟩ := by rw [get_z ls i (by have := HM.out; omega), hp]
      have hpl : ¬ p1 ≤ p0 := by have := HT.out _ (List.mem_of_getElem? hpi); simp at this; omega
      have hin : IntKind.i64.wrap ((i : Int) + 1) = (i : Int) + 1 := by rw [IntKind.wrap_i64]; have := HM.out; omega
      by_cases hz : i = 0
      · subst hz
        go_wp2_with ((with_reducible show wpList _ _ _ (Oper.mk _ (Op.load 65 (Operand.tmp 10)) _ _ _ _ :: _) _ _); refine wpList_load65m rfl _ rfl g1 (off + 0 * 2) p0 p1 (by simp; try rfl) hrp ?_)
        have b4 := hb.alloc hb.size (.cells #[.int .i64 p0, .int .i64 p1] 65)
        generalize hW4 : World.alloc wr _ = W4 at *
        refine wp_region_any (by kernel_rfl) ?_
        change wpAny _ _ _ _ _ _ _ (World.drew _)
        refine wpAny_narrow (fun W' => Below W4.heap.size W4 W') _ _ _ _ ?_
        refine anyH_take 0 17 (.int .i64 0) rfl rfl (by kernel_rfl) (by kernel_rfl) (by kernel_rfl) (fun _ _ _ h => h) (Or.inl ⟨by rfl, by intro w hSw; go_simp⟩) ((Below.refl _ _).drew) ?_
        try simp only [Act.put, List.setIfInBounds_toArray, List.set_cons_zero, List.set_cons_succ]
        refine anyH_take 1 18 (.bool false) rfl rfl (by kernel_rfl) (by kernel_rfl) (by kernel_rfl) (fun _ _ _ h => h) (Or.inl ⟨by rfl, by intro w hSw; go_simp⟩) ((Below.refl _ _).drew) ?_
        try simp only [Act.put, List.setIfInBounds_toArray, List.set_cons_zero, List.set_cons_succ]
        refine anyH_take 2 19 (.bool false) rfl rfl (by kernel_rfl) (by kernel_rfl) (by kernel_rfl) (fun _ _ _ h => h) (Or.inl ⟨by rfl, by intro w hSw; go_simp⟩) ((Below.refl _ _).drew) ?_
        try simp only [Act.put, List.setIfInBounds_toArray, List.set_cons_zero, List.set_cons_succ]
        refine anyH_take 3 20 (undef) rfl rfl (by kernel_rfl) (by kernel_rfl) (by kernel_rfl) (fun _ _ _ h => h) (Or.inr ⟨by rfl, rfl⟩) ((Below.refl _ _).drew) ?_
        try simp only [Act.put, List.setIfInBounds_toArray, List.set_cons_zero, List.set_cons_succ]
        refine anyH_take 4 21 (undef) rfl rfl (by kernel_rfl) (by kernel_rfl) (by kernel_rfl) (fun _ _ _ h => h) (Or.inr ⟨by rfl, rfl⟩) ((Below.refl _ _).drew) ?_
        try simp only [Act.put, List.setIfInBounds_toArray, List.set_cons_zero, List.set_cons_succ]
        refine anyH_take 5 22 (undef) rfl rfl (by kernel_rfl) (by kernel_rfl) (by kernel_rfl) (fun _ _ _ h => h) (Or.inr ⟨by rfl, rfl⟩) ((Below.refl _ _).drew) ?_
        try simp only [Act.put, List.setIfInBounds_toArray, List.set_cons_zero, List.set_cons_succ]
        refine anyH_take 6 23 (undef) rfl rfl (by kernel_rfl) (by kernel_rfl) (by kernel_rfl) (fun _ _ _ h => h) (Or.inr ⟨by rfl, rfl⟩) ((Below.refl _ _).drew) ?_
        try simp only [Act.put, List.setIfInBounds_toArray, List.set_cons_zero, List.set_cons_succ]
        refine anyH_take 7 24 (undef) rfl rfl (by kernel_rfl) (by kernel_rfl) (by kernel_rfl) (fun _ _ _ h => h) (Or.inr ⟨by rfl, rfl⟩) ((Below.refl _ _).drew) ?_
        try simp only [Act.put, List.setIfInBounds_toArray, List.set_cons_zero, List.set_cons_succ]
        refine anyH_take 8 25 (undef) rfl rfl (by kernel_rfl) (by kernel_rfl) (by kernel_rfl) (fun _ _ _ h => h) (Or.inr ⟨by rfl, rfl⟩) ((Below.refl _ _).drew) ?_
        try simp only [Act.put, List.setIfInBounds_toArray, List.set_cons_zero, List.set_cons_succ]
        refine anyH_take 9 26 (undef) rfl rfl (by kernel_rfl) (by kernel_rfl) (by kernel_rfl) (fun _ _ _ h => h) (Or.inr ⟨by rfl, rfl⟩) ((Below.refl _ _).drew) ?_
        try simp only [Act.put, List.setIfInBounds_toArray, List.set_cons_zero, List.set_cons_succ]
        refine anyH_take 10 27 (undef) rfl rfl (by kernel_rfl) (by kernel_rfl) (by kernel_rfl) (fun _ _ _ h => h) (Or.inr ⟨by rfl, rfl⟩) ((Below.refl _ _).drew) ?_
        try simp only [Act.put, List.setIfInBounds_toArray, List.set_cons_zero, List.set_cons_succ]
        refine anyH_take 11 28 (.bool false) rfl rfl (by kernel_rfl) (by kernel_rfl) (by kernel_rfl) (fun _ _ _ h => h) (Or.inl ⟨by rfl, by intro w hSw; go_simp⟩) ((Below.refl _ _).drew) ?_
        try simp only [Act.put, List.setIfInBounds_toArray, List.set_cons_zero, List.set_cons_succ]
        refine wpAnyH_done (by kernel_rfl) ?_ _
        have b5 := b4.drew
        go_wp2
        go_roundg (gk - 1)
        case measure => omega
        case rel => exact ⟨1, by first | rfl | go_num, by omega, b5⟩
      · have hzI : (0 : Int) < (i : Int) := by omega
        have hzN : 0 < i := by omega
        obtain ⟨⟨q0, q1⟩, hq⟩ : ∃ d, ls.getD (i - 1) LK.z = d := ⟨_, rfl⟩
        have hrq := range_later (hra (i - 1) (by omega)) hgl hb
        rw [hq] at hrq
        have hqi : ls[i - 1]? = some ⟨q0, q1⟩ := by rw [get_z ls (i - 1) (by have := HM.out; omega), hq]
        have hlk : ¬ 0 ≤ lkz (q0, q1) (p0, p1) := by
          have h1 := (rise_iff ls).1 HR.out
          obtain ⟨k1, e1⟩ := List.getElem?_eq_some_iff.1 hqi
          obtain ⟨k2, e2⟩ := List.getElem?_eq_some_iff.1 hpi
          have := List.pairwise_iff_getElem.1 h1 (i - 1) i k1 k2 (by omega)
          rw [e1, e2, ← ltP_pr] at this
          have h2 := lt_lkz (q0, q1) (p0, p1)
          rw [decide_eq_true (show ltP (q0, q1) (p0, p1) from this)] at h2
          unfold ltOf at h2
          have := of_decide_eq_true h2
          omega
        have hsub : IntKind.i64.wrap ((i : Int) - 1) = ((i - 1 : Nat) : Int) := by rw [IntKind.wrap_i64]; have := HM.out; omega
        have hs1 : ((i - 1 : Nat) : Int) < (m : Int) := by omega
        have hs0 : (0 : Int) ≤ ((i - 1 : Nat) : Int) := by omega
        clear hp hq hpi hqi
        go_wp2_with ((with_reducible show wpList _ _ _ (Oper.mk _ (Op.load 65 (Operand.tmp 10)) _ _ _ _ :: _) _ _); refine wpList_load65m rfl _ rfl g1 (off + i * 2) p0 p1 rfl hrp ?_)
        have y0 : (wr.alloc (.cells #[.int .i64 p0, .int .i64 p1] 65)).cell? ⟨wr.heap.size, 0, none⟩ = some (.int .i64 p0) := by simp
        have y1 : (wr.alloc (.cells #[.int .i64 p0, .int .i64 p1] 65)).cell? ⟨wr.heap.size, 1, none⟩ = some (.int .i64 p1) := by simp
        have z4 : wr.heap.size < (wr.alloc (.cells #[.int .i64 p0, .int .i64 p1] 65)).heap.size := by simp
        have b4 := hb.alloc hb.size (.cells #[.int .i64 p0, .int .i64 p1] 65)
        have b04 : Below wr.heap.size wr (wr.alloc (.cells #[.int .i64 p0, .int .i64 p1] 65)) := (Below.refl _ _).alloc (Nat.le_refl _) _
        have hq4 := range_later hrq (Nat.lt_of_lt_of_le hgl hb.size) b04
        have hg4 := Nat.lt_of_lt_of_le hgl b4.size
        obtain ⟨W4, hW4⟩ : ∃ X, wr.alloc (.cells #[.int .i64 p0, .int .i64 p1] 65) = X := ⟨_, rfl⟩
        rw [hW4] at y0 y1 z4 b4 hq4 hg4 ⊢
        clear hW4 b04 hrq hrp
        refine wp_region_any (by kernel_rfl) ?_
        change wpAny _ _ _ _ _ _ _ (World.drew _)
        refine wpAny_narrow (fun W' => Below W4.heap.size W4 W') _ _ _ _ ?_
        refine anyH_take 0 17 (.int .i64 (i : Int)) rfl rfl (by kernel_rfl) (by kernel_rfl) (by kernel_rfl) (fun _ _ _ h => h) (Or.inl ⟨by rfl, by intro w hSw; go_simp⟩) ((Below.refl _ _).drew) ?_
        try simp only [Act.put, List.setIfInBounds_toArray, List.set_cons_zero, List.set_cons_succ]
        refine anyH_take 1 18 (.bool true) rfl rfl (by kernel_rfl) (by kernel_rfl) (by kernel_rfl) (fun _ _ _ h => h) (Or.inl ⟨by rfl, by intro w hSw; go_simp⟩) ((Below.refl _ _).drew) ?_
        try simp only [Act.put, List.setIfInBounds_toArray, List.set_cons_zero, List.set_cons_succ]
        refine anyH_take 2 19 (.bool true) rfl rfl (by kernel_rfl) (by kernel_rfl) (by kernel_rfl) (fun _ _ _ h => h) (Or.inl ⟨by rfl, by intro w hSw; go_simp⟩) ((Below.refl _ _).drew) ?_
        try simp only [Act.put, List.setIfInBounds_toArray, List.set_cons_zero, List.set_cons_succ]
        refine anyH_take 3 20 (.slice (some ⟨g1, off, none⟩) m lc) rfl rfl (by kernel_rfl) (by kernel_rfl) (by kernel_rfl) (fun _ _ _ h => h) (Or.inl ⟨by rfl, by intro w hSw; go_simp⟩) ((Below.refl _ _).drew) ?_
        try simp only [Act.put, List.setIfInBounds_toArray, List.set_cons_zero, List.set_cons_succ]
        refine anyH_take 4 21 (.int .i64 (i : Int)) rfl rfl (by kernel_rfl) (by kernel_rfl) (by kernel_rfl) (fun _ _ _ h => h) (Or.inl ⟨by rfl, by intro w hSw; go_simp⟩) ((Below.refl _ _).drew) ?_
        try simp only [Act.put, List.setIfInBounds_toArray, List.set_cons_zero, List.set_cons_succ]
        refine anyH_take 5 22 (.int .i64 ((i - 1 : Nat) : Int)) rfl rfl (by kernel_rfl) (by kernel_rfl) (by kernel_rfl) (fun _ _ _ h => h) (Or.inl ⟨by rfl, by intro w hSw; have w1 := hsub; go_simp⟩) ((Below.refl _ _).drew) ?_
        try simp only [Act.put, List.setIfInBounds_toArray, List.set_cons_zero, List.set_cons_succ]
        refine anyH_take 6 23 (.pointer (some ⟨g1, off + (i - 1) * 2, none⟩)) rfl rfl (by kernel_rfl) (by kernel_rfl) (by kernel_rfl) (fun _ _ _ h => h) (Or.inl ⟨by rfl, by intro w hSw; go_simp⟩) ((Below.refl _ _).drew) ?_
        try simp only [Act.put, List.setIfInBounds_toArray, List.set_cons_zero, List.set_cons_succ]
        refine anyH_take 7 24 (LK.v ⟨q0, q1⟩) rfl rfl (by kernel_rfl) (by kernel_rfl) (by kernel_rfl) (fun _ _ _ h => h) (Or.inl ⟨by rfl, fun X hSw => exec_load65m rfl g1 (off + (i - 1) * 2) ⟨q0, q1⟩ rfl X (range_later hq4 hg4 hSw)⟩) ((Below.refl _ _).drew) ?_
        try simp only [Act.put, List.setIfInBounds_toArray, List.set_cons_zero, List.set_cons_succ]
        refine anyH_take 8 25 (lnk p0 p1) rfl rfl (by kernel_rfl) (by kernel_rfl) (by kernel_rfl) (fun _ _ _ h => h) (Or.inl ⟨by rfl, by intro w hSw; have k0 := (hSw.cell (p := ⟨wr.heap.size, 0, none⟩) z4).trans y0; have k1 := (hSw.cell (p := ⟨wr.heap.size, 1, none⟩) z4).trans y1; go_simp⟩) ((Below.refl _ _).drew) ?_
        try simp only [Act.put, List.setIfInBounds_toArray, List.set_cons_zero, List.set_cons_succ]
        refine wpAnyH_ready (rs := [9]) (by kernel_rfl) (by simp) ?_
        refine AllReadyH.cons rfl (fun K hK => ?_) AllReadyH.nil
        go_simp
        go_wp2_with (go_at_call 37; refine (byNodes_any q0 q1 p0 p1 _).mono ?_; rintro e x1 ⟨rfl, qn, os', hw1⟩; have b1 : Below W4.drew.heap.size W4.drew x1 := (by rw [hw1]; exact below_grow _ _ _); clear hw1)
        refine hK.out _ _ ((Below.refl _ _).drew.trans b1) (fun hS => ?_)
        clear hK
        refine anyH_take 10 27 (.bool false) rfl rfl (by kernel_rfl) (by kernel_rfl) (by kernel_rfl) (fun _ _ _ h => h) (Or.inl ⟨by rfl, by intro w hSw; have w1 := hlk; go_simp⟩) (hS) ?_
        try simp only [Act.put, List.setIfInBounds_toArray, List.set_cons_zero, List.set_cons_succ]
        refine anyH_take 11 28 (.bool false) rfl rfl (by kernel_rfl) (by kernel_rfl) (by kernel_rfl) (fun _ _ _ h => h) (Or.inl ⟨by rfl, by intro w hSw; go_simp⟩) (hS) ?_
        try simp only [Act.put, List.setIfInBounds_toArray, List.set_cons_zero, List.set_cons_succ]
        refine wpAnyH_done (by kernel_rfl) ?_ _
        have b5 := b4.trans (hS.mono b4.size)
        clear hS y0 y1 z4 hq4 hg4
        go_wp2
        go_roundg (gk - 1)
        case measure => omega
        case rel => exact ⟨i + 1, by first | rfl | go_num, by omega, b5⟩
    · have hiI : ¬ (i : Int) < (m : Int) := by omega
      go_wp2
      go_ret
      exact ⟨rfl, hb⟩
end Go.Proofs.Ytoppecppmjpgiaa

namespace Go.Proofs.Ytoppecppmjpgiaa
open Go.ChangeShapes Go.WideShapes Go.ChangeAt Go.RowKit Go.Maps
set_option linter.unusedVariables false
set_option linter.unusedSimpArgs false

set_option maxRecDepth 100000 in
set_option maxHeartbeats 4000000 in
theorem fit_yes (next : Int) (a : Option Addr) (n c : Nat) (ds : List DG) (la : Option Addr) (m lc : Nat) (ls : List LK) (w : World) (L : Lst w a n c ds) (K : Lks w la m lc ls) (G : Good next ds) (hx : next ≤ 4611686018427387904) (hr : Rise (ls.map pr)) (hlt : ∀ d ∈ ls, d.fst < d.snd) (hm : m * 16 ≤ 140737488355328) :
    Calls Try.prog 23 #[mailV next a n c la m lc] w fun e w' => e = .returned (.bool true) ∧ Below w.heap.size w w' := by
  have hn0 : ¬ next < 0 := by have := G.n0; omega
  have hn1 : ¬ 4611686018427387904 < next := by omega
  have hn2 : (n : Int) ≤ 65536 := by have := G.len; have := L.size; omega
  have K1 := fun W (b : Below w.heap.size w W) => rising_yes a n c ds next W (L.below b) G
  have K2 := fun W (b : Below w.heap.size w W) => pairs_yes la m lc ls W (K.below b) hr hlt hm
  have b0 : Below w.heap.size w (w.alloc (.cells #[.int .i64 next, .slice a n c, .slice la m lc] 25)) := (Below.refl _ _).alloc (Nat.le_refl _) _
  have c0 := World.alloc_heap_new w (.cells #[.int .i64 next, .slice a n c, .slice la m lc] 25)
  clear hr hlt hm hx G
  go_enter Try.func23, Try.ntmps23
  go_wp2_with (first
    | (go_at_call 44; go_must (refine (K1 _ b0).mono ?_; rintro e w1 ⟨rfl, b1⟩; have c1 := (b1.block _ (row_lt c0)).trans c0; have q2 := row_cell c1 2 (.slice la m lc) rfl; have b01 := b0.trans (b1.mono b0.size)))
    | (go_at_call 45; go_must (refine (K2 _ b01).mono ?_; rintro e w2 ⟨rfl, b2⟩; have b02 := b01.trans (b2.mono b01.size))))
  go_ret
  exact ⟨rfl, b02⟩
set_option maxRecDepth 100000 in
set_option maxHeartbeats 2000000 in
theorem clone_any (a : Option Addr) (n cap : Nat) (ds : List DG) (w : World) (L : Lst w a n cap ds) (hn : n ≤ 65536) :
    Calls Try.prog 24 #[.slice a n cap] w fun e w' => ∃ a' c', e = .returned (.slice a' n c') ∧ Below w.heap.size w w' ∧ (∀ g off, a' = some ⟨g, off, none⟩ → w.heap.size ≤ g) ∧ Lst w' a' n c' ds := by
  have q22 : ∀ (w : World) (a : Option Addr) (n c n' c' : Nat), (binOp .eql 22 (.slice a n c) (.slice none n' c')).run Try.prog w = .ok (.bool a.isNone) w := fun w a n c n' c' => Lib.run_eql_slice_nil w 22 33 a n c n' c' Try.underlying22
  rcases id L.mem with ⟨rfl, h0⟩ | ⟨g, off, cur, rfl, hh, hcs, htk⟩
  · have hn0 : n = 0 := by have := L.le; omega
    subst hn0
    subst h0
    go_enter Try.func24, Try.ntmps24
    go_wp2
    go_ret
    exact ⟨none, 0, rfl, Below.refl _ _, fun g off e => (by cases e), L⟩
  · have HS : Hid (ds.length = n) := ⟨L.size⟩
    have HN : Hid (n ≤ 65536) := ⟨hn⟩
    have b0 : Below w.heap.size w (w.alloc (.cells #[] 33)) := (Below.refl _ _).alloc (Nat.le_refl _) _
    have HC : Hid (∀ W, Below w.heap.size w W → ∀ j u, (dcs ds)[j]? = some u → W.cell? ⟨g, off + j, none⟩ = some u) := ⟨fun W b j u hj => (World.cell?_of_block (a := ⟨g, off + j, none⟩) (b.block g L.lt)).trans (L.cells_at j u hj)⟩
    clear hh hcs htk hn L
    go_enter Try.func24, Try.ntmps24
    go_wp2_with ((with_reducible show wpList _ _ _ (Oper.mk _ (Op.call { callee := Callee.builtin Builtin.append, args := _, argTypes := _ }) _ _ _ _ :: _) _ _); go_must (refine wpList_more_lst rfl _ _ rfl (base := w.heap.size) (k := 0) (es := []) (ds := ds) (g := g) (off := off) rfl rfl ⟨rfl, .inr ⟨_, _, #[], rfl, Nat.le_refl _, World.alloc_heap_new _ _, Nat.le_refl _, by decide, rfl, rfl⟩⟩ HS.out (HC.out _ b0) (by have := HN.out; omega) b0.size ?_; intro v1 w2 O2 b2))
    all_goals
      go_ret
      rw [Nat.zero_add, List.nil_append] at O2
      obtain ⟨a', c', rfl, L2, hf⟩ := own_lst O2 HS.out
      exact ⟨a', c', rfl, b0.trans b2, hf, L2⟩
end Go.Proofs.Ytoppecppmjpgiaa

namespace Go.Proofs.Ytoppecppmjpgiaa
open Go.ChangeShapes Go.WideShapes Go.ChangeAt Go.RowKit Go.Maps
set_option linter.unusedVariables false
set_option linter.unusedSimpArgs false
theorem Lnk.snoc {D : DataW Unit} {ls : List LK} {i : Nat} {p : LK} (h : Lnk D (ls.take i)) (hD : Tidy D) (hr : Rise (ls.map pr)) (hp : ls[i]? = some p) (h1 : I64 p.fst) (h2 : I64 p.snd) : Lnk (D.put (klOf p.fst p.snd) (.agg [])) (ls.take (i + 1)) := by
  have hr' : Rise ((ls.take (i + 1)).map pr) := hr.sublist ((List.take_sublist _ _).map pr)
  refine ⟨⟨rise_nodup hr', fun x => ?_⟩, hr'⟩
  have hm : x ∈ (ls.take (i + 1)).map pr ↔ x ∈ (ls.take i).map pr ∨ x = pr p := by
    rw [List.take_add_one, hp]
    simp
  rw [hm, h.keys.2 x]
  by_cases e : x = pr p
  · subst e
    exact ⟨fun _ => ⟨⟨wf_of h1, wf_of h2⟩, has_put_same hD.isMap (show WideAt.IsKeyLit (klOf p.fst p.snd) from trivial) _⟩, fun _ => .inr rfl⟩
  · constructor
    · rintro (⟨hw, hh⟩ | h)
      · have hne : klOf x.1 x.2 ≠ klOf p.fst p.snd := fun he => by
          obtain ⟨e1, e2⟩ := kl_inj hw.1 hw.2 (wf_of h1) (wf_of h2) he
          exact e (Prod.ext e1 e2)
        rw [has_put_other hne]
        exact ⟨hw, hh⟩
      · exact absurd h e
    · rintro ⟨hw, hh⟩
      have hne : klOf x.1 x.2 ≠ klOf p.fst p.snd := fun he => by
        obtain ⟨e1, e2⟩ := kl_inj hw.1 hw.2 (wf_of h1) (wf_of h2) he
        exact e (Prod.ext e1 e2)
      rw [has_put_other hne] at hh
      exact .inl ⟨hw, hh⟩
set_option maxRecDepth 100000 in
set_option maxHeartbeats 2000000 in
theorem of_yes (next : Int) (a : Option Addr) (n c : Nat) (ds : List DG) (la : Option Addr) (m lc : Nat) (ls : List LK) (w : World) (L : Lst w a n c ds) (K : Lks w la m lc ls) (G : Good next ds) (hx : next ≤ 4611686018427387904) (hr : Rise (ls.map pr)) (hlt : ∀ d ∈ ls, d.fst < d.snd) (h64 : ∀ d ∈ ls, I64 d.fst ∧ I64 d.snd) (hm : m * 16 ≤ 140737488355328) :
    Calls Try.prog 8 #[mailV next a n c la m lc] w fun e w' => ∃ b, e = .returned (.tuple #[.pointer (some ⟨b, 0, none⟩), .bool true]) ∧ Below w.heap.size w w' ∧ ∃ M a' cap' D, BagAt w' b M a' n cap' m next ds D ∧ (∀ q, bagC b M a' q → w.heap.size ≤ q) ∧ Lnk D ls ∧ Tidy D ∧ Maps.size D ≤ m := by
  have HM : Hid (m * 16 ≤ 140737488355328 ∧ ls.length = m) := ⟨hm, K.size⟩
  have HR : Hid (Rise (ls.map pr) ∧ (∀ d ∈ ls, d.fst < d.snd) ∧ (∀ d ∈ ls, I64 d.fst ∧ I64 d.snd)) := ⟨hr, hlt, h64⟩
  have hn : n ≤ 65536 := by have := G.len; have := L.size; omega
  have K1 := fun W (b : Below w.heap.size w W) => fit_yes next a n c ds la m lc ls W (L.below b) (K.below b) G hx hr hlt hm
  have K3 := fun W (b : Below w.heap.size w W) => clone_any a n c ds W (L.below b) hn
  obtain ⟨w0, hw0⟩ : ∃ w0, w.alloc (.cells #[.int .i64 next, .slice a n c, .slice la m lc] 25) = w0 := ⟨_, rfl⟩
  have b0 : Below w.heap.size w w0 := by rw [← hw0]; exact (Below.refl _ _).alloc (Nat.le_refl _) _
  have X0 : w0.heap[w.heap.size]? = some (.cells #[.int .i64 next, .slice a n c, .slice la m lc] 25 (0, 0)) := by rw [← hw0]; exact World.alloc_heap_new _ _
  have x0 := row_cell X0 0 (.int .i64 next) rfl
  have x1 := row_cell X0 1 (.slice a n c) rfl
  have x2 := row_cell X0 2 (.slice la m lc) rfl
  clear hx hr hlt h64 hm G
  go_enter Try.func8, Try.ntmps8
  go_wp2_with (first
    | (go_at_call 23; go_must (refine (K1 _ b0).mono ?_; clear K1; rintro e w1 ⟨rfl, b1⟩; have X1 := (b1.block _ (row_lt X0)).trans X0; have b01 := b0.trans (b1.mono b0.size); have hs1 := row_lt X1))
    | (go_at_call 15; go_must (refine (new_any _).mono ?_; rintro e w2 ⟨b, rfl, hb2, M, hM2, B2, b2⟩; have X2 := (b2.block _ (row_lt X1)).trans X1; have b02 := b01.trans (b2.mono b01.size); have p0 := row_cell X2 0 (.int .i64 next) rfl; have p1 := row_cell X2 1 (.slice a n c) rfl; have q0 := row_cell B2.obj 0 _ rfl; have q1 := row_cell B2.obj 1 _ rfl; have r0 := row_free B2.obj 0; have r1 := row_free B2.obj 1))
    | (go_at_call 24; go_must (have hb0 : w.heap.size ≤ b := (by have := b01.size; omega); have hM0 : w.heap.size ≤ M := (by have := b01.size; omega); have b03 : Below w.heap.size w (w2.setCell ⟨b, 0, none⟩ (.int .i64 next)) := b02.setCell (p := ⟨b, 0, none⟩) hb0 _; refine (K3 _ b03).mono ?_; clear K3; rintro e w4 ⟨a', c', rfl, b4, hf, L4⟩; have B3 := B2.setNext next; have B4 := B3.below b4; have X4 : w4.heap[w.heap.size]? = _ := (b4.block _ (row_lt (set_far X2 (show w.heap.size ≠ b by omega) 0 (.int .i64 next)))).trans (set_far X2 (show w.heap.size ≠ b by omega) 0 (.int .i64 next)); have hfb : ∀ g off, a' = some ⟨g, off, none⟩ → g ≠ b := (fun g off e => by have := hf g off e; have := row_lt B3.obj; omega); have B5 := B4.setList (Only.refl _ _) L4 hfb; have b04 : Below w.heap.size w w4 := b03.trans (b4.mono b03.size); have b05 : Below w.heap.size w (w4.setCell ⟨b, 1, none⟩ (.slice a' n c')) := b04.setCell (p := ⟨b, 1, none⟩) hb0 _; have X5 := set_far X4 (show w.heap.size ≠ b by omega) 1 (.slice a' n c'); have s0 := row_cell B4.obj 1 _ rfl; have s1 := row_free B4.obj 1; have s2 := row_cell X5 2 (.slice la m lc) rfl)))
  have hC : ∀ q, bagC b M a' q → w.heap.size ≤ q := by
    rintro q (e | e | ⟨off, e⟩)
    · omega
    · omega
    · have := hf q off e; have := b03.size; omega
  have HC : Hid (∀ q, bagC b M a' q → w.heap.size ≤ q) := ⟨hC⟩
  clear hC hf hfb X0 X1 X2 X4 B2 B3 B4 p0 p1 q0 q1 r0 r1 s0 s1 b4 b04 b03 b02 b01 b2 L4
  go_loopg [25] m (fun g v25 wr => ∃ (i : Nat) (D : DataW Unit), v25 = .int .i64 (i : Int) ∧ i + g = m ∧ BagAt wr b M a' n c' i next ds D ∧ Below w.heap.size w wr ∧ Hid (Lnk D (ls.take i) ∧ Tidy D ∧ Maps.size D ≤ i))
  case atStart => exact ⟨0, _, by first | rfl | go_num, by omega, B5, b05, ⟨lnk_nil, tidy_empty, Nat.le_refl _⟩⟩
  case round =>
    obtain ⟨i, D, rfl, hg, B, hb, HL⟩ := hrel
    by_cases hi : i < m
    · have hiI : (i : Int) < (m : Int) := by omega
      have hi0 : (0 : Int) ≤ (i : Int) := by omega
      obtain ⟨g1, off, rfl, hgl, hra⟩ : ∃ g off, la = some ⟨g, off, none⟩ ∧ g < w.heap.size ∧ ∀ i, i < m → w.rangeAt g (off + i * 2) (ls.getD i LK.z).cells := by
        rcases K.mem with ⟨e, h0⟩ | h
        · have := K.le; omega
        · exact h
      obtain ⟨⟨p0, p1⟩, hp⟩ : ∃ d, ls.getD i LK.z = d := ⟨_, rfl⟩
      have hrp := range_later (hra i hi) hgl hb
      rw [hp] at hrp
      have hpi : ls[i]? = some ⟨p0, p1⟩ := by rw [get_z ls i (by have := HM.out; omega), hp]
      have hpl : p0 < p1 := HR.out.2.1 _ (List.mem_of_getElem? hpi)
      have hp64 : I64 p0 ∧ I64 p1 := HR.out.2.2 _ (List.mem_of_getElem? hpi)
      have hmin : min p0 p1 = p0 := by omega
      have hmax : max p0 p1 = p1 := by omega
      have HL2 : Hid (Lnk (D.put (klOf p0 p1) (.agg [])) (ls.take (i + 1)) ∧ Tidy (D.put (klOf p0 p1) (.agg [])) ∧ Maps.size (D.put (klOf p0 p1) (.agg [])) ≤ i + 1) := ⟨Lnk.snoc (p := ⟨p0, p1⟩) HL.out.1 HL.out.2.1 HR.out.1 hpi hp64.1 hp64.2, HL.out.2.1.put (show WideAt.IsKeyLit (klOf p0 p1) from trivial) _, by have := HL.out.2.2; rw [size_put HL.out.2.1]; split <;> omega⟩
      have hin : IntKind.i64.wrap ((i : Int) + 1) = (i : Int) + 1 := by rw [IntKind.wrap_i64]; have := HM.out; omega
      have hMn := HC.out M (.inr (.inl rfl))
      have hwr := hb.size
      clear hpl hra hp hpi
      go_wp2_with ((with_reducible show wpList _ _ _ (Oper.mk _ (Op.load 65 (Operand.tmp 27)) _ _ _ _ :: _) _ _); refine wpList_load65m rfl _ rfl g1 (off + i * 2) p0 p1 rfl hrp ?_)
      refine wp_region_any (by kernel_rfl) ?_
      change wpAny _ _ _ _ _ _ _ (World.drew _)
      obtain ⟨w6, hw6⟩ : ∃ X, World.drew (wr.alloc (.cells #[.int .i64 p0, .int .i64 p1] 65)) = X := ⟨_, rfl⟩
      have b6 : Below wr.heap.size wr w6 := by rw [← hw6]; exact ((Below.refl _ _).alloc (Nat.le_refl _) _).drew
      have H6 : w6.heap[wr.heap.size]? = some (.cells #[.int .i64 p0, .int .i64 p1] 65 (0, 0)) := by rw [← hw6]; exact World.alloc_heap_new _ _
      rw [hw6]
      clear hw6
      have B6 := B.below b6
      have hlM : wr.heap.size ≠ M := by have := B.map.lt; omega
      refine any_take 0 29 (.pointer (some ⟨b, 0, none⟩)) rfl rfl (by kernel_rfl) (by kernel_rfl) (by kernel_rfl) (fun _ _ _ h => h) (Or.inl ⟨by rfl, by intro w; go_simp⟩) ?_
      try simp only [Act.put, List.setIfInBounds_toArray, List.set_cons_zero, List.set_cons_succ]
      refine any_take 1 30 (.pointer (some ⟨b, 0, none⟩)) rfl rfl (by kernel_rfl) (by kernel_rfl) (by kernel_rfl) (fun _ _ _ h => h) (Or.inl ⟨by rfl, by intro w; go_simp⟩) ?_
      try simp only [Act.put, List.setIfInBounds_toArray, List.set_cons_zero, List.set_cons_succ]
      refine any_take 2 31 (.pointer (some ⟨b, 2, none⟩)) rfl rfl (by kernel_rfl) (by kernel_rfl) (by kernel_rfl) (fun _ _ _ h => h) (Or.inl ⟨by rfl, by intro w; go_simp⟩) ?_
      try simp only [Act.put, List.setIfInBounds_toArray, List.set_cons_zero, List.set_cons_succ]
      refine any_take 5 34 (.agg #[]) rfl rfl (by kernel_rfl) (by kernel_rfl) (by kernel_rfl) (fun _ _ _ h => h) (Or.inl ⟨by rfl, by intro w; go_simp⟩) ?_
      try simp only [Act.put, List.setIfInBounds_toArray, List.set_cons_zero, List.set_cons_succ]
      refine wpAny_narrow (fun W => Only (at1 M) w6 W) _ _ _ _ ?_
      refine anyH_take 3 32 (.map (some M)) rfl rfl (by kernel_rfl) (by kernel_rfl) (by kernel_rfl) (fun _ _ _ h => h) (Or.inl ⟨by rfl, by intro w hSw; have c2 := row_cell ((hSw.block b (row_lt B6.obj) B6.bM).trans B6.obj) 2 (.map (some M)) rfl; go_simp⟩) ((Only.refl _ _)) ?_
      try simp only [Act.put, List.setIfInBounds_toArray, List.set_cons_zero, List.set_cons_succ]
      refine anyH_take 4 33 (lnk p0 p1) rfl rfl (by kernel_rfl) (by kernel_rfl) (by kernel_rfl) (fun _ _ _ h => h) (Or.inl ⟨by rfl, by intro X hSw; exact exec_load65 rfl rfl ((hSw.block _ (row_lt H6) hlM).trans H6)⟩) (Only.refl _ _) ?_
      try simp only [Act.put, List.setIfInBounds_toArray, List.set_cons_zero, List.set_cons_succ]
      refine wpAnyH_ready (rs := [6]) (by kernel_rfl) (by simp) ?_
      refine AllReadyH.cons rfl (fun K hK => ?_) AllReadyH.nil
      rw [if_pos (by rfl)]
      refine wp_update65 (D := D) (k := i) (M := M) (x := p0) (y := p1) (Operand.tmp 32) (Operand.tmp 33) (Operand.tmp 34) (by rfl) (by rfl) (by show lnk p0 p1 = _; rw [hmin, hmax]) (by rfl) B6.map (by have := HM.out; unfold maxLen; omega) hp64.1 hp64.2 ?_
      intro w7 m7 o7
      refine hK.out _ _ o7 (fun hS => ?_)
      clear hK
      refine wpAnyH_done (by kernel_rfl) ?_ _
      have B7 := B6.turned o7 m7
      rw [hmin, hmax] at B7
      have b7 : Below w.heap.size w w7 := (hb.trans (b6.mono hb.size)).trans (o7.below (hb.trans (b6.mono hb.size)).size (fun q hq => by have e : q = M := hq; rw [e]; exact hMn))
      clear hS H6 B6 m7 o7 b6 hlM
      go_wp2
      go_roundg (gk - 1)
      case measure => omega
      case rel => exact ⟨i + 1, _, by first | rfl | go_num, by omega, B7, b7, HL2⟩
    · have hiI : ¬ (i : Int) < (m : Int) := by omega
      have e : i = m := by omega
      subst e
      have HE : Hid (ls.take i = ls) := ⟨by rw [← K.size]; exact List.take_length⟩
      go_wp2
      refine bodyPost_ret (results_tmp2 rfl _ _ _) rfl ?_
      refine ⟨b, rfl, hb, M, a', c', D, B, HC.out, ?_, HL.out.2.1, HL.out.2.2⟩
      have := HL.out.1
      rwa [HE.out] at this
end Go.Proofs.Ytoppecppmjpgiaa

namespace Go.Proofs.Ytoppecppmjpgiaa
open Go.ChangeShapes Go.WideShapes Go.ChangeAt Go.RowKit Go.Maps
set_option linter.unusedVariables false
set_option linter.unusedSimpArgs false
theorem of_wf {x : Int} (h : Wf x) : I64 x := by
  unfold Wf at h
  simp [Lit.wf, IntKind.min, IntKind.max, IntKind.signed, IntKind.bits] at h
  unfold I64
  omega
theorem Lnk.i64 {D : DataW Unit} {ls : List LK} (h : Lnk D ls) : ∀ d ∈ ls, I64 d.fst ∧ I64 d.snd := by
  intro d hd
  have := ((h.keys.2 (pr d)).1 (List.mem_map_of_mem hd)).1
  exact ⟨of_wf this.1, of_wf this.2⟩
theorem map_back (ls : List LK) : (ls.map pr).map toLK = ls := by
  rw [List.map_map]
  exact List.map_id'' (fun _ => rfl) ls
theorem state_ok {b M k L : Nat} {a : Option Addr} {cap : Nat} {s : St} {D : DataW Unit} {W : World} (B : BagAt W b M a s.ds.length cap k s.next s.ds D) (O : Ok L k D s) (hL : L ≤ 8796093022208) :
    Calls Try.prog 12 #[.pointer (some ⟨b, 0, none⟩)] W fun e W' => ∃ a' c' la lc, e = .returned (mailV s.next a' s.ds.length c' la s.ls.length lc) ∧ Below W.heap.size W W' ∧ Lst W' a' s.ds.length c' s.ds ∧ Lks W' la s.ls.length lc s.ls := by
  refine (state_any b M a s.ds.length cap k s.next s.ds D W B (by have := O.good.len; omega) (by have := O.size; omega)).mono ?_
  rintro e W' ⟨a', c', la, m, lc, rfl, bel, _, _, L1, ts, hk, hr, K1⟩
  have e1 : ts = s.ls.map pr := rise_one hr O.lnk.rise (hk.one O.lnk.keys)
  rw [e1, map_back] at K1
  have e2 := K1.size
  subst e2
  exact ⟨a', c', la, lc, rfl, bel, L1, K1⟩
/-- Three bags: b in the state s1; c, and the document's r, in the state s2. -/
structure Tr (w : World) (b M k : Nat) (D : DataW Unit) (s1 : St) (c M2 k2 : Nat) (D2 : DataW Unit) (r : Nat) (s2 : St) (W : World) : Prop where
  out : ∃ a cap a2 cap2 ra rc la lc, BagAt W b M a s1.ds.length cap k s1.next s1.ds D ∧ BagAt W c M2 a2 s2.ds.length cap2 k2 s2.next s2.ds D2 ∧ RAt W r s2.next ra s2.ds.length rc s2.ds la s2.ls.length lc s2.ls ∧ (∀ q, bagC b M a q → ¬ bagC c M2 a2 q) ∧ (∀ q, bagC b M a q → ¬ ragC r ra la q) ∧ (∀ q, bagC c M2 a2 q → ¬ ragC r ra la q) ∧ (∀ q, bagC b M a q ∨ bagC c M2 a2 q ∨ ragC r ra la q → w.heap.size ≤ q)
  below : Below w.heap.size w W
section
variable {w W W' : World} {b M k : Nat} {D : DataW Unit} {s1 s2 : St} {c M2 k2 r L : Nat} {D2 : DataW Unit}
theorem Tr.later (h : Tr w b M k D s1 c M2 k2 D2 r s2 W) (hb : Below W.heap.size W W') : Tr w b M k D s1 c M2 k2 D2 r s2 W' := by
  obtain ⟨a, cap, a2, cap2, ra, rc, la, lc, B, B2, R, g1, g2, g3, g4⟩ := h.out
  exact ⟨⟨a, cap, a2, cap2, ra, rc, la, lc, B.below hb, B2.below hb, R.below hb, g1, g2, g3, g4⟩, h.below.trans (hb.mono h.below.size)⟩
theorem Tr.second (h : Tr w b M k D s1 c M2 k2 D2 r s2 W) (O : Ok L k2 D2 s2) (hL : L < 8796093022206) (q : ActS) (hq : ActOk q) :
    Calls Try.prog 11 #[.pointer (some ⟨c, 0, none⟩), .pointer (some ⟨r, 0, none⟩), act5 q.kd q.nn q.x q.y q.s] W fun e W' => e = .returned (.bool true) ∧ ∃ k2' D2', Tr w b M k D s1 c M2 k2' D2' r (stp q s2) W' ∧ Ok (L + 1) k2' D2' (stp q s2) := by
  obtain ⟨a, cap, a2, cap2, ra, rc, la, lc, B, B2, R, g1, g2, g3, g4⟩ := h.out
  have T : Bt W (fun q => bagC c M2 a2 q ∨ ragC r ra la q) c M2 r k2 s2.next s2.ds D2 s2.next s2.ds s2.ls W := ⟨⟨a2, cap2, ra, rc, la, lc, B2, R, g3, fun q hq => .inl hq⟩, Only.refl _ _⟩
  refine (act_any s2 T O hL q hq).mono ?_
  rintro e W' ⟨he, k', D', T', O'⟩
  obtain ⟨a2', cap2', ra', rc', la', lc', B2', R', h1, h2⟩ := T'.out
  have no : ∀ q, bagC b M a q → bagC c M2 a2' q ∨ ragC r ra' la' q → False := by
    intro q hq hc
    rcases h2 q hc with (h | h) | h
    · exact g1 q hq h
    · exact g2 q hq h
    · have := B.ltC q hq; omega
  refine ⟨he, k', D', ⟨⟨a, cap, a2', cap2', ra', rc', la', lc', B.of_blocks fun q hq => T'.only.block q (B.ltC q hq) (fun hc => hc.elim (g1 q hq) (g2 q hq)), B2', R', fun q hq hc => no q hq (.inl hc), fun q hq hc => no q hq (.inr hc), h1, ?_⟩, ?_⟩, O'⟩
  · rintro q (hq | hq)
    · exact g4 q (.inl hq)
    · rcases h2 q hq with h' | h'
      · exact g4 q (.inr h')
      · exact Nat.le_trans h.below.size h'
  · exact h.below.trans (T'.only.below h.below.size fun q hq => g4 q (.inr hq))
theorem Tr.first {V : World} (h : Tr w b M k D s1 c M2 k2 D2 r s2 V) (hb : Below V.heap.size V W) (O : Ok L k D s1) (hL : L < 8796093022206) (q : ActS) (hq : ActOk q) {r' : Nat} {ra' : Option Addr} {rc' : Nat} {la' : Option Addr} {lc' : Nat} (R' : RAt W r' s1.next ra' s1.ds.length rc' s1.ds la' s1.ls.length lc' s1.ls) (hn : ∀ q, ragC r' ra' la' q → V.heap.size ≤ q) :
    Calls Try.prog 11 #[.pointer (some ⟨b, 0, none⟩), .pointer (some ⟨r', 0, none⟩), act5 q.kd q.nn q.x q.y q.s] W fun e W' => e = .returned (.bool true) ∧ ∃ k' D', Tr w b M k' D' (stp q s1) c M2 k2 D2 r s2 W' ∧ Ok (L + 1) k' D' (stp q s1) := by
  obtain ⟨a, cap, a2, cap2, ra, rc, la, lc, B0, B20, R0, g1, g2, g3, g4⟩ := h.out
  have B := B0.below hb
  have B2 := B20.below hb
  have R := R0.below hb
  have T : Bt W (fun q => bagC b M a q ∨ ragC r' ra' la' q) b M r' k s1.next s1.ds D s1.next s1.ds s1.ls W := ⟨⟨a, cap, ra', rc', la', lc', B, R', fun q hq hc => (by have := B0.ltC q hq; have := hn q hc; omega), fun q hq => .inl hq⟩, Only.refl _ _⟩
  refine (act_any s1 T O hL q hq).mono ?_
  rintro e W' ⟨he, k', D', T', O'⟩
  obtain ⟨a', cap', ra1, rc1, la1, lc1, B', R1, h1, h2⟩ := T'.out
  have hs := hb.size
  have noc : ∀ q, bagC c M2 a2 q → ¬ (bagC b M a q ∨ ragC r' ra' la' q) := fun q hq hc => hc.elim (fun h => g1 q h hq) (fun h => by have := B20.ltC q hq; have := hn q h; omega)
  have nor : ∀ q, ragC r ra la q → ¬ (bagC b M a q ∨ ragC r' ra' la' q) := fun q hq hc => hc.elim (fun h => g2 q h hq) (fun h => by have := R0.ltC q hq; have := hn q h; omega)
  have keepR : ∀ q, ragC r ra la q → W'.heap[q]? = W.heap[q]? := fun q hq => T'.only.block q (R.ltC q hq) (nor q hq)
  refine ⟨he, k', D', ⟨⟨a', cap', a2, cap2, ra, rc, la, lc, B', B2.of_blocks fun q hq => T'.only.block q (B2.ltC q hq) (noc q hq), R.of_blocks T'.only.size (keepR _ (.inl rfl)) (fun q ⟨o, e⟩ => keepR q (.inr (.inl ⟨o, e⟩))) (fun g o e => keepR g (.inr (.inr ⟨o, e⟩))), ?_, ?_, g3, ?_⟩, ?_⟩, O'⟩
  · intro q hq hc
    rcases h2 q (.inl hq) with h' | h'
    · exact noc q hc h'
    · have := B20.ltC q hc; omega
  · intro q hq hc
    rcases h2 q (.inl hq) with h' | h'
    · exact nor q hc h'
    · have := R0.ltC q hc; omega
  · rintro q (hq | hq)
    · rcases h2 q (.inl hq) with (h' | h') | h'
      · exact g4 q (.inl h')
      · exact Nat.le_trans h.below.size (hn q h')
      · have := h.below.size; omega
    · exact g4 q (.inr hq)
  · refine (h.below.trans (hb.mono h.below.size)).trans (T'.only.below (Nat.le_trans h.below.size hs) fun q hq => hq.elim (fun h' => g4 q (.inl h')) fun h' => Nat.le_trans h.below.size (hn q h'))
end
end Go.Proofs.Ytoppecppmjpgiaa

namespace Go.Proofs.Ytoppecppmjpgiaa
open Go.ChangeShapes Go.WideShapes Go.ChangeAt Go.RowKit Go.Maps
set_option linter.unusedVariables false
set_option linter.unusedSimpArgs false
theorem own_typ {W : World} {base : Nat} {a : Option Addr} {n c m : Nat} {cs : List Value} (h : W.ownsRow base 65 2 (.slice a n c) m cs) {g off : Nat} (e : a = some ⟨g, off, none⟩) : ∃ cur, W.heap[g]? = some (.cells cur 65 (0, 0)) := by
  rcases h.2 with ⟨h1, h0⟩ | ⟨g', cap, cur, h1, hg, hh, _⟩
  · subst e; cases h1
  · subst e; cases h1; exact ⟨cur, hh⟩
theorem run_copy_lksT {W : World} {a : Option Addr} {m cap : Nat} {ls : List LK} (ty : TypeId) (L : Lks W a m cap ls) (hm : m * 16 ≤ 140737488355328) :
    ∃ a' cap' w', (Builtin.append_ #[23, 23] ty #[.slice none 0 0, .slice a m cap]).run Try.prog W = .ok (.slice a' m cap') w' ∧ Lks w' a' m cap' ls ∧ (∀ g off, a' = some ⟨g, off, none⟩ → W.heap.size ≤ g) ∧ Below W.heap.size W w' ∧ (∀ g off, a' = some ⟨g, off, none⟩ → ∃ cur, w'.heap[g]? = some (.cells cur 65 (0, 0))) := by
  obtain ⟨i0, hi, hz0, hz1, hz2⟩ := info_parts info65
  rcases L.mem with ⟨rfl, rfl⟩ | ⟨g, off, rfl, hlt, hr⟩
  · have h0 : m = 0 := by have := L.le; omega
    subst h0
    have e := List.eq_nil_of_length_eq_zero L.size
    subst e
    exact ⟨none, 0, W, run_append_owned_none (P := Try.prog) (w := W) W.heap.size 23 ty 65 i0 2 Try.underlying23 hi _ 0 [] (World.ownsRow_nil W _ 65 2), ⟨rfl, Nat.le_refl _, by omega, .inl ⟨rfl, rfl⟩⟩, fun g off e => (by cases e), Below.refl _ _, fun g off e => (by cases e)⟩
  · have hl : (lcs ls).length = m * 2 := by rw [lcs_len, L.size]
    obtain ⟨v', w', hrun, r1, r2, _⟩ := run_append_own (P := Try.prog) W W.heap.size 23 ty 65 i0 _ 2 16 Try.underlying23 hi hz0 hz1 hz2 rfl (by decide) (.slice none 0 0) 0 [] (World.ownsRow_nil W _ 65 2) ⟨g, off, none⟩ m cap (lcs ls) hl (fun j u hj => by
      rw [add_plain]
      exact Lks.cells_at (cap := cap) L.size hr j u hj) (lcs_one ls) (by unfold maxLen; omega) (by omega) (Nat.le_refl _)
    rw [Nat.zero_add, List.nil_append] at r1
    have r1' := r1
    obtain ⟨a', cap', rfl, L', hb⟩ := own_lks r1 L.size
    exact ⟨a', cap', w', hrun, L', hb, ⟨r2.os, r2.tape, r2.output, r2.size, fun q hq => r2.block q hq (by simp [Value.ownBlock])⟩, fun g off e => own_typ r1' e⟩
theorem wpList_copy_lksT {ops : Array Oper} {rest : List Oper} {o : Oper} {A : Act} {W : World} {Q : Exit → Act → World → Prop} (hgd : o.guard = none) (s x : Operand) (ho : o.op = .call { callee := .builtin .append, args := #[s, x], argTypes := #[23, 23] }) {a : Option Addr} {m cap : Nat} {ls : List LK}
    (hs : A.eval s = .slice none 0 0) (hx : A.eval x = .slice a m cap) (L : Lks W a m cap ls) (hm : m * 16 ≤ 140737488355328)
    (h : ∀ a' cap' w', Lks w' a' m cap' ls → (∀ g off, a' = some ⟨g, off, none⟩ → W.heap.size ≤ g) → Below W.heap.size W w' → (∀ g off, a' = some ⟨g, off, none⟩ → ∃ cur, w'.heap[g]? = some (.cells cur 65 (0, 0))) → wpList Try.prog ops Q rest (A.put o.dst (.slice a' m cap')) w') : wpList Try.prog ops Q (o :: rest) A W := by
  obtain ⟨a', cap', w', hrun, L', hb, hB, hT⟩ := run_copy_lksT o.type L hm
  refine wpList_plain hgd fun K hK => ?_
  unfold Oper.wp
  simp [execOp, ho, resolve, invoke, builtin, hs, hx, hrun, Result.andThen]
  exact hK _ _ (h a' cap' w' L' hb hB hT)
set_option maxHeartbeats 4000000 in
theorem copy_anyT (next : Int) (a : Option Addr) (n c : Nat) (ds : List DG) (la : Option Addr) (m lc : Nat) (ls : List LK) (w : World) (L : Lst w a n c ds) (K : Lks w la m lc ls) (hn : n * 40 ≤ 140737488355328) (hm : m * 16 ≤ 140737488355328) :
    Calls Try.prog 7 #[mailV next a n c la m lc] w fun e w' => ∃ a' c' la' lc', e = .returned (mailV next a' n c' la' m lc') ∧ Lst w' a' n c' ds ∧ Lks w' la' m lc' ls ∧ (∀ g off, a' = some ⟨g, off, none⟩ → w.heap.size ≤ g) ∧ (∀ g off, la' = some ⟨g, off, none⟩ → w.heap.size ≤ g) ∧ Below w.heap.size w w' ∧ (∀ g off, la' = some ⟨g, off, none⟩ → ∃ cur, w'.heap[g]? = some (.cells cur 65 (0, 0))) := by
  have C0 := Cp.start w #[.int .i64 next, .slice a n c, .slice la m lc] #[.int .i64 0, .slice none 0 0, .slice none 0 0] #[.int .i64 next, .slice none 0 0, .slice none 0 0]
  have HN : Hid (n * 40 ≤ 140737488355328) := ⟨hn⟩
  have HM : Hid (m * 16 ≤ 140737488355328) := ⟨hm⟩
  have LL := L.below C0.below
  clear hn hm
  go_enter Try.func7, Try.ntmps7
  go_wp2_with (first
    | ((with_reducible show wpList _ _ _ (Oper.mk _ (Op.call { callee := Callee.builtin Builtin.append, args := _, argTypes := #[22, 22] }) _ _ _ _ :: _) _ _); go_must (refine wpList_copy_lst rfl _ _ rfl rfl rfl LL HN.out ?_; intro a1 c1 w1 L1 o1 b1; have C1 := C0.later b1; have ⟨p0, p1, p2⟩ := cel3 C1.one; have ⟨z0, z1, z2⟩ := cel3 C1.two; have ⟨q0, q1, q2⟩ := cel3 C1.three; have f1 := row_free C1.three 1))
    | ((with_reducible show wpList _ _ _ (Oper.mk _ (Op.call { callee := Callee.builtin Builtin.append, args := _, argTypes := #[23, 23] }) _ _ _ _ :: _) _ _); go_must (have C2 := C1.set 1 (.slice a1 n c1); have KK := K.below C2.below; refine wpList_copy_lksT rfl _ _ rfl rfl rfl KK HM.out ?_; intro a2 c2 w2 K2 o2 b2 hty2; have C3 := C2.later b2; have ⟨r0, r1, r2⟩ := cel3 C3.one; have ⟨s0, s1, s2⟩ := cel3 C3.two; have ⟨t0, t1, t2⟩ := cel3 C3.three; have f2 := row_free C3.three 2; have f3 := row_free C3.two 0; have f4 := row_free C3.two 1; have f5 := row_free C3.two 2)))
  have C4 := (((C3.set 2 (.slice a2 m c2)).out 0 (.int .i64 next)).out 1 (.slice a1 n c1)).out 2 (.slice a2 m c2)
  have far : ∀ g, w.heap.size + 3 ≤ g → g < w2.heap.size → ((((w2.setCell ⟨w.heap.size + 1 + 1, 2, none⟩ (.slice a2 m c2)).setCell ⟨w.heap.size + 1, 0, none⟩ (.int .i64 next)).setCell ⟨w.heap.size + 1, 1, none⟩ (.slice a1 n c1)).setCell ⟨w.heap.size + 1, 2, none⟩ (.slice a2 m c2)).heap[g]? = w2.heap[g]? := fun g h1 h2 =>
    set_far (set_far (set_far (set_far rfl (by omega) _ _) (by omega) _ _) (by omega) _ _) (by omega) _ _
  have hs1 : w1.heap.size ≤ w2.heap.size := by have := b2.size; simpa [World.setCell] using this
  have e1 : ∀ g off, a1 = some ⟨g, off, none⟩ → w.heap.size + 3 ≤ g := fun g off e => by have := o1 g off e; simp at this; omega
  have hsz2 := C2.size
  have e2 : ∀ g off, a2 = some ⟨g, off, none⟩ → w.heap.size + 3 ≤ g := fun g off e => by have := o2 g off e; omega
  refine bodyPost_ret (results_row1 rfl _ _ (w.heap.size + 1) _ rfl (load_25m C4.two)) rfl ⟨a1, c1, a2, c2, rfl, L1.of_block fun g off e => ?_, K2.of_block (by simp [World.setCell]) fun g off e => ?_, fun g off e => by have := e1 g off e; omega, fun g off e => by have := e2 g off e; omega, C4.below, fun g off e => ?_⟩
  · have hlt : g < w1.heap.size := by subst e; exact L1.lt
    refine (far g (e1 g off e) (by omega)).trans ((b2.block g (by simpa [World.setCell] using hlt)).trans ?_)
    exact set_far rfl (by have := e1 g off e; omega) _ _
  · refine far g (e2 g off e) ?_
    rcases K2.mem with ⟨e', _⟩ | ⟨g', off', e', hl, _⟩
    · rw [e'] at e; cases e
    · rw [e'] at e; cases e; exact hl
  · obtain ⟨cur, ht⟩ := hty2 g off e
    exact ⟨cur, (far g (e2 g off e) (row_lt ht)).trans ht⟩
end Go.Proofs.Ytoppecppmjpgiaa

namespace Go.Proofs.Ytoppecppmjpgiaa
open Go.ChangeShapes Go.WideShapes Go.ChangeAt Go.RowKit Go.Maps Go.Sort
set_option linter.unusedVariables false
set_option linter.unusedSimpArgs false
/-- Numbers rise, above l, and the last is not above next. -/
def upB (next : Int) : Int → List DG → Bool
  | l, [] => decide (l ≤ next)
  | l, d :: ds => decide (l < d.num) && upB next d.num ds
theorem upB_drop (next l : Int) (ds : List DG) (i : Nat) (d : DG) (h : ds[i]? = some d) : upB next l (ds.drop i) = (decide (l < d.num) && upB next d.num (ds.drop (i + 1))) := by
  obtain ⟨h1, e1⟩ := List.getElem?_eq_some_iff.1 h
  rw [List.drop_eq_getElem_cons h1, e1]
  rfl
set_option maxRecDepth 100000 in
set_option maxHeartbeats 4000000 in
theorem rising_any (a : Option Addr) (n cap : Nat) (ds : List DG) (next : Int) (w : World) (L : Lst w a n cap ds) : Calls Try.prog 44 #[.slice a n cap, .int .i64 next] w fun e w' => e = .returned (.bool (upB next 0 ds)) ∧ Below w.heap.size w w' := by
  have HN : Hid (n ≤ 9223372036854775807 ∧ ds.length = n) := ⟨by have := L.le; have := L.max; omega, L.size⟩
  go_enter Try.func44, Try.ntmps44
  go_wp2
  go_loopg [5, 10] n (fun g v5 v10 wr => ∃ (i : Nat) (l : Int), v5 = .int .i64 l ∧ v10 = .int .i64 (i : Int) ∧ i + g = n ∧ Below w.heap.size w wr ∧ Hid (upB next 0 ds = upB next l (ds.drop i)))
  case atStart => exact ⟨0, 0, by first | rfl | go_num, by first | rfl | go_num, by omega, Below.refl _ _, ⟨rfl⟩⟩
  case round =>
    obtain ⟨i, l, rfl, rfl, hg, hb, HL⟩ := hrel
    by_cases hi : i < n
    · have hiI : (i : Int) < (n : Int) := by omega
      have hi0 : (0 : Int) ≤ (i : Int) := by omega
      obtain ⟨g1, off, rfl, hdm, hr⟩ := (L.below hb).at i hi
      obtain ⟨⟨num, src, dst, body⟩, hd⟩ : ∃ d, ds.getD i DG.z = d := ⟨_, rfl⟩
      rw [hd] at hr
      have hdi : ds[i]? = some ⟨num, src, dst, body⟩ := by rw [← hd]; exact hdm
      have HX := HL.out
      rw [upB_drop next l ds i _ hdi] at HX
      have HY : Hid (upB next 0 ds = (decide (l < num) && upB next num (ds.drop (i + 1)))) := ⟨HX⟩
      have hin : IntKind.i64.wrap ((i : Int) + 1) = (i : Int) + 1 := by rw [IntKind.wrap_i64]; have := HN.out; omega
      have hb2 := hb.alloc hb.size (.cells #[.int .i64 num, .int .i64 src, .int .i64 dst, .string body] 33)
      clear HX HL hdi hdm hd
      by_cases hle : num ≤ l
      · go_wp2_with ((with_reducible show wpList _ _ _ (Oper.mk _ (Op.load 33 (Operand.tmp 12)) _ _ _ _ :: _) _ _); refine wpList_load33x rfl _ rfl g1 (off + i * 4) num src dst body rfl hr ?_)
        go_ret
        have : ¬ l < num := by omega
        exact ⟨by rw [HY.out, decide_eq_false this]; rfl, hb2⟩
      · go_wp2_with ((with_reducible show wpList _ _ _ (Oper.mk _ (Op.load 33 (Operand.tmp 12)) _ _ _ _ :: _) _ _); refine wpList_load33x rfl _ rfl g1 (off + i * 4) num src dst body rfl hr ?_)
        go_roundg (gk - 1)
        case measure => omega
        case rel => exact ⟨i + 1, num, by first | rfl | go_num, by first | rfl | go_num, by omega, hb2, ⟨by have : l < num := (by omega); rw [HY.out, decide_eq_true this]; rfl⟩⟩
    · have hiI : ¬ (i : Int) < (n : Int) := by omega
      have hE : Hid (upB next 0 ds = decide (l ≤ next)) := ⟨by rw [HL.out, List.drop_eq_nil_of_le (by have := HN.out; omega)]; rfl⟩
      go_wp2
      go_ret
      exact ⟨by rw [hE.out]; first | rfl | simp, hb⟩
end Go.Proofs.Ytoppecppmjpgiaa

namespace Go.Proofs.Ytoppecppmjpgiaa
open Go.ChangeShapes Go.WideShapes Go.ChangeAt Go.RowKit Go.Maps Go.Sort
set_option linter.unusedVariables false
set_option linter.unusedSimpArgs false
theorem lkz_iff (q d : LK) : (0 ≤ lkz (q.fst, q.snd) (d.fst, d.snd)) ↔ ¬ ltP (pr q) (pr d) := by
  have h2 := lt_lkz (q.fst, q.snd) (d.fst, d.snd)
  unfold ltOf at h2
  have h3 : (lkz (q.fst, q.snd) (d.fst, d.snd) < 0) ↔ ltP (q.fst, q.snd) (d.fst, d.snd) := decide_eq_decide.1 h2
  show _ ↔ ¬ ltP (q.fst, q.snd) (d.fst, d.snd)
  rw [← h3]
  omega
/-- Links in order, the one ahead of them p. -/
def prB : Option LK → List LK → Bool
  | _, [] => true
  | p, d :: ds => decide (d.fst < d.snd) && ((match p with | none => true | some q => decide (ltP (pr q) (pr d))) && prB (some d) ds)
theorem prB_drop (p : Option LK) (ls : List LK) (i : Nat) (d : LK) (h : ls[i]? = some d) : prB p (ls.drop i) = (decide (d.fst < d.snd) && ((match p with | none => true | some q => decide (ltP (pr q) (pr d))) && prB (some d) (ls.drop (i + 1)))) := by
  obtain ⟨h1, e1⟩ := List.getElem?_eq_some_iff.1 h
  rw [List.drop_eq_getElem_cons h1, e1]
  rfl
/-- The link ahead of place i. -/
def ahead (ls : List LK) (i : Nat) : Option LK := if i = 0 then none else ls[i - 1]?
set_option maxRecDepth 100000 in
set_option maxHeartbeats 8000000 in
theorem pairs_any (la : Option Addr) (m lc : Nat) (ls : List LK) (w : World) (K : Lks w la m lc ls) : Calls Try.prog 45 #[.slice la m lc] w fun e w' => e = .returned (.bool (prB none ls)) ∧ Below w.heap.size w w' := by
  have HM : Hid (m ≤ 9223372036854775807 ∧ ls.length = m) := ⟨by have := K.le; have := K.max; omega, K.size⟩
  go_enter Try.func45, Try.ntmps45
  go_wp2
  go_loopg [7] m (fun g v7 wr => ∃ i : Nat, v7 = .int .i64 (i : Int) ∧ i + g = m ∧ Below w.heap.size w wr ∧ Hid (prB none ls = prB (ahead ls i) (ls.drop i)))
  case atStart => exact ⟨0, by first | rfl | go_num, by omega, Below.refl _ _, ⟨rfl⟩⟩
  case round =>
    obtain ⟨i, rfl, hg, hb, HL⟩ := hrel
    by_cases hi : i < m
    · have hiI : (i : Int) < (m : Int) := by omega
      have hi0 : (0 : Int) ≤ (i : Int) := by omega
      obtain ⟨g1, off, rfl, hgl, hra⟩ : ∃ g off, la = some ⟨g, off, none⟩ ∧ g < w.heap.size ∧ ∀ i, i < m → w.rangeAt g (off + i * 2) (ls.getD i LK.z).cells := by
        rcases K.mem with ⟨e, h0⟩ | h
        · have := K.le; omega
        · exact h
      obtain ⟨⟨p0, p1⟩, hp⟩ : ∃ d, ls.getD i LK.z = d := ⟨_, rfl⟩
      have hrp := range_later (hra i hi) hgl hb
      rw [hp] at hrp
      have hpi : ls[i]? = some ⟨p0, p1⟩ := by rw [get_z ls i (by have := HM.out; omega), hp]
      have HX := HL.out
      rw [prB_drop (ahead ls i) ls i _ hpi] at HX
      have HP : Hid (ahead ls (i + 1) = some ⟨p0, p1⟩) := ⟨by unfold ahead; rw [if_neg (by omega)]; exact hpi⟩
      have hin : IntKind.i64.wrap ((i : Int) + 1) = (i : Int) + 1 := by rw [IntKind.wrap_i64]; have := HM.out; omega
      clear HL
      by_cases hpl : p1 ≤ p0
      · have HY : Hid (prB none ls = false) := ⟨by rw [HX, decide_eq_false (show ¬ p0 < p1 by omega)]; rfl⟩
        have b4 := hb.alloc hb.size (.cells #[.int .i64 p0, .int .i64 p1] 65)
        clear HX HP hp hpi
        go_wp2_with ((with_reducible show wpList _ _ _ (Oper.mk _ (Op.load 65 (Operand.tmp 10)) _ _ _ _ :: _) _ _); refine wpList_load65m rfl _ rfl g1 (off + i * 2) p0 p1 rfl hrp ?_)
        go_ret
        exact ⟨by rw [HY.out]; rfl, b4⟩
      rw [decide_eq_true (show p0 < p1 by omega), Bool.true_and] at HX
      by_cases hz : i = 0
      · subst hz
        have HY : Hid (prB none ls = prB (some ⟨p0, p1⟩) (ls.drop 1)) := ⟨HX⟩
        clear HX
        go_wp2_with ((with_reducible show wpList _ _ _ (Oper.mk _ (Op.load 65 (Operand.tmp 10)) _ _ _ _ :: _) _ _); refine wpList_load65m rfl _ rfl g1 (off + 0 * 2) p0 p1 (by simp; try rfl) hrp ?_)
        have b4 := hb.alloc hb.size (.cells #[.int .i64 p0, .int .i64 p1] 65)
        generalize hW4 : World.alloc wr _ = W4 at *
        refine wp_region_any (by kernel_rfl) ?_
        change wpAny _ _ _ _ _ _ _ (World.drew _)
        refine wpAny_narrow (fun W' => Below W4.heap.size W4 W') _ _ _ _ ?_
        refine anyH_take 0 17 (.int .i64 0) rfl rfl (by kernel_rfl) (by kernel_rfl) (by kernel_rfl) (fun _ _ _ h => h) (Or.inl ⟨by rfl, by intro w hSw; go_simp⟩) ((Below.refl _ _).drew) ?_
        try simp only [Act.put, List.setIfInBounds_toArray, List.set_cons_zero, List.set_cons_succ]
        refine anyH_take 1 18 (.bool false) rfl rfl (by kernel_rfl) (by kernel_rfl) (by kernel_rfl) (fun _ _ _ h => h) (Or.inl ⟨by rfl, by intro w hSw; go_simp⟩) ((Below.refl _ _).drew) ?_
        try simp only [Act.put, List.setIfInBounds_toArray, List.set_cons_zero, List.set_cons_succ]
        refine anyH_take 2 19 (.bool false) rfl rfl (by kernel_rfl) (by kernel_rfl) (by kernel_rfl) (fun _ _ _ h => h) (Or.inl ⟨by rfl, by intro w hSw; go_simp⟩) ((Below.refl _ _).drew) ?_
        try simp only [Act.put, List.setIfInBounds_toArray, List.set_cons_zero, List.set_cons_succ]
        refine anyH_take 3 20 (undef) rfl rfl (by kernel_rfl) (by kernel_rfl) (by kernel_rfl) (fun _ _ _ h => h) (Or.inr ⟨by rfl, rfl⟩) ((Below.refl _ _).drew) ?_
        try simp only [Act.put, List.setIfInBounds_toArray, List.set_cons_zero, List.set_cons_succ]
        refine anyH_take 4 21 (undef) rfl rfl (by kernel_rfl) (by kernel_rfl) (by kernel_rfl) (fun _ _ _ h => h) (Or.inr ⟨by rfl, rfl⟩) ((Below.refl _ _).drew) ?_
        try simp only [Act.put, List.setIfInBounds_toArray, List.set_cons_zero, List.set_cons_succ]
        refine anyH_take 5 22 (undef) rfl rfl (by kernel_rfl) (by kernel_rfl) (by kernel_rfl) (fun _ _ _ h => h) (Or.inr ⟨by rfl, rfl⟩) ((Below.refl _ _).drew) ?_
        try simp only [Act.put, List.setIfInBounds_toArray, List.set_cons_zero, List.set_cons_succ]
        refine anyH_take 6 23 (undef) rfl rfl (by kernel_rfl) (by kernel_rfl) (by kernel_rfl) (fun _ _ _ h => h) (Or.inr ⟨by rfl, rfl⟩) ((Below.refl _ _).drew) ?_
        try simp only [Act.put, List.setIfInBounds_toArray, List.set_cons_zero, List.set_cons_succ]
        refine anyH_take 7 24 (undef) rfl rfl (by kernel_rfl) (by kernel_rfl) (by kernel_rfl) (fun _ _ _ h => h) (Or.inr ⟨by rfl, rfl⟩) ((Below.refl _ _).drew) ?_
        try simp only [Act.put, List.setIfInBounds_toArray, List.set_cons_zero, List.set_cons_succ]
        refine anyH_take 8 25 (undef) rfl rfl (by kernel_rfl) (by kernel_rfl) (by kernel_rfl) (fun _ _ _ h => h) (Or.inr ⟨by rfl, rfl⟩) ((Below.refl _ _).drew) ?_
        try simp only [Act.put, List.setIfInBounds_toArray, List.set_cons_zero, List.set_cons_succ]
        refine anyH_take 9 26 (undef) rfl rfl (by kernel_rfl) (by kernel_rfl) (by kernel_rfl) (fun _ _ _ h => h) (Or.inr ⟨by rfl, rfl⟩) ((Below.refl _ _).drew) ?_
        try simp only [Act.put, List.setIfInBounds_toArray, List.set_cons_zero, List.set_cons_succ]
        refine anyH_take 10 27 (undef) rfl rfl (by kernel_rfl) (by kernel_rfl) (by kernel_rfl) (fun _ _ _ h => h) (Or.inr ⟨by rfl, rfl⟩) ((Below.refl _ _).drew) ?_
        try simp only [Act.put, List.setIfInBounds_toArray, List.set_cons_zero, List.set_cons_succ]
        refine anyH_take 11 28 (.bool false) rfl rfl (by kernel_rfl) (by kernel_rfl) (by kernel_rfl) (fun _ _ _ h => h) (Or.inl ⟨by rfl, by intro w hSw; go_simp⟩) ((Below.refl _ _).drew) ?_
        try simp only [Act.put, List.setIfInBounds_toArray, List.set_cons_zero, List.set_cons_succ]
        refine wpAnyH_done (by kernel_rfl) ?_ _
        have b5 := b4.drew
        go_wp2
        go_roundg (gk - 1)
        case measure => omega
        case rel => exact ⟨1, by first | rfl | go_num, by omega, b5, ⟨by rw [HP.out]; exact HY.out⟩⟩
      · have hzI : (0 : Int) < (i : Int) := by omega
        have hzN : 0 < i := by omega
        obtain ⟨⟨q0, q1⟩, hq⟩ : ∃ d, ls.getD (i - 1) LK.z = d := ⟨_, rfl⟩
        have hrq := range_later (hra (i - 1) (by omega)) hgl hb
        rw [hq] at hrq
        have hqi : ls[i - 1]? = some ⟨q0, q1⟩ := by rw [get_z ls (i - 1) (by have := HM.out; omega), hq]
        have hah : ahead ls i = some ⟨q0, q1⟩ := by unfold ahead; rw [if_neg hz]; exact hqi
        rw [hah] at HX
        have hk := lkz_iff ⟨q0, q1⟩ ⟨p0, p1⟩
        have hsub : IntKind.i64.wrap ((i : Int) - 1) = ((i - 1 : Nat) : Int) := by rw [IntKind.wrap_i64]; have := HM.out; omega
        have hs1 : ((i - 1 : Nat) : Int) < (m : Int) := by omega
        have hs0 : (0 : Int) ≤ ((i - 1 : Nat) : Int) := by omega
        by_cases hlk : 0 ≤ lkz (q0, q1) (p0, p1)
        · have HY : Hid (prB none ls = false) := ⟨by rw [HX]; simp only; rw [decide_eq_false (hk.1 hlk)]; rfl⟩
          clear hp hq hpi hqi HX hk HP hah
          go_wp2_with ((with_reducible show wpList _ _ _ (Oper.mk _ (Op.load 65 (Operand.tmp 10)) _ _ _ _ :: _) _ _); refine wpList_load65m rfl _ rfl g1 (off + i * 2) p0 p1 rfl hrp ?_)
          have y0 : (wr.alloc (.cells #[.int .i64 p0, .int .i64 p1] 65)).cell? ⟨wr.heap.size, 0, none⟩ = some (.int .i64 p0) := by simp
          have y1 : (wr.alloc (.cells #[.int .i64 p0, .int .i64 p1] 65)).cell? ⟨wr.heap.size, 1, none⟩ = some (.int .i64 p1) := by simp
          have z4 : wr.heap.size < (wr.alloc (.cells #[.int .i64 p0, .int .i64 p1] 65)).heap.size := by simp
          have b4 := hb.alloc hb.size (.cells #[.int .i64 p0, .int .i64 p1] 65)
          have b04 : Below wr.heap.size wr (wr.alloc (.cells #[.int .i64 p0, .int .i64 p1] 65)) := (Below.refl _ _).alloc (Nat.le_refl _) _
          have hq4 := range_later hrq (Nat.lt_of_lt_of_le hgl hb.size) b04
          have hg4 := Nat.lt_of_lt_of_le hgl b4.size
          obtain ⟨W4, hW4⟩ : ∃ X, wr.alloc (.cells #[.int .i64 p0, .int .i64 p1] 65) = X := ⟨_, rfl⟩
          rw [hW4] at y0 y1 z4 b4 hq4 hg4 ⊢
          clear hW4 b04 hrq hrp
          refine wp_region_any (by kernel_rfl) ?_
          change wpAny _ _ _ _ _ _ _ (World.drew _)
          refine wpAny_narrow (fun W' => Below W4.heap.size W4 W') _ _ _ _ ?_
          refine anyH_take 0 17 (.int .i64 (i : Int)) rfl rfl (by kernel_rfl) (by kernel_rfl) (by kernel_rfl) (fun _ _ _ h => h) (Or.inl ⟨by rfl, by intro w hSw; go_simp⟩) ((Below.refl _ _).drew) ?_
          try simp only [Act.put, List.setIfInBounds_toArray, List.set_cons_zero, List.set_cons_succ]
          refine anyH_take 1 18 (.bool true) rfl rfl (by kernel_rfl) (by kernel_rfl) (by kernel_rfl) (fun _ _ _ h => h) (Or.inl ⟨by rfl, by intro w hSw; go_simp⟩) ((Below.refl _ _).drew) ?_
          try simp only [Act.put, List.setIfInBounds_toArray, List.set_cons_zero, List.set_cons_succ]
          refine anyH_take 2 19 (.bool true) rfl rfl (by kernel_rfl) (by kernel_rfl) (by kernel_rfl) (fun _ _ _ h => h) (Or.inl ⟨by rfl, by intro w hSw; go_simp⟩) ((Below.refl _ _).drew) ?_
          try simp only [Act.put, List.setIfInBounds_toArray, List.set_cons_zero, List.set_cons_succ]
          refine anyH_take 3 20 (.slice (some ⟨g1, off, none⟩) m lc) rfl rfl (by kernel_rfl) (by kernel_rfl) (by kernel_rfl) (fun _ _ _ h => h) (Or.inl ⟨by rfl, by intro w hSw; go_simp⟩) ((Below.refl _ _).drew) ?_
          try simp only [Act.put, List.setIfInBounds_toArray, List.set_cons_zero, List.set_cons_succ]
          refine anyH_take 4 21 (.int .i64 (i : Int)) rfl rfl (by kernel_rfl) (by kernel_rfl) (by kernel_rfl) (fun _ _ _ h => h) (Or.inl ⟨by rfl, by intro w hSw; go_simp⟩) ((Below.refl _ _).drew) ?_
          try simp only [Act.put, List.setIfInBounds_toArray, List.set_cons_zero, List.set_cons_succ]
          refine anyH_take 5 22 (.int .i64 ((i - 1 : Nat) : Int)) rfl rfl (by kernel_rfl) (by kernel_rfl) (by kernel_rfl) (fun _ _ _ h => h) (Or.inl ⟨by rfl, by intro w hSw; have w1 := hsub; go_simp⟩) ((Below.refl _ _).drew) ?_
          try simp only [Act.put, List.setIfInBounds_toArray, List.set_cons_zero, List.set_cons_succ]
          refine anyH_take 6 23 (.pointer (some ⟨g1, off + (i - 1) * 2, none⟩)) rfl rfl (by kernel_rfl) (by kernel_rfl) (by kernel_rfl) (fun _ _ _ h => h) (Or.inl ⟨by rfl, by intro w hSw; go_simp⟩) ((Below.refl _ _).drew) ?_
          try simp only [Act.put, List.setIfInBounds_toArray, List.set_cons_zero, List.set_cons_succ]
          refine anyH_take 7 24 (LK.v ⟨q0, q1⟩) rfl rfl (by kernel_rfl) (by kernel_rfl) (by kernel_rfl) (fun _ _ _ h => h) (Or.inl ⟨by rfl, fun X hSw => exec_load65m rfl g1 (off + (i - 1) * 2) ⟨q0, q1⟩ rfl X (range_later hq4 hg4 hSw)⟩) ((Below.refl _ _).drew) ?_
          try simp only [Act.put, List.setIfInBounds_toArray, List.set_cons_zero, List.set_cons_succ]
          refine anyH_take 8 25 (lnk p0 p1) rfl rfl (by kernel_rfl) (by kernel_rfl) (by kernel_rfl) (fun _ _ _ h => h) (Or.inl ⟨by rfl, by intro w hSw; have k0 := (hSw.cell (p := ⟨wr.heap.size, 0, none⟩) z4).trans y0; have k1 := (hSw.cell (p := ⟨wr.heap.size, 1, none⟩) z4).trans y1; go_simp⟩) ((Below.refl _ _).drew) ?_
          try simp only [Act.put, List.setIfInBounds_toArray, List.set_cons_zero, List.set_cons_succ]
          refine wpAnyH_ready (rs := [9]) (by kernel_rfl) (by simp) ?_
          refine AllReadyH.cons rfl (fun K hK => ?_) AllReadyH.nil
          go_simp
          go_wp2_with (go_at_call 37; refine (byNodes_any q0 q1 p0 p1 _).mono ?_; rintro e x1 ⟨rfl, qn, os', hw1⟩; have b1 : Below W4.drew.heap.size W4.drew x1 := (by rw [hw1]; exact below_grow _ _ _); clear hw1)
          refine hK.out _ _ ((Below.refl _ _).drew.trans b1) (fun hS => ?_)
          clear hK
          refine anyH_take 10 27 (.bool true) rfl rfl (by kernel_rfl) (by kernel_rfl) (by kernel_rfl) (fun _ _ _ h => h) (Or.inl ⟨by rfl, by intro w hSw; have w1 := hlk; go_simp⟩) (hS) ?_
          try simp only [Act.put, List.setIfInBounds_toArray, List.set_cons_zero, List.set_cons_succ]
          refine anyH_take 11 28 (.bool true) rfl rfl (by kernel_rfl) (by kernel_rfl) (by kernel_rfl) (fun _ _ _ h => h) (Or.inl ⟨by rfl, by intro w hSw; go_simp⟩) (hS) ?_
          try simp only [Act.put, List.setIfInBounds_toArray, List.set_cons_zero, List.set_cons_succ]
          refine wpAnyH_done (by kernel_rfl) ?_ _
          have b5 := b4.trans (hS.mono b4.size)
          clear hS y0 y1 z4 hq4 hg4
          go_wp2
          go_ret
          exact ⟨by rw [HY.out]; rfl, b5⟩
        · have HY : Hid (prB none ls = prB (some ⟨p0, p1⟩) (ls.drop (i + 1))) := ⟨by rw [HX]; simp only; rw [decide_eq_true (Classical.not_not.1 (fun h => hlk (hk.2 h)))]; rfl⟩
          clear hp hq hpi hqi HX hk hah
          go_wp2_with ((with_reducible show wpList _ _ _ (Oper.mk _ (Op.load 65 (Operand.tmp 10)) _ _ _ _ :: _) _ _); refine wpList_load65m rfl _ rfl g1 (off + i * 2) p0 p1 rfl hrp ?_)
          have y0 : (wr.alloc (.cells #[.int .i64 p0, .int .i64 p1] 65)).cell? ⟨wr.heap.size, 0, none⟩ = some (.int .i64 p0) := by simp
          have y1 : (wr.alloc (.cells #[.int .i64 p0, .int .i64 p1] 65)).cell? ⟨wr.heap.size, 1, none⟩ = some (.int .i64 p1) := by simp
          have z4 : wr.heap.size < (wr.alloc (.cells #[.int .i64 p0, .int .i64 p1] 65)).heap.size := by simp
          have b4 := hb.alloc hb.size (.cells #[.int .i64 p0, .int .i64 p1] 65)
          have b04 : Below wr.heap.size wr (wr.alloc (.cells #[.int .i64 p0, .int .i64 p1] 65)) := (Below.refl _ _).alloc (Nat.le_refl _) _
          have hq4 := range_later hrq (Nat.lt_of_lt_of_le hgl hb.size) b04
          have hg4 := Nat.lt_of_lt_of_le hgl b4.size
          obtain ⟨W4, hW4⟩ : ∃ X, wr.alloc (.cells #[.int .i64 p0, .int .i64 p1] 65) = X := ⟨_, rfl⟩
          rw [hW4] at y0 y1 z4 b4 hq4 hg4 ⊢
          clear hW4 b04 hrq hrp
          refine wp_region_any (by kernel_rfl) ?_
          change wpAny _ _ _ _ _ _ _ (World.drew _)
          refine wpAny_narrow (fun W' => Below W4.heap.size W4 W') _ _ _ _ ?_
          refine anyH_take 0 17 (.int .i64 (i : Int)) rfl rfl (by kernel_rfl) (by kernel_rfl) (by kernel_rfl) (fun _ _ _ h => h) (Or.inl ⟨by rfl, by intro w hSw; go_simp⟩) ((Below.refl _ _).drew) ?_
          try simp only [Act.put, List.setIfInBounds_toArray, List.set_cons_zero, List.set_cons_succ]
          refine anyH_take 1 18 (.bool true) rfl rfl (by kernel_rfl) (by kernel_rfl) (by kernel_rfl) (fun _ _ _ h => h) (Or.inl ⟨by rfl, by intro w hSw; go_simp⟩) ((Below.refl _ _).drew) ?_
          try simp only [Act.put, List.setIfInBounds_toArray, List.set_cons_zero, List.set_cons_succ]
          refine anyH_take 2 19 (.bool true) rfl rfl (by kernel_rfl) (by kernel_rfl) (by kernel_rfl) (fun _ _ _ h => h) (Or.inl ⟨by rfl, by intro w hSw; go_simp⟩) ((Below.refl _ _).drew) ?_
          try simp only [Act.put, List.setIfInBounds_toArray, List.set_cons_zero, List.set_cons_succ]
          refine anyH_take 3 20 (.slice (some ⟨g1, off, none⟩) m lc) rfl rfl (by kernel_rfl) (by kernel_rfl) (by kernel_rfl) (fun _ _ _ h => h) (Or.inl ⟨by rfl, by intro w hSw; go_simp⟩) ((Below.refl _ _).drew) ?_
          try simp only [Act.put, List.setIfInBounds_toArray, List.set_cons_zero, List.set_cons_succ]
          refine anyH_take 4 21 (.int .i64 (i : Int)) rfl rfl (by kernel_rfl) (by kernel_rfl) (by kernel_rfl) (fun _ _ _ h => h) (Or.inl ⟨by rfl, by intro w hSw; go_simp⟩) ((Below.refl _ _).drew) ?_
          try simp only [Act.put, List.setIfInBounds_toArray, List.set_cons_zero, List.set_cons_succ]
          refine anyH_take 5 22 (.int .i64 ((i - 1 : Nat) : Int)) rfl rfl (by kernel_rfl) (by kernel_rfl) (by kernel_rfl) (fun _ _ _ h => h) (Or.inl ⟨by rfl, by intro w hSw; have w1 := hsub; go_simp⟩) ((Below.refl _ _).drew) ?_
          try simp only [Act.put, List.setIfInBounds_toArray, List.set_cons_zero, List.set_cons_succ]
          refine anyH_take 6 23 (.pointer (some ⟨g1, off + (i - 1) * 2, none⟩)) rfl rfl (by kernel_rfl) (by kernel_rfl) (by kernel_rfl) (fun _ _ _ h => h) (Or.inl ⟨by rfl, by intro w hSw; go_simp⟩) ((Below.refl _ _).drew) ?_
          try simp only [Act.put, List.setIfInBounds_toArray, List.set_cons_zero, List.set_cons_succ]
          refine anyH_take 7 24 (LK.v ⟨q0, q1⟩) rfl rfl (by kernel_rfl) (by kernel_rfl) (by kernel_rfl) (fun _ _ _ h => h) (Or.inl ⟨by rfl, fun X hSw => exec_load65m rfl g1 (off + (i - 1) * 2) ⟨q0, q1⟩ rfl X (range_later hq4 hg4 hSw)⟩) ((Below.refl _ _).drew) ?_
          try simp only [Act.put, List.setIfInBounds_toArray, List.set_cons_zero, List.set_cons_succ]
          refine anyH_take 8 25 (lnk p0 p1) rfl rfl (by kernel_rfl) (by kernel_rfl) (by kernel_rfl) (fun _ _ _ h => h) (Or.inl ⟨by rfl, by intro w hSw; have k0 := (hSw.cell (p := ⟨wr.heap.size, 0, none⟩) z4).trans y0; have k1 := (hSw.cell (p := ⟨wr.heap.size, 1, none⟩) z4).trans y1; go_simp⟩) ((Below.refl _ _).drew) ?_
          try simp only [Act.put, List.setIfInBounds_toArray, List.set_cons_zero, List.set_cons_succ]
          refine wpAnyH_ready (rs := [9]) (by kernel_rfl) (by simp) ?_
          refine AllReadyH.cons rfl (fun K hK => ?_) AllReadyH.nil
          go_simp
          go_wp2_with (go_at_call 37; refine (byNodes_any q0 q1 p0 p1 _).mono ?_; rintro e x1 ⟨rfl, qn, os', hw1⟩; have b1 : Below W4.drew.heap.size W4.drew x1 := (by rw [hw1]; exact below_grow _ _ _); clear hw1)
          refine hK.out _ _ ((Below.refl _ _).drew.trans b1) (fun hS => ?_)
          clear hK
          refine anyH_take 10 27 (.bool false) rfl rfl (by kernel_rfl) (by kernel_rfl) (by kernel_rfl) (fun _ _ _ h => h) (Or.inl ⟨by rfl, by intro w hSw; have w1 := hlk; go_simp⟩) (hS) ?_
          try simp only [Act.put, List.setIfInBounds_toArray, List.set_cons_zero, List.set_cons_succ]
          refine anyH_take 11 28 (.bool false) rfl rfl (by kernel_rfl) (by kernel_rfl) (by kernel_rfl) (fun _ _ _ h => h) (Or.inl ⟨by rfl, by intro w hSw; go_simp⟩) (hS) ?_
          try simp only [Act.put, List.setIfInBounds_toArray, List.set_cons_zero, List.set_cons_succ]
          refine wpAnyH_done (by kernel_rfl) ?_ _
          have b5 := b4.trans (hS.mono b4.size)
          clear hS y0 y1 z4 hq4 hg4
          go_wp2
          go_roundg (gk - 1)
          case measure => omega
          case rel => exact ⟨i + 1, by first | rfl | go_num, by omega, b5, ⟨by rw [HP.out]; exact HY.out⟩⟩
    · have hiI : ¬ (i : Int) < (m : Int) := by omega
      have HY : Hid (prB none ls = true) := ⟨by rw [HL.out, List.drop_eq_nil_of_le (by have := HM.out; omega)]; unfold prB; rfl⟩
      go_wp2
      go_ret
      exact ⟨by rw [HY.out]; rfl, hb⟩
end Go.Proofs.Ytoppecppmjpgiaa

namespace Go.Proofs.Ytoppecppmjpgiaa
open Go.ChangeShapes Go.WideShapes Go.ChangeAt Go.RowKit Go.Maps
set_option linter.unusedVariables false
set_option linter.unusedSimpArgs false
/-- The packets that a slice leads to. -/
structure Rst (W : World) (a : Option Addr) (n cap : Nat) (ds : List DG) : Prop where
  size : ds.length = n
  le : n ≤ cap
  max : cap ≤ 9223372036854775807
  mem : (a = none ∧ cap = 0) ∨ ∃ g off, a = some ⟨g, off, none⟩ ∧ g < W.heap.size ∧ ∀ i, i < n → W.rangeAt g (off + i * 4) (ds.getD i DG.z).cells
theorem Rst.below {W W' : World} {a : Option Addr} {n cap : Nat} {ds : List DG} (h : Rst W a n cap ds) (hb : Below W.heap.size W W') : Rst W' a n cap ds :=
  ⟨h.size, h.le, h.max, h.mem.imp id fun ⟨g, off, e, hl, r⟩ => ⟨g, off, e, Nat.lt_of_lt_of_le hl hb.size, fun i hi => range_later (r i hi) hl hb⟩⟩
theorem get_dz (ds : List DG) (i : Nat) (hi : i < ds.length) : ds[i]? = some (ds.getD i DG.z) := by rw [List.getD_eq_getElem?_getD, List.getElem?_eq_getElem hi]; rfl
theorem rst_cells {W : World} {g off m cap : Nat} {ds : List DG} (hs : ds.length = m) (h : ∀ i, i < m → W.rangeAt g (off + i * 4) (ds.getD i DG.z).cells) (j : Nat) (u : Value) (hu : (dcs ds)[j]? = some u) : W.cell? ⟨g, off + j, none⟩ = some u := by
  have hj : j < (dcs ds).length := (List.getElem?_eq_some_iff.1 hu).1
  rw [dcs_len] at hj
  have e := dcs_get ds (j / 4) (j % 4) _ (get_dz ds (j / 4) (by omega)) (by omega)
  rw [show 4 * (j / 4) + j % 4 = j by omega] at e
  have := h (j / 4) (by omega) (j % 4) u (by rw [← e, hu])
  rwa [show off + j / 4 * 4 + j % 4 = off + j by omega] at this
theorem run_copy_rst {W : World} {a : Option Addr} {m cap : Nat} {ls : List DG} (ty : TypeId) (L : Rst W a m cap ls) (hm : m * 40 ≤ 140737488355328) :
    ∃ a' cap' w', (Builtin.append_ #[22, 22] ty #[.slice none 0 0, .slice a m cap]).run Try.prog W = .ok (.slice a' m cap') w' ∧ Lst w' a' m cap' ls ∧ (∀ g off, a' = some ⟨g, off, none⟩ → W.heap.size ≤ g) ∧ Below W.heap.size W w' := by
  obtain ⟨i0, hi, hz0, hz1, hz2⟩ := info_parts info33
  rcases L.mem with ⟨rfl, rfl⟩ | ⟨g, off, rfl, hlt, hr⟩
  · have h0 : m = 0 := by have := L.le; omega
    subst h0
    have e := List.eq_nil_of_length_eq_zero L.size
    subst e
    exact ⟨none, 0, W, run_append_owned_none (P := Try.prog) (w := W) W.heap.size 22 ty 33 i0 4 Try.underlying22 hi _ 0 [] (World.ownsRow_nil W _ 33 4), lst_nil _, fun g off e => (by cases e), Below.refl _ _⟩
  · have hl : (dcs ls).length = m * 4 := by rw [dcs_len, L.size]; omega
    obtain ⟨v', w', hrun, r1, r2, _⟩ := run_append_own (P := Try.prog) W W.heap.size 22 ty 33 i0 _ 4 40 Try.underlying22 hi hz0 hz1 hz2 rfl (by decide) (.slice none 0 0) 0 [] (World.ownsRow_nil W _ 33 4) ⟨g, off, none⟩ m cap (dcs ls) hl (fun j u hj => by
      rw [add_plain]
      exact rst_cells (cap := cap) L.size hr j u hj) (dcs_one ls) (by unfold maxLen; omega) (by omega) (Nat.le_refl _)
    rw [Nat.zero_add, List.nil_append] at r1
    obtain ⟨a', cap', rfl, L', hb⟩ := own_lst r1 L.size
    exact ⟨a', cap', w', hrun, L', hb, ⟨r2.os, r2.tape, r2.output, r2.size, fun q hq => r2.block q hq (by simp [Value.ownBlock])⟩⟩
theorem wpList_copy_rst {ops : Array Oper} {rest : List Oper} {o : Oper} {A : Act} {W : World} {Q : Exit → Act → World → Prop} (hgd : o.guard = none) (s x : Operand) (ho : o.op = .call { callee := .builtin .append, args := #[s, x], argTypes := #[22, 22] }) {a : Option Addr} {m cap : Nat} {ls : List DG}
    (hs : A.eval s = .slice none 0 0) (hx : A.eval x = .slice a m cap) (L : Rst W a m cap ls) (hm : m * 40 ≤ 140737488355328)
    (h : ∀ a' cap' w', Lst w' a' m cap' ls → (∀ g off, a' = some ⟨g, off, none⟩ → W.heap.size ≤ g) → Below W.heap.size W w' → wpList Try.prog ops Q rest (A.put o.dst (.slice a' m cap')) w') : wpList Try.prog ops Q (o :: rest) A W := by
  obtain ⟨a', cap', w', hrun, L', hb, hB⟩ := run_copy_rst o.type L hm
  refine wpList_plain hgd fun K hK => ?_
  unfold Oper.wp
  simp [execOp, ho, resolve, invoke, builtin, hs, hx, hrun, Result.andThen]
  exact hK _ _ (h a' cap' w' L' hb hB)
set_option maxHeartbeats 4000000 in
theorem copy_raw (next : Int) (a : Option Addr) (n c : Nat) (ds : List DG) (la : Option Addr) (m lc : Nat) (ls : List LK) (w : World) (L : Rst w a n c ds) (K : Lks w la m lc ls) (hn : n * 40 ≤ 140737488355328) (hm : m * 16 ≤ 140737488355328) :
    Calls Try.prog 7 #[mailV next a n c la m lc] w fun e w' => ∃ a' c' la' lc', e = .returned (mailV next a' n c' la' m lc') ∧ Lst w' a' n c' ds ∧ Lks w' la' m lc' ls ∧ (∀ g off, a' = some ⟨g, off, none⟩ → w.heap.size ≤ g) ∧ (∀ g off, la' = some ⟨g, off, none⟩ → w.heap.size ≤ g) ∧ Below w.heap.size w w' ∧ (∀ g off, la' = some ⟨g, off, none⟩ → ∃ cur, w'.heap[g]? = some (.cells cur 65 (0, 0))) := by
  have C0 := Cp.start w #[.int .i64 next, .slice a n c, .slice la m lc] #[.int .i64 0, .slice none 0 0, .slice none 0 0] #[.int .i64 next, .slice none 0 0, .slice none 0 0]
  have HN : Hid (n * 40 ≤ 140737488355328) := ⟨hn⟩
  have HM : Hid (m * 16 ≤ 140737488355328) := ⟨hm⟩
  have LL := L.below C0.below
  clear hn hm
  go_enter Try.func7, Try.ntmps7
  go_wp2_with (first
    | ((with_reducible show wpList _ _ _ (Oper.mk _ (Op.call { callee := Callee.builtin Builtin.append, args := _, argTypes := #[22, 22] }) _ _ _ _ :: _) _ _); go_must (refine wpList_copy_rst rfl _ _ rfl rfl rfl LL HN.out ?_; intro a1 c1 w1 L1 o1 b1; have C1 := C0.later b1; have ⟨p0, p1, p2⟩ := cel3 C1.one; have ⟨z0, z1, z2⟩ := cel3 C1.two; have ⟨q0, q1, q2⟩ := cel3 C1.three; have f1 := row_free C1.three 1))
    | ((with_reducible show wpList _ _ _ (Oper.mk _ (Op.call { callee := Callee.builtin Builtin.append, args := _, argTypes := #[23, 23] }) _ _ _ _ :: _) _ _); go_must (have C2 := C1.set 1 (.slice a1 n c1); have KK := K.below C2.below; refine wpList_copy_lksT rfl _ _ rfl rfl rfl KK HM.out ?_; intro a2 c2 w2 K2 o2 b2 hty2; have C3 := C2.later b2; have ⟨r0, r1, r2⟩ := cel3 C3.one; have ⟨s0, s1, s2⟩ := cel3 C3.two; have ⟨t0, t1, t2⟩ := cel3 C3.three; have f2 := row_free C3.three 2; have f3 := row_free C3.two 0; have f4 := row_free C3.two 1; have f5 := row_free C3.two 2)))
  have C4 := (((C3.set 2 (.slice a2 m c2)).out 0 (.int .i64 next)).out 1 (.slice a1 n c1)).out 2 (.slice a2 m c2)
  have far : ∀ g, w.heap.size + 3 ≤ g → g < w2.heap.size → ((((w2.setCell ⟨w.heap.size + 1 + 1, 2, none⟩ (.slice a2 m c2)).setCell ⟨w.heap.size + 1, 0, none⟩ (.int .i64 next)).setCell ⟨w.heap.size + 1, 1, none⟩ (.slice a1 n c1)).setCell ⟨w.heap.size + 1, 2, none⟩ (.slice a2 m c2)).heap[g]? = w2.heap[g]? := fun g h1 h2 =>
    set_far (set_far (set_far (set_far rfl (by omega) _ _) (by omega) _ _) (by omega) _ _) (by omega) _ _
  have hs1 : w1.heap.size ≤ w2.heap.size := by have := b2.size; simpa [World.setCell] using this
  have e1 : ∀ g off, a1 = some ⟨g, off, none⟩ → w.heap.size + 3 ≤ g := fun g off e => by have := o1 g off e; simp at this; omega
  have hsz2 := C2.size
  have e2 : ∀ g off, a2 = some ⟨g, off, none⟩ → w.heap.size + 3 ≤ g := fun g off e => by have := o2 g off e; omega
  refine bodyPost_ret (results_row1 rfl _ _ (w.heap.size + 1) _ rfl (load_25m C4.two)) rfl ⟨a1, c1, a2, c2, rfl, L1.of_block fun g off e => ?_, K2.of_block (by simp [World.setCell]) fun g off e => ?_, fun g off e => by have := e1 g off e; omega, fun g off e => by have := e2 g off e; omega, C4.below, fun g off e => ?_⟩
  · have hlt : g < w1.heap.size := by subst e; exact L1.lt
    refine (far g (e1 g off e) (by omega)).trans ((b2.block g (by simpa [World.setCell] using hlt)).trans ?_)
    exact set_far rfl (by have := e1 g off e; omega) _ _
  · refine far g (e2 g off e) ?_
    rcases K2.mem with ⟨e', _⟩ | ⟨g', off', e', hl, _⟩
    · rw [e'] at e; cases e
    · rw [e'] at e; cases e; exact hl
  · obtain ⟨cur, ht⟩ := hty2 g off e
    exact ⟨cur, (far g (e2 g off e) (row_lt ht)).trans ht⟩
end Go.Proofs.Ytoppecppmjpgiaa

namespace Go.Proofs.Ytoppecppmjpgiaa
open Go.ChangeShapes Go.WideShapes Go.ChangeAt Go.RowKit Go.Deep
set_option linter.unusedVariables false
set_option linter.unusedSimpArgs false

theorem by40 : Try.prog.bytesOf 40 = 48 := by kernel_rfl
abbrev actL (q : ActS) : List Value := [.int .i64 q.kd, .int .i64 q.nn, .int .i64 q.x, .int .i64 q.y, .string q.s]
theorem add_plain' (g o j : Nat) : (⟨g, o, none⟩ : Addr).add j = ⟨g, o + j, none⟩ := by unfold Addr.add; split <;> simp_all
/-- The bound on one argument, out of that on all. -/
theorem sized_arg {H : Type} {ts : List TypeId} {ds : List (DataW H)} (h : (DataW.weightsEach Try.prog ts ds).all (· ≤ reachBytes) = true) {j : Nat} {t : TypeId} {d : DataW H} (ht : ts[j]? = some t) (hd : ds[j]? = some d) : ∀ k ∈ d.weights Try.prog t, k ≤ reachBytes := by
  intro k hk
  have := List.all_eq_true.1 h _ (DataW.weights_mem_each ht hd k hk)
  simpa using this
theorem open_actsC {H : Type} {enc : TypeId × Value → H} {W : World} {a : Option Addr} {len cap : Nat} {d : DataW H} {ps : List MemPlace}
    (h : DataW.Trod enc Try.prog W 0 (fun _ => true) true 26 (.slice a len cap) d ps) (hB : ∀ k ∈ d.weights Try.prog 26, k ≤ reachBytes) :
    ∃ l : List ActS, l.length = len ∧ len ≤ cap ∧ (len = 0 ∨ ∃ b off, a = some ⟨b, off, none⟩ ∧ b < W.heap.size ∧ ∀ j, j < len → ∃ q, l[j]? = some q ∧ W.rangeAt b (off + j * 5) (actL q)) ∧ (∀ q ∈ l, ActOk q) ∧ cap ≤ 2932031007402 := by
  obtain ⟨fuel, hf⟩ := h
  rcases open_slice Try.underlying26 hf with ⟨hcs, hx⟩ | ⟨x, l, c, m, n, D, Pl, hcs, _, hl, hm, hmm, hx, hel⟩
  · simp [Value.cells] at hcs
    obtain ⟨rfl, rfl, rfl⟩ := hcs
    exact ⟨[], rfl, Nat.le_refl _, .inl rfl, fun q hq => (by cases hq), by omega⟩
  · simp [Value.cells] at hcs
    obtain ⟨rfl, rfl, rfl⟩ := hcs
    have hmc : m = cap := by simpa using hmm
    subst hmc
    simp only [Prod.mk.injEq] at hx
    obtain ⟨hd, _⟩ := hx
    rw [cn40] at hel
    have each : ∀ i, i < m → ∃ q : ActS, (∀ j v, (actL q)[j]? = some v → W.cell? ((x.add (i * 5)).add j) = some v) ∧ ActOk q := by
      intro i hi
      obtain ⟨cs', h1, h2⟩ := hel i hi
      obtain ⟨_, hlen, hcell⟩ := World.cells?_some h1
      obtain ⟨q, hcs', hq⟩ := open_actc hlen h2
      refine ⟨q, fun j v hj => ?_, hq⟩
      have hjl : j < 5 := (List.getElem?_eq_some_iff.1 hj).1
      have hc := hcell j hjl
      rw [hcs'] at hc
      rw [hc]
      exact hj
    have hz : ActS := ⟨0, 0, 0, 0, ByteArray.empty⟩
    haveI : Inhabited ActS := ⟨hz⟩
    obtain ⟨F, hF⟩ := choose_lt each
    have hget : ∀ j, j < len → ((List.range len).map F)[j]? = some (F j) := by
      intro j hj
      simp [hj]
    refine ⟨(List.range len).map F, by simp, hl, ?_, ?_, ?_⟩
    · by_cases h0 : len = 0
      · exact .inl h0
      · obtain ⟨b, off, spot⟩ := x
        have hc := (hF 0 (by omega)).1 0 _ rfl
        have hspot : spot = none := by simpa [Addr.add] using World.cell?_spot hc
        subst hspot
        refine .inr ⟨b, off, rfl, World.block_lt_of_cell? _ _ hc, fun j hj => ⟨F j, hget j hj, ?_⟩⟩
        intro i v hv
        have := (hF j (by omega)).1 i v hv
        rw [add_plain', add_plain'] at this
        exact this
    · intro q hq
      obtain ⟨i, hi, rfl⟩ := List.mem_map.1 hq
      exact (hF i (by have := List.mem_range.1 hi; omega)).2
    · have h0 := hB (m * 48) (by
        rw [hd]
        simp only [DataW.weights, Try.underlying26]
        refine List.mem_cons.2 (.inl ?_)
        rw [by40]
        simp only [List.length_map, List.length_range, List.length_take, List.length_drop]
        first | omega | (simp; omega))
      unfold reachBytes at h0
      omega
end Go.Proofs.Ytoppecppmjpgiaa

namespace Go.Proofs.Ytoppecppmjpgiaa
open Go.ChangeShapes Go.WideShapes Go.ChangeAt Go.RowKit Go.Deep
set_option linter.unusedVariables false
set_option linter.unusedSimpArgs false
theorem cn33 : Try.prog.cellsOf 33 = 4 := by kernel_rfl
theorem cn65 : Try.prog.cellsOf 65 = 2 := by kernel_rfl
theorem by33 : Try.prog.bytesOf 33 = 40 := by kernel_rfl
theorem by65 : Try.prog.bytesOf 65 = 16 := by kernel_rfl
theorem open_dgc {H : Type} {enc : TypeId × Value → H} {W : World} {fuel : Nat} {cs : List Value} {x : DataW H × List MemPlace} (hl : cs.length = 4)
    (hf : DataW.trod enc Try.prog W 0 (fun _ => true) true fuel 33 cs = some x) : ∃ q : DG, cs = q.cells ∧ (I64 q.src ∧ I64 q.dst) := by
  match cs, hl with
  | [v0, v1, v2, v3], _ =>
  obtain ⟨xs, k, hk, hxy, _, hxl, hg⟩ := DataW.trod_struct Try.underlying33 hf
  match xs, hxl with
  | [y0, y1, y2, y3], _ =>
  have e0 := hg 0 _ rfl
  have e1 := hg 1 _ rfl
  have e2 := hg 2 _ rfl
  have e3 := hg 3 _ rfl
  simp [cn2, cn3, cn9] at e0 e1 e2 e3
  obtain ⟨x0, q0, _, w0⟩ := DataW.trod_int Try.underlying2 e0
  obtain ⟨x1, q1, _, w1⟩ := DataW.trod_int Try.underlying3 e1
  obtain ⟨x2, q2, _, w2⟩ := DataW.trod_int Try.underlying3 e2
  simp at q0 q1 q2
  subst q0 q1 q2
  obtain ⟨x3, q3, _, w3⟩ := DataW.trod_string Try.underlying9 e3
  simp at q3
  subst q3
  exact ⟨⟨x0, x1, x2, x3⟩, rfl, has_i64 w1, has_i64 w2⟩
theorem open_lkc {H : Type} {enc : TypeId × Value → H} {W : World} {fuel : Nat} {cs : List Value} {x : DataW H × List MemPlace} (hl : cs.length = 2)
    (hf : DataW.trod enc Try.prog W 0 (fun _ => true) true fuel 65 cs = some x) : ∃ q : LK, cs = q.cells ∧ (I64 q.fst ∧ I64 q.snd) := by
  match cs, hl with
  | [v0, v1], _ =>
  obtain ⟨xs, k, hk, hxy, _, hxl, hg⟩ := DataW.trod_struct Try.underlying65 hf
  match xs, hxl with
  | [y0, y1], _ =>
  have e0 := hg 0 _ rfl
  have e1 := hg 1 _ rfl
  simp [cn3] at e0 e1
  obtain ⟨x0, q0, _, w0⟩ := DataW.trod_int Try.underlying3 e0
  obtain ⟨x1, q1, _, w1⟩ := DataW.trod_int Try.underlying3 e1
  simp at q0 q1
  subst q0 q1
  exact ⟨⟨x0, x1⟩, rfl, has_i64 w0, has_i64 w1⟩
theorem open_dgs {H : Type} {enc : TypeId × Value → H} {W : World} {fuel : Nat} {a : Option Addr} {len cap : Nat} {d : DataW H} {ps : List MemPlace}
    (hf : DataW.trod enc Try.prog W 0 (fun _ => true) true fuel 22 [.slice a len cap] = some (d, ps)) (hB : ∀ k ∈ d.weights Try.prog 22, k ≤ reachBytes) :
    ∃ l : List DG, l.length = len ∧ len ≤ cap ∧ (len = 0 ∨ ∃ b off, a = some ⟨b, off, none⟩ ∧ b < W.heap.size ∧ ∀ j, j < len → ∃ q, l[j]? = some q ∧ W.rangeAt b (off + j * 4) q.cells) ∧ (∀ q ∈ l, (I64 q.src ∧ I64 q.dst)) ∧ cap ≤ 3518437208883 := by
  rcases open_slice Try.underlying22 hf with ⟨hcs, hx⟩ | ⟨x, l, c, m, n, D, Pl, hcs, _, hl, hm, hmm, hx, hel⟩
  · simp [Value.cells] at hcs
    obtain ⟨rfl, rfl, rfl⟩ := hcs
    exact ⟨[], rfl, Nat.le_refl _, .inl rfl, fun q hq => (by cases hq), by omega⟩
  · simp [Value.cells] at hcs
    obtain ⟨rfl, rfl, rfl⟩ := hcs
    have hmc : m = cap := by simpa using hmm
    subst hmc
    simp only [Prod.mk.injEq] at hx
    obtain ⟨hd, _⟩ := hx
    rw [cn33] at hel
    have each : ∀ i, i < m → ∃ q : DG, (∀ j v, q.cells[j]? = some v → W.cell? ((x.add (i * 4)).add j) = some v) ∧ (I64 q.src ∧ I64 q.dst) := by
      intro i hi
      obtain ⟨cs', h1, h2⟩ := hel i hi
      obtain ⟨_, hlen, hcell⟩ := World.cells?_some h1
      obtain ⟨q, hcs', hq⟩ := open_dgc hlen h2
      refine ⟨q, fun j v hj => ?_, hq⟩
      have hjl : j < 4 := (List.getElem?_eq_some_iff.1 hj).1
      have hc := hcell j hjl
      rw [hcs'] at hc
      rw [hc]
      exact hj
    have hz : DG := DG.z
    haveI : Inhabited DG := ⟨hz⟩
    obtain ⟨F, hF⟩ := choose_lt each
    have hget : ∀ j, j < len → ((List.range len).map F)[j]? = some (F j) := by
      intro j hj
      simp [hj]
    refine ⟨(List.range len).map F, by simp, hl, ?_, ?_, ?_⟩
    · by_cases h0 : len = 0
      · exact .inl h0
      · obtain ⟨b, off, spot⟩ := x
        have hc := (hF 0 (by omega)).1 0 _ rfl
        have hspot : spot = none := by simpa [Addr.add] using World.cell?_spot hc
        subst hspot
        refine .inr ⟨b, off, rfl, World.block_lt_of_cell? _ _ hc, fun j hj => ⟨F j, hget j hj, ?_⟩⟩
        intro i v hv
        have := (hF j (by omega)).1 i v hv
        rw [add_plain', add_plain'] at this
        exact this
    · intro q hq
      obtain ⟨i, hi, rfl⟩ := List.mem_map.1 hq
      exact (hF i (by have := List.mem_range.1 hi; omega)).2
    · have h0 := hB (m * 40) (by
        rw [hd]
        simp only [DataW.weights, Try.underlying22]
        refine List.mem_cons.2 (.inl ?_)
        rw [by33]
        simp only [List.length_map, List.length_range, List.length_take, List.length_drop]
        first | omega | (simp; omega))
      unfold reachBytes at h0
      omega
theorem open_lks {H : Type} {enc : TypeId × Value → H} {W : World} {fuel : Nat} {a : Option Addr} {len cap : Nat} {d : DataW H} {ps : List MemPlace}
    (hf : DataW.trod enc Try.prog W 0 (fun _ => true) true fuel 23 [.slice a len cap] = some (d, ps)) (hB : ∀ k ∈ d.weights Try.prog 23, k ≤ reachBytes) :
    ∃ l : List LK, l.length = len ∧ len ≤ cap ∧ (len = 0 ∨ ∃ b off, a = some ⟨b, off, none⟩ ∧ b < W.heap.size ∧ ∀ j, j < len → ∃ q, l[j]? = some q ∧ W.rangeAt b (off + j * 2) q.cells) ∧ (∀ q ∈ l, (I64 q.fst ∧ I64 q.snd)) ∧ cap ≤ 8796093022208 := by
  rcases open_slice Try.underlying23 hf with ⟨hcs, hx⟩ | ⟨x, l, c, m, n, D, Pl, hcs, _, hl, hm, hmm, hx, hel⟩
  · simp [Value.cells] at hcs
    obtain ⟨rfl, rfl, rfl⟩ := hcs
    exact ⟨[], rfl, Nat.le_refl _, .inl rfl, fun q hq => (by cases hq), by omega⟩
  · simp [Value.cells] at hcs
    obtain ⟨rfl, rfl, rfl⟩ := hcs
    have hmc : m = cap := by simpa using hmm
    subst hmc
    simp only [Prod.mk.injEq] at hx
    obtain ⟨hd, _⟩ := hx
    rw [cn65] at hel
    have each : ∀ i, i < m → ∃ q : LK, (∀ j v, q.cells[j]? = some v → W.cell? ((x.add (i * 2)).add j) = some v) ∧ (I64 q.fst ∧ I64 q.snd) := by
      intro i hi
      obtain ⟨cs', h1, h2⟩ := hel i hi
      obtain ⟨_, hlen, hcell⟩ := World.cells?_some h1
      obtain ⟨q, hcs', hq⟩ := open_lkc hlen h2
      refine ⟨q, fun j v hj => ?_, hq⟩
      have hjl : j < 2 := (List.getElem?_eq_some_iff.1 hj).1
      have hc := hcell j hjl
      rw [hcs'] at hc
      rw [hc]
      exact hj
    have hz : LK := LK.z
    haveI : Inhabited LK := ⟨hz⟩
    obtain ⟨F, hF⟩ := choose_lt each
    have hget : ∀ j, j < len → ((List.range len).map F)[j]? = some (F j) := by
      intro j hj
      simp [hj]
    refine ⟨(List.range len).map F, by simp, hl, ?_, ?_, ?_⟩
    · by_cases h0 : len = 0
      · exact .inl h0
      · obtain ⟨b, off, spot⟩ := x
        have hc := (hF 0 (by omega)).1 0 _ rfl
        have hspot : spot = none := by simpa [Addr.add] using World.cell?_spot hc
        subst hspot
        refine .inr ⟨b, off, rfl, World.block_lt_of_cell? _ _ hc, fun j hj => ⟨F j, hget j hj, ?_⟩⟩
        intro i v hv
        have := (hF j (by omega)).1 i v hv
        rw [add_plain', add_plain'] at this
        exact this
    · intro q hq
      obtain ⟨i, hi, rfl⟩ := List.mem_map.1 hq
      exact (hF i (by have := List.mem_range.1 hi; omega)).2
    · have h0 := hB (m * 16) (by
        rw [hd]
        simp only [DataW.weights, Try.underlying23]
        refine List.mem_cons.2 (.inl ?_)
        rw [by65]
        simp only [List.length_map, List.length_range, List.length_take, List.length_drop]
        first | omega | (simp; omega))
      unfold reachBytes at h0
      omega
end Go.Proofs.Ytoppecppmjpgiaa

namespace Go.Proofs.Ytoppecppmjpgiaa
open Go.ChangeShapes Go.WideShapes Go.ChangeAt Go.RowKit Go.Deep
set_option linter.unusedVariables false
set_option linter.unusedSimpArgs false
theorem cn25 : Try.prog.cellsOf 25 = 3 := by kernel_rfl
theorem cn22 : Try.prog.cellsOf 22 = 1 := by kernel_rfl
theorem cn23 : Try.prog.cellsOf 23 = 1 := by kernel_rfl
theorem rst_of {W : World} {a : Option Addr} {n cap : Nat} {l : List DG} (h1 : l.length = n) (h2 : n ≤ cap) (h3 : cap ≤ 3518437208883) (hn : a = none → cap = 0) (ha : ∀ x, a = some x → x.spot = none ∧ x.block < W.heap.size) (h : n = 0 ∨ ∃ b off, a = some ⟨b, off, none⟩ ∧ b < W.heap.size ∧ ∀ j, j < n → ∃ q, l[j]? = some q ∧ W.rangeAt b (off + j * 4) q.cells) : Rst W a n cap l := by
  refine ⟨h1, h2, by omega, ?_⟩
  rcases a with _ | ⟨b, off, spot⟩
  · exact .inl ⟨rfl, hn rfl⟩
  · obtain ⟨e1, e2⟩ := ha _ rfl
    have e1' : spot = none := e1
    subst e1'
    refine .inr ⟨b, off, rfl, e2, fun i hi => ?_⟩
    rcases h with h | ⟨b', off', e, hb, hq⟩
    · omega
    · cases e
      obtain ⟨q, hq1, hq2⟩ := hq i hi
      rw [List.getD_eq_getElem?_getD, hq1]
      exact hq2
set_option maxRecDepth 100000 in
theorem open_mail {H : Type} {enc : TypeId × Value → H} {W : World} {r : Reach} {b : Nat} {v : Value} {d : DataW H} {ps : List MemPlace} (hv : Value.okWide Try.prog W r b 25 v) (h : DataW.Trod enc Try.prog W 0 (fun _ => true) true 25 v d ps) (hB : ∀ k ∈ d.weights Try.prog 25, k ≤ reachBytes) :
    ∃ next v1 v2 y1 y2 fuel, v = .agg #[.int .i64 next, v1, v2] ∧ I64 next ∧ DataW.trod enc Try.prog W 0 (fun _ => true) true fuel 22 [v1] = some y1 ∧ DataW.trod enc Try.prog W 0 (fun _ => true) true fuel 23 [v2] = some y2 ∧ (∀ k ∈ y1.1.weights Try.prog 22, k ≤ reachBytes) ∧ (∀ k ∈ y2.1.weights Try.prog 23, k ≤ reachBytes) := by
  simp only [Value.okWide, Try.underlying25] at hv
  obtain ⟨cs, rfl, hsz, _⟩ := hv
  rw [cn25] at hsz
  obtain ⟨fuel, hf⟩ := h
  obtain ⟨l⟩ := cs
  match l, hsz with
  | [v0, v1, v2], _ =>
  obtain ⟨xs, k, hk, hxy, _, hxl, hg⟩ := DataW.trod_struct Try.underlying25 hf
  match xs, hxl with
  | [y0, y1, y2], _ =>
  have e0 := hg 0 _ rfl
  have e1 := hg 1 _ rfl
  have e2 := hg 2 _ rfl
  simp [cn2, cn22, cn23, Value.cells] at e0 e1 e2
  obtain ⟨x0, q0, _, w0⟩ := DataW.trod_int Try.underlying2 e0
  simp at q0
  subst q0
  simp only [Prod.mk.injEq] at hxy
  obtain ⟨hd, _⟩ := hxy
  subst hd
  refine ⟨x0, v1, v2, y1, y2, k, rfl, has_i64 w0, e1, e2, fun n hn => hB n ?_, fun n hn => hB n ?_⟩
  · simp only [DataW.weights, Try.underlying25]
    exact DataW.weights_mem_each (j := 1) (t := 22) rfl rfl n hn
  · simp only [DataW.weights, Try.underlying25]
    exact DataW.weights_mem_each (j := 2) (t := 23) rfl rfl n hn
end Go.Proofs.Ytoppecppmjpgiaa

namespace Go.Proofs.Ytoppecppmjpgiaa
open Go.ChangeShapes Go.WideShapes Go.ChangeAt Go.RowKit Go.Deep
set_option linter.unusedVariables false
set_option linter.unusedSimpArgs false
set_option linter.constructorNameAsVariable false

theorem bulk_one {H : Type} (d : DataW H) : 1 ≤ Rows.uptoBulk d := by
  cases d with
  | lit l => cases l <;> simp [Rows.uptoBulk]
  | _ => simp [Rows.uptoBulk]
theorem bulk_len {H : Type} (l : List (DataW H)) : l.length ≤ Rows.uptoBulkAll l := by
  induction l with
  | nil => simp [Rows.uptoBulkAll]
  | cons x r ih => have := bulk_one x; simp only [Rows.uptoBulkAll, List.length_cons]; omega
theorem shape_lt {W : World} {k : Nat} {x : TypeId × Nat} (h : W.shape? k = some x) : k < W.heap.size := by
  unfold World.shape? at h
  cases e : W.heap[k]? with
  | none => rw [e] at h; cases h
  | some o => exact row_lt e
theorem open_dgsU {H : Type} {enc : TypeId × Value → H} {W : World} {r : Reach} {b fuel : Nat} {v : Value} {y : DataW H × List MemPlace}
    (hf : DataW.trod enc Try.prog W 0 (fun _ => true) true fuel 22 [v] = some y) (hv : Cell.okWide Try.prog W r b 22 v) :
    ∃ a n c l, v = .slice a n c ∧ Rst W a n c l ∧ (∀ q ∈ l, I64 q.src ∧ I64 q.dst) ∧ c + 1 ≤ Rows.uptoBulk y.1 := by
  rcases open_slice Try.underlying22 hf with ⟨hcs, hx⟩ | ⟨x, len, cap, m, n, D, Pl, hcs, _, hl, hm, hmm, hx, hel⟩
  · simp at hcs
    subst hcs hx
    exact ⟨none, 0, 0, [], rfl, ⟨rfl, Nat.le_refl _, by omega, .inl ⟨rfl, rfl⟩⟩, fun q hq => (by cases hq), by simp [Rows.uptoBulk]⟩
  · simp at hcs
    subst hcs
    have hmc : m = cap := by simpa using hmm
    subst hmc
    rw [cn33] at hel
    have each : ∀ i, i < m → ∃ q : DG, (∀ j v, q.cells[j]? = some v → W.cell? ((x.add (i * 4)).add j) = some v) ∧ (I64 q.src ∧ I64 q.dst) := by
      intro i hi
      obtain ⟨cs', h1, h2⟩ := hel i hi
      obtain ⟨_, hlen, hcell⟩ := World.cells?_some h1
      obtain ⟨q, hcs', hq⟩ := open_dgc hlen h2
      refine ⟨q, fun j v hj => ?_, hq⟩
      have hjl : j < 4 := (List.getElem?_eq_some_iff.1 hj).1
      have hc := hcell j hjl
      rw [hcs'] at hc
      rw [hc]
      exact hj
    have hz : DG := DG.z
    haveI : Inhabited DG := ⟨hz⟩
    obtain ⟨F, hF⟩ := choose_lt each
    simp only [Cell.okWide, Cell.ok, Try.underlying22] at hv
    obtain ⟨_, _, _, hsp, row, cells, hsh, _⟩ := hv
    have hlt := shape_lt hsh
    obtain ⟨bk, off, spot⟩ := x
    have hsp' : spot = none := hsp
    subst hsp'
    refine ⟨some ⟨bk, off, none⟩, len, m, (List.range len).map F, rfl, ⟨by simp, hl, by unfold maxLen at hm; omega, .inr ⟨bk, off, rfl, hlt, fun i hi => ?_⟩⟩, ?_, ?_⟩
    · intro j v hj
      rw [List.getD_eq_getElem?_getD, List.getElem?_map, List.getElem?_range hi] at hj
      have := (hF i (by omega)).1 j v hj
      rw [add_plain', add_plain'] at this
      exact this
    · intro q hq
      obtain ⟨i, hi, rfl⟩ := List.mem_map.1 hq
      exact (hF i (by have := List.mem_range.1 hi; omega)).2
    · rw [hx]
      have e1 := bulk_len (H := H) ((List.range len).map D)
      have e2 := bulk_len (H := H) ((List.range (m - len)).map fun j => D (len + j))
      simp only [List.length_map, List.length_range] at e1 e2
      simp only [Rows.uptoBulk]
      omega
theorem open_lksU {H : Type} {enc : TypeId × Value → H} {W : World} {r : Reach} {b fuel : Nat} {v : Value} {y : DataW H × List MemPlace}
    (hf : DataW.trod enc Try.prog W 0 (fun _ => true) true fuel 23 [v] = some y) (hv : Cell.okWide Try.prog W r b 23 v) :
    ∃ a n c l, v = .slice a n c ∧ Lks W a n c l ∧ (∀ q ∈ l, I64 q.fst ∧ I64 q.snd) ∧ c + 1 ≤ Rows.uptoBulk y.1 := by
  rcases open_slice Try.underlying23 hf with ⟨hcs, hx⟩ | ⟨x, len, cap, m, n, D, Pl, hcs, _, hl, hm, hmm, hx, hel⟩
  · simp at hcs
    subst hcs hx
    exact ⟨none, 0, 0, [], rfl, ⟨rfl, Nat.le_refl _, by omega, .inl ⟨rfl, rfl⟩⟩, fun q hq => (by cases hq), by simp [Rows.uptoBulk]⟩
  · simp at hcs
    subst hcs
    have hmc : m = cap := by simpa using hmm
    subst hmc
    rw [cn65] at hel
    have each : ∀ i, i < m → ∃ q : LK, (∀ j v, q.cells[j]? = some v → W.cell? ((x.add (i * 2)).add j) = some v) ∧ (I64 q.fst ∧ I64 q.snd) := by
      intro i hi
      obtain ⟨cs', h1, h2⟩ := hel i hi
      obtain ⟨_, hlen, hcell⟩ := World.cells?_some h1
      obtain ⟨q, hcs', hq⟩ := open_lkc hlen h2
      refine ⟨q, fun j v hj => ?_, hq⟩
      have hjl : j < 2 := (List.getElem?_eq_some_iff.1 hj).1
      have hc := hcell j hjl
      rw [hcs'] at hc
      rw [hc]
      exact hj
    have hz : LK := LK.z
    haveI : Inhabited LK := ⟨hz⟩
    obtain ⟨F, hF⟩ := choose_lt each
    simp only [Cell.okWide, Cell.ok, Try.underlying23] at hv
    obtain ⟨_, _, _, hsp, row, cells, hsh, _⟩ := hv
    have hlt := shape_lt hsh
    obtain ⟨bk, off, spot⟩ := x
    have hsp' : spot = none := hsp
    subst hsp'
    refine ⟨some ⟨bk, off, none⟩, len, m, (List.range len).map F, rfl, ⟨by simp, hl, by unfold maxLen at hm; omega, .inr ⟨bk, off, rfl, hlt, fun i hi => ?_⟩⟩, ?_, ?_⟩
    · intro j v hj
      rw [List.getD_eq_getElem?_getD, List.getElem?_map, List.getElem?_range hi] at hj
      have := (hF i (by omega)).1 j v hj
      rw [add_plain', add_plain'] at this
      exact this
    · intro q hq
      obtain ⟨i, hi, rfl⟩ := List.mem_map.1 hq
      exact (hF i (by have := List.mem_range.1 hi; omega)).2
    · rw [hx]
      have e1 := bulk_len (H := H) ((List.range len).map D)
      have e2 := bulk_len (H := H) ((List.range (m - len)).map fun j => D (len + j))
      simp only [List.length_map, List.length_range] at e1 e2
      simp only [Rows.uptoBulk]
      omega
theorem open_actsU {H : Type} {enc : TypeId × Value → H} {W : World} {a : Option Addr} {len cap : Nat} {d : DataW H} {ps : List MemPlace}
    (h : DataW.Trod enc Try.prog W 0 (fun _ => true) true 26 (.slice a len cap) d ps) :
    ∃ l : List ActS, l.length = len ∧ len ≤ cap ∧ (len = 0 ∨ ∃ b off, a = some ⟨b, off, none⟩ ∧ b < W.heap.size ∧ ∀ j, j < len → ∃ q, l[j]? = some q ∧ W.rangeAt b (off + j * 5) (actL q)) ∧ (∀ q ∈ l, ActOk q) ∧ cap + 1 ≤ Rows.uptoBulk d := by
  obtain ⟨fuel, hf⟩ := h
  rcases open_slice Try.underlying26 hf with ⟨hcs, hx⟩ | ⟨x, l, c, m, n, D, Pl, hcs, _, hl, hm, hmm, hx, hel⟩
  · simp [Value.cells] at hcs
    obtain ⟨rfl, rfl, rfl⟩ := hcs
    simp only [Prod.mk.injEq] at hx
    obtain ⟨hd, _⟩ := hx
    exact ⟨[], rfl, Nat.le_refl _, .inl rfl, fun q hq => (by cases hq), by rw [hd]; simp [Rows.uptoBulk]⟩
  · simp [Value.cells] at hcs
    obtain ⟨rfl, rfl, rfl⟩ := hcs
    have hmc : m = cap := by simpa using hmm
    subst hmc
    simp only [Prod.mk.injEq] at hx
    obtain ⟨hd, _⟩ := hx
    rw [cn40] at hel
    have each : ∀ i, i < m → ∃ q : ActS, (∀ j v, (actL q)[j]? = some v → W.cell? ((x.add (i * 5)).add j) = some v) ∧ ActOk q := by
      intro i hi
      obtain ⟨cs', h1, h2⟩ := hel i hi
      obtain ⟨_, hlen, hcell⟩ := World.cells?_some h1
      obtain ⟨q, hcs', hq⟩ := open_actc hlen h2
      refine ⟨q, fun j v hj => ?_, hq⟩
      have hjl : j < 5 := (List.getElem?_eq_some_iff.1 hj).1
      have hc := hcell j hjl
      rw [hcs'] at hc
      rw [hc]
      exact hj
    have hz : ActS := ⟨0, 0, 0, 0, ByteArray.empty⟩
    haveI : Inhabited ActS := ⟨hz⟩
    obtain ⟨F, hF⟩ := choose_lt each
    have hget : ∀ j, j < len → ((List.range len).map F)[j]? = some (F j) := by
      intro j hj
      simp [hj]
    refine ⟨(List.range len).map F, by simp, hl, ?_, ?_, ?_⟩
    · by_cases h0 : len = 0
      · exact .inl h0
      · obtain ⟨b, off, spot⟩ := x
        have hc := (hF 0 (by omega)).1 0 _ rfl
        have hspot : spot = none := by simpa [Addr.add] using World.cell?_spot hc
        subst hspot
        refine .inr ⟨b, off, rfl, World.block_lt_of_cell? _ _ hc, fun j hj => ⟨F j, hget j hj, ?_⟩⟩
        intro i v hv
        have := (hF j (by omega)).1 i v hv
        rw [add_plain', add_plain'] at this
        exact this
    · intro q hq
      obtain ⟨i, hi, rfl⟩ := List.mem_map.1 hq
      exact (hF i (by have := List.mem_range.1 hi; omega)).2
    · rw [hd]
      have e1 := bulk_len (H := H) ((List.range len).map D)
      have e2 := bulk_len (H := H) ((List.range (m - len)).map fun j => D (len + j))
      simp only [List.length_map, List.length_range] at e1 e2
      simp only [Rows.uptoBulk]
      omega
set_option maxRecDepth 100000 in
theorem open_mailU {H : Type} {enc : TypeId × Value → H} {W : World} {r : Reach} {b : Nat} {v : Value} {d : DataW H} {ps : List MemPlace} (hv : Value.okWide Try.prog W r b 25 v) (h : DataW.Trod enc Try.prog W 0 (fun _ => true) true 25 v d ps) :
    ∃ next a n c la m lc ds ls, v = mailV next a n c la m lc ∧ Rst W a n c ds ∧ Lks W la m lc ls ∧ (∀ q ∈ ds, I64 q.src ∧ I64 q.dst) ∧ (∀ q ∈ ls, I64 q.fst ∧ I64 q.snd) ∧ c + lc ≤ Rows.uptoBulk d := by
  simp only [Value.okWide, Try.underlying25] at hv
  obtain ⟨cs, rfl, hsz, ts, hts, _, hcell⟩ := hv
  rw [show Try.prog.cellTypes Try.prog.depth 25 = some [2, 22, 23] by kernel_rfl] at hts
  cases hts
  rw [cn25] at hsz
  obtain ⟨fuel, hf⟩ := h
  obtain ⟨l⟩ := cs
  match l, hsz with
  | [v0, v1, v2], _ =>
  obtain ⟨xs, k, hk, hxy, _, hxl, hg⟩ := DataW.trod_struct Try.underlying25 hf
  match xs, hxl with
  | [y0, y1, y2], _ =>
  have e0 := hg 0 _ rfl
  have e1 := hg 1 _ rfl
  have e2 := hg 2 _ rfl
  simp [cn2, cn22, cn23, Value.cells] at e0 e1 e2
  obtain ⟨x0, q0, _, w0⟩ := DataW.trod_int Try.underlying2 e0
  simp at q0
  subst q0
  simp only [Prod.mk.injEq] at hxy
  obtain ⟨hd, _⟩ := hxy
  subst hd
  obtain ⟨u1, hu1, ok1⟩ := hcell 1 v1 rfl
  obtain ⟨u2, hu2, ok2⟩ := hcell 2 v2 rfl
  cases hu1
  cases hu2
  obtain ⟨a, n, c, ds, rfl, R, hi, hb⟩ := open_dgsU e1 ok1
  obtain ⟨la, m, lc, ls, rfl, K, hi2, hb2⟩ := open_lksU e2 ok2
  refine ⟨x0, a, n, c, la, m, lc, ds, ls, rfl, R, K, hi, hi2, ?_⟩
  simp only [Rows.uptoBulk, List.map_cons, List.map_nil, Rows.uptoBulkAll]
  omega
end Go.Proofs.Ytoppecppmjpgiaa

namespace Go.Proofs.Ytoppecppmjpgiaa
open Go.ChangeShapes Go.WideShapes Go.ChangeAt Go.RowKit Go.Maps
set_option linter.unusedVariables false
set_option linter.unusedSimpArgs false
/-- Is a state fit. -/
def fitB (next : Int) (ds : List DG) (ls : List LK) : Bool := decide (0 ≤ next) && (decide (next ≤ 4611686018427387904) && (decide (ds.length ≤ 65536) && (upB next 0 ds && prB none ls)))
set_option maxRecDepth 100000 in
set_option maxHeartbeats 4000000 in
theorem fit_any (next : Int) (a : Option Addr) (n c : Nat) (ds : List DG) (la : Option Addr) (m lc : Nat) (ls : List LK) (w : World) (L : Lst w a n c ds) (K : Lks w la m lc ls) :
    Calls Try.prog 23 #[mailV next a n c la m lc] w fun e w' => e = .returned (.bool (fitB next ds ls)) ∧ Below w.heap.size w w' := by
  have hsz := L.size
  have K1 := fun W (b : Below w.heap.size w W) => rising_any a n c ds next W (L.below b)
  have K2 := fun W (b : Below w.heap.size w W) => pairs_any la m lc ls W (K.below b)
  have b0 : Below w.heap.size w (w.alloc (.cells #[.int .i64 next, .slice a n c, .slice la m lc] 25)) := (Below.refl _ _).alloc (Nat.le_refl _) _
  have c0 := World.alloc_heap_new w (.cells #[.int .i64 next, .slice a n c, .slice la m lc] 25)
  by_cases hn0 : next < 0
  · have HY : Hid (fitB next ds ls = false) := ⟨by unfold fitB; rw [decide_eq_false (show ¬ 0 ≤ next by omega)]; rfl⟩
    clear K1 K2 L K hsz
    go_enter Try.func23, Try.ntmps23
    go_wp2
    go_ret
    exact ⟨by rw [HY.out]; rfl, b0⟩
  by_cases hn1 : 4611686018427387904 < next
  · have HY : Hid (fitB next ds ls = false) := ⟨by unfold fitB; rw [decide_eq_false (show ¬ next ≤ 4611686018427387904 by omega), Bool.false_and, Bool.and_false]⟩
    clear K1 K2 L K hsz
    go_enter Try.func23, Try.ntmps23
    go_wp2
    go_ret
    exact ⟨by rw [HY.out]; rfl, b0⟩
  by_cases hn2 : (n : Int) ≤ 65536
  · have HY : Hid (fitB next ds ls = (upB next 0 ds && prB none ls)) := ⟨by unfold fitB; rw [decide_eq_true (show 0 ≤ next by omega), decide_eq_true (show next ≤ 4611686018427387904 by omega), decide_eq_true (show ds.length ≤ 65536 by omega)]; rfl⟩
    clear L K hsz
    cases hu : upB next 0 ds with
    | false =>
      rw [hu] at K1
      go_enter Try.func23, Try.ntmps23
      go_wp2_with (go_at_call 44; go_must (refine (K1 _ b0).mono ?_; rintro e w1 ⟨rfl, b1⟩; have c1 := (b1.block _ (row_lt c0)).trans c0; have q2 := row_cell c1 2 (.slice la m lc) rfl; have b01 := b0.trans (b1.mono b0.size)))
      go_ret
      exact ⟨by rw [HY.out, hu]; rfl, b01⟩
    | true =>
      rw [hu] at K1
      go_enter Try.func23, Try.ntmps23
      go_wp2_with (first
        | (go_at_call 44; go_must (refine (K1 _ b0).mono ?_; rintro e w1 ⟨rfl, b1⟩; have c1 := (b1.block _ (row_lt c0)).trans c0; have q2 := row_cell c1 2 (.slice la m lc) rfl; have b01 := b0.trans (b1.mono b0.size)))
        | (go_at_call 45; go_must (refine (K2 _ b01).mono ?_; rintro e w2 ⟨rfl, b2⟩; have b02 := b01.trans (b2.mono b01.size))))
      all_goals
        go_ret
        exact ⟨by rw [HY.out, hu]; first | rfl | simp, b02⟩
  · have HY : Hid (fitB next ds ls = false) := ⟨by unfold fitB; rw [decide_eq_false (show ¬ ds.length ≤ 65536 by omega), Bool.false_and, Bool.and_false, Bool.and_false]⟩
    clear K1 K2 L K hsz
    go_enter Try.func23, Try.ntmps23
    go_wp2
    go_ret
    exact ⟨by rw [HY.out]; rfl, b0⟩
set_option maxRecDepth 100000 in
set_option maxHeartbeats 2000000 in
theorem of_no (next : Int) (a : Option Addr) (n c : Nat) (ds : List DG) (la : Option Addr) (m lc : Nat) (ls : List LK) (w : World) (L : Lst w a n c ds) (K : Lks w la m lc ls) (hf : fitB next ds ls = false) :
    Calls Try.prog 8 #[mailV next a n c la m lc] w fun e w' => e = .returned (.tuple #[.pointer none, .bool false]) ∧ Below w.heap.size w w' := by
  have K1 := fun W (b : Below w.heap.size w W) => fit_any next a n c ds la m lc ls W (L.below b) (K.below b)
  rw [hf] at K1
  obtain ⟨w0, hw0⟩ : ∃ w0, w.alloc (.cells #[.int .i64 next, .slice a n c, .slice la m lc] 25) = w0 := ⟨_, rfl⟩
  have b0 : Below w.heap.size w w0 := by rw [← hw0]; exact (Below.refl _ _).alloc (Nat.le_refl _) _
  have X0 : w0.heap[w.heap.size]? = some (.cells #[.int .i64 next, .slice a n c, .slice la m lc] 25 (0, 0)) := by rw [← hw0]; exact World.alloc_heap_new _ _
  have x0 := row_cell X0 0 (.int .i64 next) rfl
  have x1 := row_cell X0 1 (.slice a n c) rfl
  have x2 := row_cell X0 2 (.slice la m lc) rfl
  clear hf
  go_enter Try.func8, Try.ntmps8
  go_wp2_with (go_at_call 23; go_must (refine (K1 _ b0).mono ?_; clear K1; rintro e w1 ⟨rfl, b1⟩; have b01 := b0.trans (b1.mono b0.size)))
  refine bodyPost_ret (results_tmp2 rfl _ _ _) rfl ?_
  exact ⟨rfl, b01⟩
end Go.Proofs.Ytoppecppmjpgiaa

namespace Go.Proofs.Ytoppecppmjpgiaa
open Go.ChangeShapes Go.WideShapes Go.ChangeAt Go.RowKit Go.Maps
set_option linter.unusedVariables false
set_option linter.unusedSimpArgs false
def ruB (next : Int) : Option Int → List DG → Bool
  | _, [] => true
  | p, d :: ds => decide (1 ≤ d.num) && (decide (d.num ≤ next) && ((match p with | none => true | some q => decide (q < d.num)) && ruB next (some d.num) ds))
theorem upB_big (next : Int) (ds : List DG) : ∀ l, next < l → upB next l ds = false := by
  induction ds with
  | nil => intro l h; unfold upB; exact decide_eq_false (by omega)
  | cons d ds ih =>
    intro l h
    unfold upB
    by_cases hl : l < d.num
    · rw [ih d.num (by omega), Bool.and_false]
    · rw [decide_eq_false hl, Bool.false_and]
theorem ruB_some (next : Int) (ds : List DG) : ∀ l, 0 ≤ l → l ≤ next → ruB next (some l) ds = upB next l ds := by
  induction ds with
  | nil => intro l h0 h1; unfold upB ruB; exact (decide_eq_true h1).symm
  | cons d ds ih =>
    intro l h0 h1
    unfold upB ruB
    by_cases hl : l < d.num
    · by_cases hn : d.num ≤ next
      · rw [ih d.num (by omega) hn, decide_eq_true hl, decide_eq_true hn, decide_eq_true (show 1 ≤ d.num by omega)]
        simp [hl]
      · rw [upB_big next ds d.num (by omega), decide_eq_false hn]
        simp
    · simp [hl]
theorem ruB_none (next : Int) (ds : List DG) (h : 0 ≤ next) : ruB next none ds = upB next 0 ds := by
  rw [← ruB_some next ds 0 (Int.le_refl _) h]
  cases ds with
  | nil => rfl
  | cons d ds =>
    unfold ruB
    by_cases h1 : 1 ≤ d.num
    · have : (0 : Int) < d.num := by omega
      simp [this]
    · simp [h1]
theorem ruB_drop (next : Int) (p : Option Int) (ds : List DG) (i : Nat) (d : DG) (h : ds[i]? = some d) : ruB next p (ds.drop i) = (decide (1 ≤ d.num) && (decide (d.num ≤ next) && ((match p with | none => true | some q => decide (q < d.num)) && ruB next (some d.num) (ds.drop (i + 1))))) := by
  obtain ⟨h1, e1⟩ := List.getElem?_eq_some_iff.1 h
  rw [List.drop_eq_getElem_cons h1, e1]
  rfl
/-- The number ahead of place i. -/
def aheadN (ds : List DG) (i : Nat) : Option Int := if i = 0 then none else (ds[i - 1]?).map DG.num
theorem less_lt (p q : LK) : lessK p q = decide (ltP (pr p) (pr q)) := by
  obtain ⟨a, b⟩ := p
  obtain ⟨c, d⟩ := q
  unfold lessK ltP pr
  by_cases h : a = c
  · subst h
    by_cases hb : b < d <;> simp [hb]
  · by_cases hc : a < c <;> simp [h, hc]
/-- The state's own box. -/
structure Bx (w : World) (o : Obj) (W : World) : Prop where
  below : Below w.heap.size w W
  box : W.heap[w.heap.size]? = some o
theorem Bx.later {w W W' : World} {o : Obj} (h : Bx w o W) (b : Below W.heap.size W W') : Bx w o W' := ⟨h.below.trans (b.mono h.below.size), (b.block _ (row_lt h.box)).trans h.box⟩
theorem Bx.drewN {w W : World} {o : Obj} (h : Bx w o W) (n : Nat) : Bx w o (W.drewN n) := ⟨⟨h.below.os, h.below.tape, h.below.output, h.below.size, h.below.block⟩, h.box⟩
set_option maxRecDepth 100000 in
set_option maxHeartbeats 2000000 in
theorem rfit_any (next : Int) (a : Option Addr) (n c : Nat) (ds : List DG) (la : Option Addr) (m lc : Nat) (ls : List LK) (w : World) (L : Rst w a n c ds) (K : Lks w la m lc ls) :
    Calls Try.prog 9 #[mailV next a n c la m lc] w fun e w' => e = .returned (.bool (fitB next ds ls)) ∧ Below w.heap.size w w' := by
  have hsz := L.size
  have HN : Hid (n ≤ 9223372036854775807 ∧ ds.length = n) := ⟨by have := L.le; have := L.max; omega, L.size⟩
  have HM : Hid (m ≤ 9223372036854775807 ∧ ls.length = m) := ⟨by have := K.le; have := K.max; omega, K.size⟩
  have b0 : Below w.heap.size w (w.alloc (.cells #[.int .i64 next, .slice a n c, .slice la m lc] 25)) := (Below.refl _ _).alloc (Nat.le_refl _) _
  have c0 := World.alloc_heap_new w (.cells #[.int .i64 next, .slice a n c, .slice la m lc] 25)
  have B0 : Bx w (mailC next a n c la m lc) (w.alloc (.cells #[.int .i64 next, .slice a n c, .slice la m lc] 25)) := ⟨b0, c0⟩
  by_cases hn0 : next < 0
  · have HY : Hid (fitB next ds ls = false) := ⟨by unfold fitB; rw [decide_eq_false (show ¬ 0 ≤ next by omega)]; rfl⟩
    clear L K hsz
    go_enter Try.func9, Try.ntmps9
    go_wp2
    go_ret
    exact ⟨by rw [HY.out]; rfl, b0⟩
  by_cases hn1 : 4611686018427387904 < next
  · have HY : Hid (fitB next ds ls = false) := ⟨by unfold fitB; rw [decide_eq_false (show ¬ next ≤ 4611686018427387904 by omega), Bool.false_and, Bool.and_false]⟩
    clear L K hsz
    go_enter Try.func9, Try.ntmps9
    go_wp2
    go_ret
    exact ⟨by rw [HY.out]; rfl, b0⟩
  by_cases hn2 : (65536 : Int) < (n : Int)
  · have HY : Hid (fitB next ds ls = false) := ⟨by unfold fitB; rw [decide_eq_false (show ¬ ds.length ≤ 65536 by omega), Bool.false_and, Bool.and_false, Bool.and_false]⟩
    clear L K hsz
    go_enter Try.func9, Try.ntmps9
    go_wp2
    go_ret
    exact ⟨by rw [HY.out]; rfl, b0⟩
  have HF : Hid (fitB next ds ls = (ruB next none ds && prB none ls)) := ⟨by unfold fitB; rw [ruB_none next ds (by omega), decide_eq_true (show 0 ≤ next by omega), decide_eq_true (show next ≤ 4611686018427387904 by omega), decide_eq_true (show ds.length ≤ 65536 by omega)]; rfl⟩
  clear hsz b0 c0
  go_enter Try.func9, Try.ntmps9
  go_wp2
  clear hn0 hn1 hn2
  go_loopg [3] n (fun g v3 wr => ∃ i : Nat, v3 = .int .i64 (i : Int) ∧ i + g = n ∧ Bx w (mailC next a n c la m lc) wr ∧ Hid (ruB next none ds = ruB next (aheadN ds i) (ds.drop i)))
  case atStart => exact ⟨0, by first | rfl | go_num, by omega, B0, ⟨rfl⟩⟩
  case round =>
    obtain ⟨i, rfl, hg, B, HL⟩ := hrel
    have ⟨q10, q11, q12⟩ := cel3 B.box
    by_cases hi : i < n
    · have hiI : (i : Int) < (n : Int) := by omega
      have hi0 : (0 : Int) ≤ (i : Int) := by omega
      obtain ⟨g1, off, rfl, hgl, hra⟩ : ∃ g off, a = some ⟨g, off, none⟩ ∧ g < w.heap.size ∧ ∀ i, i < n → w.rangeAt g (off + i * 4) (ds.getD i DG.z).cells := by
        rcases L.mem with ⟨e, h0⟩ | h
        · have := L.le; omega
        · exact h
      obtain ⟨⟨num, src, dst, body⟩, hd⟩ : ∃ d, ds.getD i DG.z = d := ⟨_, rfl⟩
      have hrp := range_later (hra i hi) hgl B.below
      rw [hd] at hrp
      have r0 : wr.cell? ⟨g1, off + i * 4, none⟩ = some (.int .i64 num) := hrp 0 _ rfl
      have hdi : ds[i]? = some ⟨num, src, dst, body⟩ := by rw [get_dz ds i (by have := HN.out; omega), hd]
      have HX := HL.out
      rw [ruB_drop next (aheadN ds i) ds i _ hdi] at HX
      have HP : Hid (aheadN ds (i + 1) = some num) := ⟨by unfold aheadN; rw [if_neg (by omega)]; show (ds[i]?).map DG.num = _; rw [hdi]; rfl⟩
      have hin : IntKind.i64.wrap ((i : Int) + 1) = (i : Int) + 1 := by rw [IntKind.wrap_i64]; have := HN.out; omega
      have zb := row_lt B.box
      have zg := Nat.lt_of_lt_of_le hgl B.below.size
      have kf0 : ∀ X, Below wr.heap.size wr X → X.cell? ⟨w.heap.size, 0, none⟩ = some (.int .i64 next) := fun X h => (h.cell (p := ⟨w.heap.size, 0, none⟩) zb).trans q10
      have kf1 : ∀ X, Below wr.heap.size wr X → X.cell? ⟨w.heap.size, 1, none⟩ = some (.slice (some ⟨g1, off, none⟩) n c) := fun X h => (h.cell (p := ⟨w.heap.size, 1, none⟩) zb).trans q11
      clear HL hrp hd
      by_cases h1 : num < 1
      · have HY : Hid (fitB next ds ls = false) := ⟨by rw [HF.out, HX, decide_eq_false (show ¬ 1 ≤ num by omega)]; rfl⟩
        clear HX HP hdi
        go_wp2
        refine wp_region_any (by kernel_rfl) ?_
        change wpAny _ _ _ _ _ _ _ (World.drew _)
        refine wpAny_narrow (fun W' => Below wr.heap.size wr W') _ _ _ _ ?_
        refine anyH_take 0 27 (.pointer (some ⟨w.heap.size, 1, none⟩)) rfl rfl (by kernel_rfl) (by kernel_rfl) (by kernel_rfl) (fun _ _ _ h => h) (Or.inl ⟨by rfl, by intro w hSw; go_simp⟩) ((Below.refl _ _).drew) ?_
        try simp only [Act.put, List.setIfInBounds_toArray, List.set_cons_zero, List.set_cons_succ]
        refine anyH_take 1 28 (.slice (some ⟨g1, off, none⟩) n c) rfl rfl (by kernel_rfl) (by kernel_rfl) (by kernel_rfl) (fun _ _ _ h => h) (Or.inl ⟨by rfl, by intro w hSw; have kb1 := kf1 _ hSw; have kb0 := kf0 _ hSw; go_simp⟩) ((Below.refl _ _).drew) ?_
        try simp only [Act.put, List.setIfInBounds_toArray, List.set_cons_zero, List.set_cons_succ]
        refine anyH_take 2 29 (.int .i64 (i : Int)) rfl rfl (by kernel_rfl) (by kernel_rfl) (by kernel_rfl) (fun _ _ _ h => h) (Or.inl ⟨by rfl, by intro w hSw; go_simp⟩) ((Below.refl _ _).drew) ?_
        try simp only [Act.put, List.setIfInBounds_toArray, List.set_cons_zero, List.set_cons_succ]
        refine anyH_take 3 30 (.pointer (some ⟨g1, off + i * 4, none⟩)) rfl rfl (by kernel_rfl) (by kernel_rfl) (by kernel_rfl) (fun _ _ _ h => h) (Or.inl ⟨by rfl, by intro w hSw; go_simp⟩) ((Below.refl _ _).drew) ?_
        try simp only [Act.put, List.setIfInBounds_toArray, List.set_cons_zero, List.set_cons_succ]
        refine anyH_take 4 31 (.pointer (some ⟨g1, off + i * 4, none⟩)) rfl rfl (by kernel_rfl) (by kernel_rfl) (by kernel_rfl) (fun _ _ _ h => h) (Or.inl ⟨by rfl, by intro w hSw; go_simp⟩) ((Below.refl _ _).drew) ?_
        try simp only [Act.put, List.setIfInBounds_toArray, List.set_cons_zero, List.set_cons_succ]
        refine anyH_take 5 32 (.int .i64 num) rfl rfl (by kernel_rfl) (by kernel_rfl) (by kernel_rfl) (fun _ _ _ h => h) (Or.inl ⟨by rfl, by intro w hSw; have kr := (hSw.cell (p := ⟨g1, off + i * 4, none⟩) zg).trans r0; go_simp⟩) ((Below.refl _ _).drew) ?_
        try simp only [Act.put, List.setIfInBounds_toArray, List.set_cons_zero, List.set_cons_succ]
        refine anyH_take 6 33 (.bool true) rfl rfl (by kernel_rfl) (by kernel_rfl) (by kernel_rfl) (fun _ _ _ h => h) (Or.inl ⟨by rfl, by intro w hSw; go_simp⟩) ((Below.refl _ _).drew) ?_
        try simp only [Act.put, List.setIfInBounds_toArray, List.set_cons_zero, List.set_cons_succ]
        refine anyH_take 7 34 (.bool true) rfl rfl (by kernel_rfl) (by kernel_rfl) (by kernel_rfl) (fun _ _ _ h => h) (Or.inl ⟨by rfl, by intro w hSw; go_simp⟩) ((Below.refl _ _).drew) ?_
        try simp only [Act.put, List.setIfInBounds_toArray, List.set_cons_zero, List.set_cons_succ]
        refine anyH_take 8 35 (undef) rfl rfl (by kernel_rfl) (by kernel_rfl) (by kernel_rfl) (fun _ _ _ h => h) (Or.inr ⟨by rfl, rfl⟩) ((Below.refl _ _).drew) ?_
        try simp only [Act.put, List.setIfInBounds_toArray, List.set_cons_zero, List.set_cons_succ]
        refine anyH_take 9 36 (undef) rfl rfl (by kernel_rfl) (by kernel_rfl) (by kernel_rfl) (fun _ _ _ h => h) (Or.inr ⟨by rfl, rfl⟩) ((Below.refl _ _).drew) ?_
        try simp only [Act.put, List.setIfInBounds_toArray, List.set_cons_zero, List.set_cons_succ]
        refine anyH_take 10 37 (undef) rfl rfl (by kernel_rfl) (by kernel_rfl) (by kernel_rfl) (fun _ _ _ h => h) (Or.inr ⟨by rfl, rfl⟩) ((Below.refl _ _).drew) ?_
        try simp only [Act.put, List.setIfInBounds_toArray, List.set_cons_zero, List.set_cons_succ]
        refine anyH_take 11 38 (undef) rfl rfl (by kernel_rfl) (by kernel_rfl) (by kernel_rfl) (fun _ _ _ h => h) (Or.inr ⟨by rfl, rfl⟩) ((Below.refl _ _).drew) ?_
        try simp only [Act.put, List.setIfInBounds_toArray, List.set_cons_zero, List.set_cons_succ]
        refine anyH_take 12 39 (undef) rfl rfl (by kernel_rfl) (by kernel_rfl) (by kernel_rfl) (fun _ _ _ h => h) (Or.inr ⟨by rfl, rfl⟩) ((Below.refl _ _).drew) ?_
        try simp only [Act.put, List.setIfInBounds_toArray, List.set_cons_zero, List.set_cons_succ]
        refine anyH_take 13 40 (undef) rfl rfl (by kernel_rfl) (by kernel_rfl) (by kernel_rfl) (fun _ _ _ h => h) (Or.inr ⟨by rfl, rfl⟩) ((Below.refl _ _).drew) ?_
        try simp only [Act.put, List.setIfInBounds_toArray, List.set_cons_zero, List.set_cons_succ]
        refine anyH_take 14 41 (undef) rfl rfl (by kernel_rfl) (by kernel_rfl) (by kernel_rfl) (fun _ _ _ h => h) (Or.inr ⟨by rfl, rfl⟩) ((Below.refl _ _).drew) ?_
        try simp only [Act.put, List.setIfInBounds_toArray, List.set_cons_zero, List.set_cons_succ]
        refine anyH_take 15 42 (undef) rfl rfl (by kernel_rfl) (by kernel_rfl) (by kernel_rfl) (fun _ _ _ h => h) (Or.inr ⟨by rfl, rfl⟩) ((Below.refl _ _).drew) ?_
        try simp only [Act.put, List.setIfInBounds_toArray, List.set_cons_zero, List.set_cons_succ]
        refine anyH_take 16 43 (undef) rfl rfl (by kernel_rfl) (by kernel_rfl) (by kernel_rfl) (fun _ _ _ h => h) (Or.inr ⟨by rfl, rfl⟩) ((Below.refl _ _).drew) ?_
        try simp only [Act.put, List.setIfInBounds_toArray, List.set_cons_zero, List.set_cons_succ]
        refine anyH_take 17 44 (.bool true) rfl rfl (by kernel_rfl) (by kernel_rfl) (by kernel_rfl) (fun _ _ _ h => h) (Or.inl ⟨by rfl, by intro w hSw; go_simp⟩) ((Below.refl _ _).drew) ?_
        try simp only [Act.put, List.setIfInBounds_toArray, List.set_cons_zero, List.set_cons_succ]
        refine anyH_take 18 45 (.bool true) rfl rfl (by kernel_rfl) (by kernel_rfl) (by kernel_rfl) (fun _ _ _ h => h) (Or.inl ⟨by rfl, by intro w hSw; go_simp⟩) ((Below.refl _ _).drew) ?_
        try simp only [Act.put, List.setIfInBounds_toArray, List.set_cons_zero, List.set_cons_succ]
        refine anyH_take 19 46 (undef) rfl rfl (by kernel_rfl) (by kernel_rfl) (by kernel_rfl) (fun _ _ _ h => h) (Or.inr ⟨by rfl, rfl⟩) ((Below.refl _ _).drew) ?_
        try simp only [Act.put, List.setIfInBounds_toArray, List.set_cons_zero, List.set_cons_succ]
        refine anyH_take 20 47 (undef) rfl rfl (by kernel_rfl) (by kernel_rfl) (by kernel_rfl) (fun _ _ _ h => h) (Or.inr ⟨by rfl, rfl⟩) ((Below.refl _ _).drew) ?_
        try simp only [Act.put, List.setIfInBounds_toArray, List.set_cons_zero, List.set_cons_succ]
        refine anyH_take 21 48 (undef) rfl rfl (by kernel_rfl) (by kernel_rfl) (by kernel_rfl) (fun _ _ _ h => h) (Or.inr ⟨by rfl, rfl⟩) ((Below.refl _ _).drew) ?_
        try simp only [Act.put, List.setIfInBounds_toArray, List.set_cons_zero, List.set_cons_succ]
        refine anyH_take 22 49 (undef) rfl rfl (by kernel_rfl) (by kernel_rfl) (by kernel_rfl) (fun _ _ _ h => h) (Or.inr ⟨by rfl, rfl⟩) ((Below.refl _ _).drew) ?_
        try simp only [Act.put, List.setIfInBounds_toArray, List.set_cons_zero, List.set_cons_succ]
        refine anyH_take 23 50 (undef) rfl rfl (by kernel_rfl) (by kernel_rfl) (by kernel_rfl) (fun _ _ _ h => h) (Or.inr ⟨by rfl, rfl⟩) ((Below.refl _ _).drew) ?_
        try simp only [Act.put, List.setIfInBounds_toArray, List.set_cons_zero, List.set_cons_succ]
        refine anyH_take 24 51 (undef) rfl rfl (by kernel_rfl) (by kernel_rfl) (by kernel_rfl) (fun _ _ _ h => h) (Or.inr ⟨by rfl, rfl⟩) ((Below.refl _ _).drew) ?_
        try simp only [Act.put, List.setIfInBounds_toArray, List.set_cons_zero, List.set_cons_succ]
        refine anyH_take 25 52 (undef) rfl rfl (by kernel_rfl) (by kernel_rfl) (by kernel_rfl) (fun _ _ _ h => h) (Or.inr ⟨by rfl, rfl⟩) ((Below.refl _ _).drew) ?_
        try simp only [Act.put, List.setIfInBounds_toArray, List.set_cons_zero, List.set_cons_succ]
        refine anyH_take 26 53 (undef) rfl rfl (by kernel_rfl) (by kernel_rfl) (by kernel_rfl) (fun _ _ _ h => h) (Or.inr ⟨by rfl, rfl⟩) ((Below.refl _ _).drew) ?_
        try simp only [Act.put, List.setIfInBounds_toArray, List.set_cons_zero, List.set_cons_succ]
        refine anyH_take 27 54 (undef) rfl rfl (by kernel_rfl) (by kernel_rfl) (by kernel_rfl) (fun _ _ _ h => h) (Or.inr ⟨by rfl, rfl⟩) ((Below.refl _ _).drew) ?_
        try simp only [Act.put, List.setIfInBounds_toArray, List.set_cons_zero, List.set_cons_succ]
        refine anyH_take 28 55 (undef) rfl rfl (by kernel_rfl) (by kernel_rfl) (by kernel_rfl) (fun _ _ _ h => h) (Or.inr ⟨by rfl, rfl⟩) ((Below.refl _ _).drew) ?_
        try simp only [Act.put, List.setIfInBounds_toArray, List.set_cons_zero, List.set_cons_succ]
        refine anyH_take 29 56 (undef) rfl rfl (by kernel_rfl) (by kernel_rfl) (by kernel_rfl) (fun _ _ _ h => h) (Or.inr ⟨by rfl, rfl⟩) ((Below.refl _ _).drew) ?_
        try simp only [Act.put, List.setIfInBounds_toArray, List.set_cons_zero, List.set_cons_succ]
        refine anyH_take 30 57 (undef) rfl rfl (by kernel_rfl) (by kernel_rfl) (by kernel_rfl) (fun _ _ _ h => h) (Or.inr ⟨by rfl, rfl⟩) ((Below.refl _ _).drew) ?_
        try simp only [Act.put, List.setIfInBounds_toArray, List.set_cons_zero, List.set_cons_succ]
        refine anyH_take 31 58 (undef) rfl rfl (by kernel_rfl) (by kernel_rfl) (by kernel_rfl) (fun _ _ _ h => h) (Or.inr ⟨by rfl, rfl⟩) ((Below.refl _ _).drew) ?_
        try simp only [Act.put, List.setIfInBounds_toArray, List.set_cons_zero, List.set_cons_succ]
        refine anyH_take 32 59 (undef) rfl rfl (by kernel_rfl) (by kernel_rfl) (by kernel_rfl) (fun _ _ _ h => h) (Or.inr ⟨by rfl, rfl⟩) ((Below.refl _ _).drew) ?_
        try simp only [Act.put, List.setIfInBounds_toArray, List.set_cons_zero, List.set_cons_succ]
        refine anyH_take 33 60 (undef) rfl rfl (by kernel_rfl) (by kernel_rfl) (by kernel_rfl) (fun _ _ _ h => h) (Or.inr ⟨by rfl, rfl⟩) ((Below.refl _ _).drew) ?_
        try simp only [Act.put, List.setIfInBounds_toArray, List.set_cons_zero, List.set_cons_succ]
        refine anyH_take 34 61 (undef) rfl rfl (by kernel_rfl) (by kernel_rfl) (by kernel_rfl) (fun _ _ _ h => h) (Or.inr ⟨by rfl, rfl⟩) ((Below.refl _ _).drew) ?_
        try simp only [Act.put, List.setIfInBounds_toArray, List.set_cons_zero, List.set_cons_succ]
        refine anyH_take 35 62 (undef) rfl rfl (by kernel_rfl) (by kernel_rfl) (by kernel_rfl) (fun _ _ _ h => h) (Or.inr ⟨by rfl, rfl⟩) ((Below.refl _ _).drew) ?_
        try simp only [Act.put, List.setIfInBounds_toArray, List.set_cons_zero, List.set_cons_succ]
        refine anyH_take 36 63 (undef) rfl rfl (by kernel_rfl) (by kernel_rfl) (by kernel_rfl) (fun _ _ _ h => h) (Or.inr ⟨by rfl, rfl⟩) ((Below.refl _ _).drew) ?_
        try simp only [Act.put, List.setIfInBounds_toArray, List.set_cons_zero, List.set_cons_succ]
        refine anyH_take 37 64 (.bool true) rfl rfl (by kernel_rfl) (by kernel_rfl) (by kernel_rfl) (fun _ _ _ h => h) (Or.inl ⟨by rfl, by intro w hSw; go_simp⟩) ((Below.refl _ _).drew) ?_
        try simp only [Act.put, List.setIfInBounds_toArray, List.set_cons_zero, List.set_cons_succ]
        refine wpAnyH_done (by kernel_rfl) ?_ _
        go_wp2
        go_ret
        exact ⟨by rw [HY.out]; rfl, (B.later ((Below.refl _ _).drew)).below⟩
      rw [decide_eq_true (show 1 ≤ num by omega), Bool.true_and] at HX
      by_cases h2 : next < num
      · have HY : Hid (fitB next ds ls = false) := ⟨by rw [HF.out, HX, decide_eq_false (show ¬ num ≤ next by omega)]; rfl⟩
        clear HX HP hdi
        go_wp2
        refine wp_region_any (by kernel_rfl) ?_
        change wpAny _ _ _ _ _ _ _ (World.drew _)
        refine wpAny_narrow (fun W' => Below wr.heap.size wr W') _ _ _ _ ?_
        refine anyH_take 0 27 (.pointer (some ⟨w.heap.size, 1, none⟩)) rfl rfl (by kernel_rfl) (by kernel_rfl) (by kernel_rfl) (fun _ _ _ h => h) (Or.inl ⟨by rfl, by intro w hSw; go_simp⟩) ((Below.refl _ _).drew) ?_
        try simp only [Act.put, List.setIfInBounds_toArray, List.set_cons_zero, List.set_cons_succ]
        refine anyH_take 1 28 (.slice (some ⟨g1, off, none⟩) n c) rfl rfl (by kernel_rfl) (by kernel_rfl) (by kernel_rfl) (fun _ _ _ h => h) (Or.inl ⟨by rfl, by intro w hSw; have kb1 := kf1 _ hSw; have kb0 := kf0 _ hSw; go_simp⟩) ((Below.refl _ _).drew) ?_
        try simp only [Act.put, List.setIfInBounds_toArray, List.set_cons_zero, List.set_cons_succ]
        refine anyH_take 2 29 (.int .i64 (i : Int)) rfl rfl (by kernel_rfl) (by kernel_rfl) (by kernel_rfl) (fun _ _ _ h => h) (Or.inl ⟨by rfl, by intro w hSw; go_simp⟩) ((Below.refl _ _).drew) ?_
        try simp only [Act.put, List.setIfInBounds_toArray, List.set_cons_zero, List.set_cons_succ]
        refine anyH_take 3 30 (.pointer (some ⟨g1, off + i * 4, none⟩)) rfl rfl (by kernel_rfl) (by kernel_rfl) (by kernel_rfl) (fun _ _ _ h => h) (Or.inl ⟨by rfl, by intro w hSw; go_simp⟩) ((Below.refl _ _).drew) ?_
        try simp only [Act.put, List.setIfInBounds_toArray, List.set_cons_zero, List.set_cons_succ]
        refine anyH_take 4 31 (.pointer (some ⟨g1, off + i * 4, none⟩)) rfl rfl (by kernel_rfl) (by kernel_rfl) (by kernel_rfl) (fun _ _ _ h => h) (Or.inl ⟨by rfl, by intro w hSw; go_simp⟩) ((Below.refl _ _).drew) ?_
        try simp only [Act.put, List.setIfInBounds_toArray, List.set_cons_zero, List.set_cons_succ]
        refine anyH_take 5 32 (.int .i64 num) rfl rfl (by kernel_rfl) (by kernel_rfl) (by kernel_rfl) (fun _ _ _ h => h) (Or.inl ⟨by rfl, by intro w hSw; have kr := (hSw.cell (p := ⟨g1, off + i * 4, none⟩) zg).trans r0; go_simp⟩) ((Below.refl _ _).drew) ?_
        try simp only [Act.put, List.setIfInBounds_toArray, List.set_cons_zero, List.set_cons_succ]
        refine anyH_take 6 33 (.bool false) rfl rfl (by kernel_rfl) (by kernel_rfl) (by kernel_rfl) (fun _ _ _ h => h) (Or.inl ⟨by rfl, by intro w hSw; go_simp⟩) ((Below.refl _ _).drew) ?_
        try simp only [Act.put, List.setIfInBounds_toArray, List.set_cons_zero, List.set_cons_succ]
        refine anyH_take 7 34 (.bool false) rfl rfl (by kernel_rfl) (by kernel_rfl) (by kernel_rfl) (fun _ _ _ h => h) (Or.inl ⟨by rfl, by intro w hSw; go_simp⟩) ((Below.refl _ _).drew) ?_
        try simp only [Act.put, List.setIfInBounds_toArray, List.set_cons_zero, List.set_cons_succ]
        refine anyH_take 8 35 (.pointer (some ⟨w.heap.size, 1, none⟩)) rfl rfl (by kernel_rfl) (by kernel_rfl) (by kernel_rfl) (fun _ _ _ h => h) (Or.inl ⟨by rfl, by intro w hSw; go_simp⟩) ((Below.refl _ _).drew) ?_
        try simp only [Act.put, List.setIfInBounds_toArray, List.set_cons_zero, List.set_cons_succ]
        refine anyH_take 9 36 (.slice (some ⟨g1, off, none⟩) n c) rfl rfl (by kernel_rfl) (by kernel_rfl) (by kernel_rfl) (fun _ _ _ h => h) (Or.inl ⟨by rfl, by intro w hSw; have kb1 := kf1 _ hSw; have kb0 := kf0 _ hSw; go_simp⟩) ((Below.refl _ _).drew) ?_
        try simp only [Act.put, List.setIfInBounds_toArray, List.set_cons_zero, List.set_cons_succ]
        refine anyH_take 10 37 (.int .i64 (i : Int)) rfl rfl (by kernel_rfl) (by kernel_rfl) (by kernel_rfl) (fun _ _ _ h => h) (Or.inl ⟨by rfl, by intro w hSw; go_simp⟩) ((Below.refl _ _).drew) ?_
        try simp only [Act.put, List.setIfInBounds_toArray, List.set_cons_zero, List.set_cons_succ]
        refine anyH_take 11 38 (.pointer (some ⟨g1, off + i * 4, none⟩)) rfl rfl (by kernel_rfl) (by kernel_rfl) (by kernel_rfl) (fun _ _ _ h => h) (Or.inl ⟨by rfl, by intro w hSw; go_simp⟩) ((Below.refl _ _).drew) ?_
        try simp only [Act.put, List.setIfInBounds_toArray, List.set_cons_zero, List.set_cons_succ]
        refine anyH_take 12 39 (.pointer (some ⟨g1, off + i * 4, none⟩)) rfl rfl (by kernel_rfl) (by kernel_rfl) (by kernel_rfl) (fun _ _ _ h => h) (Or.inl ⟨by rfl, by intro w hSw; go_simp⟩) ((Below.refl _ _).drew) ?_
        try simp only [Act.put, List.setIfInBounds_toArray, List.set_cons_zero, List.set_cons_succ]
        refine anyH_take 13 40 (.int .i64 num) rfl rfl (by kernel_rfl) (by kernel_rfl) (by kernel_rfl) (fun _ _ _ h => h) (Or.inl ⟨by rfl, by intro w hSw; have kr := (hSw.cell (p := ⟨g1, off + i * 4, none⟩) zg).trans r0; go_simp⟩) ((Below.refl _ _).drew) ?_
        try simp only [Act.put, List.setIfInBounds_toArray, List.set_cons_zero, List.set_cons_succ]
        refine anyH_take 14 41 (.pointer (some ⟨w.heap.size, 0, none⟩)) rfl rfl (by kernel_rfl) (by kernel_rfl) (by kernel_rfl) (fun _ _ _ h => h) (Or.inl ⟨by rfl, by intro w hSw; go_simp⟩) ((Below.refl _ _).drew) ?_
        try simp only [Act.put, List.setIfInBounds_toArray, List.set_cons_zero, List.set_cons_succ]
        refine anyH_take 15 42 (.int .i64 next) rfl rfl (by kernel_rfl) (by kernel_rfl) (by kernel_rfl) (fun _ _ _ h => h) (Or.inl ⟨by rfl, by intro w hSw; have kb1 := kf1 _ hSw; have kb0 := kf0 _ hSw; go_simp⟩) ((Below.refl _ _).drew) ?_
        try simp only [Act.put, List.setIfInBounds_toArray, List.set_cons_zero, List.set_cons_succ]
        refine anyH_take 16 43 (.bool true) rfl rfl (by kernel_rfl) (by kernel_rfl) (by kernel_rfl) (fun _ _ _ h => h) (Or.inl ⟨by rfl, by intro w hSw; go_simp⟩) ((Below.refl _ _).drew) ?_
        try simp only [Act.put, List.setIfInBounds_toArray, List.set_cons_zero, List.set_cons_succ]
        refine anyH_take 17 44 (.bool true) rfl rfl (by kernel_rfl) (by kernel_rfl) (by kernel_rfl) (fun _ _ _ h => h) (Or.inl ⟨by rfl, by intro w hSw; go_simp⟩) ((Below.refl _ _).drew) ?_
        try simp only [Act.put, List.setIfInBounds_toArray, List.set_cons_zero, List.set_cons_succ]
        refine anyH_take 18 45 (.bool true) rfl rfl (by kernel_rfl) (by kernel_rfl) (by kernel_rfl) (fun _ _ _ h => h) (Or.inl ⟨by rfl, by intro w hSw; go_simp⟩) ((Below.refl _ _).drew) ?_
        try simp only [Act.put, List.setIfInBounds_toArray, List.set_cons_zero, List.set_cons_succ]
        refine anyH_take 19 46 (undef) rfl rfl (by kernel_rfl) (by kernel_rfl) (by kernel_rfl) (fun _ _ _ h => h) (Or.inr ⟨by rfl, rfl⟩) ((Below.refl _ _).drew) ?_
        try simp only [Act.put, List.setIfInBounds_toArray, List.set_cons_zero, List.set_cons_succ]
        refine anyH_take 20 47 (undef) rfl rfl (by kernel_rfl) (by kernel_rfl) (by kernel_rfl) (fun _ _ _ h => h) (Or.inr ⟨by rfl, rfl⟩) ((Below.refl _ _).drew) ?_
        try simp only [Act.put, List.setIfInBounds_toArray, List.set_cons_zero, List.set_cons_succ]
        refine anyH_take 21 48 (undef) rfl rfl (by kernel_rfl) (by kernel_rfl) (by kernel_rfl) (fun _ _ _ h => h) (Or.inr ⟨by rfl, rfl⟩) ((Below.refl _ _).drew) ?_
        try simp only [Act.put, List.setIfInBounds_toArray, List.set_cons_zero, List.set_cons_succ]
        refine anyH_take 22 49 (undef) rfl rfl (by kernel_rfl) (by kernel_rfl) (by kernel_rfl) (fun _ _ _ h => h) (Or.inr ⟨by rfl, rfl⟩) ((Below.refl _ _).drew) ?_
        try simp only [Act.put, List.setIfInBounds_toArray, List.set_cons_zero, List.set_cons_succ]
        refine anyH_take 23 50 (undef) rfl rfl (by kernel_rfl) (by kernel_rfl) (by kernel_rfl) (fun _ _ _ h => h) (Or.inr ⟨by rfl, rfl⟩) ((Below.refl _ _).drew) ?_
        try simp only [Act.put, List.setIfInBounds_toArray, List.set_cons_zero, List.set_cons_succ]
        refine anyH_take 24 51 (undef) rfl rfl (by kernel_rfl) (by kernel_rfl) (by kernel_rfl) (fun _ _ _ h => h) (Or.inr ⟨by rfl, rfl⟩) ((Below.refl _ _).drew) ?_
        try simp only [Act.put, List.setIfInBounds_toArray, List.set_cons_zero, List.set_cons_succ]
        refine anyH_take 25 52 (undef) rfl rfl (by kernel_rfl) (by kernel_rfl) (by kernel_rfl) (fun _ _ _ h => h) (Or.inr ⟨by rfl, rfl⟩) ((Below.refl _ _).drew) ?_
        try simp only [Act.put, List.setIfInBounds_toArray, List.set_cons_zero, List.set_cons_succ]
        refine anyH_take 26 53 (undef) rfl rfl (by kernel_rfl) (by kernel_rfl) (by kernel_rfl) (fun _ _ _ h => h) (Or.inr ⟨by rfl, rfl⟩) ((Below.refl _ _).drew) ?_
        try simp only [Act.put, List.setIfInBounds_toArray, List.set_cons_zero, List.set_cons_succ]
        refine anyH_take 27 54 (undef) rfl rfl (by kernel_rfl) (by kernel_rfl) (by kernel_rfl) (fun _ _ _ h => h) (Or.inr ⟨by rfl, rfl⟩) ((Below.refl _ _).drew) ?_
        try simp only [Act.put, List.setIfInBounds_toArray, List.set_cons_zero, List.set_cons_succ]
        refine anyH_take 28 55 (undef) rfl rfl (by kernel_rfl) (by kernel_rfl) (by kernel_rfl) (fun _ _ _ h => h) (Or.inr ⟨by rfl, rfl⟩) ((Below.refl _ _).drew) ?_
        try simp only [Act.put, List.setIfInBounds_toArray, List.set_cons_zero, List.set_cons_succ]
        refine anyH_take 29 56 (undef) rfl rfl (by kernel_rfl) (by kernel_rfl) (by kernel_rfl) (fun _ _ _ h => h) (Or.inr ⟨by rfl, rfl⟩) ((Below.refl _ _).drew) ?_
        try simp only [Act.put, List.setIfInBounds_toArray, List.set_cons_zero, List.set_cons_succ]
        refine anyH_take 30 57 (undef) rfl rfl (by kernel_rfl) (by kernel_rfl) (by kernel_rfl) (fun _ _ _ h => h) (Or.inr ⟨by rfl, rfl⟩) ((Below.refl _ _).drew) ?_
        try simp only [Act.put, List.setIfInBounds_toArray, List.set_cons_zero, List.set_cons_succ]
        refine anyH_take 31 58 (undef) rfl rfl (by kernel_rfl) (by kernel_rfl) (by kernel_rfl) (fun _ _ _ h => h) (Or.inr ⟨by rfl, rfl⟩) ((Below.refl _ _).drew) ?_
        try simp only [Act.put, List.setIfInBounds_toArray, List.set_cons_zero, List.set_cons_succ]
        refine anyH_take 32 59 (undef) rfl rfl (by kernel_rfl) (by kernel_rfl) (by kernel_rfl) (fun _ _ _ h => h) (Or.inr ⟨by rfl, rfl⟩) ((Below.refl _ _).drew) ?_
        try simp only [Act.put, List.setIfInBounds_toArray, List.set_cons_zero, List.set_cons_succ]
        refine anyH_take 33 60 (undef) rfl rfl (by kernel_rfl) (by kernel_rfl) (by kernel_rfl) (fun _ _ _ h => h) (Or.inr ⟨by rfl, rfl⟩) ((Below.refl _ _).drew) ?_
        try simp only [Act.put, List.setIfInBounds_toArray, List.set_cons_zero, List.set_cons_succ]
        refine anyH_take 34 61 (undef) rfl rfl (by kernel_rfl) (by kernel_rfl) (by kernel_rfl) (fun _ _ _ h => h) (Or.inr ⟨by rfl, rfl⟩) ((Below.refl _ _).drew) ?_
        try simp only [Act.put, List.setIfInBounds_toArray, List.set_cons_zero, List.set_cons_succ]
        refine anyH_take 35 62 (undef) rfl rfl (by kernel_rfl) (by kernel_rfl) (by kernel_rfl) (fun _ _ _ h => h) (Or.inr ⟨by rfl, rfl⟩) ((Below.refl _ _).drew) ?_
        try simp only [Act.put, List.setIfInBounds_toArray, List.set_cons_zero, List.set_cons_succ]
        refine anyH_take 36 63 (undef) rfl rfl (by kernel_rfl) (by kernel_rfl) (by kernel_rfl) (fun _ _ _ h => h) (Or.inr ⟨by rfl, rfl⟩) ((Below.refl _ _).drew) ?_
        try simp only [Act.put, List.setIfInBounds_toArray, List.set_cons_zero, List.set_cons_succ]
        refine anyH_take 37 64 (.bool true) rfl rfl (by kernel_rfl) (by kernel_rfl) (by kernel_rfl) (fun _ _ _ h => h) (Or.inl ⟨by rfl, by intro w hSw; go_simp⟩) ((Below.refl _ _).drew) ?_
        try simp only [Act.put, List.setIfInBounds_toArray, List.set_cons_zero, List.set_cons_succ]
        refine wpAnyH_done (by kernel_rfl) ?_ _
        go_wp2
        go_ret
        exact ⟨by rw [HY.out]; rfl, (B.later ((Below.refl _ _).drew)).below⟩
      rw [decide_eq_true (show num ≤ next by omega), Bool.true_and] at HX
      by_cases hz : i = 0
      · subst hz
        have HY : Hid (ruB next none ds = ruB next (some num) (ds.drop 1)) := ⟨HX⟩
        have r00 : wr.cell? ⟨g1, off, none⟩ = some (.int .i64 num) := by simpa using r0
        clear HX hdi
        go_wp2
        refine wp_region_any (by kernel_rfl) ?_
        change wpAny _ _ _ _ _ _ _ (World.drew _)
        refine wpAny_narrow (fun W' => Below wr.heap.size wr W') _ _ _ _ ?_
        refine anyH_take 0 27 (.pointer (some ⟨w.heap.size, 1, none⟩)) rfl rfl (by kernel_rfl) (by kernel_rfl) (by kernel_rfl) (fun _ _ _ h => h) (Or.inl ⟨by rfl, by intro w hSw; go_simp⟩) ((Below.refl _ _).drew) ?_
        try simp only [Act.put, List.setIfInBounds_toArray, List.set_cons_zero, List.set_cons_succ]
        refine anyH_take 1 28 (.slice (some ⟨g1, off, none⟩) n c) rfl rfl (by kernel_rfl) (by kernel_rfl) (by kernel_rfl) (fun _ _ _ h => h) (Or.inl ⟨by rfl, by intro w hSw; have kb1 := kf1 _ hSw; have kb0 := kf0 _ hSw; go_simp⟩) ((Below.refl _ _).drew) ?_
        try simp only [Act.put, List.setIfInBounds_toArray, List.set_cons_zero, List.set_cons_succ]
        refine anyH_take 2 29 (.int .i64 (0 : Int)) rfl rfl (by kernel_rfl) (by kernel_rfl) (by kernel_rfl) (fun _ _ _ h => h) (Or.inl ⟨by rfl, by intro w hSw; go_simp⟩) ((Below.refl _ _).drew) ?_
        try simp only [Act.put, List.setIfInBounds_toArray, List.set_cons_zero, List.set_cons_succ]
        refine anyH_take 3 30 (.pointer (some ⟨g1, off, none⟩)) rfl rfl (by kernel_rfl) (by kernel_rfl) (by kernel_rfl) (fun _ _ _ h => h) (Or.inl ⟨by rfl, by intro w hSw; go_simp⟩) ((Below.refl _ _).drew) ?_
        try simp only [Act.put, List.setIfInBounds_toArray, List.set_cons_zero, List.set_cons_succ]
        refine anyH_take 4 31 (.pointer (some ⟨g1, off, none⟩)) rfl rfl (by kernel_rfl) (by kernel_rfl) (by kernel_rfl) (fun _ _ _ h => h) (Or.inl ⟨by rfl, by intro w hSw; go_simp⟩) ((Below.refl _ _).drew) ?_
        try simp only [Act.put, List.setIfInBounds_toArray, List.set_cons_zero, List.set_cons_succ]
        refine anyH_take 5 32 (.int .i64 num) rfl rfl (by kernel_rfl) (by kernel_rfl) (by kernel_rfl) (fun _ _ _ h => h) (Or.inl ⟨by rfl, by intro w hSw; have kr := (hSw.cell (p := ⟨g1, off, none⟩) zg).trans r00; go_simp⟩) ((Below.refl _ _).drew) ?_
        try simp only [Act.put, List.setIfInBounds_toArray, List.set_cons_zero, List.set_cons_succ]
        refine anyH_take 6 33 (.bool false) rfl rfl (by kernel_rfl) (by kernel_rfl) (by kernel_rfl) (fun _ _ _ h => h) (Or.inl ⟨by rfl, by intro w hSw; go_simp⟩) ((Below.refl _ _).drew) ?_
        try simp only [Act.put, List.setIfInBounds_toArray, List.set_cons_zero, List.set_cons_succ]
        refine anyH_take 7 34 (.bool false) rfl rfl (by kernel_rfl) (by kernel_rfl) (by kernel_rfl) (fun _ _ _ h => h) (Or.inl ⟨by rfl, by intro w hSw; go_simp⟩) ((Below.refl _ _).drew) ?_
        try simp only [Act.put, List.setIfInBounds_toArray, List.set_cons_zero, List.set_cons_succ]
        refine anyH_take 8 35 (.pointer (some ⟨w.heap.size, 1, none⟩)) rfl rfl (by kernel_rfl) (by kernel_rfl) (by kernel_rfl) (fun _ _ _ h => h) (Or.inl ⟨by rfl, by intro w hSw; go_simp⟩) ((Below.refl _ _).drew) ?_
        try simp only [Act.put, List.setIfInBounds_toArray, List.set_cons_zero, List.set_cons_succ]
        refine anyH_take 9 36 (.slice (some ⟨g1, off, none⟩) n c) rfl rfl (by kernel_rfl) (by kernel_rfl) (by kernel_rfl) (fun _ _ _ h => h) (Or.inl ⟨by rfl, by intro w hSw; have kb1 := kf1 _ hSw; have kb0 := kf0 _ hSw; go_simp⟩) ((Below.refl _ _).drew) ?_
        try simp only [Act.put, List.setIfInBounds_toArray, List.set_cons_zero, List.set_cons_succ]
        refine anyH_take 10 37 (.int .i64 (0 : Int)) rfl rfl (by kernel_rfl) (by kernel_rfl) (by kernel_rfl) (fun _ _ _ h => h) (Or.inl ⟨by rfl, by intro w hSw; go_simp⟩) ((Below.refl _ _).drew) ?_
        try simp only [Act.put, List.setIfInBounds_toArray, List.set_cons_zero, List.set_cons_succ]
        refine anyH_take 11 38 (.pointer (some ⟨g1, off, none⟩)) rfl rfl (by kernel_rfl) (by kernel_rfl) (by kernel_rfl) (fun _ _ _ h => h) (Or.inl ⟨by rfl, by intro w hSw; go_simp⟩) ((Below.refl _ _).drew) ?_
        try simp only [Act.put, List.setIfInBounds_toArray, List.set_cons_zero, List.set_cons_succ]
        refine anyH_take 12 39 (.pointer (some ⟨g1, off, none⟩)) rfl rfl (by kernel_rfl) (by kernel_rfl) (by kernel_rfl) (fun _ _ _ h => h) (Or.inl ⟨by rfl, by intro w hSw; go_simp⟩) ((Below.refl _ _).drew) ?_
        try simp only [Act.put, List.setIfInBounds_toArray, List.set_cons_zero, List.set_cons_succ]
        refine anyH_take 13 40 (.int .i64 num) rfl rfl (by kernel_rfl) (by kernel_rfl) (by kernel_rfl) (fun _ _ _ h => h) (Or.inl ⟨by rfl, by intro w hSw; have kr := (hSw.cell (p := ⟨g1, off, none⟩) zg).trans r00; go_simp⟩) ((Below.refl _ _).drew) ?_
        try simp only [Act.put, List.setIfInBounds_toArray, List.set_cons_zero, List.set_cons_succ]
        refine anyH_take 14 41 (.pointer (some ⟨w.heap.size, 0, none⟩)) rfl rfl (by kernel_rfl) (by kernel_rfl) (by kernel_rfl) (fun _ _ _ h => h) (Or.inl ⟨by rfl, by intro w hSw; go_simp⟩) ((Below.refl _ _).drew) ?_
        try simp only [Act.put, List.setIfInBounds_toArray, List.set_cons_zero, List.set_cons_succ]
        refine anyH_take 15 42 (.int .i64 next) rfl rfl (by kernel_rfl) (by kernel_rfl) (by kernel_rfl) (fun _ _ _ h => h) (Or.inl ⟨by rfl, by intro w hSw; have kb1 := kf1 _ hSw; have kb0 := kf0 _ hSw; go_simp⟩) ((Below.refl _ _).drew) ?_
        try simp only [Act.put, List.setIfInBounds_toArray, List.set_cons_zero, List.set_cons_succ]
        refine anyH_take 16 43 (.bool false) rfl rfl (by kernel_rfl) (by kernel_rfl) (by kernel_rfl) (fun _ _ _ h => h) (Or.inl ⟨by rfl, by intro w hSw; go_simp⟩) ((Below.refl _ _).drew) ?_
        try simp only [Act.put, List.setIfInBounds_toArray, List.set_cons_zero, List.set_cons_succ]
        refine anyH_take 17 44 (.bool false) rfl rfl (by kernel_rfl) (by kernel_rfl) (by kernel_rfl) (fun _ _ _ h => h) (Or.inl ⟨by rfl, by intro w hSw; go_simp⟩) ((Below.refl _ _).drew) ?_
        try simp only [Act.put, List.setIfInBounds_toArray, List.set_cons_zero, List.set_cons_succ]
        refine anyH_take 18 45 (.bool false) rfl rfl (by kernel_rfl) (by kernel_rfl) (by kernel_rfl) (fun _ _ _ h => h) (Or.inl ⟨by rfl, by intro w hSw; go_simp⟩) ((Below.refl _ _).drew) ?_
        try simp only [Act.put, List.setIfInBounds_toArray, List.set_cons_zero, List.set_cons_succ]
        refine anyH_take 19 46 (.int .i64 0) rfl rfl (by kernel_rfl) (by kernel_rfl) (by kernel_rfl) (fun _ _ _ h => h) (Or.inl ⟨by rfl, by intro w hSw; go_simp⟩) ((Below.refl _ _).drew) ?_
        try simp only [Act.put, List.setIfInBounds_toArray, List.set_cons_zero, List.set_cons_succ]
        refine anyH_take 20 47 (.bool false) rfl rfl (by kernel_rfl) (by kernel_rfl) (by kernel_rfl) (fun _ _ _ h => h) (Or.inl ⟨by rfl, by intro w hSw; go_simp⟩) ((Below.refl _ _).drew) ?_
        try simp only [Act.put, List.setIfInBounds_toArray, List.set_cons_zero, List.set_cons_succ]
        refine anyH_take 21 48 (.bool false) rfl rfl (by kernel_rfl) (by kernel_rfl) (by kernel_rfl) (fun _ _ _ h => h) (Or.inl ⟨by rfl, by intro w hSw; go_simp⟩) ((Below.refl _ _).drew) ?_
        try simp only [Act.put, List.setIfInBounds_toArray, List.set_cons_zero, List.set_cons_succ]
        refine anyH_take 22 49 (undef) rfl rfl (by kernel_rfl) (by kernel_rfl) (by kernel_rfl) (fun _ _ _ h => h) (Or.inr ⟨by rfl, rfl⟩) ((Below.refl _ _).drew) ?_
        try simp only [Act.put, List.setIfInBounds_toArray, List.set_cons_zero, List.set_cons_succ]
        refine anyH_take 23 50 (undef) rfl rfl (by kernel_rfl) (by kernel_rfl) (by kernel_rfl) (fun _ _ _ h => h) (Or.inr ⟨by rfl, rfl⟩) ((Below.refl _ _).drew) ?_
        try simp only [Act.put, List.setIfInBounds_toArray, List.set_cons_zero, List.set_cons_succ]
        refine anyH_take 24 51 (undef) rfl rfl (by kernel_rfl) (by kernel_rfl) (by kernel_rfl) (fun _ _ _ h => h) (Or.inr ⟨by rfl, rfl⟩) ((Below.refl _ _).drew) ?_
        try simp only [Act.put, List.setIfInBounds_toArray, List.set_cons_zero, List.set_cons_succ]
        refine anyH_take 25 52 (undef) rfl rfl (by kernel_rfl) (by kernel_rfl) (by kernel_rfl) (fun _ _ _ h => h) (Or.inr ⟨by rfl, rfl⟩) ((Below.refl _ _).drew) ?_
        try simp only [Act.put, List.setIfInBounds_toArray, List.set_cons_zero, List.set_cons_succ]
        refine anyH_take 26 53 (undef) rfl rfl (by kernel_rfl) (by kernel_rfl) (by kernel_rfl) (fun _ _ _ h => h) (Or.inr ⟨by rfl, rfl⟩) ((Below.refl _ _).drew) ?_
        try simp only [Act.put, List.setIfInBounds_toArray, List.set_cons_zero, List.set_cons_succ]
        refine anyH_take 27 54 (undef) rfl rfl (by kernel_rfl) (by kernel_rfl) (by kernel_rfl) (fun _ _ _ h => h) (Or.inr ⟨by rfl, rfl⟩) ((Below.refl _ _).drew) ?_
        try simp only [Act.put, List.setIfInBounds_toArray, List.set_cons_zero, List.set_cons_succ]
        refine anyH_take 28 55 (undef) rfl rfl (by kernel_rfl) (by kernel_rfl) (by kernel_rfl) (fun _ _ _ h => h) (Or.inr ⟨by rfl, rfl⟩) ((Below.refl _ _).drew) ?_
        try simp only [Act.put, List.setIfInBounds_toArray, List.set_cons_zero, List.set_cons_succ]
        refine anyH_take 29 56 (undef) rfl rfl (by kernel_rfl) (by kernel_rfl) (by kernel_rfl) (fun _ _ _ h => h) (Or.inr ⟨by rfl, rfl⟩) ((Below.refl _ _).drew) ?_
        try simp only [Act.put, List.setIfInBounds_toArray, List.set_cons_zero, List.set_cons_succ]
        refine anyH_take 30 57 (undef) rfl rfl (by kernel_rfl) (by kernel_rfl) (by kernel_rfl) (fun _ _ _ h => h) (Or.inr ⟨by rfl, rfl⟩) ((Below.refl _ _).drew) ?_
        try simp only [Act.put, List.setIfInBounds_toArray, List.set_cons_zero, List.set_cons_succ]
        refine anyH_take 31 58 (undef) rfl rfl (by kernel_rfl) (by kernel_rfl) (by kernel_rfl) (fun _ _ _ h => h) (Or.inr ⟨by rfl, rfl⟩) ((Below.refl _ _).drew) ?_
        try simp only [Act.put, List.setIfInBounds_toArray, List.set_cons_zero, List.set_cons_succ]
        refine anyH_take 32 59 (undef) rfl rfl (by kernel_rfl) (by kernel_rfl) (by kernel_rfl) (fun _ _ _ h => h) (Or.inr ⟨by rfl, rfl⟩) ((Below.refl _ _).drew) ?_
        try simp only [Act.put, List.setIfInBounds_toArray, List.set_cons_zero, List.set_cons_succ]
        refine anyH_take 33 60 (undef) rfl rfl (by kernel_rfl) (by kernel_rfl) (by kernel_rfl) (fun _ _ _ h => h) (Or.inr ⟨by rfl, rfl⟩) ((Below.refl _ _).drew) ?_
        try simp only [Act.put, List.setIfInBounds_toArray, List.set_cons_zero, List.set_cons_succ]
        refine anyH_take 34 61 (undef) rfl rfl (by kernel_rfl) (by kernel_rfl) (by kernel_rfl) (fun _ _ _ h => h) (Or.inr ⟨by rfl, rfl⟩) ((Below.refl _ _).drew) ?_
        try simp only [Act.put, List.setIfInBounds_toArray, List.set_cons_zero, List.set_cons_succ]
        refine anyH_take 35 62 (undef) rfl rfl (by kernel_rfl) (by kernel_rfl) (by kernel_rfl) (fun _ _ _ h => h) (Or.inr ⟨by rfl, rfl⟩) ((Below.refl _ _).drew) ?_
        try simp only [Act.put, List.setIfInBounds_toArray, List.set_cons_zero, List.set_cons_succ]
        refine anyH_take 36 63 (.bool false) rfl rfl (by kernel_rfl) (by kernel_rfl) (by kernel_rfl) (fun _ _ _ h => h) (Or.inl ⟨by rfl, by intro w hSw; go_simp⟩) ((Below.refl _ _).drew) ?_
        try simp only [Act.put, List.setIfInBounds_toArray, List.set_cons_zero, List.set_cons_succ]
        refine anyH_take 37 64 (.bool false) rfl rfl (by kernel_rfl) (by kernel_rfl) (by kernel_rfl) (fun _ _ _ h => h) (Or.inl ⟨by rfl, by intro w hSw; go_simp⟩) ((Below.refl _ _).drew) ?_
        try simp only [Act.put, List.setIfInBounds_toArray, List.set_cons_zero, List.set_cons_succ]
        refine wpAnyH_done (by kernel_rfl) ?_ _
        go_wp2
        go_roundg (gk - 1)
        case measure => omega
        case rel => exact ⟨1, by first | rfl | go_num, by omega, B.later ((Below.refl _ _).drew), ⟨by rw [HP.out]; exact HY.out⟩⟩
      · have hzI : (0 : Int) < (i : Int) := by omega
        have hzN : 0 < i := by omega
        obtain ⟨⟨num', src', dst', body'⟩, hd'⟩ : ∃ d, ds.getD (i - 1) DG.z = d := ⟨_, rfl⟩
        have hrq := range_later (hra (i - 1) (by omega)) hgl B.below
        rw [hd'] at hrq
        have r1 : wr.cell? ⟨g1, off + (i - 1) * 4, none⟩ = some (.int .i64 num') := hrq 0 _ rfl
        have hqi : ds[i - 1]? = some ⟨num', src', dst', body'⟩ := by rw [get_dz ds (i - 1) (by have := HN.out; omega), hd']
        have hah : aheadN ds i = some num' := by unfold aheadN; rw [if_neg hz, hqi]; rfl
        rw [hah] at HX
        have hsub : IntKind.i64.wrap ((i : Int) - 1) = ((i - 1 : Nat) : Int) := by rw [IntKind.wrap_i64]; have := HN.out; omega
        have hs1 : ((i - 1 : Nat) : Int) < (n : Int) := by omega
        have hs0 : (0 : Int) ≤ ((i - 1 : Nat) : Int) := by omega
        by_cases h3 : num ≤ num'
        · have HY : Hid (fitB next ds ls = false) := ⟨by rw [HF.out, HX]; simp only; rw [decide_eq_false (show ¬ num' < num by omega)]; rfl⟩
          clear HX HP hdi hrq hd' hqi hah hra
          go_wp2
          refine wp_region_any (by kernel_rfl) ?_
          change wpAny _ _ _ _ _ _ _ (World.drew _)
          refine wpAny_narrow (fun W' => Below wr.heap.size wr W') _ _ _ _ ?_
          refine anyH_take 0 27 (.pointer (some ⟨w.heap.size, 1, none⟩)) rfl rfl (by kernel_rfl) (by kernel_rfl) (by kernel_rfl) (fun _ _ _ h => h) (Or.inl ⟨by rfl, by intro w hSw; go_simp⟩) ((Below.refl _ _).drew) ?_
          try simp only [Act.put, List.setIfInBounds_toArray, List.set_cons_zero, List.set_cons_succ]
          refine anyH_take 1 28 (.slice (some ⟨g1, off, none⟩) n c) rfl rfl (by kernel_rfl) (by kernel_rfl) (by kernel_rfl) (fun _ _ _ h => h) (Or.inl ⟨by rfl, by intro w hSw; have kb1 := kf1 _ hSw; have kb0 := kf0 _ hSw; go_simp⟩) ((Below.refl _ _).drew) ?_
          try simp only [Act.put, List.setIfInBounds_toArray, List.set_cons_zero, List.set_cons_succ]
          refine anyH_take 2 29 (.int .i64 (i : Int)) rfl rfl (by kernel_rfl) (by kernel_rfl) (by kernel_rfl) (fun _ _ _ h => h) (Or.inl ⟨by rfl, by intro w hSw; go_simp⟩) ((Below.refl _ _).drew) ?_
          try simp only [Act.put, List.setIfInBounds_toArray, List.set_cons_zero, List.set_cons_succ]
          refine anyH_take 3 30 (.pointer (some ⟨g1, off + i * 4, none⟩)) rfl rfl (by kernel_rfl) (by kernel_rfl) (by kernel_rfl) (fun _ _ _ h => h) (Or.inl ⟨by rfl, by intro w hSw; go_simp⟩) ((Below.refl _ _).drew) ?_
          try simp only [Act.put, List.setIfInBounds_toArray, List.set_cons_zero, List.set_cons_succ]
          refine anyH_take 4 31 (.pointer (some ⟨g1, off + i * 4, none⟩)) rfl rfl (by kernel_rfl) (by kernel_rfl) (by kernel_rfl) (fun _ _ _ h => h) (Or.inl ⟨by rfl, by intro w hSw; go_simp⟩) ((Below.refl _ _).drew) ?_
          try simp only [Act.put, List.setIfInBounds_toArray, List.set_cons_zero, List.set_cons_succ]
          refine anyH_take 5 32 (.int .i64 num) rfl rfl (by kernel_rfl) (by kernel_rfl) (by kernel_rfl) (fun _ _ _ h => h) (Or.inl ⟨by rfl, by intro w hSw; have kr := (hSw.cell (p := ⟨g1, off + i * 4, none⟩) zg).trans r0; go_simp⟩) ((Below.refl _ _).drew) ?_
          try simp only [Act.put, List.setIfInBounds_toArray, List.set_cons_zero, List.set_cons_succ]
          refine anyH_take 6 33 (.bool false) rfl rfl (by kernel_rfl) (by kernel_rfl) (by kernel_rfl) (fun _ _ _ h => h) (Or.inl ⟨by rfl, by intro w hSw; go_simp⟩) ((Below.refl _ _).drew) ?_
          try simp only [Act.put, List.setIfInBounds_toArray, List.set_cons_zero, List.set_cons_succ]
          refine anyH_take 7 34 (.bool false) rfl rfl (by kernel_rfl) (by kernel_rfl) (by kernel_rfl) (fun _ _ _ h => h) (Or.inl ⟨by rfl, by intro w hSw; go_simp⟩) ((Below.refl _ _).drew) ?_
          try simp only [Act.put, List.setIfInBounds_toArray, List.set_cons_zero, List.set_cons_succ]
          refine anyH_take 8 35 (.pointer (some ⟨w.heap.size, 1, none⟩)) rfl rfl (by kernel_rfl) (by kernel_rfl) (by kernel_rfl) (fun _ _ _ h => h) (Or.inl ⟨by rfl, by intro w hSw; go_simp⟩) ((Below.refl _ _).drew) ?_
          try simp only [Act.put, List.setIfInBounds_toArray, List.set_cons_zero, List.set_cons_succ]
          refine anyH_take 9 36 (.slice (some ⟨g1, off, none⟩) n c) rfl rfl (by kernel_rfl) (by kernel_rfl) (by kernel_rfl) (fun _ _ _ h => h) (Or.inl ⟨by rfl, by intro w hSw; have kb1 := kf1 _ hSw; have kb0 := kf0 _ hSw; go_simp⟩) ((Below.refl _ _).drew) ?_
          try simp only [Act.put, List.setIfInBounds_toArray, List.set_cons_zero, List.set_cons_succ]
          refine anyH_take 10 37 (.int .i64 (i : Int)) rfl rfl (by kernel_rfl) (by kernel_rfl) (by kernel_rfl) (fun _ _ _ h => h) (Or.inl ⟨by rfl, by intro w hSw; go_simp⟩) ((Below.refl _ _).drew) ?_
          try simp only [Act.put, List.setIfInBounds_toArray, List.set_cons_zero, List.set_cons_succ]
          refine anyH_take 11 38 (.pointer (some ⟨g1, off + i * 4, none⟩)) rfl rfl (by kernel_rfl) (by kernel_rfl) (by kernel_rfl) (fun _ _ _ h => h) (Or.inl ⟨by rfl, by intro w hSw; go_simp⟩) ((Below.refl _ _).drew) ?_
          try simp only [Act.put, List.setIfInBounds_toArray, List.set_cons_zero, List.set_cons_succ]
          refine anyH_take 12 39 (.pointer (some ⟨g1, off + i * 4, none⟩)) rfl rfl (by kernel_rfl) (by kernel_rfl) (by kernel_rfl) (fun _ _ _ h => h) (Or.inl ⟨by rfl, by intro w hSw; go_simp⟩) ((Below.refl _ _).drew) ?_
          try simp only [Act.put, List.setIfInBounds_toArray, List.set_cons_zero, List.set_cons_succ]
          refine anyH_take 13 40 (.int .i64 num) rfl rfl (by kernel_rfl) (by kernel_rfl) (by kernel_rfl) (fun _ _ _ h => h) (Or.inl ⟨by rfl, by intro w hSw; have kr := (hSw.cell (p := ⟨g1, off + i * 4, none⟩) zg).trans r0; go_simp⟩) ((Below.refl _ _).drew) ?_
          try simp only [Act.put, List.setIfInBounds_toArray, List.set_cons_zero, List.set_cons_succ]
          refine anyH_take 14 41 (.pointer (some ⟨w.heap.size, 0, none⟩)) rfl rfl (by kernel_rfl) (by kernel_rfl) (by kernel_rfl) (fun _ _ _ h => h) (Or.inl ⟨by rfl, by intro w hSw; go_simp⟩) ((Below.refl _ _).drew) ?_
          try simp only [Act.put, List.setIfInBounds_toArray, List.set_cons_zero, List.set_cons_succ]
          refine anyH_take 15 42 (.int .i64 next) rfl rfl (by kernel_rfl) (by kernel_rfl) (by kernel_rfl) (fun _ _ _ h => h) (Or.inl ⟨by rfl, by intro w hSw; have kb1 := kf1 _ hSw; have kb0 := kf0 _ hSw; go_simp⟩) ((Below.refl _ _).drew) ?_
          try simp only [Act.put, List.setIfInBounds_toArray, List.set_cons_zero, List.set_cons_succ]
          refine anyH_take 16 43 (.bool false) rfl rfl (by kernel_rfl) (by kernel_rfl) (by kernel_rfl) (fun _ _ _ h => h) (Or.inl ⟨by rfl, by intro w hSw; go_simp⟩) ((Below.refl _ _).drew) ?_
          try simp only [Act.put, List.setIfInBounds_toArray, List.set_cons_zero, List.set_cons_succ]
          refine anyH_take 17 44 (.bool false) rfl rfl (by kernel_rfl) (by kernel_rfl) (by kernel_rfl) (fun _ _ _ h => h) (Or.inl ⟨by rfl, by intro w hSw; go_simp⟩) ((Below.refl _ _).drew) ?_
          try simp only [Act.put, List.setIfInBounds_toArray, List.set_cons_zero, List.set_cons_succ]
          refine anyH_take 18 45 (.bool false) rfl rfl (by kernel_rfl) (by kernel_rfl) (by kernel_rfl) (fun _ _ _ h => h) (Or.inl ⟨by rfl, by intro w hSw; go_simp⟩) ((Below.refl _ _).drew) ?_
          try simp only [Act.put, List.setIfInBounds_toArray, List.set_cons_zero, List.set_cons_succ]
          refine anyH_take 19 46 (.int .i64 (i : Int)) rfl rfl (by kernel_rfl) (by kernel_rfl) (by kernel_rfl) (fun _ _ _ h => h) (Or.inl ⟨by rfl, by intro w hSw; go_simp⟩) ((Below.refl _ _).drew) ?_
          try simp only [Act.put, List.setIfInBounds_toArray, List.set_cons_zero, List.set_cons_succ]
          refine anyH_take 20 47 (.bool true) rfl rfl (by kernel_rfl) (by kernel_rfl) (by kernel_rfl) (fun _ _ _ h => h) (Or.inl ⟨by rfl, by intro w hSw; go_simp⟩) ((Below.refl _ _).drew) ?_
          try simp only [Act.put, List.setIfInBounds_toArray, List.set_cons_zero, List.set_cons_succ]
          refine anyH_take 21 48 (.bool true) rfl rfl (by kernel_rfl) (by kernel_rfl) (by kernel_rfl) (fun _ _ _ h => h) (Or.inl ⟨by rfl, by intro w hSw; go_simp⟩) ((Below.refl _ _).drew) ?_
          try simp only [Act.put, List.setIfInBounds_toArray, List.set_cons_zero, List.set_cons_succ]
          refine anyH_take 22 49 (.pointer (some ⟨w.heap.size, 1, none⟩)) rfl rfl (by kernel_rfl) (by kernel_rfl) (by kernel_rfl) (fun _ _ _ h => h) (Or.inl ⟨by rfl, by intro w hSw; go_simp⟩) ((Below.refl _ _).drew) ?_
          try simp only [Act.put, List.setIfInBounds_toArray, List.set_cons_zero, List.set_cons_succ]
          refine anyH_take 23 50 (.slice (some ⟨g1, off, none⟩) n c) rfl rfl (by kernel_rfl) (by kernel_rfl) (by kernel_rfl) (fun _ _ _ h => h) (Or.inl ⟨by rfl, by intro w hSw; have kb1 := kf1 _ hSw; have kb0 := kf0 _ hSw; go_simp⟩) ((Below.refl _ _).drew) ?_
          try simp only [Act.put, List.setIfInBounds_toArray, List.set_cons_zero, List.set_cons_succ]
          refine anyH_take 24 51 (.int .i64 (i : Int)) rfl rfl (by kernel_rfl) (by kernel_rfl) (by kernel_rfl) (fun _ _ _ h => h) (Or.inl ⟨by rfl, by intro w hSw; go_simp⟩) ((Below.refl _ _).drew) ?_
          try simp only [Act.put, List.setIfInBounds_toArray, List.set_cons_zero, List.set_cons_succ]
          refine anyH_take 25 52 (.pointer (some ⟨g1, off + i * 4, none⟩)) rfl rfl (by kernel_rfl) (by kernel_rfl) (by kernel_rfl) (fun _ _ _ h => h) (Or.inl ⟨by rfl, by intro w hSw; go_simp⟩) ((Below.refl _ _).drew) ?_
          try simp only [Act.put, List.setIfInBounds_toArray, List.set_cons_zero, List.set_cons_succ]
          refine anyH_take 26 53 (.pointer (some ⟨g1, off + i * 4, none⟩)) rfl rfl (by kernel_rfl) (by kernel_rfl) (by kernel_rfl) (fun _ _ _ h => h) (Or.inl ⟨by rfl, by intro w hSw; go_simp⟩) ((Below.refl _ _).drew) ?_
          try simp only [Act.put, List.setIfInBounds_toArray, List.set_cons_zero, List.set_cons_succ]
          refine anyH_take 27 54 (.int .i64 num) rfl rfl (by kernel_rfl) (by kernel_rfl) (by kernel_rfl) (fun _ _ _ h => h) (Or.inl ⟨by rfl, by intro w hSw; have kr := (hSw.cell (p := ⟨g1, off + i * 4, none⟩) zg).trans r0; go_simp⟩) ((Below.refl _ _).drew) ?_
          try simp only [Act.put, List.setIfInBounds_toArray, List.set_cons_zero, List.set_cons_succ]
          refine anyH_take 28 55 (.pointer (some ⟨w.heap.size, 1, none⟩)) rfl rfl (by kernel_rfl) (by kernel_rfl) (by kernel_rfl) (fun _ _ _ h => h) (Or.inl ⟨by rfl, by intro w hSw; go_simp⟩) ((Below.refl _ _).drew) ?_
          try simp only [Act.put, List.setIfInBounds_toArray, List.set_cons_zero, List.set_cons_succ]
          refine anyH_take 29 56 (.slice (some ⟨g1, off, none⟩) n c) rfl rfl (by kernel_rfl) (by kernel_rfl) (by kernel_rfl) (fun _ _ _ h => h) (Or.inl ⟨by rfl, by intro w hSw; have kb1 := kf1 _ hSw; have kb0 := kf0 _ hSw; go_simp⟩) ((Below.refl _ _).drew) ?_
          try simp only [Act.put, List.setIfInBounds_toArray, List.set_cons_zero, List.set_cons_succ]
          refine anyH_take 30 57 (.int .i64 (i : Int)) rfl rfl (by kernel_rfl) (by kernel_rfl) (by kernel_rfl) (fun _ _ _ h => h) (Or.inl ⟨by rfl, by intro w hSw; go_simp⟩) ((Below.refl _ _).drew) ?_
          try simp only [Act.put, List.setIfInBounds_toArray, List.set_cons_zero, List.set_cons_succ]
          refine anyH_take 31 58 (.int .i64 ((i - 1 : Nat) : Int)) rfl rfl (by kernel_rfl) (by kernel_rfl) (by kernel_rfl) (fun _ _ _ h => h) (Or.inl ⟨by rfl, by intro w hSw; have w1 := hsub; go_simp⟩) ((Below.refl _ _).drew) ?_
          try simp only [Act.put, List.setIfInBounds_toArray, List.set_cons_zero, List.set_cons_succ]
          refine anyH_take 32 59 (.pointer (some ⟨g1, off + (i - 1) * 4, none⟩)) rfl rfl (by kernel_rfl) (by kernel_rfl) (by kernel_rfl) (fun _ _ _ h => h) (Or.inl ⟨by rfl, by intro w hSw; go_simp⟩) ((Below.refl _ _).drew) ?_
          try simp only [Act.put, List.setIfInBounds_toArray, List.set_cons_zero, List.set_cons_succ]
          refine anyH_take 33 60 (.pointer (some ⟨g1, off + (i - 1) * 4, none⟩)) rfl rfl (by kernel_rfl) (by kernel_rfl) (by kernel_rfl) (fun _ _ _ h => h) (Or.inl ⟨by rfl, by intro w hSw; go_simp⟩) ((Below.refl _ _).drew) ?_
          try simp only [Act.put, List.setIfInBounds_toArray, List.set_cons_zero, List.set_cons_succ]
          refine anyH_take 34 61 (.int .i64 num') rfl rfl (by kernel_rfl) (by kernel_rfl) (by kernel_rfl) (fun _ _ _ h => h) (Or.inl ⟨by rfl, by intro w hSw; have kp := (hSw.cell (p := ⟨g1, off + (i - 1) * 4, none⟩) zg).trans r1; go_simp⟩) ((Below.refl _ _).drew) ?_
          try simp only [Act.put, List.setIfInBounds_toArray, List.set_cons_zero, List.set_cons_succ]
          refine anyH_take 35 62 (.bool true) rfl rfl (by kernel_rfl) (by kernel_rfl) (by kernel_rfl) (fun _ _ _ h => h) (Or.inl ⟨by rfl, by intro w hSw; go_simp⟩) ((Below.refl _ _).drew) ?_
          try simp only [Act.put, List.setIfInBounds_toArray, List.set_cons_zero, List.set_cons_succ]
          refine anyH_take 36 63 (.bool true) rfl rfl (by kernel_rfl) (by kernel_rfl) (by kernel_rfl) (fun _ _ _ h => h) (Or.inl ⟨by rfl, by intro w hSw; go_simp⟩) ((Below.refl _ _).drew) ?_
          try simp only [Act.put, List.setIfInBounds_toArray, List.set_cons_zero, List.set_cons_succ]
          refine anyH_take 37 64 (.bool true) rfl rfl (by kernel_rfl) (by kernel_rfl) (by kernel_rfl) (fun _ _ _ h => h) (Or.inl ⟨by rfl, by intro w hSw; go_simp⟩) ((Below.refl _ _).drew) ?_
          try simp only [Act.put, List.setIfInBounds_toArray, List.set_cons_zero, List.set_cons_succ]
          refine wpAnyH_done (by kernel_rfl) ?_ _
          go_wp2
          go_ret
          exact ⟨by rw [HY.out]; rfl, (B.later ((Below.refl _ _).drew)).below⟩
        · have HY : Hid (ruB next none ds = ruB next (some num) (ds.drop (i + 1))) := ⟨by rw [HX]; simp only; rw [decide_eq_true (show num' < num by omega)]; rfl⟩
          clear HX hdi hrq hd' hqi hah hra
          go_wp2
          refine wp_region_any (by kernel_rfl) ?_
          change wpAny _ _ _ _ _ _ _ (World.drew _)
          refine wpAny_narrow (fun W' => Below wr.heap.size wr W') _ _ _ _ ?_
          refine anyH_take 0 27 (.pointer (some ⟨w.heap.size, 1, none⟩)) rfl rfl (by kernel_rfl) (by kernel_rfl) (by kernel_rfl) (fun _ _ _ h => h) (Or.inl ⟨by rfl, by intro w hSw; go_simp⟩) ((Below.refl _ _).drew) ?_
          try simp only [Act.put, List.setIfInBounds_toArray, List.set_cons_zero, List.set_cons_succ]
          refine anyH_take 1 28 (.slice (some ⟨g1, off, none⟩) n c) rfl rfl (by kernel_rfl) (by kernel_rfl) (by kernel_rfl) (fun _ _ _ h => h) (Or.inl ⟨by rfl, by intro w hSw; have kb1 := kf1 _ hSw; have kb0 := kf0 _ hSw; go_simp⟩) ((Below.refl _ _).drew) ?_
          try simp only [Act.put, List.setIfInBounds_toArray, List.set_cons_zero, List.set_cons_succ]
          refine anyH_take 2 29 (.int .i64 (i : Int)) rfl rfl (by kernel_rfl) (by kernel_rfl) (by kernel_rfl) (fun _ _ _ h => h) (Or.inl ⟨by rfl, by intro w hSw; go_simp⟩) ((Below.refl _ _).drew) ?_
          try simp only [Act.put, List.setIfInBounds_toArray, List.set_cons_zero, List.set_cons_succ]
          refine anyH_take 3 30 (.pointer (some ⟨g1, off + i * 4, none⟩)) rfl rfl (by kernel_rfl) (by kernel_rfl) (by kernel_rfl) (fun _ _ _ h => h) (Or.inl ⟨by rfl, by intro w hSw; go_simp⟩) ((Below.refl _ _).drew) ?_
          try simp only [Act.put, List.setIfInBounds_toArray, List.set_cons_zero, List.set_cons_succ]
          refine anyH_take 4 31 (.pointer (some ⟨g1, off + i * 4, none⟩)) rfl rfl (by kernel_rfl) (by kernel_rfl) (by kernel_rfl) (fun _ _ _ h => h) (Or.inl ⟨by rfl, by intro w hSw; go_simp⟩) ((Below.refl _ _).drew) ?_
          try simp only [Act.put, List.setIfInBounds_toArray, List.set_cons_zero, List.set_cons_succ]
          refine anyH_take 5 32 (.int .i64 num) rfl rfl (by kernel_rfl) (by kernel_rfl) (by kernel_rfl) (fun _ _ _ h => h) (Or.inl ⟨by rfl, by intro w hSw; have kr := (hSw.cell (p := ⟨g1, off + i * 4, none⟩) zg).trans r0; go_simp⟩) ((Below.refl _ _).drew) ?_
          try simp only [Act.put, List.setIfInBounds_toArray, List.set_cons_zero, List.set_cons_succ]
          refine anyH_take 6 33 (.bool false) rfl rfl (by kernel_rfl) (by kernel_rfl) (by kernel_rfl) (fun _ _ _ h => h) (Or.inl ⟨by rfl, by intro w hSw; go_simp⟩) ((Below.refl _ _).drew) ?_
          try simp only [Act.put, List.setIfInBounds_toArray, List.set_cons_zero, List.set_cons_succ]
          refine anyH_take 7 34 (.bool false) rfl rfl (by kernel_rfl) (by kernel_rfl) (by kernel_rfl) (fun _ _ _ h => h) (Or.inl ⟨by rfl, by intro w hSw; go_simp⟩) ((Below.refl _ _).drew) ?_
          try simp only [Act.put, List.setIfInBounds_toArray, List.set_cons_zero, List.set_cons_succ]
          refine anyH_take 8 35 (.pointer (some ⟨w.heap.size, 1, none⟩)) rfl rfl (by kernel_rfl) (by kernel_rfl) (by kernel_rfl) (fun _ _ _ h => h) (Or.inl ⟨by rfl, by intro w hSw; go_simp⟩) ((Below.refl _ _).drew) ?_
          try simp only [Act.put, List.setIfInBounds_toArray, List.set_cons_zero, List.set_cons_succ]
          refine anyH_take 9 36 (.slice (some ⟨g1, off, none⟩) n c) rfl rfl (by kernel_rfl) (by kernel_rfl) (by kernel_rfl) (fun _ _ _ h => h) (Or.inl ⟨by rfl, by intro w hSw; have kb1 := kf1 _ hSw; have kb0 := kf0 _ hSw; go_simp⟩) ((Below.refl _ _).drew) ?_
          try simp only [Act.put, List.setIfInBounds_toArray, List.set_cons_zero, List.set_cons_succ]
          refine anyH_take 10 37 (.int .i64 (i : Int)) rfl rfl (by kernel_rfl) (by kernel_rfl) (by kernel_rfl) (fun _ _ _ h => h) (Or.inl ⟨by rfl, by intro w hSw; go_simp⟩) ((Below.refl _ _).drew) ?_
          try simp only [Act.put, List.setIfInBounds_toArray, List.set_cons_zero, List.set_cons_succ]
          refine anyH_take 11 38 (.pointer (some ⟨g1, off + i * 4, none⟩)) rfl rfl (by kernel_rfl) (by kernel_rfl) (by kernel_rfl) (fun _ _ _ h => h) (Or.inl ⟨by rfl, by intro w hSw; go_simp⟩) ((Below.refl _ _).drew) ?_
          try simp only [Act.put, List.setIfInBounds_toArray, List.set_cons_zero, List.set_cons_succ]
          refine anyH_take 12 39 (.pointer (some ⟨g1, off + i * 4, none⟩)) rfl rfl (by kernel_rfl) (by kernel_rfl) (by kernel_rfl) (fun _ _ _ h => h) (Or.inl ⟨by rfl, by intro w hSw; go_simp⟩) ((Below.refl _ _).drew) ?_
          try simp only [Act.put, List.setIfInBounds_toArray, List.set_cons_zero, List.set_cons_succ]
          refine anyH_take 13 40 (.int .i64 num) rfl rfl (by kernel_rfl) (by kernel_rfl) (by kernel_rfl) (fun _ _ _ h => h) (Or.inl ⟨by rfl, by intro w hSw; have kr := (hSw.cell (p := ⟨g1, off + i * 4, none⟩) zg).trans r0; go_simp⟩) ((Below.refl _ _).drew) ?_
          try simp only [Act.put, List.setIfInBounds_toArray, List.set_cons_zero, List.set_cons_succ]
          refine anyH_take 14 41 (.pointer (some ⟨w.heap.size, 0, none⟩)) rfl rfl (by kernel_rfl) (by kernel_rfl) (by kernel_rfl) (fun _ _ _ h => h) (Or.inl ⟨by rfl, by intro w hSw; go_simp⟩) ((Below.refl _ _).drew) ?_
          try simp only [Act.put, List.setIfInBounds_toArray, List.set_cons_zero, List.set_cons_succ]
          refine anyH_take 15 42 (.int .i64 next) rfl rfl (by kernel_rfl) (by kernel_rfl) (by kernel_rfl) (fun _ _ _ h => h) (Or.inl ⟨by rfl, by intro w hSw; have kb1 := kf1 _ hSw; have kb0 := kf0 _ hSw; go_simp⟩) ((Below.refl _ _).drew) ?_
          try simp only [Act.put, List.setIfInBounds_toArray, List.set_cons_zero, List.set_cons_succ]
          refine anyH_take 16 43 (.bool false) rfl rfl (by kernel_rfl) (by kernel_rfl) (by kernel_rfl) (fun _ _ _ h => h) (Or.inl ⟨by rfl, by intro w hSw; go_simp⟩) ((Below.refl _ _).drew) ?_
          try simp only [Act.put, List.setIfInBounds_toArray, List.set_cons_zero, List.set_cons_succ]
          refine anyH_take 17 44 (.bool false) rfl rfl (by kernel_rfl) (by kernel_rfl) (by kernel_rfl) (fun _ _ _ h => h) (Or.inl ⟨by rfl, by intro w hSw; go_simp⟩) ((Below.refl _ _).drew) ?_
          try simp only [Act.put, List.setIfInBounds_toArray, List.set_cons_zero, List.set_cons_succ]
          refine anyH_take 18 45 (.bool false) rfl rfl (by kernel_rfl) (by kernel_rfl) (by kernel_rfl) (fun _ _ _ h => h) (Or.inl ⟨by rfl, by intro w hSw; go_simp⟩) ((Below.refl _ _).drew) ?_
          try simp only [Act.put, List.setIfInBounds_toArray, List.set_cons_zero, List.set_cons_succ]
          refine anyH_take 19 46 (.int .i64 (i : Int)) rfl rfl (by kernel_rfl) (by kernel_rfl) (by kernel_rfl) (fun _ _ _ h => h) (Or.inl ⟨by rfl, by intro w hSw; go_simp⟩) ((Below.refl _ _).drew) ?_
          try simp only [Act.put, List.setIfInBounds_toArray, List.set_cons_zero, List.set_cons_succ]
          refine anyH_take 20 47 (.bool true) rfl rfl (by kernel_rfl) (by kernel_rfl) (by kernel_rfl) (fun _ _ _ h => h) (Or.inl ⟨by rfl, by intro w hSw; go_simp⟩) ((Below.refl _ _).drew) ?_
          try simp only [Act.put, List.setIfInBounds_toArray, List.set_cons_zero, List.set_cons_succ]
          refine anyH_take 21 48 (.bool true) rfl rfl (by kernel_rfl) (by kernel_rfl) (by kernel_rfl) (fun _ _ _ h => h) (Or.inl ⟨by rfl, by intro w hSw; go_simp⟩) ((Below.refl _ _).drew) ?_
          try simp only [Act.put, List.setIfInBounds_toArray, List.set_cons_zero, List.set_cons_succ]
          refine anyH_take 22 49 (.pointer (some ⟨w.heap.size, 1, none⟩)) rfl rfl (by kernel_rfl) (by kernel_rfl) (by kernel_rfl) (fun _ _ _ h => h) (Or.inl ⟨by rfl, by intro w hSw; go_simp⟩) ((Below.refl _ _).drew) ?_
          try simp only [Act.put, List.setIfInBounds_toArray, List.set_cons_zero, List.set_cons_succ]
          refine anyH_take 23 50 (.slice (some ⟨g1, off, none⟩) n c) rfl rfl (by kernel_rfl) (by kernel_rfl) (by kernel_rfl) (fun _ _ _ h => h) (Or.inl ⟨by rfl, by intro w hSw; have kb1 := kf1 _ hSw; have kb0 := kf0 _ hSw; go_simp⟩) ((Below.refl _ _).drew) ?_
          try simp only [Act.put, List.setIfInBounds_toArray, List.set_cons_zero, List.set_cons_succ]
          refine anyH_take 24 51 (.int .i64 (i : Int)) rfl rfl (by kernel_rfl) (by kernel_rfl) (by kernel_rfl) (fun _ _ _ h => h) (Or.inl ⟨by rfl, by intro w hSw; go_simp⟩) ((Below.refl _ _).drew) ?_
          try simp only [Act.put, List.setIfInBounds_toArray, List.set_cons_zero, List.set_cons_succ]
          refine anyH_take 25 52 (.pointer (some ⟨g1, off + i * 4, none⟩)) rfl rfl (by kernel_rfl) (by kernel_rfl) (by kernel_rfl) (fun _ _ _ h => h) (Or.inl ⟨by rfl, by intro w hSw; go_simp⟩) ((Below.refl _ _).drew) ?_
          try simp only [Act.put, List.setIfInBounds_toArray, List.set_cons_zero, List.set_cons_succ]
          refine anyH_take 26 53 (.pointer (some ⟨g1, off + i * 4, none⟩)) rfl rfl (by kernel_rfl) (by kernel_rfl) (by kernel_rfl) (fun _ _ _ h => h) (Or.inl ⟨by rfl, by intro w hSw; go_simp⟩) ((Below.refl _ _).drew) ?_
          try simp only [Act.put, List.setIfInBounds_toArray, List.set_cons_zero, List.set_cons_succ]
          refine anyH_take 27 54 (.int .i64 num) rfl rfl (by kernel_rfl) (by kernel_rfl) (by kernel_rfl) (fun _ _ _ h => h) (Or.inl ⟨by rfl, by intro w hSw; have kr := (hSw.cell (p := ⟨g1, off + i * 4, none⟩) zg).trans r0; go_simp⟩) ((Below.refl _ _).drew) ?_
          try simp only [Act.put, List.setIfInBounds_toArray, List.set_cons_zero, List.set_cons_succ]
          refine anyH_take 28 55 (.pointer (some ⟨w.heap.size, 1, none⟩)) rfl rfl (by kernel_rfl) (by kernel_rfl) (by kernel_rfl) (fun _ _ _ h => h) (Or.inl ⟨by rfl, by intro w hSw; go_simp⟩) ((Below.refl _ _).drew) ?_
          try simp only [Act.put, List.setIfInBounds_toArray, List.set_cons_zero, List.set_cons_succ]
          refine anyH_take 29 56 (.slice (some ⟨g1, off, none⟩) n c) rfl rfl (by kernel_rfl) (by kernel_rfl) (by kernel_rfl) (fun _ _ _ h => h) (Or.inl ⟨by rfl, by intro w hSw; have kb1 := kf1 _ hSw; have kb0 := kf0 _ hSw; go_simp⟩) ((Below.refl _ _).drew) ?_
          try simp only [Act.put, List.setIfInBounds_toArray, List.set_cons_zero, List.set_cons_succ]
          refine anyH_take 30 57 (.int .i64 (i : Int)) rfl rfl (by kernel_rfl) (by kernel_rfl) (by kernel_rfl) (fun _ _ _ h => h) (Or.inl ⟨by rfl, by intro w hSw; go_simp⟩) ((Below.refl _ _).drew) ?_
          try simp only [Act.put, List.setIfInBounds_toArray, List.set_cons_zero, List.set_cons_succ]
          refine anyH_take 31 58 (.int .i64 ((i - 1 : Nat) : Int)) rfl rfl (by kernel_rfl) (by kernel_rfl) (by kernel_rfl) (fun _ _ _ h => h) (Or.inl ⟨by rfl, by intro w hSw; have w1 := hsub; go_simp⟩) ((Below.refl _ _).drew) ?_
          try simp only [Act.put, List.setIfInBounds_toArray, List.set_cons_zero, List.set_cons_succ]
          refine anyH_take 32 59 (.pointer (some ⟨g1, off + (i - 1) * 4, none⟩)) rfl rfl (by kernel_rfl) (by kernel_rfl) (by kernel_rfl) (fun _ _ _ h => h) (Or.inl ⟨by rfl, by intro w hSw; go_simp⟩) ((Below.refl _ _).drew) ?_
          try simp only [Act.put, List.setIfInBounds_toArray, List.set_cons_zero, List.set_cons_succ]
          refine anyH_take 33 60 (.pointer (some ⟨g1, off + (i - 1) * 4, none⟩)) rfl rfl (by kernel_rfl) (by kernel_rfl) (by kernel_rfl) (fun _ _ _ h => h) (Or.inl ⟨by rfl, by intro w hSw; go_simp⟩) ((Below.refl _ _).drew) ?_
          try simp only [Act.put, List.setIfInBounds_toArray, List.set_cons_zero, List.set_cons_succ]
          refine anyH_take 34 61 (.int .i64 num') rfl rfl (by kernel_rfl) (by kernel_rfl) (by kernel_rfl) (fun _ _ _ h => h) (Or.inl ⟨by rfl, by intro w hSw; have kp := (hSw.cell (p := ⟨g1, off + (i - 1) * 4, none⟩) zg).trans r1; go_simp⟩) ((Below.refl _ _).drew) ?_
          try simp only [Act.put, List.setIfInBounds_toArray, List.set_cons_zero, List.set_cons_succ]
          refine anyH_take 35 62 (.bool false) rfl rfl (by kernel_rfl) (by kernel_rfl) (by kernel_rfl) (fun _ _ _ h => h) (Or.inl ⟨by rfl, by intro w hSw; go_simp⟩) ((Below.refl _ _).drew) ?_
          try simp only [Act.put, List.setIfInBounds_toArray, List.set_cons_zero, List.set_cons_succ]
          refine anyH_take 36 63 (.bool false) rfl rfl (by kernel_rfl) (by kernel_rfl) (by kernel_rfl) (fun _ _ _ h => h) (Or.inl ⟨by rfl, by intro w hSw; go_simp⟩) ((Below.refl _ _).drew) ?_
          try simp only [Act.put, List.setIfInBounds_toArray, List.set_cons_zero, List.set_cons_succ]
          refine anyH_take 37 64 (.bool false) rfl rfl (by kernel_rfl) (by kernel_rfl) (by kernel_rfl) (fun _ _ _ h => h) (Or.inl ⟨by rfl, by intro w hSw; go_simp⟩) ((Below.refl _ _).drew) ?_
          try simp only [Act.put, List.setIfInBounds_toArray, List.set_cons_zero, List.set_cons_succ]
          refine wpAnyH_done (by kernel_rfl) ?_ _
          go_wp2
          go_roundg (gk - 1)
          case measure => omega
          case rel => exact ⟨i + 1, by first | rfl | go_num, by omega, B.later ((Below.refl _ _).drew), ⟨by rw [HP.out]; exact HY.out⟩⟩
    · have hiI : ¬ (i : Int) < (n : Int) := by omega
      have HG : Hid (fitB next ds ls = prB none ls) := ⟨by rw [HF.out, HL.out, List.drop_eq_nil_of_le (by have := HN.out; omega)]; unfold ruB; rfl⟩
      clear HF HL
      go_wp2
      clear hi hiI q10 q11 q12
      go_loopg [4] m (fun g v4 wr => ∃ i : Nat, v4 = .int .i64 (i : Int) ∧ i + g = m ∧ Bx w (mailC next a n c la m lc) wr ∧ Hid (prB none ls = prB (ahead ls i) (ls.drop i)))
      case atStart => exact ⟨0, by first | rfl | go_num, by omega, B, ⟨rfl⟩⟩
      case round =>
        clear B
        obtain ⟨i, rfl, hg, B, HL⟩ := hrel
        have ⟨q10, q11, q12⟩ := cel3 B.box
        by_cases hi : i < m
        · have hiI : (i : Int) < (m : Int) := by omega
          have hi0 : (0 : Int) ≤ (i : Int) := by omega
          obtain ⟨g1, off, rfl, hgl, hra⟩ : ∃ g off, la = some ⟨g, off, none⟩ ∧ g < w.heap.size ∧ ∀ i, i < m → w.rangeAt g (off + i * 2) (ls.getD i LK.z).cells := by
            rcases K.mem with ⟨e, h0⟩ | h
            · have := K.le; omega
            · exact h
          obtain ⟨⟨p0, p1⟩, hp⟩ : ∃ d, ls.getD i LK.z = d := ⟨_, rfl⟩
          have hrp := range_later (hra i hi) hgl B.below
          rw [hp] at hrp
          have hpi : ls[i]? = some ⟨p0, p1⟩ := by rw [get_z ls i (by have := HM.out; omega), hp]
          have HX := HL.out
          rw [prB_drop (ahead ls i) ls i _ hpi] at HX
          have HP : Hid (ahead ls (i + 1) = some ⟨p0, p1⟩) := ⟨by unfold ahead; rw [if_neg (by omega)]; exact hpi⟩
          have hin : IntKind.i64.wrap ((i : Int) + 1) = (i : Int) + 1 := by rw [IntKind.wrap_i64]; have := HM.out; omega
          clear HL hp
          by_cases hpl : p1 ≤ p0
          · have HY : Hid (fitB next ds ls = false) := ⟨by rw [HG.out, HX, decide_eq_false (show ¬ p0 < p1 by omega)]; rfl⟩
            clear HX HP hpi
            go_wp2_with ((with_reducible show wpList _ _ _ (Oper.mk _ (Op.load 65 (Operand.tmp 75)) _ _ _ _ :: _) _ _); refine wpList_load65m rfl _ rfl g1 (off + i * 2) p0 p1 rfl hrp ?_)
            have y0 : (wr.alloc (.cells #[.int .i64 p0, .int .i64 p1] 65)).cell? ⟨wr.heap.size, 0, none⟩ = some (.int .i64 p0) := by simp
            have y1 : (wr.alloc (.cells #[.int .i64 p0, .int .i64 p1] 65)).cell? ⟨wr.heap.size, 1, none⟩ = some (.int .i64 p1) := by simp
            have z4 : wr.heap.size < (wr.alloc (.cells #[.int .i64 p0, .int .i64 p1] 65)).heap.size := by simp
            have B4 := B.later ((Below.refl _ _).alloc (Nat.le_refl _) (.cells #[.int .i64 p0, .int .i64 p1] 65))
            obtain ⟨W4, hW4⟩ : ∃ X, wr.alloc (.cells #[.int .i64 p0, .int .i64 p1] 65) = X := ⟨_, rfl⟩
            rw [hW4] at y0 y1 z4 B4 ⊢
            have zb := row_lt B4.box
            have yb := row_cell B4.box 2 (.slice (some ⟨g1, off, none⟩) m lc) rfl
            have kf2 : ∀ X, Below W4.heap.size W4 X → X.cell? ⟨w.heap.size, 2, none⟩ = some (.slice (some ⟨g1, off, none⟩) m lc) := fun X h => (h.cell (p := ⟨w.heap.size, 2, none⟩) zb).trans yb
            clear hW4
            refine wp_region_any (by kernel_rfl) ?_
            change wpAny _ _ _ _ _ _ _ (World.drew _)
            refine wpAny_narrow (fun W' => Below W4.heap.size W4 W') _ _ _ _ ?_
            refine anyH_take 0 77 (.pointer (some ⟨wr.heap.size, 0, none⟩)) rfl rfl (by kernel_rfl) (by kernel_rfl) (by kernel_rfl) (fun _ _ _ h => h) (Or.inl ⟨by rfl, by intro w hSw; go_simp⟩) ((Below.refl _ _).drew) ?_
            try simp only [Act.put, List.setIfInBounds_toArray, List.set_cons_zero, List.set_cons_succ]
            refine anyH_take 1 78 (.int .i64 p0) rfl rfl (by kernel_rfl) (by kernel_rfl) (by kernel_rfl) (fun _ _ _ h => h) (Or.inl ⟨by rfl, by intro w hSw; have k0 := (hSw.cell (p := ⟨wr.heap.size, 0, none⟩) z4).trans y0; have k1 := (hSw.cell (p := ⟨wr.heap.size, 1, none⟩) z4).trans y1; go_simp⟩) ((Below.refl _ _).drew) ?_
            try simp only [Act.put, List.setIfInBounds_toArray, List.set_cons_zero, List.set_cons_succ]
            refine anyH_take 2 79 (.pointer (some ⟨wr.heap.size, 1, none⟩)) rfl rfl (by kernel_rfl) (by kernel_rfl) (by kernel_rfl) (fun _ _ _ h => h) (Or.inl ⟨by rfl, by intro w hSw; go_simp⟩) ((Below.refl _ _).drew) ?_
            try simp only [Act.put, List.setIfInBounds_toArray, List.set_cons_zero, List.set_cons_succ]
            refine anyH_take 3 80 (.int .i64 p1) rfl rfl (by kernel_rfl) (by kernel_rfl) (by kernel_rfl) (fun _ _ _ h => h) (Or.inl ⟨by rfl, by intro w hSw; have k0 := (hSw.cell (p := ⟨wr.heap.size, 0, none⟩) z4).trans y0; have k1 := (hSw.cell (p := ⟨wr.heap.size, 1, none⟩) z4).trans y1; go_simp⟩) ((Below.refl _ _).drew) ?_
            try simp only [Act.put, List.setIfInBounds_toArray, List.set_cons_zero, List.set_cons_succ]
            refine anyH_take 4 81 (.bool true) rfl rfl (by kernel_rfl) (by kernel_rfl) (by kernel_rfl) (fun _ _ _ h => h) (Or.inl ⟨by rfl, by intro w hSw; have w1 := hpl; go_simp⟩) ((Below.refl _ _).drew) ?_
            try simp only [Act.put, List.setIfInBounds_toArray, List.set_cons_zero, List.set_cons_succ]
            refine anyH_take 5 82 (.bool true) rfl rfl (by kernel_rfl) (by kernel_rfl) (by kernel_rfl) (fun _ _ _ h => h) (Or.inl ⟨by rfl, by intro w hSw; go_simp⟩) ((Below.refl _ _).drew) ?_
            try simp only [Act.put, List.setIfInBounds_toArray, List.set_cons_zero, List.set_cons_succ]
            refine anyH_take 6 83 (undef) rfl rfl (by kernel_rfl) (by kernel_rfl) (by kernel_rfl) (fun _ _ _ h => h) (Or.inr ⟨by rfl, rfl⟩) ((Below.refl _ _).drew) ?_
            try simp only [Act.put, List.setIfInBounds_toArray, List.set_cons_zero, List.set_cons_succ]
            refine anyH_take 7 84 (undef) rfl rfl (by kernel_rfl) (by kernel_rfl) (by kernel_rfl) (fun _ _ _ h => h) (Or.inr ⟨by rfl, rfl⟩) ((Below.refl _ _).drew) ?_
            try simp only [Act.put, List.setIfInBounds_toArray, List.set_cons_zero, List.set_cons_succ]
            refine anyH_take 8 85 (undef) rfl rfl (by kernel_rfl) (by kernel_rfl) (by kernel_rfl) (fun _ _ _ h => h) (Or.inr ⟨by rfl, rfl⟩) ((Below.refl _ _).drew) ?_
            try simp only [Act.put, List.setIfInBounds_toArray, List.set_cons_zero, List.set_cons_succ]
            refine anyH_take 9 86 (undef) rfl rfl (by kernel_rfl) (by kernel_rfl) (by kernel_rfl) (fun _ _ _ h => h) (Or.inr ⟨by rfl, rfl⟩) ((Below.refl _ _).drew) ?_
            try simp only [Act.put, List.setIfInBounds_toArray, List.set_cons_zero, List.set_cons_succ]
            refine anyH_take 10 87 (undef) rfl rfl (by kernel_rfl) (by kernel_rfl) (by kernel_rfl) (fun _ _ _ h => h) (Or.inr ⟨by rfl, rfl⟩) ((Below.refl _ _).drew) ?_
            try simp only [Act.put, List.setIfInBounds_toArray, List.set_cons_zero, List.set_cons_succ]
            refine anyH_take 11 88 (undef) rfl rfl (by kernel_rfl) (by kernel_rfl) (by kernel_rfl) (fun _ _ _ h => h) (Or.inr ⟨by rfl, rfl⟩) ((Below.refl _ _).drew) ?_
            try simp only [Act.put, List.setIfInBounds_toArray, List.set_cons_zero, List.set_cons_succ]
            refine anyH_take 12 89 (undef) rfl rfl (by kernel_rfl) (by kernel_rfl) (by kernel_rfl) (fun _ _ _ h => h) (Or.inr ⟨by rfl, rfl⟩) ((Below.refl _ _).drew) ?_
            try simp only [Act.put, List.setIfInBounds_toArray, List.set_cons_zero, List.set_cons_succ]
            refine anyH_take 13 90 (undef) rfl rfl (by kernel_rfl) (by kernel_rfl) (by kernel_rfl) (fun _ _ _ h => h) (Or.inr ⟨by rfl, rfl⟩) ((Below.refl _ _).drew) ?_
            try simp only [Act.put, List.setIfInBounds_toArray, List.set_cons_zero, List.set_cons_succ]
            refine anyH_take 14 91 (undef) rfl rfl (by kernel_rfl) (by kernel_rfl) (by kernel_rfl) (fun _ _ _ h => h) (Or.inr ⟨by rfl, rfl⟩) ((Below.refl _ _).drew) ?_
            try simp only [Act.put, List.setIfInBounds_toArray, List.set_cons_zero, List.set_cons_succ]
            refine anyH_take 15 92 (undef) rfl rfl (by kernel_rfl) (by kernel_rfl) (by kernel_rfl) (fun _ _ _ h => h) (Or.inr ⟨by rfl, rfl⟩) ((Below.refl _ _).drew) ?_
            try simp only [Act.put, List.setIfInBounds_toArray, List.set_cons_zero, List.set_cons_succ]
            refine anyH_take 16 93 (undef) rfl rfl (by kernel_rfl) (by kernel_rfl) (by kernel_rfl) (fun _ _ _ h => h) (Or.inr ⟨by rfl, rfl⟩) ((Below.refl _ _).drew) ?_
            try simp only [Act.put, List.setIfInBounds_toArray, List.set_cons_zero, List.set_cons_succ]
            refine anyH_take 17 94 (undef) rfl rfl (by kernel_rfl) (by kernel_rfl) (by kernel_rfl) (fun _ _ _ h => h) (Or.inr ⟨by rfl, rfl⟩) ((Below.refl _ _).drew) ?_
            try simp only [Act.put, List.setIfInBounds_toArray, List.set_cons_zero, List.set_cons_succ]
            refine anyH_take 18 95 (undef) rfl rfl (by kernel_rfl) (by kernel_rfl) (by kernel_rfl) (fun _ _ _ h => h) (Or.inr ⟨by rfl, rfl⟩) ((Below.refl _ _).drew) ?_
            try simp only [Act.put, List.setIfInBounds_toArray, List.set_cons_zero, List.set_cons_succ]
            refine anyH_take 19 96 (.bool true) rfl rfl (by kernel_rfl) (by kernel_rfl) (by kernel_rfl) (fun _ _ _ h => h) (Or.inl ⟨by rfl, by intro w hSw; go_simp⟩) ((Below.refl _ _).drew) ?_
            try simp only [Act.put, List.setIfInBounds_toArray, List.set_cons_zero, List.set_cons_succ]
            refine wpAnyH_done (by kernel_rfl) ?_ _
            go_wp2
            go_ret
            exact ⟨by rw [HY.out]; rfl, (B4.later ((Below.refl _ _).drew)).below⟩
          rw [decide_eq_true (show p0 < p1 by omega), Bool.true_and] at HX
          by_cases hz : i = 0
          · subst hz
            have HY : Hid (prB none ls = prB (some ⟨p0, p1⟩) (ls.drop 1)) := ⟨HX⟩
            clear HX hpi
            go_wp2_with ((with_reducible show wpList _ _ _ (Oper.mk _ (Op.load 65 (Operand.tmp 75)) _ _ _ _ :: _) _ _); refine wpList_load65m rfl _ rfl g1 (off + 0 * 2) p0 p1 (by simp; try rfl) hrp ?_)
            have y0 : (wr.alloc (.cells #[.int .i64 p0, .int .i64 p1] 65)).cell? ⟨wr.heap.size, 0, none⟩ = some (.int .i64 p0) := by simp
            have y1 : (wr.alloc (.cells #[.int .i64 p0, .int .i64 p1] 65)).cell? ⟨wr.heap.size, 1, none⟩ = some (.int .i64 p1) := by simp
            have z4 : wr.heap.size < (wr.alloc (.cells #[.int .i64 p0, .int .i64 p1] 65)).heap.size := by simp
            have B4 := B.later ((Below.refl _ _).alloc (Nat.le_refl _) (.cells #[.int .i64 p0, .int .i64 p1] 65))
            obtain ⟨W4, hW4⟩ : ∃ X, wr.alloc (.cells #[.int .i64 p0, .int .i64 p1] 65) = X := ⟨_, rfl⟩
            rw [hW4] at y0 y1 z4 B4 ⊢
            have zb := row_lt B4.box
            have yb := row_cell B4.box 2 (.slice (some ⟨g1, off, none⟩) m lc) rfl
            have kf2 : ∀ X, Below W4.heap.size W4 X → X.cell? ⟨w.heap.size, 2, none⟩ = some (.slice (some ⟨g1, off, none⟩) m lc) := fun X h => (h.cell (p := ⟨w.heap.size, 2, none⟩) zb).trans yb
            clear hW4
            refine wp_region_any (by kernel_rfl) ?_
            change wpAny _ _ _ _ _ _ _ (World.drew _)
            refine wpAny_narrow (fun W' => Below W4.heap.size W4 W') _ _ _ _ ?_
            refine anyH_take 0 77 (.pointer (some ⟨wr.heap.size, 0, none⟩)) rfl rfl (by kernel_rfl) (by kernel_rfl) (by kernel_rfl) (fun _ _ _ h => h) (Or.inl ⟨by rfl, by intro w hSw; go_simp⟩) ((Below.refl _ _).drew) ?_
            try simp only [Act.put, List.setIfInBounds_toArray, List.set_cons_zero, List.set_cons_succ]
            refine anyH_take 1 78 (.int .i64 p0) rfl rfl (by kernel_rfl) (by kernel_rfl) (by kernel_rfl) (fun _ _ _ h => h) (Or.inl ⟨by rfl, by intro w hSw; have k0 := (hSw.cell (p := ⟨wr.heap.size, 0, none⟩) z4).trans y0; have k1 := (hSw.cell (p := ⟨wr.heap.size, 1, none⟩) z4).trans y1; go_simp⟩) ((Below.refl _ _).drew) ?_
            try simp only [Act.put, List.setIfInBounds_toArray, List.set_cons_zero, List.set_cons_succ]
            refine anyH_take 2 79 (.pointer (some ⟨wr.heap.size, 1, none⟩)) rfl rfl (by kernel_rfl) (by kernel_rfl) (by kernel_rfl) (fun _ _ _ h => h) (Or.inl ⟨by rfl, by intro w hSw; go_simp⟩) ((Below.refl _ _).drew) ?_
            try simp only [Act.put, List.setIfInBounds_toArray, List.set_cons_zero, List.set_cons_succ]
            refine anyH_take 3 80 (.int .i64 p1) rfl rfl (by kernel_rfl) (by kernel_rfl) (by kernel_rfl) (fun _ _ _ h => h) (Or.inl ⟨by rfl, by intro w hSw; have k0 := (hSw.cell (p := ⟨wr.heap.size, 0, none⟩) z4).trans y0; have k1 := (hSw.cell (p := ⟨wr.heap.size, 1, none⟩) z4).trans y1; go_simp⟩) ((Below.refl _ _).drew) ?_
            try simp only [Act.put, List.setIfInBounds_toArray, List.set_cons_zero, List.set_cons_succ]
            refine anyH_take 4 81 (.bool false) rfl rfl (by kernel_rfl) (by kernel_rfl) (by kernel_rfl) (fun _ _ _ h => h) (Or.inl ⟨by rfl, by intro w hSw; have w1 := hpl; go_simp⟩) ((Below.refl _ _).drew) ?_
            try simp only [Act.put, List.setIfInBounds_toArray, List.set_cons_zero, List.set_cons_succ]
            refine anyH_take 5 82 (.bool false) rfl rfl (by kernel_rfl) (by kernel_rfl) (by kernel_rfl) (fun _ _ _ h => h) (Or.inl ⟨by rfl, by intro w hSw; go_simp⟩) ((Below.refl _ _).drew) ?_
            try simp only [Act.put, List.setIfInBounds_toArray, List.set_cons_zero, List.set_cons_succ]
            refine anyH_take 6 83 (.int .i64 0) rfl rfl (by kernel_rfl) (by kernel_rfl) (by kernel_rfl) (fun _ _ _ h => h) (Or.inl ⟨by rfl, by intro w hSw; go_simp⟩) ((Below.refl _ _).drew) ?_
            try simp only [Act.put, List.setIfInBounds_toArray, List.set_cons_zero, List.set_cons_succ]
            refine anyH_take 7 84 (.bool false) rfl rfl (by kernel_rfl) (by kernel_rfl) (by kernel_rfl) (fun _ _ _ h => h) (Or.inl ⟨by rfl, by intro w hSw; go_simp⟩) ((Below.refl _ _).drew) ?_
            try simp only [Act.put, List.setIfInBounds_toArray, List.set_cons_zero, List.set_cons_succ]
            refine anyH_take 8 85 (.bool false) rfl rfl (by kernel_rfl) (by kernel_rfl) (by kernel_rfl) (fun _ _ _ h => h) (Or.inl ⟨by rfl, by intro w hSw; go_simp⟩) ((Below.refl _ _).drew) ?_
            try simp only [Act.put, List.setIfInBounds_toArray, List.set_cons_zero, List.set_cons_succ]
            refine anyH_take 9 86 (undef) rfl rfl (by kernel_rfl) (by kernel_rfl) (by kernel_rfl) (fun _ _ _ h => h) (Or.inr ⟨by rfl, rfl⟩) ((Below.refl _ _).drew) ?_
            try simp only [Act.put, List.setIfInBounds_toArray, List.set_cons_zero, List.set_cons_succ]
            refine anyH_take 10 87 (undef) rfl rfl (by kernel_rfl) (by kernel_rfl) (by kernel_rfl) (fun _ _ _ h => h) (Or.inr ⟨by rfl, rfl⟩) ((Below.refl _ _).drew) ?_
            try simp only [Act.put, List.setIfInBounds_toArray, List.set_cons_zero, List.set_cons_succ]
            refine anyH_take 11 88 (undef) rfl rfl (by kernel_rfl) (by kernel_rfl) (by kernel_rfl) (fun _ _ _ h => h) (Or.inr ⟨by rfl, rfl⟩) ((Below.refl _ _).drew) ?_
            try simp only [Act.put, List.setIfInBounds_toArray, List.set_cons_zero, List.set_cons_succ]
            refine anyH_take 12 89 (undef) rfl rfl (by kernel_rfl) (by kernel_rfl) (by kernel_rfl) (fun _ _ _ h => h) (Or.inr ⟨by rfl, rfl⟩) ((Below.refl _ _).drew) ?_
            try simp only [Act.put, List.setIfInBounds_toArray, List.set_cons_zero, List.set_cons_succ]
            refine anyH_take 13 90 (undef) rfl rfl (by kernel_rfl) (by kernel_rfl) (by kernel_rfl) (fun _ _ _ h => h) (Or.inr ⟨by rfl, rfl⟩) ((Below.refl _ _).drew) ?_
            try simp only [Act.put, List.setIfInBounds_toArray, List.set_cons_zero, List.set_cons_succ]
            refine anyH_take 14 91 (undef) rfl rfl (by kernel_rfl) (by kernel_rfl) (by kernel_rfl) (fun _ _ _ h => h) (Or.inr ⟨by rfl, rfl⟩) ((Below.refl _ _).drew) ?_
            try simp only [Act.put, List.setIfInBounds_toArray, List.set_cons_zero, List.set_cons_succ]
            refine anyH_take 15 92 (undef) rfl rfl (by kernel_rfl) (by kernel_rfl) (by kernel_rfl) (fun _ _ _ h => h) (Or.inr ⟨by rfl, rfl⟩) ((Below.refl _ _).drew) ?_
            try simp only [Act.put, List.setIfInBounds_toArray, List.set_cons_zero, List.set_cons_succ]
            refine anyH_take 16 93 (undef) rfl rfl (by kernel_rfl) (by kernel_rfl) (by kernel_rfl) (fun _ _ _ h => h) (Or.inr ⟨by rfl, rfl⟩) ((Below.refl _ _).drew) ?_
            try simp only [Act.put, List.setIfInBounds_toArray, List.set_cons_zero, List.set_cons_succ]
            refine anyH_take 17 94 (undef) rfl rfl (by kernel_rfl) (by kernel_rfl) (by kernel_rfl) (fun _ _ _ h => h) (Or.inr ⟨by rfl, rfl⟩) ((Below.refl _ _).drew) ?_
            try simp only [Act.put, List.setIfInBounds_toArray, List.set_cons_zero, List.set_cons_succ]
            refine anyH_take 18 95 (.bool false) rfl rfl (by kernel_rfl) (by kernel_rfl) (by kernel_rfl) (fun _ _ _ h => h) (Or.inl ⟨by rfl, by intro w hSw; go_simp⟩) ((Below.refl _ _).drew) ?_
            try simp only [Act.put, List.setIfInBounds_toArray, List.set_cons_zero, List.set_cons_succ]
            refine anyH_take 19 96 (.bool false) rfl rfl (by kernel_rfl) (by kernel_rfl) (by kernel_rfl) (fun _ _ _ h => h) (Or.inl ⟨by rfl, by intro w hSw; go_simp⟩) ((Below.refl _ _).drew) ?_
            try simp only [Act.put, List.setIfInBounds_toArray, List.set_cons_zero, List.set_cons_succ]
            refine wpAnyH_done (by kernel_rfl) ?_ _
            go_wp2
            go_roundg (gk - 1)
            case measure => omega
            case rel => exact ⟨1, by first | rfl | go_num, by omega, B4.later ((Below.refl _ _).drew), ⟨by rw [HP.out]; exact HY.out⟩⟩
          have hzI : (0 : Int) < (i : Int) := by omega
          have hzN : 0 < i := by omega
          obtain ⟨⟨q0, q1⟩, hq⟩ : ∃ d, ls.getD (i - 1) LK.z = d := ⟨_, rfl⟩
          have hqi : ls[i - 1]? = some ⟨q0, q1⟩ := by rw [get_z ls (i - 1) (by have := HM.out; omega), hq]
          have hah : ahead ls i = some ⟨q0, q1⟩ := by unfold ahead; rw [if_neg hz]; exact hqi
          rw [hah] at HX
          have hk := less_lt ⟨q0, q1⟩ ⟨p0, p1⟩
          have hsub : IntKind.i64.wrap ((i : Int) - 1) = ((i - 1 : Nat) : Int) := by rw [IntKind.wrap_i64]; have := HM.out; omega
          have hs1 : ((i - 1 : Nat) : Int) < (m : Int) := by omega
          have hs0 : (0 : Int) ≤ ((i - 1 : Nat) : Int) := by omega
          cases hless : lessK ⟨q0, q1⟩ ⟨p0, p1⟩ with
          | false =>
            have HY : Hid (fitB next ds ls = false) := ⟨by rw [HG.out, HX]; simp only; rw [← hk, hless]; rfl⟩
            clear HX HP hpi hqi hah hk
            go_wp2_with ((with_reducible show wpList _ _ _ (Oper.mk _ (Op.load 65 (Operand.tmp 75)) _ _ _ _ :: _) _ _); refine wpList_load65m rfl _ rfl g1 (off + i * 2) p0 p1 rfl hrp ?_)
            have y0 : (wr.alloc (.cells #[.int .i64 p0, .int .i64 p1] 65)).cell? ⟨wr.heap.size, 0, none⟩ = some (.int .i64 p0) := by simp
            have y1 : (wr.alloc (.cells #[.int .i64 p0, .int .i64 p1] 65)).cell? ⟨wr.heap.size, 1, none⟩ = some (.int .i64 p1) := by simp
            have z4 : wr.heap.size < (wr.alloc (.cells #[.int .i64 p0, .int .i64 p1] 65)).heap.size := by simp
            have B4 := B.later ((Below.refl _ _).alloc (Nat.le_refl _) (.cells #[.int .i64 p0, .int .i64 p1] 65))
            obtain ⟨W4, hW4⟩ : ∃ X, wr.alloc (.cells #[.int .i64 p0, .int .i64 p1] 65) = X := ⟨_, rfl⟩
            rw [hW4] at y0 y1 z4 B4 ⊢
            have zb := row_lt B4.box
            have yb := row_cell B4.box 2 (.slice (some ⟨g1, off, none⟩) m lc) rfl
            have kf2 : ∀ X, Below W4.heap.size W4 X → X.cell? ⟨w.heap.size, 2, none⟩ = some (.slice (some ⟨g1, off, none⟩) m lc) := fun X h => (h.cell (p := ⟨w.heap.size, 2, none⟩) zb).trans yb
            have hq4 := range_later (hra (i - 1) (by omega)) hgl B4.below
            rw [hq] at hq4
            have hg4 := Nat.lt_of_lt_of_le hgl B4.below.size
            clear hW4
            refine wp_region_any (by kernel_rfl) ?_
            change wpAny _ _ _ _ _ _ _ (World.drew _)
            refine wpAny_narrow (fun W' => Below W4.heap.size W4 W') _ _ _ _ ?_
            refine anyH_take 0 77 (.pointer (some ⟨wr.heap.size, 0, none⟩)) rfl rfl (by kernel_rfl) (by kernel_rfl) (by kernel_rfl) (fun _ _ _ h => h) (Or.inl ⟨by rfl, by intro w hSw; go_simp⟩) ((Below.refl _ _).drew) ?_
            try simp only [Act.put, List.setIfInBounds_toArray, List.set_cons_zero, List.set_cons_succ]
            refine anyH_take 1 78 (.int .i64 p0) rfl rfl (by kernel_rfl) (by kernel_rfl) (by kernel_rfl) (fun _ _ _ h => h) (Or.inl ⟨by rfl, by intro w hSw; have k0 := (hSw.cell (p := ⟨wr.heap.size, 0, none⟩) z4).trans y0; have k1 := (hSw.cell (p := ⟨wr.heap.size, 1, none⟩) z4).trans y1; go_simp⟩) ((Below.refl _ _).drew) ?_
            try simp only [Act.put, List.setIfInBounds_toArray, List.set_cons_zero, List.set_cons_succ]
            refine anyH_take 2 79 (.pointer (some ⟨wr.heap.size, 1, none⟩)) rfl rfl (by kernel_rfl) (by kernel_rfl) (by kernel_rfl) (fun _ _ _ h => h) (Or.inl ⟨by rfl, by intro w hSw; go_simp⟩) ((Below.refl _ _).drew) ?_
            try simp only [Act.put, List.setIfInBounds_toArray, List.set_cons_zero, List.set_cons_succ]
            refine anyH_take 3 80 (.int .i64 p1) rfl rfl (by kernel_rfl) (by kernel_rfl) (by kernel_rfl) (fun _ _ _ h => h) (Or.inl ⟨by rfl, by intro w hSw; have k0 := (hSw.cell (p := ⟨wr.heap.size, 0, none⟩) z4).trans y0; have k1 := (hSw.cell (p := ⟨wr.heap.size, 1, none⟩) z4).trans y1; go_simp⟩) ((Below.refl _ _).drew) ?_
            try simp only [Act.put, List.setIfInBounds_toArray, List.set_cons_zero, List.set_cons_succ]
            refine anyH_take 4 81 (.bool false) rfl rfl (by kernel_rfl) (by kernel_rfl) (by kernel_rfl) (fun _ _ _ h => h) (Or.inl ⟨by rfl, by intro w hSw; have w1 := hpl; go_simp⟩) ((Below.refl _ _).drew) ?_
            try simp only [Act.put, List.setIfInBounds_toArray, List.set_cons_zero, List.set_cons_succ]
            refine anyH_take 5 82 (.bool false) rfl rfl (by kernel_rfl) (by kernel_rfl) (by kernel_rfl) (fun _ _ _ h => h) (Or.inl ⟨by rfl, by intro w hSw; go_simp⟩) ((Below.refl _ _).drew) ?_
            try simp only [Act.put, List.setIfInBounds_toArray, List.set_cons_zero, List.set_cons_succ]
            refine anyH_take 6 83 (.int .i64 (i : Int)) rfl rfl (by kernel_rfl) (by kernel_rfl) (by kernel_rfl) (fun _ _ _ h => h) (Or.inl ⟨by rfl, by intro w hSw; go_simp⟩) ((Below.refl _ _).drew) ?_
            try simp only [Act.put, List.setIfInBounds_toArray, List.set_cons_zero, List.set_cons_succ]
            refine anyH_take 7 84 (.bool true) rfl rfl (by kernel_rfl) (by kernel_rfl) (by kernel_rfl) (fun _ _ _ h => h) (Or.inl ⟨by rfl, by intro w hSw; go_simp⟩) ((Below.refl _ _).drew) ?_
            try simp only [Act.put, List.setIfInBounds_toArray, List.set_cons_zero, List.set_cons_succ]
            refine anyH_take 8 85 (.bool true) rfl rfl (by kernel_rfl) (by kernel_rfl) (by kernel_rfl) (fun _ _ _ h => h) (Or.inl ⟨by rfl, by intro w hSw; go_simp⟩) ((Below.refl _ _).drew) ?_
            try simp only [Act.put, List.setIfInBounds_toArray, List.set_cons_zero, List.set_cons_succ]
            refine anyH_take 9 86 (.pointer (some ⟨w.heap.size, 2, none⟩)) rfl rfl (by kernel_rfl) (by kernel_rfl) (by kernel_rfl) (fun _ _ _ h => h) (Or.inl ⟨by rfl, by intro w hSw; go_simp⟩) ((Below.refl _ _).drew) ?_
            try simp only [Act.put, List.setIfInBounds_toArray, List.set_cons_zero, List.set_cons_succ]
            refine anyH_take 10 87 (.slice (some ⟨g1, off, none⟩) m lc) rfl rfl (by kernel_rfl) (by kernel_rfl) (by kernel_rfl) (fun _ _ _ h => h) (Or.inl ⟨by rfl, by intro w hSw; have k2 := kf2 _ hSw; go_simp⟩) ((Below.refl _ _).drew) ?_
            try simp only [Act.put, List.setIfInBounds_toArray, List.set_cons_zero, List.set_cons_succ]
            refine anyH_take 11 88 (.int .i64 (i : Int)) rfl rfl (by kernel_rfl) (by kernel_rfl) (by kernel_rfl) (fun _ _ _ h => h) (Or.inl ⟨by rfl, by intro w hSw; go_simp⟩) ((Below.refl _ _).drew) ?_
            try simp only [Act.put, List.setIfInBounds_toArray, List.set_cons_zero, List.set_cons_succ]
            refine anyH_take 12 89 (.int .i64 ((i - 1 : Nat) : Int)) rfl rfl (by kernel_rfl) (by kernel_rfl) (by kernel_rfl) (fun _ _ _ h => h) (Or.inl ⟨by rfl, by intro w hSw; have w1 := hsub; go_simp⟩) ((Below.refl _ _).drew) ?_
            try simp only [Act.put, List.setIfInBounds_toArray, List.set_cons_zero, List.set_cons_succ]
            refine anyH_take 13 90 (.pointer (some ⟨g1, off + (i - 1) * 2, none⟩)) rfl rfl (by kernel_rfl) (by kernel_rfl) (by kernel_rfl) (fun _ _ _ h => h) (Or.inl ⟨by rfl, by intro w hSw; go_simp⟩) ((Below.refl _ _).drew) ?_
            try simp only [Act.put, List.setIfInBounds_toArray, List.set_cons_zero, List.set_cons_succ]
            refine anyH_take 14 91 (LK.v ⟨q0, q1⟩) rfl rfl (by kernel_rfl) (by kernel_rfl) (by kernel_rfl) (fun _ _ _ h => h) (Or.inl ⟨by rfl, fun X hSw => exec_load65m rfl g1 (off + (i - 1) * 2) ⟨q0, q1⟩ rfl X (range_later hq4 hg4 hSw)⟩) ((Below.refl _ _).drew) ?_
            try simp only [Act.put, List.setIfInBounds_toArray, List.set_cons_zero, List.set_cons_succ]
            refine anyH_take 15 92 (lnk p0 p1) rfl rfl (by kernel_rfl) (by kernel_rfl) (by kernel_rfl) (fun _ _ _ h => h) (Or.inl ⟨by rfl, by intro w hSw; have k0 := (hSw.cell (p := ⟨wr.heap.size, 0, none⟩) z4).trans y0; have k1 := (hSw.cell (p := ⟨wr.heap.size, 1, none⟩) z4).trans y1; go_simp⟩) ((Below.refl _ _).drew) ?_
            try simp only [Act.put, List.setIfInBounds_toArray, List.set_cons_zero, List.set_cons_succ]
            refine wpAnyH_ready (rs := [16]) (by kernel_rfl) (by simp) ?_
            refine AllReadyH.cons rfl (fun K hK => ?_) AllReadyH.nil
            go_simp
            go_wp2_with (go_at_call 25; go_must (refine (less_any ⟨q0, q1⟩ ⟨p0, p1⟩ _).mono ?_; rw [hless]; rintro e x1 ⟨rfl, b1⟩))
            refine hK.out _ _ ((Below.refl _ _).drew.trans b1) (fun hS => ?_)
            clear hK
            refine anyH_take 17 94 (.bool true) rfl rfl (by kernel_rfl) (by kernel_rfl) (by kernel_rfl) (fun _ _ _ h => h) (Or.inl ⟨by rfl, by intro w hSw; go_simp⟩) (hS) ?_
            try simp only [Act.put, List.setIfInBounds_toArray, List.set_cons_zero, List.set_cons_succ]
            refine anyH_take 18 95 (.bool true) rfl rfl (by kernel_rfl) (by kernel_rfl) (by kernel_rfl) (fun _ _ _ h => h) (Or.inl ⟨by rfl, by intro w hSw; go_simp⟩) (hS) ?_
            try simp only [Act.put, List.setIfInBounds_toArray, List.set_cons_zero, List.set_cons_succ]
            refine anyH_take 19 96 (.bool true) rfl rfl (by kernel_rfl) (by kernel_rfl) (by kernel_rfl) (fun _ _ _ h => h) (Or.inl ⟨by rfl, by intro w hSw; go_simp⟩) (hS) ?_
            try simp only [Act.put, List.setIfInBounds_toArray, List.set_cons_zero, List.set_cons_succ]
            refine wpAnyH_done (by kernel_rfl) ?_ _
            have B5 := B4.later hS
            go_wp2
            go_ret
            exact ⟨by rw [HY.out]; rfl, B5.below⟩
          | true =>
            have HY : Hid (prB none ls = prB (some ⟨p0, p1⟩) (ls.drop (i + 1))) := ⟨by rw [HX]; simp only; rw [← hk, hless]; rfl⟩
            clear HX hpi hqi hah hk
            go_wp2_with ((with_reducible show wpList _ _ _ (Oper.mk _ (Op.load 65 (Operand.tmp 75)) _ _ _ _ :: _) _ _); refine wpList_load65m rfl _ rfl g1 (off + i * 2) p0 p1 rfl hrp ?_)
            have y0 : (wr.alloc (.cells #[.int .i64 p0, .int .i64 p1] 65)).cell? ⟨wr.heap.size, 0, none⟩ = some (.int .i64 p0) := by simp
            have y1 : (wr.alloc (.cells #[.int .i64 p0, .int .i64 p1] 65)).cell? ⟨wr.heap.size, 1, none⟩ = some (.int .i64 p1) := by simp
            have z4 : wr.heap.size < (wr.alloc (.cells #[.int .i64 p0, .int .i64 p1] 65)).heap.size := by simp
            have B4 := B.later ((Below.refl _ _).alloc (Nat.le_refl _) (.cells #[.int .i64 p0, .int .i64 p1] 65))
            obtain ⟨W4, hW4⟩ : ∃ X, wr.alloc (.cells #[.int .i64 p0, .int .i64 p1] 65) = X := ⟨_, rfl⟩
            rw [hW4] at y0 y1 z4 B4 ⊢
            have zb := row_lt B4.box
            have yb := row_cell B4.box 2 (.slice (some ⟨g1, off, none⟩) m lc) rfl
            have kf2 : ∀ X, Below W4.heap.size W4 X → X.cell? ⟨w.heap.size, 2, none⟩ = some (.slice (some ⟨g1, off, none⟩) m lc) := fun X h => (h.cell (p := ⟨w.heap.size, 2, none⟩) zb).trans yb
            have hq4 := range_later (hra (i - 1) (by omega)) hgl B4.below
            rw [hq] at hq4
            have hg4 := Nat.lt_of_lt_of_le hgl B4.below.size
            clear hW4
            refine wp_region_any (by kernel_rfl) ?_
            change wpAny _ _ _ _ _ _ _ (World.drew _)
            refine wpAny_narrow (fun W' => Below W4.heap.size W4 W') _ _ _ _ ?_
            refine anyH_take 0 77 (.pointer (some ⟨wr.heap.size, 0, none⟩)) rfl rfl (by kernel_rfl) (by kernel_rfl) (by kernel_rfl) (fun _ _ _ h => h) (Or.inl ⟨by rfl, by intro w hSw; go_simp⟩) ((Below.refl _ _).drew) ?_
            try simp only [Act.put, List.setIfInBounds_toArray, List.set_cons_zero, List.set_cons_succ]
            refine anyH_take 1 78 (.int .i64 p0) rfl rfl (by kernel_rfl) (by kernel_rfl) (by kernel_rfl) (fun _ _ _ h => h) (Or.inl ⟨by rfl, by intro w hSw; have k0 := (hSw.cell (p := ⟨wr.heap.size, 0, none⟩) z4).trans y0; have k1 := (hSw.cell (p := ⟨wr.heap.size, 1, none⟩) z4).trans y1; go_simp⟩) ((Below.refl _ _).drew) ?_
            try simp only [Act.put, List.setIfInBounds_toArray, List.set_cons_zero, List.set_cons_succ]
            refine anyH_take 2 79 (.pointer (some ⟨wr.heap.size, 1, none⟩)) rfl rfl (by kernel_rfl) (by kernel_rfl) (by kernel_rfl) (fun _ _ _ h => h) (Or.inl ⟨by rfl, by intro w hSw; go_simp⟩) ((Below.refl _ _).drew) ?_
            try simp only [Act.put, List.setIfInBounds_toArray, List.set_cons_zero, List.set_cons_succ]
            refine anyH_take 3 80 (.int .i64 p1) rfl rfl (by kernel_rfl) (by kernel_rfl) (by kernel_rfl) (fun _ _ _ h => h) (Or.inl ⟨by rfl, by intro w hSw; have k0 := (hSw.cell (p := ⟨wr.heap.size, 0, none⟩) z4).trans y0; have k1 := (hSw.cell (p := ⟨wr.heap.size, 1, none⟩) z4).trans y1; go_simp⟩) ((Below.refl _ _).drew) ?_
            try simp only [Act.put, List.setIfInBounds_toArray, List.set_cons_zero, List.set_cons_succ]
            refine anyH_take 4 81 (.bool false) rfl rfl (by kernel_rfl) (by kernel_rfl) (by kernel_rfl) (fun _ _ _ h => h) (Or.inl ⟨by rfl, by intro w hSw; have w1 := hpl; go_simp⟩) ((Below.refl _ _).drew) ?_
            try simp only [Act.put, List.setIfInBounds_toArray, List.set_cons_zero, List.set_cons_succ]
            refine anyH_take 5 82 (.bool false) rfl rfl (by kernel_rfl) (by kernel_rfl) (by kernel_rfl) (fun _ _ _ h => h) (Or.inl ⟨by rfl, by intro w hSw; go_simp⟩) ((Below.refl _ _).drew) ?_
            try simp only [Act.put, List.setIfInBounds_toArray, List.set_cons_zero, List.set_cons_succ]
            refine anyH_take 6 83 (.int .i64 (i : Int)) rfl rfl (by kernel_rfl) (by kernel_rfl) (by kernel_rfl) (fun _ _ _ h => h) (Or.inl ⟨by rfl, by intro w hSw; go_simp⟩) ((Below.refl _ _).drew) ?_
            try simp only [Act.put, List.setIfInBounds_toArray, List.set_cons_zero, List.set_cons_succ]
            refine anyH_take 7 84 (.bool true) rfl rfl (by kernel_rfl) (by kernel_rfl) (by kernel_rfl) (fun _ _ _ h => h) (Or.inl ⟨by rfl, by intro w hSw; go_simp⟩) ((Below.refl _ _).drew) ?_
            try simp only [Act.put, List.setIfInBounds_toArray, List.set_cons_zero, List.set_cons_succ]
            refine anyH_take 8 85 (.bool true) rfl rfl (by kernel_rfl) (by kernel_rfl) (by kernel_rfl) (fun _ _ _ h => h) (Or.inl ⟨by rfl, by intro w hSw; go_simp⟩) ((Below.refl _ _).drew) ?_
            try simp only [Act.put, List.setIfInBounds_toArray, List.set_cons_zero, List.set_cons_succ]
            refine anyH_take 9 86 (.pointer (some ⟨w.heap.size, 2, none⟩)) rfl rfl (by kernel_rfl) (by kernel_rfl) (by kernel_rfl) (fun _ _ _ h => h) (Or.inl ⟨by rfl, by intro w hSw; go_simp⟩) ((Below.refl _ _).drew) ?_
            try simp only [Act.put, List.setIfInBounds_toArray, List.set_cons_zero, List.set_cons_succ]
            refine anyH_take 10 87 (.slice (some ⟨g1, off, none⟩) m lc) rfl rfl (by kernel_rfl) (by kernel_rfl) (by kernel_rfl) (fun _ _ _ h => h) (Or.inl ⟨by rfl, by intro w hSw; have k2 := kf2 _ hSw; go_simp⟩) ((Below.refl _ _).drew) ?_
            try simp only [Act.put, List.setIfInBounds_toArray, List.set_cons_zero, List.set_cons_succ]
            refine anyH_take 11 88 (.int .i64 (i : Int)) rfl rfl (by kernel_rfl) (by kernel_rfl) (by kernel_rfl) (fun _ _ _ h => h) (Or.inl ⟨by rfl, by intro w hSw; go_simp⟩) ((Below.refl _ _).drew) ?_
            try simp only [Act.put, List.setIfInBounds_toArray, List.set_cons_zero, List.set_cons_succ]
            refine anyH_take 12 89 (.int .i64 ((i - 1 : Nat) : Int)) rfl rfl (by kernel_rfl) (by kernel_rfl) (by kernel_rfl) (fun _ _ _ h => h) (Or.inl ⟨by rfl, by intro w hSw; have w1 := hsub; go_simp⟩) ((Below.refl _ _).drew) ?_
            try simp only [Act.put, List.setIfInBounds_toArray, List.set_cons_zero, List.set_cons_succ]
            refine anyH_take 13 90 (.pointer (some ⟨g1, off + (i - 1) * 2, none⟩)) rfl rfl (by kernel_rfl) (by kernel_rfl) (by kernel_rfl) (fun _ _ _ h => h) (Or.inl ⟨by rfl, by intro w hSw; go_simp⟩) ((Below.refl _ _).drew) ?_
            try simp only [Act.put, List.setIfInBounds_toArray, List.set_cons_zero, List.set_cons_succ]
            refine anyH_take 14 91 (LK.v ⟨q0, q1⟩) rfl rfl (by kernel_rfl) (by kernel_rfl) (by kernel_rfl) (fun _ _ _ h => h) (Or.inl ⟨by rfl, fun X hSw => exec_load65m rfl g1 (off + (i - 1) * 2) ⟨q0, q1⟩ rfl X (range_later hq4 hg4 hSw)⟩) ((Below.refl _ _).drew) ?_
            try simp only [Act.put, List.setIfInBounds_toArray, List.set_cons_zero, List.set_cons_succ]
            refine anyH_take 15 92 (lnk p0 p1) rfl rfl (by kernel_rfl) (by kernel_rfl) (by kernel_rfl) (fun _ _ _ h => h) (Or.inl ⟨by rfl, by intro w hSw; have k0 := (hSw.cell (p := ⟨wr.heap.size, 0, none⟩) z4).trans y0; have k1 := (hSw.cell (p := ⟨wr.heap.size, 1, none⟩) z4).trans y1; go_simp⟩) ((Below.refl _ _).drew) ?_
            try simp only [Act.put, List.setIfInBounds_toArray, List.set_cons_zero, List.set_cons_succ]
            refine wpAnyH_ready (rs := [16]) (by kernel_rfl) (by simp) ?_
            refine AllReadyH.cons rfl (fun K hK => ?_) AllReadyH.nil
            go_simp
            go_wp2_with (go_at_call 25; go_must (refine (less_any ⟨q0, q1⟩ ⟨p0, p1⟩ _).mono ?_; rw [hless]; rintro e x1 ⟨rfl, b1⟩))
            refine hK.out _ _ ((Below.refl _ _).drew.trans b1) (fun hS => ?_)
            clear hK
            refine anyH_take 17 94 (.bool false) rfl rfl (by kernel_rfl) (by kernel_rfl) (by kernel_rfl) (fun _ _ _ h => h) (Or.inl ⟨by rfl, by intro w hSw; go_simp⟩) (hS) ?_
            try simp only [Act.put, List.setIfInBounds_toArray, List.set_cons_zero, List.set_cons_succ]
            refine anyH_take 18 95 (.bool false) rfl rfl (by kernel_rfl) (by kernel_rfl) (by kernel_rfl) (fun _ _ _ h => h) (Or.inl ⟨by rfl, by intro w hSw; go_simp⟩) (hS) ?_
            try simp only [Act.put, List.setIfInBounds_toArray, List.set_cons_zero, List.set_cons_succ]
            refine anyH_take 19 96 (.bool false) rfl rfl (by kernel_rfl) (by kernel_rfl) (by kernel_rfl) (fun _ _ _ h => h) (Or.inl ⟨by rfl, by intro w hSw; go_simp⟩) (hS) ?_
            try simp only [Act.put, List.setIfInBounds_toArray, List.set_cons_zero, List.set_cons_succ]
            refine wpAnyH_done (by kernel_rfl) ?_ _
            have B5 := B4.later hS
            go_wp2
            go_roundg (gk - 1)
            case measure => omega
            case rel => exact ⟨i + 1, by first | rfl | go_num, by omega, B5, ⟨by rw [HP.out]; exact HY.out⟩⟩
        · have hiI : ¬ (i : Int) < (m : Int) := by omega
          have HY : Hid (fitB next ds ls = true) := ⟨by rw [HG.out, HL.out, List.drop_eq_nil_of_le (by have := HM.out; omega)]; unfold prB; rfl⟩
          go_wp2
          go_ret
          exact ⟨by rw [HY.out]; rfl, B.below⟩
end Go.Proofs.Ytoppecppmjpgiaa

namespace Go.Proofs.Ytoppecppmjpgiaa
open Go.ChangeShapes Go.WideShapes Go.ChangeAt Go.RowKit Go.Maps
set_option linter.unusedVariables false
set_option linter.unusedSimpArgs false
theorem upB_true {next : Int} {ds : List DG} : ∀ {l : Int}, upB next l ds = true → ds.Pairwise (fun d e => d.num < e.num) ∧ (∀ d ∈ ds, l < d.num ∧ d.num ≤ next) ∧ l ≤ next := by
  induction ds with
  | nil =>
    intro l h
    unfold upB at h
    exact ⟨List.Pairwise.nil, fun d hd => (by cases hd), of_decide_eq_true h⟩
  | cons d ds ih =>
    intro l h
    unfold upB at h
    rw [Bool.and_eq_true] at h
    have h1 := of_decide_eq_true h.1
    obtain ⟨h2, h3, h4⟩ := ih h.2
    refine ⟨List.pairwise_cons.2 ⟨fun e he => (h3 e he).1, h2⟩, fun e he => ?_, by omega⟩
    rcases List.mem_cons.1 he with rfl | he
    · exact ⟨h1, h4⟩
    · have := h3 e he; omega
theorem ltP_trans {x y z : Int × Int} (h : ltP x y) (k : ltP y z) : ltP x z := by unfold ltP at *; omega
theorem prB_true {ls : List LK} : ∀ {p : Option LK}, prB p ls = true → Rise (ls.map pr) ∧ (∀ d ∈ ls, d.fst < d.snd) ∧ (∀ q, p = some q → ∀ d ∈ ls, ltP (pr q) (pr d)) := by
  induction ls with
  | nil => intro p h; exact ⟨List.Pairwise.nil, fun d hd => (by cases hd), fun q _ d hd => (by cases hd)⟩
  | cons d ls ih =>
    intro p h
    unfold prB at h
    rw [Bool.and_eq_true, Bool.and_eq_true] at h
    obtain ⟨h1, h2, h3⟩ := h
    obtain ⟨g1, g2, g3⟩ := ih h3
    refine ⟨List.pairwise_cons.2 ⟨fun e he => ?_, g1⟩, fun e he => ?_, fun q hq e he => ?_⟩
    · obtain ⟨x, hx, rfl⟩ := List.mem_map.1 he
      exact g3 d rfl x hx
    · rcases List.mem_cons.1 he with rfl | he
      · exact of_decide_eq_true h1
      · exact g2 e he
    · subst hq
      have h4 : ltP (pr q) (pr d) := of_decide_eq_true h2
      rcases List.mem_cons.1 he with rfl | he
      · exact h4
      · exact ltP_trans h4 (g3 d rfl e he)
theorem fit_true {next : Int} {ds : List DG} {ls : List LK} (h : fitB next ds ls = true) (hi : ∀ d ∈ ds, I64 d.src ∧ I64 d.dst) : Good next ds ∧ next ≤ 4611686018427387904 ∧ Rise (ls.map pr) ∧ (∀ d ∈ ls, d.fst < d.snd) := by
  unfold fitB at h
  rw [Bool.and_eq_true, Bool.and_eq_true, Bool.and_eq_true, Bool.and_eq_true] at h
  obtain ⟨h1, h2, h3, h4, h5⟩ := h
  obtain ⟨u1, u2, u3⟩ := upB_true h4
  obtain ⟨p1, p2, _⟩ := prB_true h5
  exact ⟨⟨of_decide_eq_true h1, u1, of_decide_eq_true h3, fun d hd => (by have := u2 d hd; omega), hi⟩, of_decide_eq_true h2, p1, p2⟩
/-- A list of one's own that is being spoilt: all else stays. -/
structure Sp (W0 : World) (g off n : Nat) (W : World) : Prop where
  only : Only (at1 g) W0 W
  blk : ∃ cur, W.heap[g]? = some (.cells cur 33 (0, 0)) ∧ off + n * 4 ≤ cur.size
theorem Sp.start {W : World} {g off n cap : Nat} {ds : List DG} (L : Lst W (some ⟨g, off, none⟩) n cap ds) : Sp W g off n W := by
  refine ⟨Only.refl _ _, ?_⟩
  rcases L.mem with ⟨e, _⟩ | ⟨g', off', cur, e, hh, hcs, htk⟩
  · cases e
  · cases e
    have := L.le
    exact ⟨cur, hh, by omega⟩
theorem Sp.set {W0 W : World} {g off n : Nat} (h : Sp W0 g off n W) (i : Nat) (v : Value) : Sp W0 g off n (W.setCell ⟨g, i, none⟩ v) := by
  obtain ⟨cur, hh, hs⟩ := h.blk
  exact ⟨h.only.set i v, _, set_row hh i v, by simpa using hs⟩
theorem Sp.cell {W0 W : World} {g off n i j : Nat} (h : Sp W0 g off n W) (hi : i < n) (hj : j < 4) : ∃ v, W.cell? ⟨g, off + i * 4 + j, none⟩ = some v := by
  obtain ⟨cur, hh, hs⟩ := h.blk
  exact ⟨_, row_cell hh (off + i * 4 + j) _ (Array.getElem?_eq_getElem (by omega))⟩
end Go.Proofs.Ytoppecppmjpgiaa

namespace Go.Proofs.Ytoppecppmjpgiaa
open Go.ChangeShapes Go.WideShapes Go.ChangeAt Go.RowKit Go.Maps
set_option linter.unusedVariables false
set_option linter.unusedSimpArgs false
theorem exec_load40 {o : Oper} {ρ : Operand → Value} {X : World} {p : Operand} {g off : Nat} {kd nn x y : Int} {s : ByteArray} (ho : o.op = .load 40 p) (hp : ρ p = .pointer (some ⟨g, off, none⟩)) (hc : X.rangeAt g off (act5c kd nn x y s)) : (execOp ρ o).run Try.prog X = .ok (.value (act5 kd nn x y s)) X := by
  have h0 : X.cell? ⟨g, off, none⟩ = _ := hc 0 _ rfl
  have h1 := hc 1 _ rfl
  have h2 := hc 2 _ rfl
  have h3 := hc 3 _ rfl
  have h4 := hc 4 _ rfl
  unfold execOp
  simp only [ho, hp]
  go_simp
/-- Ahead of each call of the first list. -/
structure G1 (w : World) (b M r : Nat) (L : Nat) (W : World) : Prop where
  out : ∃ (k : Nat) (D : DataW Unit) (s : St), Bt w none_ b M r k s.next s.ds D s.next s.ds s.ls W ∧ Ok L k D s
/-- Ahead of each call of the second list. -/
structure G2 (w : World) (b M c M2 r : Nat) (L : Nat) (W : World) : Prop where
  out : ∃ (k : Nat) (D : DataW Unit) (k2 : Nat) (D2 : DataW Unit) (s : St), Tr w b M k D s c M2 k2 D2 r s W ∧ Ok L k D s ∧ Ok L k2 D2 s
theorem ok_mono {L L' k : Nat} {D : DataW Unit} {s : St} (O : Ok L k D s) (h : L ≤ L') : Ok L' k D s := ⟨O.good, O.top, O.lnk, O.lt, O.tidy, Nat.le_trans O.size h, Nat.le_trans O.len h, Nat.le_trans O.kk h⟩
set_option maxRecDepth 100000 in
set_option maxHeartbeats 4000000 in
theorem goes_walk (a0 : Option Addr) (len0 cap0 : Nat) (q0 : List ActS) (a1 : Option Addr) (len1 cap1 : Nat) (q1 : List ActS) (w : World) (R0 : RowC w a0 len0 cap0 q0) (R1 : RowC w a1 len1 cap1 q1) (hl0 : len0 ≤ 2932031007402) (hl1 : len1 ≤ 2932031007402) :
    Calls Try.prog 5 #[.slice a0 len0 cap0, .slice a1 len1 cap1] w fun e w' => e = .returned (.bool true) ∧ Below w.heap.size w w' := by
  have HB : Hid (len0 ≤ 2932031007402 ∧ len1 ≤ 2932031007402) := ⟨hl0, hl1⟩
  clear hl0 hl1
  go_enter Try.func5, Try.ntmps5
  go_wp2_with (go_at_call 15; go_must (refine (new_any w).mono ?_; rintro e w0 ⟨b, rfl, hb, M, hM, B0, b0⟩))
  have b1 : Below w0.heap.size w0 (w0.alloc (.cells #[.int .i64 0, .slice none 0 0, .slice none 0 0] 37)) := (Below.refl _ _).alloc (Nat.le_refl _) _
  have X1 := World.alloc_heap_new w0 (.cells #[.int .i64 0, .slice none 0 0, .slice none 0 0] 37)
  have G0 : G1 w b M w0.heap.size 0 (w0.alloc (.cells #[.int .i64 0, .slice none 0 0, .slice none 0 0] 37)) := by
    have bs := b0.size
    refine ⟨0, .map [], ⟨0, [], []⟩, ⟨⟨none, 0, none, 0, none, 0, B0.below b1, ⟨X1, lst_nil _, ⟨rfl, Nat.le_refl _, by omega, .inl ⟨rfl, rfl⟩⟩, fun g off e => by cases e⟩, fun q hq hc => ?_, fun q hq => .inr ?_⟩, Only.of_below (b0.trans (b1.mono bs))⟩, ⟨good_nil, by decide, lnk_nil, fun d hd => (by cases hd), tidy_empty, Nat.le_refl _, Nat.le_refl _, Nat.le_refl _⟩⟩
    · have := B0.ltC q hq
      rcases hc with e | ⟨off, e⟩ | ⟨off, e⟩
      · omega
      · cases e
      · cases e
    · rcases hq with (e | e | ⟨off, e⟩) | e | ⟨off, e⟩ | ⟨off, e⟩
      · omega
      · omega
      · cases e
      · omega
      · cases e
      · cases e
  obtain ⟨r, hr⟩ : ∃ r, w0.heap.size = r := ⟨_, rfl⟩
  rw [hr] at G0
  simp only [hr]
  clear hb hM B0 b0 b1 X1 hr
  go_loopg [7] len0 (fun g v7 wr => ∃ i : Nat, v7 = .int .i64 (i : Int) ∧ i + g = len0 ∧ G1 w b M r i wr)
  case atStart => exact ⟨0, by first | rfl | go_num, by omega, G0⟩
  case round =>
    obtain ⟨i, rfl, hg, C⟩ := hrel
    clear G0
    obtain ⟨k, D, s0, T, O⟩ := C.out
    have bw : Below w.heap.size w wr := T.only.calm
    clear C
    by_cases hi : i < len0
    · have hiI : (i : Int) < (len0 : Int) := by omega
      have hi0 : (0 : Int) ≤ (i : Int) := by omega
      obtain ⟨ab, aoff, rfl, hab, hq⟩ := R0.mem.resolve_left (by omega)
      obtain ⟨⟨kd, nn, x, y, s⟩, hql, hra⟩ := hq i hi
      have hrw := range_belowC hra hab bw
      have hok := R0.ok _ (List.mem_of_getElem? hql)
      have K1 := act_any s0 T O (by have := HB.out; omega) ⟨kd, nn, x, y, s⟩ hok
      have hin : IntKind.i64.wrap ((i : Int) + 1) = (i : Int) + 1 := by rw [IntKind.wrap_i64]; have := HB.out; omega
      clear hq hql hra hok
      go_wp2_with (first
        | ((with_reducible show wpList _ _ _ (Oper.mk _ (Op.load 40 _) _ _ _ _ :: _) _ _); refine load_act5 rfl _ rfl ab (aoff + i * 5) kd nn x y s rfl hrw ?_)
        | (go_at_call 11; go_must (refine K1.mono ?_; clear K1; rintro e W2 ⟨rfl, k', D', T2, O2⟩)))
      go_roundg (gk - 1)
      case measure => omega
      case rel => exact ⟨i + 1, by first | rfl | go_num, by omega, ⟨k', D', _, T2, O2⟩⟩
    · have hiI : ¬ (i : Int) < (len0 : Int) := by omega
      have hiE : i = len0 := by omega
      obtain ⟨a, cap, ra, rc, la, lc, B, R, h1, h2⟩ := T.out
      have h2' : ∀ q, bagC b M a q ∨ ragC r ra la q → w.heap.size ≤ q := fun q hq => (h2 q hq).elim (fun h => h.elim) id
      have K1 := state_ok B O (by have := HB.out; omega)
      clear h2 T
      go_wp2_with (first
        | (go_at_call 12; go_must (refine K1.mono ?_; clear K1; rintro e w2 ⟨a2, c2, la2, lc2, rfl, b2, L2, K2⟩; have K3 := of_yes s0.next a2 s0.ds.length c2 s0.ds la2 s0.ls.length lc2 s0.ls w2 L2 K2 O.good O.top O.lnk.rise O.lt O.lnk.i64 (by have := O.len; have := HB.out; omega)))
        | (go_at_call 8; go_must (refine K3.mono ?_; clear K3; rintro e w3 ⟨c, rfl, b3, M2, a3, cap3, D3, B3, hC3, Ln3, Ti3, Si3⟩)))
      have G0 : G2 w b M c M2 r len0 w3 := by
        have b23 : Below wr.heap.size wr w3 := b2.trans (b3.mono b2.size)
        have s2 := b2.size
        refine ⟨k, D, s0.ls.length, D3, s0, ⟨⟨a, cap, a3, cap3, ra, rc, la, lc, B.below b23, B3, R.below b23, fun q hq hc => ?_, h1, fun q hc hq => ?_, fun q hq => ?_⟩, bw.trans (b23.mono bw.size)⟩, ok_mono O (by omega), ok_mono (L := i) ⟨O.good, O.top, Ln3, O.lt, Ti3, Nat.le_trans Si3 O.len, O.len, O.len⟩ (by omega)⟩
        · have := B.ltC q hq; have := hC3 q hc; omega
        · have := R.ltC q hq; have := hC3 q hc; omega
        · rcases hq with hq | hq | hq
          · exact h2' q (.inl hq)
          · have := hC3 q hq; have := bw.size; omega
          · exact h2' q (.inr hq)
      clear b2 L2 K2 b3 B3 hC3 Ln3 Ti3 Si3 B R h1 h2' O bw
      go_loopg [10] len1 (fun g v10 wr => ∃ j : Nat, v10 = .int .i64 (j : Int) ∧ j + g = len1 ∧ G2 w b M c M2 r (len0 + j) wr)
      case atStart => exact ⟨0, by first | rfl | go_num, by omega, G0⟩
      case round =>
        obtain ⟨j, rfl, hg1, C⟩ := hrel
        clear G0
        obtain ⟨k, D, k2, D2, s0, T, O, O2⟩ := C.out
        clear C
        by_cases hj : j < len1
        · have hjI : (j : Int) < (len1 : Int) := by omega
          have hj0 : (0 : Int) ≤ (j : Int) := by omega
          obtain ⟨ab, aoff, rfl, hab, hq⟩ := R1.mem.resolve_left (by omega)
          obtain ⟨⟨kd, nn, x, y, s⟩, hql, hra⟩ := hq j hj
          have hok := R1.ok _ (List.mem_of_getElem? hql)
          have hin : IntKind.i64.wrap ((j : Int) + 1) = (j : Int) + 1 := by rw [IntKind.wrap_i64]; have := HB.out; omega
          have HL : Hid (len0 + j < 8796093022206) := ⟨by have := HB.out; omega⟩
          have HL1 : Hid (len0 + j + 1 ≤ 8796093022208) := ⟨by have := HB.out; omega⟩
          have HO : Hid (Ok (len0 + j) k D s0) := ⟨O⟩
          have HO2 : Hid (Ok (len0 + j) k2 D2 s0) := ⟨O2⟩
          obtain ⟨a, cap, a2, cap2, ra, rc, la, lc, B, B2, R, g⟩ := T.out
          have K0 := copy_anyT s0.next ra s0.ds.length rc s0.ds la s0.ls.length lc s0.ls wr R.lst R.lks (by have := O.good.len; omega) (by have := O.len; have := HB.out; omega)
          have c0 := row_cell R.obj 0 _ rfl
          have c1 := row_cell R.obj 1 _ rfl
          have c2 := row_cell R.obj 2 _ rfl
          clear hq hql g B B2 O O2
          go_wp2_with (go_at_call 7; go_must (refine K0.mono ?_; clear K0; rintro e w4 ⟨a4, c4, la4, lc4, rfl, L4, K4, f4, f4', b4, t4⟩))
          have b5 : Below w4.heap.size w4 (World.drew (w4.alloc (.cells #[.int .i64 s0.next, .slice a4 s0.ds.length c4, .slice la4 s0.ls.length lc4] 37))) := ((Below.refl _ _).alloc (Nat.le_refl _) _).drew
          have X5 : (World.drew (w4.alloc (.cells #[.int .i64 s0.next, .slice a4 s0.ds.length c4, .slice la4 s0.ls.length lc4] 37))).heap[w4.heap.size]? = some (.cells #[.int .i64 s0.next, .slice a4 s0.ds.length c4, .slice la4 s0.ls.length lc4] 37 (0, 0)) := World.alloc_heap_new w4 _
          obtain ⟨W1, hW1⟩ : ∃ X, World.drew (w4.alloc (.cells #[.int .i64 s0.next, .slice a4 s0.ds.length c4, .slice la4 s0.ls.length lc4] 37)) = X := ⟨_, rfl⟩
          rw [hW1] at b5 X5
          have R5 : RAt W1 w4.heap.size s0.next a4 s0.ds.length c4 s0.ds la4 s0.ls.length lc4 s0.ls := ⟨X5, L4.below b5, K4.below b5, fun g off e => (by obtain ⟨cur, h⟩ := t4 g off e; exact ⟨cur, (b5.block g (row_lt h)).trans h⟩)⟩
          have b45 : Below wr.heap.size wr W1 := b4.trans (b5.mono b4.size)
          have bw : Below w.heap.size w W1 := T.below.trans (b45.mono T.below.size)
          have K1 := T.first b45 HO.out HL.out ⟨kd, nn, x, y, s⟩ hok R5 (by
            rintro q (e | ⟨off, e⟩ | ⟨off, e⟩)
            · have := b4.size; omega
            · exact f4 q off e
            · exact f4' q off e)
          obtain ⟨r2, hr2⟩ : ∃ r2, w4.heap.size = r2 := ⟨_, rfl⟩
          rw [hr2] at K1
          simp only [hr2]
          clear c0 c1 c2 R b4 b5 b45 R5 X5 f4 f4' t4 L4 K4 hr2
          refine wp_region_any (by kernel_rfl) ?_
          change wpAny _ _ _ _ _ _ _ (World.drew _)
          rw [hW1]
          clear hW1
          refine wpAny_narrow (fun X => Below w.heap.size w X) _ _ _ _ ?_
          refine anyH_take 0 53 (.pointer (some ⟨b, 0, none⟩)) rfl rfl (by kernel_rfl) (by kernel_rfl) (by kernel_rfl) (fun _ _ _ h => h) (Or.inl ⟨by rfl, by intro w hSw; go_simp⟩) (bw) ?_
          try simp only [Act.put, List.setIfInBounds_toArray, List.set_cons_zero, List.set_cons_succ]
          refine anyH_take 1 54 (.pointer (some ⟨r2, 0, none⟩)) rfl rfl (by kernel_rfl) (by kernel_rfl) (by kernel_rfl) (fun _ _ _ h => h) (Or.inl ⟨by rfl, by intro w hSw; go_simp⟩) (bw) ?_
          try simp only [Act.put, List.setIfInBounds_toArray, List.set_cons_zero, List.set_cons_succ]
          refine anyH_take 2 55 (.slice (some ⟨ab, aoff, none⟩) len1 cap1) rfl rfl (by kernel_rfl) (by kernel_rfl) (by kernel_rfl) (fun _ _ _ h => h) (Or.inl ⟨by rfl, by intro w hSw; go_simp⟩) (bw) ?_
          try simp only [Act.put, List.setIfInBounds_toArray, List.set_cons_zero, List.set_cons_succ]
          refine anyH_take 3 56 (.int .i64 (j : Int)) rfl rfl (by kernel_rfl) (by kernel_rfl) (by kernel_rfl) (fun _ _ _ h => h) (Or.inl ⟨by rfl, by intro w hSw; go_simp⟩) (bw) ?_
          try simp only [Act.put, List.setIfInBounds_toArray, List.set_cons_zero, List.set_cons_succ]
          refine anyH_take 4 57 (.pointer (some ⟨ab, aoff + j * 5, none⟩)) rfl rfl (by kernel_rfl) (by kernel_rfl) (by kernel_rfl) (fun _ _ _ h => h) (Or.inl ⟨by rfl, by intro w hSw; go_simp⟩) (bw) ?_
          try simp only [Act.put, List.setIfInBounds_toArray, List.set_cons_zero, List.set_cons_succ]
          refine anyH_take 5 58 (act5 kd nn x y s) rfl rfl (by kernel_rfl) (by kernel_rfl) (by kernel_rfl) (fun _ _ _ h => h) (Or.inl ⟨by rfl, by intro X hSw; exact exec_load40 rfl rfl (range_belowC hra hab hSw)⟩) (bw) ?_
          try simp only [Act.put, List.setIfInBounds_toArray, List.set_cons_zero, List.set_cons_succ]
          refine anyH_take 7 60 (.pointer (some ⟨c, 0, none⟩)) rfl rfl (by kernel_rfl) (by kernel_rfl) (by kernel_rfl) (fun _ _ _ h => h) (Or.inl ⟨by rfl, by intro w hSw; go_simp⟩) (bw) ?_
          try simp only [Act.put, List.setIfInBounds_toArray, List.set_cons_zero, List.set_cons_succ]
          refine anyH_take 8 61 (.pointer (some ⟨r, 0, none⟩)) rfl rfl (by kernel_rfl) (by kernel_rfl) (by kernel_rfl) (fun _ _ _ h => h) (Or.inl ⟨by rfl, by intro w hSw; go_simp⟩) (bw) ?_
          try simp only [Act.put, List.setIfInBounds_toArray, List.set_cons_zero, List.set_cons_succ]
          refine anyH_take 9 62 (.slice (some ⟨ab, aoff, none⟩) len1 cap1) rfl rfl (by kernel_rfl) (by kernel_rfl) (by kernel_rfl) (fun _ _ _ h => h) (Or.inl ⟨by rfl, by intro w hSw; go_simp⟩) (bw) ?_
          try simp only [Act.put, List.setIfInBounds_toArray, List.set_cons_zero, List.set_cons_succ]
          refine anyH_take 10 63 (.int .i64 (j : Int)) rfl rfl (by kernel_rfl) (by kernel_rfl) (by kernel_rfl) (fun _ _ _ h => h) (Or.inl ⟨by rfl, by intro w hSw; go_simp⟩) (bw) ?_
          try simp only [Act.put, List.setIfInBounds_toArray, List.set_cons_zero, List.set_cons_succ]
          refine anyH_take 11 64 (.pointer (some ⟨ab, aoff + j * 5, none⟩)) rfl rfl (by kernel_rfl) (by kernel_rfl) (by kernel_rfl) (fun _ _ _ h => h) (Or.inl ⟨by rfl, by intro w hSw; go_simp⟩) (bw) ?_
          try simp only [Act.put, List.setIfInBounds_toArray, List.set_cons_zero, List.set_cons_succ]
          refine anyH_take 12 65 (act5 kd nn x y s) rfl rfl (by kernel_rfl) (by kernel_rfl) (by kernel_rfl) (fun _ _ _ h => h) (Or.inl ⟨by rfl, by intro X hSw; exact exec_load40 rfl rfl (range_belowC hra hab hSw)⟩) (bw) ?_
          try simp only [Act.put, List.setIfInBounds_toArray, List.set_cons_zero, List.set_cons_succ]
          refine wpAnyH_ready (rs := [6]) (by kernel_rfl) (by simp) ?_
          refine AllReadyH.cons rfl (fun K hK => ?_) AllReadyH.nil
          go_simp
          go_wp2_with (go_at_call 11; go_must (refine K1.mono ?_; clear K1; rintro e W2 ⟨rfl, k', D', T2, O2⟩; have K2 := T2.second HO2.out HL.out ⟨kd, nn, x, y, s⟩ hok))
          refine hK.out _ _ (T2.below) (fun hS => ?_)
          clear hK
          refine wpAnyH_ready (rs := [13]) (by kernel_rfl) (by simp) ?_
          refine AllReadyH.cons rfl (fun K hK => ?_) AllReadyH.nil
          go_simp
          go_wp2_with (go_at_call 11; go_must (refine K2.mono ?_; clear K2; rintro e W3 ⟨rfl, k2', D2', T3, O3⟩; obtain ⟨a4, cap4, a5, cap5, ra5, rc5, la5, lc5, B4, B5, R5, g5⟩ := T3.out; have K3 := state_ok B4 O2 HL1.out))
          refine hK.out _ _ (T3.below) (fun hS => ?_)
          clear hK
          refine anyH_take 14 67 (.bool false) rfl rfl (by kernel_rfl) (by kernel_rfl) (by kernel_rfl) (fun _ _ _ h => h) (Or.inl ⟨by rfl, by intro w hSw; go_simp⟩) (T3.below) ?_
          try simp only [Act.put, List.setIfInBounds_toArray, List.set_cons_zero, List.set_cons_succ]
          refine anyH_take 15 68 (.bool false) rfl rfl (by kernel_rfl) (by kernel_rfl) (by kernel_rfl) (fun _ _ _ h => h) (Or.inl ⟨by rfl, by intro w hSw; go_simp⟩) (T3.below) ?_
          try simp only [Act.put, List.setIfInBounds_toArray, List.set_cons_zero, List.set_cons_succ]
          refine anyH_take 16 69 (.pointer (some ⟨b, 0, none⟩)) rfl rfl (by kernel_rfl) (by kernel_rfl) (by kernel_rfl) (fun _ _ _ h => h) (Or.inl ⟨by rfl, by intro w hSw; go_simp⟩) (T3.below) ?_
          try simp only [Act.put, List.setIfInBounds_toArray, List.set_cons_zero, List.set_cons_succ]
          refine anyH_take 18 71 (.pointer (some ⟨c, 0, none⟩)) rfl rfl (by kernel_rfl) (by kernel_rfl) (by kernel_rfl) (fun _ _ _ h => h) (Or.inl ⟨by rfl, by intro w hSw; go_simp⟩) (T3.below) ?_
          try simp only [Act.put, List.setIfInBounds_toArray, List.set_cons_zero, List.set_cons_succ]
          refine wpAnyH_ready (rs := [17]) (by kernel_rfl) (by simp) ?_
          refine AllReadyH.cons rfl (fun K hK => ?_) AllReadyH.nil
          go_simp
          go_wp2_with (go_at_call 12; go_must (refine K3.mono ?_; clear K3; rintro e W4 ⟨a6, c6, la6, lc6, rfl, b4, L6, K6⟩; have T4 := T3.later b4; have K4 := state_ok (B5.below b4) O3 HL1.out))
          refine hK.out _ _ (T4.below) (fun hS => ?_)
          clear hK
          refine wpAnyH_ready (rs := [19]) (by kernel_rfl) (by simp) ?_
          refine AllReadyH.cons rfl (fun K hK => ?_) AllReadyH.nil
          go_simp
          go_wp2_with (go_at_call 12; go_must (refine K4.mono ?_; clear K4; rintro e W5 ⟨a7, c7, la7, lc7, rfl, b5, L7, K7⟩; have T5 := T4.later b5; have K5 := same_any (stp ⟨kd, nn, x, y, s⟩ s0).next a6 a7 _ c6 c7 _ la6 la7 _ lc6 lc7 _ W5 (L6.below b5) L7 (K6.below b5) K7))
          refine hK.out _ _ (T5.below) (fun hS => ?_)
          clear hK
          refine wpAnyH_ready (rs := [20]) (by kernel_rfl) (by simp) ?_
          refine AllReadyH.cons rfl (fun K hK => ?_) AllReadyH.nil
          go_simp
          go_wp2_with (go_at_call 13; go_must (refine K5.mono ?_; clear K5; rintro e W6 ⟨rfl, b6⟩; have T6 := T5.later b6))
          refine hK.out _ _ (T6.below) (fun hS => ?_)
          clear hK
          refine anyH_take 21 74 (.bool false) rfl rfl (by kernel_rfl) (by kernel_rfl) (by kernel_rfl) (fun _ _ _ h => h) (Or.inl ⟨by rfl, by intro w hSw; go_simp⟩) (T6.below) ?_
          try simp only [Act.put, List.setIfInBounds_toArray, List.set_cons_zero, List.set_cons_succ]
          refine anyH_take 22 75 (.bool false) rfl rfl (by kernel_rfl) (by kernel_rfl) (by kernel_rfl) (fun _ _ _ h => h) (Or.inl ⟨by rfl, by intro w hSw; go_simp⟩) (T6.below) ?_
          try simp only [Act.put, List.setIfInBounds_toArray, List.set_cons_zero, List.set_cons_succ]
          refine wpAnyH_done (by kernel_rfl) ?_ _
          go_wp2
          go_roundg (gk - 1)
          case measure => omega
          case rel => exact ⟨j + 1, by first | rfl | go_num, by omega, ⟨_, _, _, _, _, T6, O2, O3⟩⟩
        · have hjI : ¬ (j : Int) < (len1 : Int) := by omega
          have bw := T.below
          clear T O O2
          go_wp2_with (go_at_call 10; go_must (refine (awake_any _).mono ?_; rintro e wz ⟨rfl, bz⟩))
          go_ret
          exact ⟨rfl, bw.trans (bz.mono bw.size)⟩
end Go.Proofs.Ytoppecppmjpgiaa

namespace Go.Proofs.Ytoppecppmjpgiaa
open Go.ChangeShapes Go.WideShapes Go.ChangeAt Go.RowKit Go.Maps
set_option linter.unusedVariables false
set_option linter.unusedSimpArgs false

def atA (a : Option Addr) : Nat → Prop := fun q => ∃ off, a = some ⟨q, off, none⟩
/-- A list of one's own that is being spoilt: all else stays. -/
structure SpA (W0 : World) (a : Option Addr) (n : Nat) (W : World) : Prop where
  only : Only (atA a) W0 W
  blk : ∀ g off, a = some ⟨g, off, none⟩ → ∃ cur, W.heap[g]? = some (.cells cur 33 (0, 0)) ∧ off + n * 4 ≤ cur.size
theorem SpA.start {W : World} {a : Option Addr} {n cap : Nat} {ds : List DG} (L : Lst W a n cap ds) : SpA W a n W := by
  refine ⟨Only.refl _ _, fun g off e => ?_⟩
  rcases L.mem with ⟨e0, _⟩ | ⟨g', off', cur, e0, hh, hcs, htk⟩
  · rw [e0] at e; cases e
  · rw [e0] at e
    cases e
    have := L.le
    exact ⟨cur, hh, by omega⟩
theorem SpA.set {W0 W : World} {g off n : Nat} (h : SpA W0 (some ⟨g, off, none⟩) n W) (i : Nat) (v : Value) : SpA W0 (some ⟨g, off, none⟩) n (W.setCell ⟨g, i, none⟩ v) := by
  refine ⟨h.only.setCell (fun _ => ⟨off, rfl⟩) i v, fun g' off' e => ?_⟩
  cases e
  obtain ⟨cur, hh, hs⟩ := h.blk g off rfl
  exact ⟨_, set_row hh i v, by simpa using hs⟩
theorem SpA.cell {W0 W : World} {g off n i : Nat} (h : SpA W0 (some ⟨g, off, none⟩) n W) (hi : i < n) : (∃ v, W.cell? ⟨g, off + i * 4 + 3, none⟩ = some v) ∧ W.frozen? ⟨g, off + i * 4 + 3, none⟩ = false := by
  obtain ⟨cur, hh, hs⟩ := h.blk g off rfl
  exact ⟨⟨_, row_cell hh (off + i * 4 + 3) _ (Array.getElem?_eq_getElem (by omega))⟩, row_free hh _⟩
theorem SpA.far {W0 W : World} {a : Option Addr} {n cap : Nat} {ds : List DG} (h : SpA W0 a n W) (L : Lst W0 a n cap ds) {k : Nat} {cs : Array Value} {t : TypeId} (hk : W0.heap[k]? = some (.cells cs t (0, 0))) (ht : t ≠ 33) : W.heap[k]? = some (.cells cs t (0, 0)) := by
  refine (h.only.block k (row_lt hk) ?_).trans hk
  rintro ⟨off, rfl⟩
  exact L.ne_cells hk ht rfl
theorem SpA.below {W0 W : World} {a : Option Addr} {n B : Nat} (h : SpA W0 a n W) (hB : ∀ g off, a = some ⟨g, off, none⟩ → B ≤ g) (hs : B ≤ W0.heap.size) : Below B W0 W := h.only.below hs (fun q ⟨off, e⟩ => hB q off e)
theorem Lst.ltA {W : World} {a : Option Addr} {n cap : Nat} {ds : List DG} (L : Lst W a n cap ds) : ∀ g off, a = some ⟨g, off, none⟩ → g < W.heap.size := fun g off e => by
  rcases L.mem with ⟨e0, _⟩ | ⟨g', off', cur, e0, hh, _⟩
  · rw [e0] at e; cases e
  · rw [e0] at e
    cases e
    exact row_lt hh
theorem lst_some {W : World} {a : Option Addr} {n cap : Nat} {ds : List DG} (L : Lst W a n cap ds) (hn : 0 < n) : ∃ g off, a = some ⟨g, off, none⟩ := by
  rcases L.mem with ⟨e0, h⟩ | ⟨g', off', cur, e0, hh, hcs, htk⟩
  · have := L.le; omega
  · exact ⟨g', off', e0⟩
theorem state_okF {b M k L : Nat} {a : Option Addr} {cap : Nat} {s : St} {D : DataW Unit} {W : World} (B : BagAt W b M a s.ds.length cap k s.next s.ds D) (O : Ok L k D s) (hL : L ≤ 8796093022208) :
    Calls Try.prog 12 #[.pointer (some ⟨b, 0, none⟩)] W fun e W' => ∃ a' c' la lc, e = .returned (mailV s.next a' s.ds.length c' la s.ls.length lc) ∧ Below W.heap.size W W' ∧ Lst W' a' s.ds.length c' s.ds ∧ Lks W' la s.ls.length lc s.ls ∧ (∀ g off, a' = some ⟨g, off, none⟩ → W.heap.size ≤ g) := by
  refine (state_any b M a s.ds.length cap k s.next s.ds D W B (by have := O.good.len; omega) (by have := O.size; omega)).mono ?_
  rintro e W' ⟨a', c', la, m, lc, rfl, bel, f1, _, L1, ts, hk, hr, K1⟩
  have e1 : ts = s.ls.map pr := rise_one hr O.lnk.rise (hk.one O.lnk.keys)
  rw [e1, map_back] at K1
  have e2 := K1.size
  subst e2
  exact ⟨a', c', la, lc, rfl, bel, L1, K1, f1⟩
set_option maxRecDepth 100000 in
set_option maxHeartbeats 8000000 in
theorem plays_no (next : Int) (a : Option Addr) (c : Nat) (ds : List DG) (la : Option Addr) (lc : Nat) (ls : List LK) (w : World) (R : Rst w a ds.length c ds) (K : Lks w la ls.length lc ls) (hi : ∀ q ∈ ds, I64 q.src ∧ I64 q.dst) (hi2 : ∀ q ∈ ls, I64 q.fst ∧ I64 q.snd) (hn : ds.length ≤ 1048576) (hm : ls.length ≤ 1048576) (aa : Option Addr) (len1 cap1 : Nat) (q1 : List ActS) (RA : RowC w aa len1 cap1 q1) (hl : len1 ≤ 1048576) (hf : fitB next ds ls = false) : Calls Try.prog 3 #[mailV next a ds.length c la ls.length lc, .slice aa len1 cap1] w fun e w' => e = .returned (.bool true) ∧ Below w.heap.size w w' := by
  have HN : Hid (ds.length ≤ 1048576) := ⟨hn⟩
  have HM : Hid (ls.length ≤ 1048576) := ⟨hm⟩
  have HL : Hid (len1 ≤ 1048576) := ⟨hl⟩
  have HF : Hid (fitB next ds ls = false) := ⟨hf⟩
  have HI2 : Hid (∀ q ∈ ls, I64 q.fst ∧ I64 q.snd) := ⟨hi2⟩
  have bB : Below w.heap.size w (w.alloc (.cells #[.int .i64 next, .slice a ds.length c, .slice la ls.length lc] 25)) := (Below.refl _ _).alloc (Nat.le_refl _) _
  have T0 : (w.alloc (.cells #[.int .i64 next, .slice a ds.length c, .slice la ls.length lc] 25)).heap[w.heap.size]? = some (.cells #[.int .i64 next, .slice a ds.length c, .slice la ls.length lc] 25 (0, 0)) := World.alloc_heap_new w _
  obtain ⟨w0, hw0⟩ : ∃ X, w.alloc (.cells #[.int .i64 next, .slice a ds.length c, .slice la ls.length lc] 25) = X := ⟨_, rfl⟩
  rw [hw0] at bB T0
  have K7 := copy_raw next a ds.length c ds la ls.length lc ls w0 (R.below bB) (K.below bB) (by omega) (by omega)
  have c00 := row_cell T0 0 _ rfl
  have c01 := row_cell T0 1 _ rfl
  have c02 := row_cell T0 2 _ rfl
  clear hn hm hl hf hi hi2
  go_enter Try.func3, Try.ntmps3
  go_upto_region 1 with (fail)
  try rw [hw0]
  clear hw0
  go_upto_region 2 with (go_at_call 7; go_must (refine K7.mono ?_; clear K7; rintro e w1 ⟨a1, c1, la1, lc1, rfl, L1, K1, f1, f1', b1, t1⟩))
  have bA : Below w1.heap.size w1 (w1.alloc (.cells #[.int .i64 next, .slice a1 ds.length c1, .slice la1 ls.length lc1] 25)) := (Below.refl _ _).alloc (Nat.le_refl _) _
  have T5 : (w1.alloc (.cells #[.int .i64 next, .slice a1 ds.length c1, .slice la1 ls.length lc1] 25)).heap[w1.heap.size]? = some (.cells #[.int .i64 next, .slice a1 ds.length c1, .slice la1 ls.length lc1] 25 (0, 0)) := World.alloc_heap_new w1 _
  obtain ⟨q5, hq5⟩ : ∃ q : Nat, w1.heap.size = q := ⟨_, rfl⟩
  obtain ⟨w2, hw2⟩ : ∃ X, w1.alloc (.cells #[.int .i64 next, .slice a1 ds.length c1, .slice la1 ls.length lc1] 25) = X := ⟨_, rfl⟩
  rw [hw2] at bA T5 ⊢
  rw [hq5] at T5
  have T2 := ((b1.trans (bA.mono b1.size)).block _ (row_lt T0)).trans T0
  have B02 : Below w0.heap.size w0 w2 := b1.trans (bA.mono b1.size)
  have hsz12 : w1.heap.size ≤ w2.heap.size := bA.size
  have K8 := of_no next a1 ds.length c1 ds la1 ls.length lc1 ls w2 (L1.below bA) (K1.below bA) HF.out
  have L2 := L1.below bA
  simp only [hq5]
  have c50 := row_cell T5 0 _ rfl
  have c51 := row_cell T5 1 _ rfl
  have c52 := row_cell T5 2 _ rfl
  clear hw2 hq5 c00 c01 c02 L1 K1
  go_upto_region 3 with (go_at_call 8; go_must (refine K8.mono ?_; clear K8; rintro e w3 ⟨rfl, b3⟩))
  have T3 := (b3.block _ (row_lt T2)).trans T2
  have T53 := (b3.block _ (row_lt T5)).trans T5
  have L3 := L2.below b3
  have B03 : Below w0.heap.size w0 w3 := B02.trans (b3.mono B02.size)
  have K9 := rfit_any next a ds.length c ds la ls.length lc ls w3 (R.below (bB.trans (B03.mono bB.size))) (K.below (bB.trans (B03.mono bB.size)))
  rw [HF.out] at K9
  have c30 := row_cell T3 0 _ rfl
  have c31 := row_cell T3 1 _ rfl
  have c32 := row_cell T3 2 _ rfl
  clear c50 c51 c52 L2 T2 T5
  go_upto_region 5 with (go_at_call 9; go_must (refine K9.mono ?_; clear K9; rintro e w4 ⟨rfl, b4⟩))
  have T4 := (b4.block _ (row_lt T3)).trans T3
  have T54 := (b4.block _ (row_lt T53)).trans T53
  have L4 := L3.below b4
  have B04 : Below w0.heap.size w0 w4 := B03.trans (b4.mono B03.size)
  clear c30 c31 c32 L3 T3 T53 t1
  go_wp2_with (fail)
  go_loopg [8] ds.length (fun g v8 wr => ∃ i : Nat, v8 = .int .i64 (i : Int) ∧ i + g = ds.length ∧ SpA w4 a1 ds.length wr)
  case atStart => exact ⟨0, by first | rfl | go_num, by omega, SpA.start L4⟩
  case round =>
    obtain ⟨i, rfl, hg, Sp⟩ := hrel
    have T5i := Sp.far L4 T54 (by decide)
    have c51 := row_cell T5i 1 _ rfl
    by_cases hin : i < ds.length
    case pos =>
      have hiI : (i : Int) < (ds.length : Int) := by omega
      have hwi : IntKind.i64.wrap ((i : Int) + 1) = (i : Int) + 1 := by rw [IntKind.wrap_i64]; have := HN.out; omega
      obtain ⟨g1, o1, rfl⟩ := lst_some L4 (by omega)
      obtain ⟨⟨u, hu⟩, hfz⟩ := Sp.cell hin
      go_wp2_with (fail)
      go_roundg (gk - 1)
      case measure => omega
      case rel => exact ⟨i + 1, by first | rfl | go_num, by omega, Sp.set _ _⟩
    case neg =>
      have hiI : ¬ (i : Int) < (ds.length : Int) := by omega
      have Bi : Below w0.heap.size w4 wr := Sp.below f1 B04.size
      have BW : Below w.heap.size w wr := (bB.trans (B04.mono bB.size)).trans (Bi.mono bB.size)
      clear Sp L4 T54 T4
      go_wp2_with (go_at_call 10; go_must (refine (awake_any _).mono ?_; rintro e wz ⟨rfl, bz⟩))
      go_ret
      exact ⟨rfl, BW.trans (bz.mono BW.size)⟩
set_option maxRecDepth 100000 in
set_option maxHeartbeats 16000000 in
theorem plays_yes (next : Int) (a : Option Addr) (c : Nat) (ds : List DG) (la : Option Addr) (lc : Nat) (ls : List LK) (w : World) (R : Rst w a ds.length c ds) (K : Lks w la ls.length lc ls) (hi : ∀ q ∈ ds, I64 q.src ∧ I64 q.dst) (hi2 : ∀ q ∈ ls, I64 q.fst ∧ I64 q.snd) (hn : ds.length ≤ 1048576) (hm : ls.length ≤ 1048576) (aa : Option Addr) (len1 cap1 : Nat) (q1 : List ActS) (RA : RowC w aa len1 cap1 q1) (hl : len1 ≤ 1048576) (hf : fitB next ds ls = true) : Calls Try.prog 3 #[mailV next a ds.length c la ls.length lc, .slice aa len1 cap1] w fun e w' => e = .returned (.bool true) ∧ Below w.heap.size w w' := by
  have HN : Hid (ds.length ≤ 1048576) := ⟨hn⟩
  have HM : Hid (ls.length ≤ 1048576) := ⟨hm⟩
  have HL : Hid (len1 ≤ 1048576) := ⟨hl⟩
  have HF : Hid (fitB next ds ls = true) := ⟨hf⟩
  have HI2 : Hid (∀ q ∈ ls, I64 q.fst ∧ I64 q.snd) := ⟨hi2⟩
  obtain ⟨FG, FX, FR, FL⟩ := fit_true hf hi
  have bB : Below w.heap.size w (w.alloc (.cells #[.int .i64 next, .slice a ds.length c, .slice la ls.length lc] 25)) := (Below.refl _ _).alloc (Nat.le_refl _) _
  have T0 : (w.alloc (.cells #[.int .i64 next, .slice a ds.length c, .slice la ls.length lc] 25)).heap[w.heap.size]? = some (.cells #[.int .i64 next, .slice a ds.length c, .slice la ls.length lc] 25 (0, 0)) := World.alloc_heap_new w _
  obtain ⟨w0, hw0⟩ : ∃ X, w.alloc (.cells #[.int .i64 next, .slice a ds.length c, .slice la ls.length lc] 25) = X := ⟨_, rfl⟩
  rw [hw0] at bB T0
  have K7 := copy_raw next a ds.length c ds la ls.length lc ls w0 (R.below bB) (K.below bB) (by omega) (by omega)
  have c00 := row_cell T0 0 _ rfl
  have c01 := row_cell T0 1 _ rfl
  have c02 := row_cell T0 2 _ rfl
  clear hn hm hl hf hi hi2
  go_enter Try.func3, Try.ntmps3
  go_upto_region 1 with (fail)
  try rw [hw0]
  clear hw0
  go_upto_region 2 with (go_at_call 7; go_must (refine K7.mono ?_; clear K7; rintro e w1 ⟨a1, c1, la1, lc1, rfl, L1, K1, f1, f1', b1, t1⟩))
  have bA : Below w1.heap.size w1 (w1.alloc (.cells #[.int .i64 next, .slice a1 ds.length c1, .slice la1 ls.length lc1] 25)) := (Below.refl _ _).alloc (Nat.le_refl _) _
  have T5 : (w1.alloc (.cells #[.int .i64 next, .slice a1 ds.length c1, .slice la1 ls.length lc1] 25)).heap[w1.heap.size]? = some (.cells #[.int .i64 next, .slice a1 ds.length c1, .slice la1 ls.length lc1] 25 (0, 0)) := World.alloc_heap_new w1 _
  obtain ⟨q5, hq5⟩ : ∃ q : Nat, w1.heap.size = q := ⟨_, rfl⟩
  obtain ⟨w2, hw2⟩ : ∃ X, w1.alloc (.cells #[.int .i64 next, .slice a1 ds.length c1, .slice la1 ls.length lc1] 25) = X := ⟨_, rfl⟩
  rw [hw2] at bA T5 ⊢
  rw [hq5] at T5
  have T2 := ((b1.trans (bA.mono b1.size)).block _ (row_lt T0)).trans T0
  have B02 : Below w0.heap.size w0 w2 := b1.trans (bA.mono b1.size)
  have hsz12 : w1.heap.size ≤ w2.heap.size := bA.size
  have K8 := of_yes next a1 ds.length c1 ds la1 ls.length lc1 ls w2 (L1.below bA) (K1.below bA) FG FX FR FL HI2.out (by have := HM.out; omega)
  have L2 := L1.below bA
  simp only [hq5]
  have c50 := row_cell T5 0 _ rfl
  have c51 := row_cell T5 1 _ rfl
  have c52 := row_cell T5 2 _ rfl
  have Lw2 := L2.ltA
  clear hw2 hq5 c00 c01 c02 L1 K1
  go_upto_region 3 with (go_at_call 8; go_must (refine K8.mono ?_; clear K8; rintro e w3 ⟨b, rfl, b3, M, a3, cap3, D3, B3, hC3, Ln3, Ti3, Si3⟩))
  have T3 := (b3.block _ (row_lt T2)).trans T2
  have T53 := (b3.block _ (row_lt T5)).trans T5
  have L3 := L2.below b3
  have B03 : Below w0.heap.size w0 w3 := B02.trans (b3.mono B02.size)
  have K9 := rfit_any next a ds.length c ds la ls.length lc ls w3 (R.below (bB.trans (B03.mono bB.size))) (K.below (bB.trans (B03.mono bB.size)))
  rw [HF.out] at K9
  have c30 := row_cell T3 0 _ rfl
  have c31 := row_cell T3 1 _ rfl
  have c32 := row_cell T3 2 _ rfl
  clear c50 c51 c52 L2 T2 T5
  go_upto_region 5 with (go_at_call 9; go_must (refine K9.mono ?_; clear K9; rintro e w4 ⟨rfl, b4⟩))
  have T4 := (b4.block _ (row_lt T3)).trans T3
  have T54 := (b4.block _ (row_lt T53)).trans T53
  have L4 := L3.below b4
  have B04 : Below w0.heap.size w0 w4 := B03.trans (b4.mono B03.size)
  clear c30 c31 c32 L3 T3 T53 t1
  go_wp2_with (fail)
  go_loopg [8] ds.length (fun g v8 wr => ∃ i : Nat, v8 = .int .i64 (i : Int) ∧ i + g = ds.length ∧ SpA w4 a1 ds.length wr)
  case atStart => exact ⟨0, by first | rfl | go_num, by omega, SpA.start L4⟩
  case round =>
    obtain ⟨i, rfl, hg, Sp⟩ := hrel
    have T5i := Sp.far L4 T54 (by decide)
    have c51 := row_cell T5i 1 _ rfl
    by_cases hin : i < ds.length
    case pos =>
      have hiI : (i : Int) < (ds.length : Int) := by omega
      have hwi : IntKind.i64.wrap ((i : Int) + 1) = (i : Int) + 1 := by rw [IntKind.wrap_i64]; have := HN.out; omega
      obtain ⟨g1, o1, rfl⟩ := lst_some L4 (by omega)
      obtain ⟨⟨u, hu⟩, hfz⟩ := Sp.cell hin
      go_wp2_with (fail)
      go_roundg (gk - 1)
      case measure => omega
      case rel => exact ⟨i + 1, by first | rfl | go_num, by omega, Sp.set _ _⟩
    case neg =>
      have hiI : ¬ (i : Int) < (ds.length : Int) := by omega
      have Bi : Below w0.heap.size w4 wr := Sp.below f1 B04.size
      have BW : Below w.heap.size w wr := (bB.trans (B04.mono bB.size)).trans (Bi.mono bB.size)
      have HA1 := L4.ltA
      have T4r := Sp.far L4 T4 (by decide)
      have Bag : BagAt wr b M a3 ds.length cap3 ls.length next ds D3 := (B3.below b4).only Sp.only (fun q hq ⟨off, e⟩ => by have := hC3 q hq; have := Lw2 q off e; omega)
      have c0 := row_cell T4r 0 _ rfl
      have c1' := row_cell T4r 1 _ rfl
      have c2 := row_cell T4r 2 _ rfl
      have K7 := copy_raw next a ds.length c ds la ls.length lc ls wr (R.below BW) (K.below BW) (by have := HN.out; omega) (by have := HM.out; omega)
      have hC3' : ∀ q, bagC b M a3 q → w.heap.size ≤ q := fun q hq => by have := hC3 q hq; have := B02.size; have := bB.size; omega
      clear Sp L4 T54 T4 HA1 T5i B3 b3 b4 hC3 Lw2
      go_wp2_with (go_at_call 7; go_must (refine K7.mono ?_; clear K7; rintro e w5 ⟨a5, c5, la5, lc5, rfl, L5, K5, f5, f5', b5, t5⟩))
      have b6 : Below w5.heap.size w5 (w5.alloc (.cells #[.int .i64 next, .slice a5 ds.length c5, .slice la5 ls.length lc5] 37)) := (Below.refl _ _).alloc (Nat.le_refl _) _
      have X6 : (w5.alloc (.cells #[.int .i64 next, .slice a5 ds.length c5, .slice la5 ls.length lc5] 37)).heap[w5.heap.size]? = some (.cells #[.int .i64 next, .slice a5 ds.length c5, .slice la5 ls.length lc5] 37 (0, 0)) := World.alloc_heap_new w5 _
      obtain ⟨w6, hw6⟩ : ∃ X, w5.alloc (.cells #[.int .i64 next, .slice a5 ds.length c5, .slice la5 ls.length lc5] 37) = X := ⟨_, rfl⟩
      rw [hw6] at b6 X6 ⊢
      have G0 : G1 w b M w5.heap.size ls.length w6 := by
        have b56 : Below wr.heap.size wr w6 := b5.trans (b6.mono b5.size)
        have s5 := b5.size
        have sw := BW.size
        refine ⟨ls.length, D3, ⟨next, ds, ls⟩, ⟨⟨a3, cap3, a5, c5, la5, lc5, Bag.below b56, ⟨X6, L5.below b6, K5.below b6, fun g off e => (by obtain ⟨cur, h⟩ := t5 g off e; exact ⟨cur, (b6.block g (row_lt h)).trans h⟩)⟩, fun q hq hc => ?_, fun q hq => .inr ?_⟩, Only.of_below (BW.trans (b56.mono sw))⟩, ⟨FG, FX, Ln3, FL, Ti3, Si3, Nat.le_refl _, Nat.le_refl _⟩⟩
        · have := Bag.ltC q hq
          rcases hc with e | ⟨off, e⟩ | ⟨off, e⟩
          · omega
          · have := f5 q off e; omega
          · have := f5' q off e; omega
        · rcases hq with e | e | ⟨off, e⟩ | ⟨off, e⟩
          · exact hC3' q e
          · omega
          · have := f5 q off e; omega
          · have := f5' q off e; omega
      obtain ⟨r, hr⟩ : ∃ r, w5.heap.size = r := ⟨_, rfl⟩
      rw [hr] at G0
      simp only [hr]
      clear hr hw6 b6 X6 b5 L5 K5 f5 f5' t5 Bag T4r c0 c1' c2 hC3' Bi BW B04 B03 B02 f1 f1' b1 T0 bB hg hin FG FX FR FL Ln3 Ti3 Si3 hsz12
      go_loopg [10] len1 (fun g v10 wr => ∃ j : Nat, v10 = .int .i64 (j : Int) ∧ j + g = len1 ∧ G1 w b M r (ls.length + j) wr)
      case atStart => exact ⟨0, by first | rfl | go_num, by omega, G0⟩
      case round =>
        obtain ⟨j, rfl, hgj, C⟩ := hrel
        clear G0
        obtain ⟨kb, D, s0, T, O⟩ := C.out
        have bw : Below w.heap.size w wr := T.only.calm
        clear C
        by_cases hj : j < len1
        case pos =>
          have hjI : (j : Int) < (len1 : Int) := by omega
          have hj0 : (0 : Int) ≤ (j : Int) := by omega
          obtain ⟨ab, aoff, rfl, hab, hq⟩ := RA.mem.resolve_left (by omega)
          obtain ⟨⟨kd, nn, x, y, s⟩, hql, hra⟩ := hq j hj
          have hrw := range_belowC hra hab bw
          have hok := RA.ok _ (List.mem_of_getElem? hql)
          have K1 := act_any s0 T O (by have := HM.out; have := HL.out; omega) ⟨kd, nn, x, y, s⟩ hok
          have hinx : IntKind.i64.wrap ((j : Int) + 1) = (j : Int) + 1 := by rw [IntKind.wrap_i64]; have := HL.out; omega
          clear hq hql hra hok
          go_wp2_with (first
            | ((with_reducible show wpList _ _ _ (Oper.mk _ (Op.load 40 _) _ _ _ _ :: _) _ _); refine load_act5 rfl _ rfl ab (aoff + j * 5) kd nn x y s rfl hrw ?_)
            | (go_at_call 11; go_must (refine K1.mono ?_; clear K1; rintro e W2 ⟨rfl, k', D', T2, O2⟩)))
          go_roundg (gk - 1)
          case measure => omega
          case rel => exact ⟨j + 1, by first | rfl | go_num, by omega, ⟨k', D', _, T2, O2⟩⟩
        case neg =>
          have hjI : ¬ (j : Int) < (len1 : Int) := by omega
          obtain ⟨ab, capb, ra, rc, lra, rlc, BB, RR, h1, h2⟩ := T.out
          have HO : Hid (Ok (ls.length + j) kb D s0) := ⟨O⟩
          have hjl : j ≤ len1 := by omega
          have HJ : Hid (j ≤ len1) := ⟨hjl⟩
          have K12 := state_okF BB O (by have := HM.out; have := HL.out; omega)
          have HSD : Hid (s0.ds.length ≤ 65536) := ⟨O.good.len⟩
          obtain ⟨wB, hwB⟩ : ∃ X, wr = X := ⟨_, rfl⟩
          rw [hwB] at BB RR T bw K12 ⊢
          clear hwB O h1 h2 hgj hj hjl
          go_wp2_with (go_at_call 12; go_must (refine K12.mono ?_; clear K12; rintro e w7 ⟨a7, c7, la7, lc7, rfl, b7, L7, K7, f7⟩))
          have b8 : Below w7.heap.size w7 (w7.alloc (.cells #[.int .i64 s0.next, .slice a7 s0.ds.length c7, .slice la7 s0.ls.length lc7] 25)) := (Below.refl _ _).alloc (Nat.le_refl _) _
          have X8 : (w7.alloc (.cells #[.int .i64 s0.next, .slice a7 s0.ds.length c7, .slice la7 s0.ls.length lc7] 25)).heap[w7.heap.size]? = some (.cells #[.int .i64 s0.next, .slice a7 s0.ds.length c7, .slice la7 s0.ls.length lc7] 25 (0, 0)) := World.alloc_heap_new w7 _
          obtain ⟨q11, hq11⟩ : ∃ q : Nat, w7.heap.size = q := ⟨_, rfl⟩
          obtain ⟨w8, hw8⟩ : ∃ X, w7.alloc (.cells #[.int .i64 s0.next, .slice a7 s0.ds.length c7, .slice la7 s0.ls.length lc7] 25) = X := ⟨_, rfl⟩
          rw [hw8] at b8 X8 ⊢
          rw [hq11] at X8
          simp only [hq11]
          have b78 : Below wB.heap.size wB w8 := b7.trans (b8.mono b7.size)
          have L8 := L7.below b8
          have K8 := K7.below b8
          have RR8 := RR.below b78
          have RL8 := RR8.lst
          have RK8 := RR8.lks
          have RO8 := RR8.obj
          have B8 := BB.below b78
          have k110 : ∀ X, Below w8.heap.size w8 X → X.cell? ⟨q11, 0, none⟩ = some (.int .i64 s0.next) := fun X bb => row_cell ((bb.block _ (row_lt X8)).trans X8) 0 _ rfl
          have k111 : ∀ X, Below w8.heap.size w8 X → X.cell? ⟨q11, 1, none⟩ = some (.slice a7 s0.ds.length c7) := fun X bb => row_cell ((bb.block _ (row_lt X8)).trans X8) 1 _ rfl
          have k112 : ∀ X, Below w8.heap.size w8 X → X.cell? ⟨q11, 2, none⟩ = some (.slice la7 s0.ls.length lc7) := fun X bb => row_cell ((bb.block _ (row_lt X8)).trans X8) 2 _ rfl
          have kr0 : ∀ X, Below w8.heap.size w8 X → X.cell? ⟨r, 0, none⟩ = some (.int .i64 s0.next) := fun X bb => row_cell ((bb.block _ (row_lt RO8)).trans RO8) 0 _ rfl
          have kr1 : ∀ X, Below w8.heap.size w8 X → X.cell? ⟨r, 1, none⟩ = some (.slice ra s0.ds.length rc) := fun X bb => row_cell ((bb.block _ (row_lt RO8)).trans RO8) 1 _ rfl
          have kr2 : ∀ X, Below w8.heap.size w8 X → X.cell? ⟨r, 2, none⟩ = some (.slice lra s0.ls.length rlc) := fun X bb => row_cell ((bb.block _ (row_lt RO8)).trans RO8) 2 _ rfl
          clear hw8 hq11 b7 b8 L7 K7
          refine wp_region_any (by kernel_rfl) ?_
          change wpAny _ _ _ _ _ _ _ (World.drew _)
          refine wpAny_narrow (fun W' => Below w8.heap.size w8 W') _ _ _ _ ?_
          refine anyH_take 0 65 (mailV s0.next a7 s0.ds.length c7 la7 s0.ls.length lc7) rfl rfl (by kernel_rfl) (by kernel_rfl) (by kernel_rfl) (fun _ _ _ h => h) (Or.inl ⟨by rfl, by intro w hSw; have s0 := k110 _ hSw; have s1 := k111 _ hSw; have s2 := k112 _ hSw; go_simp⟩) ((Below.refl _ _).drew) ?_
          try simp only [Act.put, List.setIfInBounds_toArray, List.set_cons_zero, List.set_cons_succ]
          refine anyH_take 1 66 (.pointer (some ⟨r, 0, none⟩)) rfl rfl (by kernel_rfl) (by kernel_rfl) (by kernel_rfl) (fun _ _ _ h => h) (Or.inl ⟨by rfl, by intro w hSw; go_simp⟩) ((Below.refl _ _).drew) ?_
          try simp only [Act.put, List.setIfInBounds_toArray, List.set_cons_zero, List.set_cons_succ]
          refine anyH_take 2 67 (.pointer (some ⟨r, 0, none⟩)) rfl rfl (by kernel_rfl) (by kernel_rfl) (by kernel_rfl) (fun _ _ _ h => h) (Or.inl ⟨by rfl, by intro w hSw; go_simp⟩) ((Below.refl _ _).drew) ?_
          try simp only [Act.put, List.setIfInBounds_toArray, List.set_cons_zero, List.set_cons_succ]
          refine anyH_take 3 68 (.pointer (some ⟨r, 0, none⟩)) rfl rfl (by kernel_rfl) (by kernel_rfl) (by kernel_rfl) (fun _ _ _ h => h) (Or.inl ⟨by rfl, by intro w hSw; go_simp⟩) ((Below.refl _ _).drew) ?_
          try simp only [Act.put, List.setIfInBounds_toArray, List.set_cons_zero, List.set_cons_succ]
          refine anyH_take 4 69 (mailV s0.next ra s0.ds.length rc lra s0.ls.length rlc) rfl rfl (by kernel_rfl) (by kernel_rfl) (by kernel_rfl) (fun _ _ _ h => h) (Or.inl ⟨by rfl, by intro w hSw; have s0 := kr0 _ hSw; have s1 := kr1 _ hSw; have s2 := kr2 _ hSw; go_simp⟩) ((Below.refl _ _).drew) ?_
          try simp only [Act.put, List.setIfInBounds_toArray, List.set_cons_zero, List.set_cons_succ]
          refine wpAnyH_ready (rs := [5]) (by kernel_rfl) (by simp) ?_
          refine AllReadyH.cons rfl (fun K hK => ?_) AllReadyH.nil
          go_simp
          go_wp2_with (go_at_call 13; go_must (refine (same_any s0.next a7 ra s0.ds.length c7 rc s0.ds la7 lra s0.ls.length lc7 rlc s0.ls _ (L8.below (Below.refl _ _).drew) (RL8.below (Below.refl _ _).drew) (K8.below (Below.refl _ _).drew) (RK8.below (Below.refl _ _).drew)).mono ?_; rintro e w9 ⟨rfl, b9⟩))
          refine hK.out _ _ ((Below.refl _ _).drew.trans b9) (fun hS => ?_)
          clear hK
          try simp only [Act.put, List.setIfInBounds_toArray, List.set_cons_zero, List.set_cons_succ]
          refine anyH_take 6 71 (.bool false) rfl rfl (by kernel_rfl) (by kernel_rfl) (by kernel_rfl) (fun _ _ _ h => h) (Or.inl ⟨by rfl, by intro w hSw; go_simp⟩) (hS) ?_
          try simp only [Act.put, List.setIfInBounds_toArray, List.set_cons_zero, List.set_cons_succ]
          refine anyH_take 7 72 (.bool false) rfl rfl (by kernel_rfl) (by kernel_rfl) (by kernel_rfl) (fun _ _ _ h => h) (Or.inl ⟨by rfl, by intro w hSw; go_simp⟩) (hS) ?_
          try simp only [Act.put, List.setIfInBounds_toArray, List.set_cons_zero, List.set_cons_succ]
          refine anyH_take 8 73 (.pointer (some ⟨b, 0, none⟩)) rfl rfl (by kernel_rfl) (by kernel_rfl) (by kernel_rfl) (fun _ _ _ h => h) (Or.inl ⟨by rfl, by intro w hSw; go_simp⟩) (hS) ?_
          try simp only [Act.put, List.setIfInBounds_toArray, List.set_cons_zero, List.set_cons_succ]
          refine anyH_take 10 75 (.pointer (some ⟨r, 0, none⟩)) rfl rfl (by kernel_rfl) (by kernel_rfl) (by kernel_rfl) (fun _ _ _ h => h) (Or.inl ⟨by rfl, by intro w hSw; go_simp⟩) (hS) ?_
          try simp only [Act.put, List.setIfInBounds_toArray, List.set_cons_zero, List.set_cons_succ]
          refine anyH_take 11 76 (.pointer (some ⟨r, 0, none⟩)) rfl rfl (by kernel_rfl) (by kernel_rfl) (by kernel_rfl) (fun _ _ _ h => h) (Or.inl ⟨by rfl, by intro w hSw; go_simp⟩) (hS) ?_
          try simp only [Act.put, List.setIfInBounds_toArray, List.set_cons_zero, List.set_cons_succ]
          refine anyH_take 12 77 (.pointer (some ⟨r, 0, none⟩)) rfl rfl (by kernel_rfl) (by kernel_rfl) (by kernel_rfl) (fun _ _ _ h => h) (Or.inl ⟨by rfl, by intro w hSw; go_simp⟩) (hS) ?_
          try simp only [Act.put, List.setIfInBounds_toArray, List.set_cons_zero, List.set_cons_succ]
          refine anyH_take 13 78 (.pointer (some ⟨r, 1, none⟩)) rfl rfl (by kernel_rfl) (by kernel_rfl) (by kernel_rfl) (fun _ _ _ h => h) (Or.inl ⟨by rfl, by intro w hSw; go_simp⟩) (hS) ?_
          try simp only [Act.put, List.setIfInBounds_toArray, List.set_cons_zero, List.set_cons_succ]
          refine anyH_take 14 79 (.slice ra s0.ds.length rc) rfl rfl (by kernel_rfl) (by kernel_rfl) (by kernel_rfl) (fun _ _ _ h => h) (Or.inl ⟨by rfl, by intro w hSw; have s1 := kr1 _ hSw; go_simp⟩) (hS) ?_
          try simp only [Act.put, List.setIfInBounds_toArray, List.set_cons_zero, List.set_cons_succ]
          refine anyH_take 15 80 (.int .i64 (s0.ds.length : Int)) rfl rfl (by kernel_rfl) (by kernel_rfl) (by kernel_rfl) (fun _ _ _ h => h) (Or.inl ⟨by rfl, by intro w hSw; go_simp⟩) (hS) ?_
          try simp only [Act.put, List.setIfInBounds_toArray, List.set_cons_zero, List.set_cons_succ]
          refine wpAnyH_ready (rs := [9]) (by kernel_rfl) (by simp) ?_
          refine AllReadyH.cons rfl (fun K hK => ?_) AllReadyH.nil
          go_simp
          go_wp2_with (go_at_call 14; go_must (refine (len_any b M ab s0.ds.length capb kb s0.next s0.ds D _ (B8.below hS)).mono ?_; rintro e w10 ⟨rfl, e10⟩; subst e10))
          refine hK.out _ _ (hS) (fun hS => ?_)
          clear hK
          try simp only [Act.put, List.setIfInBounds_toArray, List.set_cons_zero, List.set_cons_succ]
          refine anyH_take 16 81 (.bool false) rfl rfl (by kernel_rfl) (by kernel_rfl) (by kernel_rfl) (fun _ _ _ h => h) (Or.inl ⟨by rfl, by intro w hSw; go_simp⟩) (hS) ?_
          try simp only [Act.put, List.setIfInBounds_toArray, List.set_cons_zero, List.set_cons_succ]
          refine anyH_take 17 82 (.bool false) rfl rfl (by kernel_rfl) (by kernel_rfl) (by kernel_rfl) (fun _ _ _ h => h) (Or.inl ⟨by rfl, by intro w hSw; go_simp⟩) (hS) ?_
          try simp only [Act.put, List.setIfInBounds_toArray, List.set_cons_zero, List.set_cons_succ]
          refine wpAnyH_done (by kernel_rfl) ?_ _
          have L9 := L8.below hS
          have X9 := (hS.block _ (row_lt X8)).trans X8
          have b9B : Below wB.heap.size wB w10 := b78.trans (hS.mono b78.size)
          clear kr0 kr1 kr2 k110 k111 k112 hS b9 L8 K8 RR8 RL8 RK8 RO8 B8 X8 b78
          go_wp2_with (fail)
          go_loopg [12] s0.ds.length (fun g v12 wr => ∃ i : Nat, v12 = .int .i64 (i : Int) ∧ i + g = s0.ds.length ∧ SpA w10 a7 s0.ds.length wr)
          case atStart => exact ⟨0, by first | rfl | go_num, by omega, SpA.start L9⟩
          case round =>
            obtain ⟨i, rfl, hg, Sp⟩ := hrel
            have T5i := Sp.far L9 X9 (by decide)
            have c51 := row_cell T5i 1 _ rfl
            by_cases hin : i < s0.ds.length
            case pos =>
              have hiI : (i : Int) < (s0.ds.length : Int) := by omega
              have hwi : IntKind.i64.wrap ((i : Int) + 1) = (i : Int) + 1 := by rw [IntKind.wrap_i64]; have := HSD.out; omega
              obtain ⟨g1, o1, rfl⟩ := lst_some L9 (by omega)
              obtain ⟨⟨u, hu⟩, hfz⟩ := Sp.cell hin
              go_wp2_with (fail)
              go_roundg (gk - 1)
              case measure => omega
              case rel => exact ⟨i + 1, by first | rfl | go_num, by omega, Sp.set _ _⟩
            case neg =>
              have hiI : ¬ (i : Int) < (s0.ds.length : Int) := by omega
              have bE : Below wB.heap.size wB wr := b9B.trans (Sp.below f7 b9B.size)
              have RR9 := RR.below bE
              have RL9 := RR9.lst
              have RK9 := RR9.lks
              have RO9 := RR9.obj
              have B9 := BB.below bE
              have BE : Below w.heap.size w wr := bw.trans (bE.mono bw.size)
              have kr0 : ∀ X, Below wr.heap.size wr X → X.cell? ⟨r, 0, none⟩ = some (.int .i64 s0.next) := fun X bb => row_cell ((bb.block _ (row_lt RO9)).trans RO9) 0 _ rfl
              have kr1 : ∀ X, Below wr.heap.size wr X → X.cell? ⟨r, 1, none⟩ = some (.slice ra s0.ds.length rc) := fun X bb => row_cell ((bb.block _ (row_lt RO9)).trans RO9) 1 _ rfl
              have kr2 : ∀ X, Below wr.heap.size wr X → X.cell? ⟨r, 2, none⟩ = some (.slice lra s0.ls.length rlc) := fun X bb => row_cell ((bb.block _ (row_lt RO9)).trans RO9) 2 _ rfl
              clear Sp T5i L9 X9 b9B bE RR9 RO9
              go_wp2_with (fail)
              refine wp_region_any (by kernel_rfl) ?_
              change wpAny _ _ _ _ _ _ _ (World.drew _)
              refine wpAny_narrow (fun W' => Below wr.heap.size wr W') _ _ _ _ ?_
              refine anyH_take 0 95 (.pointer (some ⟨b, 0, none⟩)) rfl rfl (by kernel_rfl) (by kernel_rfl) (by kernel_rfl) (fun _ _ _ h => h) (Or.inl ⟨by rfl, by intro w hSw; go_simp⟩) ((Below.refl _ _).drew) ?_
              try simp only [Act.put, List.setIfInBounds_toArray, List.set_cons_zero, List.set_cons_succ]
              refine anyH_take 2 97 (.pointer (some ⟨r, 0, none⟩)) rfl rfl (by kernel_rfl) (by kernel_rfl) (by kernel_rfl) (fun _ _ _ h => h) (Or.inl ⟨by rfl, by intro w hSw; go_simp⟩) ((Below.refl _ _).drew) ?_
              try simp only [Act.put, List.setIfInBounds_toArray, List.set_cons_zero, List.set_cons_succ]
              refine anyH_take 3 98 (.pointer (some ⟨r, 0, none⟩)) rfl rfl (by kernel_rfl) (by kernel_rfl) (by kernel_rfl) (fun _ _ _ h => h) (Or.inl ⟨by rfl, by intro w hSw; go_simp⟩) ((Below.refl _ _).drew) ?_
              try simp only [Act.put, List.setIfInBounds_toArray, List.set_cons_zero, List.set_cons_succ]
              refine anyH_take 4 99 (.pointer (some ⟨r, 0, none⟩)) rfl rfl (by kernel_rfl) (by kernel_rfl) (by kernel_rfl) (fun _ _ _ h => h) (Or.inl ⟨by rfl, by intro w hSw; go_simp⟩) ((Below.refl _ _).drew) ?_
              try simp only [Act.put, List.setIfInBounds_toArray, List.set_cons_zero, List.set_cons_succ]
              refine anyH_take 5 100 (mailV s0.next ra s0.ds.length rc lra s0.ls.length rlc) rfl rfl (by kernel_rfl) (by kernel_rfl) (by kernel_rfl) (fun _ _ _ h => h) (Or.inl ⟨by rfl, by intro w hSw; have s0 := kr0 _ hSw; have s1 := kr1 _ hSw; have s2 := kr2 _ hSw; go_simp⟩) ((Below.refl _ _).drew) ?_
              try simp only [Act.put, List.setIfInBounds_toArray, List.set_cons_zero, List.set_cons_succ]
              refine wpAnyH_ready (rs := [1]) (by kernel_rfl) (by simp) ?_
              refine AllReadyH.cons rfl (fun K hK => ?_) AllReadyH.nil
              go_simp
              go_wp2_with (go_at_call 12; go_must (refine (state_ok (B9.below (Below.refl _ _).drew) HO.out (by have := HM.out; have := HL.out; have := HJ.out; omega)).mono ?_; rintro e w11 ⟨a11, c11, la11, lc11, rfl, b11, L11, K11⟩))
              refine hK.out _ _ ((Below.refl _ _).drew.trans b11) (fun hS => ?_)
              clear hK
              try simp only [Act.put, List.setIfInBounds_toArray, List.set_cons_zero, List.set_cons_succ]
              refine wpAnyH_ready (rs := [6]) (by kernel_rfl) (by simp) ?_
              refine AllReadyH.cons rfl (fun K hK => ?_) AllReadyH.nil
              go_simp
              go_wp2_with (go_at_call 13; go_must (refine (same_any s0.next a11 ra s0.ds.length c11 rc s0.ds la11 lra s0.ls.length lc11 rlc s0.ls _ L11 (RL9.below hS) K11 (RK9.below hS)).mono ?_; rintro e w12 ⟨rfl, b12⟩))
              refine hK.out _ _ (hS.trans (b12.mono hS.size)) (fun hS => ?_)
              clear hK
              try simp only [Act.put, List.setIfInBounds_toArray, List.set_cons_zero, List.set_cons_succ]
              refine anyH_take 7 102 (.bool true) rfl rfl (by kernel_rfl) (by kernel_rfl) (by kernel_rfl) (fun _ _ _ h => h) (Or.inl ⟨by rfl, by intro w hSw; go_simp⟩) (hS) ?_
              try simp only [Act.put, List.setIfInBounds_toArray, List.set_cons_zero, List.set_cons_succ]
              refine wpAnyH_ready (rs := [8]) (by kernel_rfl) (by simp) ?_
              refine AllReadyH.cons rfl (fun K hK => ?_) AllReadyH.nil
              go_simp
              go_wp2_with (go_at_call 10; go_must (refine (awake_any _).mono ?_; rintro e w13 ⟨rfl, b13⟩))
              refine hK.out _ _ (hS.trans (b13.mono hS.size)) (fun hS => ?_)
              clear hK
              try simp only [Act.put, List.setIfInBounds_toArray, List.set_cons_zero, List.set_cons_succ]
              refine anyH_take 9 104 (.bool true) rfl rfl (by kernel_rfl) (by kernel_rfl) (by kernel_rfl) (fun _ _ _ h => h) (Or.inl ⟨by rfl, by intro w hSw; go_simp⟩) (hS) ?_
              try simp only [Act.put, List.setIfInBounds_toArray, List.set_cons_zero, List.set_cons_succ]
              refine anyH_take 10 4 (.bool true) rfl rfl (by kernel_rfl) (by kernel_rfl) (by kernel_rfl) (fun _ _ _ h => h) (Or.inl ⟨by rfl, by intro w hSw; go_simp⟩) (hS) ?_
              try simp only [Act.put, List.setIfInBounds_toArray, List.set_cons_zero, List.set_cons_succ]
              refine wpAnyH_done (by kernel_rfl) ?_ _
              go_wp2_with (fail)
              go_ret
              exact ⟨rfl, BE.trans (hS.mono BE.size)⟩
theorem plays_walk (next : Int) (a : Option Addr) (c : Nat) (ds : List DG) (la : Option Addr) (lc : Nat) (ls : List LK) (w : World) (R : Rst w a ds.length c ds) (K : Lks w la ls.length lc ls) (hi : ∀ q ∈ ds, I64 q.src ∧ I64 q.dst) (hi2 : ∀ q ∈ ls, I64 q.fst ∧ I64 q.snd) (hn : ds.length ≤ 1048576) (hm : ls.length ≤ 1048576) (aa : Option Addr) (len1 cap1 : Nat) (q1 : List ActS) (RA : RowC w aa len1 cap1 q1) (hl : len1 ≤ 1048576) : Calls Try.prog 3 #[mailV next a ds.length c la ls.length lc, .slice aa len1 cap1] w fun e w' => e = .returned (.bool true) ∧ Below w.heap.size w w' := by
  cases hf : fitB next ds ls with
  | false => exact plays_no next a c ds la lc ls w R K hi hi2 hn hm aa len1 cap1 q1 RA hl hf
  | true => exact plays_yes next a c ds la lc ls w R K hi hi2 hn hm aa len1 cap1 q1 RA hl hf
end Go.Proofs.Ytoppecppmjpgiaa

namespace Go.Proofs.Ytoppecppmjpgiaa.bagPlays
open Go.ChangeShapes Go.WideShapes Go.ChangeAt Go.RowKit
open Go.ChangeMaps (open_string shut_string)
set_option linter.unusedVariables false

theorem own : ownKnob Try.prog.godebug = none := by kernel_rfl
theorem laidOut : laidOutB Try.prog = true := by kernel_rfl

set_option maxRecDepth 100000 in
theorem contract (H : Type) (enc : TypeId × Value → H) (W : World) (base : Nat) (args : Array Value) (ds gs : List (DataW H)) (before : List MemPlace)
    (hval0 : ∀ (j : Nat) t v, Try.f3.params[j]? = some t → args[j]? = some v → Value.okWide Try.prog W .any base t v)
    (hW : DataW.Whole enc Try.prog Try.f3.params.toList Rows.bagPlaysSpec.vars false W args.toList ds gs before) (hk : Rows.uptoSmall H (ds ++ gs) = true) :
    Calls Try.prog 3 args W fun e W' => ∃ v, e = .returned v ∧ Rows.bagPlaysSpec.post enc Try.prog Try.f3 false true false false W args v W' := by
  have hval : ∀ (j : Nat) t v, Try.f3.params[j]? = some t → args[j]? = some v → Value.okWide Try.prog W .any base t v := hval0
  have hW' := hW
  obtain ⟨p, q, hA0, hV, rfl, hfz, hnd⟩ := hW
  have hA : DataW.TrodAll enc Try.prog W 0 (fun _ => true) true Try.f3.params.toList args.toList ds p := hA0
  rw [Try.params3] at hA hval
  obtain ⟨v0, vs0, d0, ds0, p0, q0, hargs, rfl, rfl, h0, r0⟩ := trodAll_cons hA
  obtain ⟨v1, vs1, d1, ds1, p1, q1, rfl, rfl, rfl, h1, r1⟩ := trodAll_cons r0
  obtain ⟨rfl, rfl, rfl⟩ := trodAll_nil r1
  obtain rfl : args = #[v0, v1] := by cases args; simp_all
  obtain ⟨rfl, rfl⟩ := trodVars_none hV
  have hb := of_decide_eq_true hk
  simp only [List.append_nil, Rows.uptoBulkAll, Nat.add_zero] at hb
  have k0 := h0
  have lt0 : ∀ x ∈ p0, x.block < W.heap.size := by obtain ⟨m, hm⟩ := k0; exact DataW.trod_lt m _ _ _ hm
  obtain ⟨next, a, n, c, la, m, lc, l0, l1, rfl, R, K, hi, hi2, hbk⟩ := open_mailU (hval 0 25 v0 rfl rfl) k0
  have k1 := h1
  have lt1 : ∀ x ∈ p1, x.block < W.heap.size := by obtain ⟨m, hm⟩ := k1; exact DataW.trod_lt m _ _ _ hm
  obtain ⟨a1, len1, cap1, rfl⟩ := okWide_slice Try.underlying26 (hval 1 26 v1 rfl rfl)
  obtain ⟨z1, O1, le1, me1, ok1, c1⟩ := open_actsU k1
  clear hA0 hval0
  obtain rfl := R.size
  obtain rfl := K.size
  have hR := R.le
  have hK := K.le
  refine (plays_walk next a c l0 la lc l1 W R K hi hi2 (by omega) (by omega) a1 len1 cap1 z1 ⟨O1, le1, me1, ok1⟩ (by omega)).mono fun e W' ⟨he, bel⟩ => ?_
  subst he
  exact ⟨_, rfl, _, _, _, [], _, [], hW', trodAll_mk1 (shut_bool Try.underlying4 _), (trodAll_cons_mk (Below.trod laidOut (by kernel_rfl) (of_decide_eq_true (by kernel_rfl)) k0 bel lt0) (trodAll_cons_mk (Below.trod laidOut (by kernel_rfl) (of_decide_eq_true (by kernel_rfl)) k1 bel lt1) trodAll_mk0)), rfl, bel.frame _, fun h => by cases h⟩

set_option maxRecDepth 100000 in
theorem lifted (os : Os) (started : os.Started) (H : Type) (enc : TypeId × Value → H) (F : Stop.Interp) :
    ReturnsInHanded {} Try.checked os 3 .any ((Rows.OpenSpec.upto Rows.bagPlaysSpec).pre6 enc Try.prog Try.f3 Rows.bagPlaysUptoRow.domain false) (((Rows.OpenSpec.upto Rows.bagPlaysSpec).at F).post enc Try.prog Try.f3 false true false false) := by
  refine returnsInHanded_of_cond (C := Try.checked) (s := Rows.OpenSpec.upto Rows.bagPlaysSpec) (k := Rows.uptoSmall) rfl own started (by kernel_rfl) Try.func3
    (OpenSpec.witness (enc := enc) (C := Try.checked) (s := Rows.OpenSpec.upto Rows.bagPlaysSpec) (k := Rows.uptoSmall) rfl false ⟨#[], #[.agg #[.int .i64 0, .slice none 0 0, .slice none 0 0], .slice none 0 0], []⟩ 8 (by kernel_rfl) (by kernel_rfl) (by kernel_rfl)
      (x := ([.agg [.lit (.int .i64 0), .nil, .nil], .nil], [], [])) (by kernel_rfl) rfl (by kernel_rfl)) ?_
  intro W base args ds gs before hval hW _ hk _
  exact contract H enc W base args ds gs before hval hW hk

theorem over : Rows.bagPlaysUptoRow.holds Try.pinned (Rows.OpenSpec.upto Rows.bagPlaysSpec) :=
  OpenClaim.holds_of_cond 3 Try.f3 rfl rfl rfl rfl rfl rfl rfl ⟨rfl, rfl, rfl, rfl, rfl⟩ rfl rfl rfl rfl rfl (by kernel_rfl) Try.func3 (by kernel_rfl)
    (of_decide_eq_true (by kernel_rfl)) (by unfold Func.isWrapper; first | (rw [if_pos (by decide +kernel)]; kernel_rfl) | (rw [if_neg (by decide +kernel)]; exact ⟨rfl, rfl⟩))
    (fun os started H enc _ F => lifted os started H enc F)

/-- The statement. -/
theorem proved : Rows.BagPlaysUptoSaid := over
#print axioms proved
end Go.Proofs.Ytoppecppmjpgiaa.bagPlays
