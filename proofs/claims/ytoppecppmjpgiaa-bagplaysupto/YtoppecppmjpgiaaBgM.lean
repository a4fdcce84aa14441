/-
  The law BagCounts, walked.
-/
import Derived.Test.YtoppecppmjpgiaaBgL
import Derived.Deep.WholeRow
namespace Go.Proofs.Ytoppecppmjpgiaa
open Go.ChangeShapes Go.WideShapes Go.ChangeAt Go.RowKit Go.Maps
set_option linter.unusedVariables false
set_option linter.unusedSimpArgs false

abbrev act5c (kd nn x y : Int) (s : ByteArray) : List Value := [.int .i64 kd, .int .i64 nn, .int .i64 x, .int .i64 y, .string s]
/-- The calls that a slice value leads to. -/
structure RowC (w : World) (a : Option Addr) (len cap : Nat) (l : List ActS) : Prop where
  size : l.length = len
  le : len ≤ cap
  mem : len = 0 ∨ ∃ b off, a = some ⟨b, off, none⟩ ∧ b < w.heap.size ∧ ∀ j, j < len → ∃ q, l[j]? = some q ∧ w.rangeAt b (off + j * 5) (act5c q.kd q.nn q.x q.y q.s)
  ok : ∀ q ∈ l, ActOk q
theorem load_act5 {ops : Array Oper} {rest : List Oper} {o : Oper} {a : Act} {w : World} {Q : Exit → Act → World → Prop} (hgd : o.guard = none) (x : Operand) (ho : o.op = .load 40 x) (g off : Nat) (kd nn p q : Int) (s : ByteArray)
    (hx : a.eval x = .pointer (some ⟨g, off, none⟩)) (hc : w.rangeAt g off (act5c kd nn p q s)) (h : wpList Try.prog ops Q rest (a.put o.dst (act5 kd nn p q s)) w) : wpList Try.prog ops Q (o :: rest) a w :=
  wpList_load_mid hgd 40 x ho g off hx (act5c kd nn p q s) _ hc Try.underlying40 rfl (by show _ = some 5; kernel_rfl) h
theorem store_act5 {ops : Array Oper} {rest : List Oper} {o : Oper} {a : Act} {w : World} {Q : Exit → Act → World → Prop} (hgd : o.guard = none) (x y : Operand) (ho : o.op = .store 40 x y) (kd nn p q : Int) (s : ByteArray) (c : Array Value) (hc : c.size = 5)
    (hx : a.eval x = .pointer (some ⟨w.heap.size, 0, none⟩)) (hy : a.eval y = act5 kd nn p q s) (h : wpList Try.prog ops Q rest (a.put o.dst undef) (w.alloc (actC kd nn p q s))) : wpList Try.prog ops Q (o :: rest) a (w.alloc (.cells c 40)) :=
  wpList_plain hgd fun K hK => by
    unfold Oper.wp execOp
    simp only [ho, hx, hy, Sem.run_bind]
    rw [run_storeAt_new w 40 c #[.int .i64 kd, .int .i64 nn, .int .i64 p, .int .i64 q, .string s] (by show _ = some 5; kernel_rfl) (by rw [hc]; rfl) (by simp [Value.oneCell'])]
    simp only [Result.andThen_ok, Sem.run_pure]
    exact hK _ _ h
theorem store_dg {ops : Array Oper} {rest : List Oper} {o : Oper} {a : Act} {w : World} {Q : Exit → Act → World → Prop} (hgd : o.guard = none) (x y : Operand) (ho : o.op = .store 33 x y) (n p q : Int) (s : ByteArray) (c : Array Value) (hc : c.size = 4)
    (hx : a.eval x = .pointer (some ⟨w.heap.size, 0, none⟩)) (hy : a.eval y = .agg #[.int .i64 n, .int .i64 p, .int .i64 q, .string s]) (h : wpList Try.prog ops Q rest (a.put o.dst undef) (w.alloc (.cells #[.int .i64 n, .int .i64 p, .int .i64 q, .string s] 33))) : wpList Try.prog ops Q (o :: rest) a (w.alloc (.cells c 33)) :=
  wpList_plain hgd fun K hK => by
    unfold Oper.wp execOp
    simp only [ho, hx, hy, Sem.run_bind]
    rw [run_storeAt_new w 33 c #[.int .i64 n, .int .i64 p, .int .i64 q, .string s] (by show _ = some 4; kernel_rfl) (by rw [hc]; rfl) (by simp [Value.oneCell'])]
    simp only [Result.andThen_ok, Sem.run_pure]
    exact hK _ _ h
theorem cell_dg (w : World) (n p q : Int) (s : ByteArray) : (w.alloc (.cells #[.int .i64 n, .int .i64 p, .int .i64 q, .string s] 33)).cell? ⟨w.heap.size, 0, none⟩ = some (.int .i64 n) := row_cell (World.alloc_heap_new _ _) 0 _ rfl
structure Cel5 (W : World) (g : Nat) (kd nn x y : Int) (s : ByteArray) : Prop where
  c0 : W.cell? ⟨g, 0, none⟩ = some (.int .i64 kd)
  c1 : W.cell? ⟨g, 1, none⟩ = some (.int .i64 nn)
  c2 : W.cell? ⟨g, 2, none⟩ = some (.int .i64 x)
  c3 : W.cell? ⟨g, 3, none⟩ = some (.int .i64 y)
  c4 : W.cell? ⟨g, 4, none⟩ = some (.string s)
theorem cel5 {W : World} {g : Nat} {kd nn x y : Int} {s : ByteArray} (h : W.heap[g]? = some (actC kd nn x y s)) : Cel5 W g kd nn x y s := ⟨row_cell h 0 _ rfl, row_cell h 1 _ rfl, row_cell h 2 _ rfl, row_cell h 3 _ rfl, row_cell h 4 _ rfl⟩
theorem inn_new {w : World} {b M k : Nat} {next : Int} {ds : List DG} {D : DataW Unit} {a : Option Addr} {W : World} (A : Aw w b M k next ds D a W) (o : Obj) : Inn w b M W.heap.size o k next ds D (W.alloc o) := ⟨a, (A.new o).1, (A.new o).2⟩
theorem range_belowC {w W : World} {n b o : Nat} {cs : List Value} (h : w.rangeAt b o cs) (hb : b < n) (k : Below n w W) : W.rangeAt b o cs := fun j v hv => (World.cell?_of_block (a := ⟨b, o + j, none⟩) (k.block b hb)).trans (h j v hv)
/-- Ahead of each call. -/
structure Cnt (w : World) (b M : Nat) (i : Nat) (la : Int) (L : Nat) (W : World) : Prop where
  out : ∃ k next ds D a, Aw w b M k next ds D a W ∧ Good next ds ∧ ds.length = L ∧ la ≤ next ∧ next ≤ 2 * (i : Int) ∧ k ≤ i ∧ 0 ≤ la
set_option maxRecDepth 10000 in
set_option maxHeartbeats 40000000 in
theorem counts_walk (a0 : Option Addr) (len cap : Nat) (acts : List ActS) (w : World) (R : RowC w a0 len cap acts) (hl : len ≤ 2932031007402) :
    Calls Try.prog 4 #[.slice a0 len cap] w fun e w' => e = .returned (.bool true) ∧ Below w.heap.size w w' := by
  go_enter Try.func4, Try.ntmps4
  go_wp2_with (go_at_call 15; refine (new_any w).mono ?_; rintro e w0 ⟨b, rfl, hb, M, hM, B0, b0⟩)
  have A0 : Aw w b M 0 0 [] (.map []) none w0 := ⟨⟨0, B0⟩, fun q hq => (by rcases hq with e | e | ⟨off, e⟩ <;> first | omega | cases e), b0⟩
  clear B0 b0 hb hM
  go_loopg [4, 5, 6] len (fun g v4 v5 v6 wr => ∃ (i : Nat) (la : Int) (L : Nat), v4 = .int .i64 la ∧ v5 = .int .i64 (L : Int) ∧ v6 = .int .i64 (i : Int) ∧ i + g = len ∧ Cnt w b M i la L wr)
  case atStart => exact ⟨0, 0, 0, rfl, rfl, rfl, by omega, ⟨0, 0, [], .map [], none, A0, good_nil, rfl, by omega, by omega, by omega, by omega⟩⟩
  case round =>
    obtain ⟨i, la, L, rfl, rfl, rfl, hg, C⟩ := hrel
    obtain ⟨k, next, ds, D, a, A, G, hL, hla, hnx, hk, hla0⟩ := C.out
    clear A0 C
    by_cases hc : i < len
    · have hcI : (i : Int) < (len : Int) := by omega
      obtain ⟨ab, aoff, rfl, hab, hq⟩ := R.mem.resolve_left (by omega)
      obtain ⟨⟨kd, nn, x, y, s⟩, hql, hra⟩ := hq i hc
      have hrw := range_belowC hra hab A.below
      have hok := R.ok _ (List.mem_of_getElem? hql)
      have hnn : I64 nn := hok.nn
      have hx : I64 x := hok.x
      have hy : I64 y := hok.y
      have hLb : L ≤ 65536 := by rw [← hL]; exact G.len
      have hn0 := G.n0
      have hnb : next ≤ 5864062014804 := by omega
      have HL : Hid (ds.length = L) := ⟨hL⟩
      clear hq hql hra hok hL
      by_cases k1 : kd = 1
      · subst k1
        cases hcut : cut D x y with
        | true =>
          have hP : putS D next ds x y s = ⟨0, 34, next, ds⟩ := by simp [putS, hcut]
          clear hcut
          as_aux_lemma =>
            go_wp2_with (first
              | ((with_reducible show wpList _ _ _ (Oper.mk _ (Op.load 40 _) _ _ _ _ :: _) _ _); refine load_act5 rfl _ rfl ab (aoff + i * 5) 1 nn x y s rfl hrw ?_)
              | ((with_reducible show wpList _ _ _ (Oper.mk _ (Op.store 40 _ _) _ _ _ _ :: _) _ _); refine store_act5 rfl _ _ rfl 1 nn x y s _ rfl rfl rfl ?_; have I1 := inn_new A (actC 1 nn x y s); generalize World.alloc wr _ = w1 at I1 ⊢; generalize wr.heap.size = gq at I1 ⊢; have ⟨p0, p1, p2, p3, p4⟩ := cel5 I1.at_)
              | (go_at_call 16; refine (I1.put' G x y s hx hy hP).mono ?_; rintro e w2 ⟨rfl, I2⟩; have ⟨q20, q21, q22, q23, q24⟩ := cel5 I2.at_)
              | (go_at_call 14; refine (I2.len).mono ?_; rw [HL.out]; rintro e wlz ⟨rfl, hwl⟩; rw [hwl]; clear hwl)
              | (go_at_call 20; refine (I2.between (-1) (-1) G.len (n := L) (by rw [nums_all, HL.out])).mono ?_; rintro e wt ⟨vt, ct, rfl, It⟩))
            all_goals (obtain ⟨a', A', _⟩ := It.out; go_roundg (gk - 1); (case measure => omega); (case rel => exact ⟨i + 1, la, L, by first | rfl | go_num, by first | rfl | go_num, by first | rfl | go_num, by omega, ⟨k, next, ds, D, a', A', G, HL.out, by omega, by omega, by omega, by omega⟩⟩))
        | false =>
          by_cases hfl : L < 65536
          · as_aux_lemma =>
              have hP : putS D next ds x y s = ⟨next + 1, 0, next + 1, ds ++ [⟨next + 1, x, y, s⟩]⟩ := by unfold putS; rw [hcut, if_neg (by simp), if_neg (by have := HL.out; omega)]
              have G2 := G.put (by have := HL.out; omega) hx hy s
              have hmem : (⟨next + 1, x, y, s⟩ : DG) ∈ ds ++ [⟨next + 1, x, y, s⟩] := by simp
              have HL2 : Hid ((ds ++ [(⟨next + 1, x, y, s⟩ : DG)]).length = L + 1) := ⟨by rw [List.length_append, HL.out]; rfl⟩
              obtain ⟨ds2, hds2⟩ : ∃ ds2, ds ++ [(⟨next + 1, x, y, s⟩ : DG)] = ds2 := ⟨_, rfl⟩
              rw [hds2] at hP G2 HL2 hmem
              have hlan : ¬ (next + 1 ≤ la) := by omega
              clear hds2 hcut hmem
              go_wp2_with (first
                | ((with_reducible show wpList _ _ _ (Oper.mk _ (Op.load 40 _) _ _ _ _ :: _) _ _); refine load_act5 rfl _ rfl ab (aoff + i * 5) 1 nn x y s rfl hrw ?_)
                | ((with_reducible show wpList _ _ _ (Oper.mk _ (Op.store 40 _ _) _ _ _ _ :: _) _ _); refine store_act5 rfl _ _ rfl 1 nn x y s _ rfl rfl rfl ?_; have I1 := inn_new A (actC 1 nn x y s); generalize World.alloc wr _ = w1 at I1 ⊢; generalize wr.heap.size = gq at I1 ⊢; have ⟨p0, p1, p2, p3, p4⟩ := cel5 I1.at_)
                | (go_at_call 16; refine (I1.put' G x y s hx hy hP).mono ?_; rintro e w2 ⟨rfl, I2⟩; have ⟨q20, q21, q22, q23, q24⟩ := cel5 I2.at_)
                | (go_at_call 14; refine (I2.len).mono ?_; rw [HL2.out]; rintro e wlz ⟨rfl, hwl⟩; rw [hwl]; clear hwl)
                | (go_at_call 20; refine (I2.between (-1) (-1) G2.len (n := L + 1) (by rw [nums_all, HL2.out])).mono ?_; rintro e wt ⟨vt, ct, rfl, It⟩))
              all_goals (obtain ⟨a', A', _⟩ := It.out; go_roundg (gk - 1); (case measure => omega); (case rel => exact ⟨i + 1, next + 1, L + 1, by first | rfl | go_num, by first | rfl | go_num, by first | rfl | go_num, by omega, ⟨k, next + 1, ds2, D, a', A', G2, HL2.out, by omega, by omega, by omega, by omega⟩⟩))
          · have hP : putS D next ds x y s = ⟨0, 30, next, ds⟩ := by unfold putS; rw [hcut, if_neg (by simp), if_pos (by left; have := HL.out; omega)]
            clear hcut
            as_aux_lemma =>
              go_wp2_with (first
                | ((with_reducible show wpList _ _ _ (Oper.mk _ (Op.load 40 _) _ _ _ _ :: _) _ _); refine load_act5 rfl _ rfl ab (aoff + i * 5) 1 nn x y s rfl hrw ?_)
                | ((with_reducible show wpList _ _ _ (Oper.mk _ (Op.store 40 _ _) _ _ _ _ :: _) _ _); refine store_act5 rfl _ _ rfl 1 nn x y s _ rfl rfl rfl ?_; have I1 := inn_new A (actC 1 nn x y s); generalize World.alloc wr _ = w1 at I1 ⊢; generalize wr.heap.size = gq at I1 ⊢; have ⟨p0, p1, p2, p3, p4⟩ := cel5 I1.at_)
                | (go_at_call 16; refine (I1.put' G x y s hx hy hP).mono ?_; rintro e w2 ⟨rfl, I2⟩; have ⟨q20, q21, q22, q23, q24⟩ := cel5 I2.at_)
                | (go_at_call 14; refine (I2.len).mono ?_; rw [HL.out]; rintro e wlz ⟨rfl, hwl⟩; rw [hwl]; clear hwl)
                | (go_at_call 20; refine (I2.between (-1) (-1) G.len (n := L) (by rw [nums_all, HL.out])).mono ?_; rintro e wt ⟨vt, ct, rfl, It⟩))
              all_goals (obtain ⟨a', A', _⟩ := It.out; go_roundg (gk - 1); (case measure => omega); (case rel => exact ⟨i + 1, la, L, by first | rfl | go_num, by first | rfl | go_num, by first | rfl | go_num, by omega, ⟨k, next, ds, D, a', A', G, HL.out, by omega, by omega, by omega, by omega⟩⟩))
      · by_cases k3 : kd = 3
        · subst k3
          cases hcut : cut D x y with
          | true =>
            have hP : putS D next ds x y s = ⟨0, 34, next, ds⟩ := by simp [putS, hcut]
            clear hcut k1
            as_aux_lemma =>
              have hno : Hid (∀ d ∈ ds, d.num ≠ 0) := ⟨fun d hd h => (by have := (G.num d hd).1; omega)⟩
              go_wp2_with (first
                | ((with_reducible show wpList _ _ _ (Oper.mk _ (Op.load 40 _) _ _ _ _ :: _) _ _); refine load_act5 rfl _ rfl ab (aoff + i * 5) 3 nn x y s rfl hrw ?_)
                | ((with_reducible show wpList _ _ _ (Oper.mk _ (Op.store 40 _ _) _ _ _ _ :: _) _ _); refine store_act5 rfl _ _ rfl 3 nn x y s _ rfl rfl rfl ?_; have I1 := inn_new A (actC 3 nn x y s); generalize World.alloc wr _ = w1 at I1 ⊢; generalize wr.heap.size = gq at I1 ⊢; have ⟨p0, p1, p2, p3, p4⟩ := cel5 I1.at_)
                | (go_at_call 16; refine (I1.put' G x y s hx hy hP).mono ?_; rintro e w2 ⟨rfl, I2⟩; have ⟨q20, q21, q22, q23, q24⟩ := cel5 I2.at_)
                | (go_at_call 17; refine (I2.double_none G 0 hno.out).mono ?_; rintro e w3 ⟨rfl, I3⟩; have ⟨q30, q31, q32, q33, q34⟩ := cel5 I3.at_)
                | (go_at_call 14; refine (I3.len).mono ?_; rw [HL.out]; rintro e wlz ⟨rfl, hwl⟩; rw [hwl]; clear hwl)
                | (go_at_call 20; refine (I3.between (-1) (-1) G.len (n := L) (by rw [nums_all, HL.out])).mono ?_; rintro e wt ⟨vt, ct, rfl, It⟩))
              all_goals (obtain ⟨a', A', _⟩ := It.out; go_roundg (gk - 1); (case measure => omega); (case rel => exact ⟨i + 1, la, L, by first | rfl | go_num, by first | rfl | go_num, by first | rfl | go_num, by omega, ⟨k, next, ds, D, a', A', G, HL.out, by omega, by omega, by omega, by omega⟩⟩))
          | false =>
            clear k1
            by_cases hfl : L < 65536
            · by_cases hfl2 : L + 1 < 65536
              · as_aux_lemma =>
                  have hP : putS D next ds x y s = ⟨next + 1, 0, next + 1, ds ++ [⟨next + 1, x, y, s⟩]⟩ := by unfold putS; rw [hcut, if_neg (by simp), if_neg (by have := HL.out; omega)]
                  have G2 := G.put (by have := HL.out; omega) hx hy s
                  have hmem : (⟨next + 1, x, y, s⟩ : DG) ∈ ds ++ [⟨next + 1, x, y, s⟩] := by simp
                  have HL2 : Hid ((ds ++ [(⟨next + 1, x, y, s⟩ : DG)]).length = L + 1) := ⟨by rw [List.length_append, HL.out]; rfl⟩
                  obtain ⟨ds2, hds2⟩ : ∃ ds2, ds ++ [(⟨next + 1, x, y, s⟩ : DG)] = ds2 := ⟨_, rfl⟩
                  rw [hds2] at hP G2 HL2 hmem
                  have hlan : ¬ (next + 1 ≤ la) := by omega
                  have hP2 : putS D (next + 1) ds2 x y s = ⟨next + 1 + 1, 0, next + 1 + 1, ds2 ++ [⟨next + 1 + 1, x, y, s⟩]⟩ := by unfold putS; rw [hcut, if_neg (by simp), if_neg (by have := HL2.out; omega)]
                  have G3 := G2.put (by have := HL2.out; omega) hx hy s
                  have HL3 : Hid ((ds2 ++ [(⟨next + 1 + 1, x, y, s⟩ : DG)]).length = L + 2) := ⟨by rw [List.length_append, HL2.out]; rfl⟩
                  obtain ⟨ds3, hds3⟩ : ∃ ds3, ds2 ++ [(⟨next + 1 + 1, x, y, s⟩ : DG)] = ds3 := ⟨_, rfl⟩
                  rw [hds3] at hP2 G3 HL3
                  have hlan2 : ¬ (next + 1 + 1 ≤ la) := by omega
                  have HM : Hid ((⟨next + 1, x, y, s⟩ : DG) ∈ ds2) := ⟨hmem⟩
                  clear hds2 hds3 hcut hmem hlan
                  go_wp2_with (first
                    | ((with_reducible show wpList _ _ _ (Oper.mk _ (Op.load 40 _) _ _ _ _ :: _) _ _); refine load_act5 rfl _ rfl ab (aoff + i * 5) 3 nn x y s rfl hrw ?_)
                    | ((with_reducible show wpList _ _ _ (Oper.mk _ (Op.store 40 _ _) _ _ _ _ :: _) _ _); refine store_act5 rfl _ _ rfl 3 nn x y s _ rfl rfl rfl ?_; have I1 := inn_new A (actC 3 nn x y s); generalize World.alloc wr _ = w1 at I1 ⊢; generalize wr.heap.size = gq at I1 ⊢; have ⟨p0, p1, p2, p3, p4⟩ := cel5 I1.at_)
                    | (go_at_call 16; refine (I1.put' G x y s hx hy hP).mono ?_; rintro e w2 ⟨rfl, I2⟩; have ⟨q20, q21, q22, q23, q24⟩ := cel5 I2.at_)
                    | (go_at_call 17; refine (I2.double' G2 (next + 1) x y s HM.out hP2).mono ?_; rintro e w3 ⟨rfl, I3⟩; have ⟨q30, q31, q32, q33, q34⟩ := cel5 I3.at_)
                    | (go_at_call 14; refine (I3.len).mono ?_; rw [HL3.out]; rintro e wlz ⟨rfl, hwl⟩; rw [hwl]; clear hwl)
                    | (go_at_call 20; refine (I3.between (-1) (-1) G3.len (n := L + 2) (by rw [nums_all, HL3.out])).mono ?_; rintro e wt ⟨vt, ct, rfl, It⟩))
                  all_goals (obtain ⟨a', A', _⟩ := It.out; go_roundg (gk - 1); (case measure => omega); (case rel => exact ⟨i + 1, next + 1 + 1, L + 2, by first | rfl | go_num, by first | rfl | go_num, by first | rfl | go_num, by omega, ⟨k, next + 1 + 1, ds3, D, a', A', G3, HL3.out, by omega, by omega, by omega, by omega⟩⟩))
              · as_aux_lemma =>
                  have hP : putS D next ds x y s = ⟨next + 1, 0, next + 1, ds ++ [⟨next + 1, x, y, s⟩]⟩ := by unfold putS; rw [hcut, if_neg (by simp), if_neg (by have := HL.out; omega)]
                  have G2 := G.put (by have := HL.out; omega) hx hy s
                  have hmem : (⟨next + 1, x, y, s⟩ : DG) ∈ ds ++ [⟨next + 1, x, y, s⟩] := by simp
                  have HL2 : Hid ((ds ++ [(⟨next + 1, x, y, s⟩ : DG)]).length = L + 1) := ⟨by rw [List.length_append, HL.out]; rfl⟩
                  obtain ⟨ds2, hds2⟩ : ∃ ds2, ds ++ [(⟨next + 1, x, y, s⟩ : DG)] = ds2 := ⟨_, rfl⟩
                  rw [hds2] at hP G2 HL2 hmem
                  have hlan : ¬ (next + 1 ≤ la) := by omega
                  have hP2 : putS D (next + 1) ds2 x y s = ⟨0, 30, next + 1, ds2⟩ := by unfold putS; rw [hcut, if_neg (by simp), if_pos (by left; have := HL2.out; omega)]
                  have HM : Hid ((⟨next + 1, x, y, s⟩ : DG) ∈ ds2) := ⟨hmem⟩
                  have hfull : (65536 : Int) ≤ (L : Int) + 1 := by omega
                  clear hds2 hcut hmem
                  go_wp2_with (first
                    | ((with_reducible show wpList _ _ _ (Oper.mk _ (Op.load 40 _) _ _ _ _ :: _) _ _); refine load_act5 rfl _ rfl ab (aoff + i * 5) 3 nn x y s rfl hrw ?_)
                    | ((with_reducible show wpList _ _ _ (Oper.mk _ (Op.store 40 _ _) _ _ _ _ :: _) _ _); refine store_act5 rfl _ _ rfl 3 nn x y s _ rfl rfl rfl ?_; have I1 := inn_new A (actC 3 nn x y s); generalize World.alloc wr _ = w1 at I1 ⊢; generalize wr.heap.size = gq at I1 ⊢; have ⟨p0, p1, p2, p3, p4⟩ := cel5 I1.at_)
                    | (go_at_call 16; refine (I1.put' G x y s hx hy hP).mono ?_; rintro e w2 ⟨rfl, I2⟩; have ⟨q20, q21, q22, q23, q24⟩ := cel5 I2.at_)
                    | (go_at_call 17; refine (I2.double' G2 (next + 1) x y s HM.out hP2).mono ?_; rintro e w3 ⟨rfl, I3⟩; have ⟨q30, q31, q32, q33, q34⟩ := cel5 I3.at_)
                    | (go_at_call 14; refine (I3.len).mono ?_; rw [HL2.out]; rintro e wlz ⟨rfl, hwl⟩; rw [hwl]; clear hwl)
                    | (go_at_call 20; refine (I3.between (-1) (-1) G2.len (n := L + 1) (by rw [nums_all, HL2.out])).mono ?_; rintro e wt ⟨vt, ct, rfl, It⟩))
                  all_goals (obtain ⟨a', A', _⟩ := It.out; go_roundg (gk - 1); (case measure => omega); (case rel => exact ⟨i + 1, next + 1, L + 1, by first | rfl | go_num, by first | rfl | go_num, by first | rfl | go_num, by omega, ⟨k, next + 1, ds2, D, a', A', G2, HL2.out, by omega, by omega, by omega, by omega⟩⟩))
            · have hP : putS D next ds x y s = ⟨0, 30, next, ds⟩ := by unfold putS; rw [hcut, if_neg (by simp), if_pos (by left; have := HL.out; omega)]
              clear hcut
              as_aux_lemma =>
                have hno : Hid (∀ d ∈ ds, d.num ≠ 0) := ⟨fun d hd h => (by have := (G.num d hd).1; omega)⟩
                go_wp2_with (first
                  | ((with_reducible show wpList _ _ _ (Oper.mk _ (Op.load 40 _) _ _ _ _ :: _) _ _); refine load_act5 rfl _ rfl ab (aoff + i * 5) 3 nn x y s rfl hrw ?_)
                  | ((with_reducible show wpList _ _ _ (Oper.mk _ (Op.store 40 _ _) _ _ _ _ :: _) _ _); refine store_act5 rfl _ _ rfl 3 nn x y s _ rfl rfl rfl ?_; have I1 := inn_new A (actC 3 nn x y s); generalize World.alloc wr _ = w1 at I1 ⊢; generalize wr.heap.size = gq at I1 ⊢; have ⟨p0, p1, p2, p3, p4⟩ := cel5 I1.at_)
                  | (go_at_call 16; refine (I1.put' G x y s hx hy hP).mono ?_; rintro e w2 ⟨rfl, I2⟩; have ⟨q20, q21, q22, q23, q24⟩ := cel5 I2.at_)
                  | (go_at_call 17; refine (I2.double_none G 0 hno.out).mono ?_; rintro e w3 ⟨rfl, I3⟩; have ⟨q30, q31, q32, q33, q34⟩ := cel5 I3.at_)
                  | (go_at_call 14; refine (I3.len).mono ?_; rw [HL.out]; rintro e wlz ⟨rfl, hwl⟩; rw [hwl]; clear hwl)
                  | (go_at_call 20; refine (I3.between (-1) (-1) G.len (n := L) (by rw [nums_all, HL.out])).mono ?_; rintro e wt ⟨vt, ct, rfl, It⟩))
                all_goals (obtain ⟨a', A', _⟩ := It.out; go_roundg (gk - 1); (case measure => omega); (case rel => exact ⟨i + 1, la, L, by first | rfl | go_num, by first | rfl | go_num, by first | rfl | go_num, by omega, ⟨k, next, ds, D, a', A', G, HL.out, by omega, by omega, by omega, by omega⟩⟩))
        · by_cases k2 : kd = 2
          · subst k2
            clear k1 k3
            by_cases hfound : ∃ (j : Nat) (d : DG), ds[j]? = some d ∧ d.num = nn
            · obtain ⟨j, ⟨dn, dx, dy, dss⟩, hd, hdn⟩ := hfound
              simp only at hdn
              rw [hdn] at hd
              clear hdn
              as_aux_lemma =>
                have G2 := G.sub (List.eraseIdx_sublist ds j)
                have hno : Hid (∀ e ∈ ds.eraseIdx j, e.num ≠ nn) := ⟨G.erase_no hd⟩
                have hjl : j < ds.length := (List.getElem?_eq_some_iff.1 hd).1
                obtain ⟨L2, hL2⟩ : ∃ L2, L = L2 + 1 := ⟨L - 1, by have := HL.out; omega⟩
                have HL2 : Hid ((ds.eraseIdx j).length = L2) := ⟨by rw [List.length_eraseIdx_of_lt hjl, HL.out]; omega⟩
                subst hL2
                obtain ⟨ds2, hds2⟩ : ∃ ds2, ds.eraseIdx j = ds2 := ⟨_, rfl⟩
                rw [hds2] at G2 HL2 hno
                have HD : Hid (ds[j]? = some ⟨nn, dx, dy, dss⟩) := ⟨hd⟩
                have HE : Hid (ds.eraseIdx j = ds2) := ⟨hds2⟩
                clear hds2 hd hjl
                go_wp2_with (first
                  | ((with_reducible show wpList _ _ _ (Oper.mk _ (Op.load 40 _) _ _ _ _ :: _) _ _); refine load_act5 rfl _ rfl ab (aoff + i * 5) 2 nn x y s rfl hrw ?_)
                  | ((with_reducible show wpList _ _ _ (Oper.mk _ (Op.store 40 _ _) _ _ _ _ :: _) _ _); refine store_act5 rfl _ _ rfl 2 nn x y s _ rfl rfl rfl ?_; have I1 := inn_new A (actC 2 nn x y s); generalize World.alloc wr _ = w1 at I1 ⊢; generalize wr.heap.size = gq at I1 ⊢; have ⟨p0, p1, p2, p3, p4⟩ := cel5 I1.at_)
                  | (go_at_call 18; refine (I1.take' G j nn dx dy dss HD.out HE.out).mono ?_; rintro e w2 ⟨rfl, I2⟩; have ⟨q20, q21, q22, q23, q24⟩ := cel5 I2.at_)
                  | ((with_reducible show wpList _ _ _ (Oper.mk _ (Op.store 33 _ _) _ _ _ _ :: _) _ _); refine store_dg rfl _ _ rfl nn dx dy dss _ rfl rfl rfl ?_; have I3 := I2.later ((Below.refl _ _).alloc (Nat.le_refl _) (.cells #[.int .i64 nn, .int .i64 dx, .int .i64 dy, .string dss] 33)); have dc3 := cell_dg w2 nn dx dy dss; generalize World.alloc w2 _ = w3 at I3 dc3 ⊢; have ⟨q30, q31, q32, q33, q34⟩ := cel5 I3.at_)
                  | (go_at_call 18; refine (I3.take_none' G2 nn hno.out).mono ?_; rintro e w4 ⟨rfl, I4⟩; have ⟨q40, q41, q42, q43, q44⟩ := cel5 I4.at_)
                  | ((with_reducible show wpList _ _ _ (Oper.mk _ (Op.store 33 _ _) _ _ _ _ :: _) _ _); refine store_dg rfl _ _ rfl 0 0 0 ByteArray.empty _ rfl rfl rfl ?_; have I5 := I4.later ((Below.refl _ _).alloc (Nat.le_refl _) (.cells #[.int .i64 0, .int .i64 0, .int .i64 0, .string ByteArray.empty] 33)); have dc5 := cell_dg w4 0 0 0 ByteArray.empty; generalize World.alloc w4 _ = w5 at I5 dc5 ⊢; have ⟨q50, q51, q52, q53, q54⟩ := cel5 I5.at_)
                  | (go_at_call 14; refine (I5.len).mono ?_; rw [HL2.out]; rintro e wlz ⟨rfl, hwl⟩; rw [hwl]; clear hwl)
                  | (go_at_call 20; refine (I5.between (-1) (-1) G2.len (n := L2) (by rw [nums_all, HL2.out])).mono ?_; rintro e wt ⟨vt, ct, rfl, It⟩))
                all_goals (obtain ⟨a', A', _⟩ := It.out; go_roundg (gk - 1); (case measure => omega); (case rel => exact ⟨i + 1, la, L2, by first | rfl | go_num, by first | rfl | go_num, by first | rfl | go_num, by omega, ⟨k, next, ds2, D, a', A', G2, HL2.out, by omega, by omega, by omega, by omega⟩⟩))
            · have hno : Hid (∀ d ∈ ds, d.num ≠ nn) := ⟨fun d hd h => (by obtain ⟨j, hj⟩ := List.getElem?_of_mem hd; exact hfound ⟨j, d, hj, h⟩)⟩
              clear hfound
              as_aux_lemma =>
                go_wp2_with (first
                  | ((with_reducible show wpList _ _ _ (Oper.mk _ (Op.load 40 _) _ _ _ _ :: _) _ _); refine load_act5 rfl _ rfl ab (aoff + i * 5) 2 nn x y s rfl hrw ?_)
                  | ((with_reducible show wpList _ _ _ (Oper.mk _ (Op.store 40 _ _) _ _ _ _ :: _) _ _); refine store_act5 rfl _ _ rfl 2 nn x y s _ rfl rfl rfl ?_; have I1 := inn_new A (actC 2 nn x y s); generalize World.alloc wr _ = w1 at I1 ⊢; generalize wr.heap.size = gq at I1 ⊢; have ⟨p0, p1, p2, p3, p4⟩ := cel5 I1.at_)
                  | (go_at_call 18; refine (I1.take_none' G nn hno.out).mono ?_; rintro e w2 ⟨rfl, I2⟩; have ⟨q20, q21, q22, q23, q24⟩ := cel5 I2.at_)
                  | ((with_reducible show wpList _ _ _ (Oper.mk _ (Op.store 33 _ _) _ _ _ _ :: _) _ _); refine store_dg rfl _ _ rfl 0 0 0 ByteArray.empty _ rfl rfl rfl ?_; have I3 := I2.later ((Below.refl _ _).alloc (Nat.le_refl _) (.cells #[.int .i64 0, .int .i64 0, .int .i64 0, .string ByteArray.empty] 33)); have dc3 := cell_dg w2 0 0 0 ByteArray.empty; generalize World.alloc w2 _ = w3 at I3 dc3 ⊢; have ⟨q30, q31, q32, q33, q34⟩ := cel5 I3.at_)
                  | (go_at_call 14; refine (I3.len).mono ?_; rw [HL.out]; rintro e wlz ⟨rfl, hwl⟩; rw [hwl]; clear hwl)
                  | (go_at_call 20; refine (I3.between (-1) (-1) G.len (n := L) (by rw [nums_all, HL.out])).mono ?_; rintro e wt ⟨vt, ct, rfl, It⟩))
                all_goals (obtain ⟨a', A', _⟩ := It.out; go_roundg (gk - 1); (case measure => omega); (case rel => exact ⟨i + 1, la, L, by first | rfl | go_num, by first | rfl | go_num, by first | rfl | go_num, by omega, ⟨k, next, ds, D, a', A', G, HL.out, by omega, by omega, by omega, by omega⟩⟩))
          · by_cases k5 : kd = 5
            · subst k5
              clear k1 k2 k3
              by_cases hxy : x = y
              · subst hxy
                as_aux_lemma =>
                  obtain ⟨N, HN⟩ : ∃ N, Hid ((nums x x ds).length = N) := ⟨_, ⟨rfl⟩⟩
                  go_wp2_with (first
                    | ((with_reducible show wpList _ _ _ (Oper.mk _ (Op.load 40 _) _ _ _ _ :: _) _ _); refine load_act5 rfl _ rfl ab (aoff + i * 5) 5 nn x x s rfl hrw ?_)
                    | ((with_reducible show wpList _ _ _ (Oper.mk _ (Op.store 40 _ _) _ _ _ _ :: _) _ _); refine store_act5 rfl _ _ rfl 5 nn x x s _ rfl rfl rfl ?_; have I1 := inn_new A (actC 5 nn x x s); generalize World.alloc wr _ = w1 at I1 ⊢; generalize wr.heap.size = gq at I1 ⊢; have ⟨p0, p1, p2, p3, p4⟩ := cel5 I1.at_)
                    | (go_at_call 19; refine (I1.sever_same x).mono ?_; rintro e w2 ⟨rfl, I2⟩; have ⟨q20, q21, q22, q23, q24⟩ := cel5 I2.at_)
                    | (go_at_call 20; refine (I2.between x x G.len HN.out).mono ?_; rintro e w3 ⟨va3, vc3, rfl, I3⟩; have ⟨q30, q31, q32, q33, q34⟩ := cel5 I3.at_; clear HN)
                    | (go_at_call 14; refine (I3.len).mono ?_; rw [HL.out]; rintro e wlz ⟨rfl, hwl⟩; rw [hwl]; clear hwl)
                    | (go_at_call 20; refine (I3.between (-1) (-1) G.len (n := L) (by rw [nums_all, HL.out])).mono ?_; rintro e wt ⟨vt, ct, rfl, It⟩))
                  all_goals (obtain ⟨a', A', _⟩ := It.out; go_roundg (gk - 1); (case measure => omega); (case rel => exact ⟨i + 1, la, L, by first | rfl | go_num, by first | rfl | go_num, by first | rfl | go_num, by omega, ⟨k, next, ds, D, a', A', G, HL.out, by omega, by omega, by omega, by omega⟩⟩))
              · by_cases hxm : x = -1
                · have hm := hxm
                  clear hxm
                  as_aux_lemma =>
                    obtain ⟨es, hes⟩ : ∃ es, ds.filter (fun d => !onWay (min x y) (max x y) d) = es := ⟨_, rfl⟩
                    have G2 : Good next es := by rw [← hes]; exact G.sub List.filter_sublist
                    obtain ⟨L2, hL2⟩ : ∃ L2, es.length = L2 := ⟨_, rfl⟩
                    have HL2 : Hid (es.length = L2) := ⟨hL2⟩
                    have hl2 : L2 ≤ L := by rw [← hL2, ← hes, ← HL.out]; exact List.length_filter_le _ _
                    have hsub : (L : Int) - ((L : Int) - (L2 : Int)) = (L2 : Int) := by omega
                    have HES : Hid (ds.filter (fun d => !onWay (min x y) (max x y) d) = es) := ⟨hes⟩
                    obtain ⟨N, HN⟩ : ∃ N, Hid ((nums x y es).length = N) := ⟨_, ⟨rfl⟩⟩
                    have HXY : Hid (x ≠ y) := ⟨hxy⟩
                    have hxyb : (x != y) = true := by simp [hxy]
                    have hxm : (x != -1) = false := by simp [hm]
                    clear hes hL2 hxy hm
                    go_wp2_with (first
                      | ((with_reducible show wpList _ _ _ (Oper.mk _ (Op.load 40 _) _ _ _ _ :: _) _ _); refine load_act5 rfl _ rfl ab (aoff + i * 5) 5 nn x y s rfl hrw ?_)
                      | ((with_reducible show wpList _ _ _ (Oper.mk _ (Op.store 40 _ _) _ _ _ _ :: _) _ _); refine store_act5 rfl _ _ rfl 5 nn x y s _ rfl rfl rfl ?_; have I1 := inn_new A (actC 5 nn x y s); generalize World.alloc wr _ = w1 at I1 ⊢; generalize wr.heap.size = gq at I1 ⊢; have ⟨p0, p1, p2, p3, p4⟩ := cel5 I1.at_)
                      | (go_at_call 19; refine (I1.sever x y hx hy HXY.out (by unfold maxLen; omega) HES.out).mono ?_; rw [HL.out, HL2.out]; rintro e w2 ⟨rfl, I2⟩; have ⟨q20, q21, q22, q23, q24⟩ := cel5 I2.at_)
                      | (go_at_call 20; refine (I2.between x y G2.len HN.out).mono ?_; rintro e w3 ⟨va3, vc3, rfl, I3⟩; have ⟨q30, q31, q32, q33, q34⟩ := cel5 I3.at_; clear HN)
                      | (go_at_call 14; refine (I3.len).mono ?_; rw [HL2.out]; rintro e wlz ⟨rfl, hwl⟩; rw [hwl]; clear hwl)
                      | (go_at_call 20; refine (I3.between (-1) (-1) G2.len (n := L2) (by rw [nums_all, HL2.out])).mono ?_; rintro e wt ⟨vt, ct, rfl, It⟩))
                    all_goals (obtain ⟨a', A', _⟩ := It.out; go_roundg (gk - 1); (case measure => omega); (case rel => exact ⟨i + 1, la, L2, by first | rfl | go_num, by first | rfl | go_num, by first | rfl | go_num, by omega, ⟨k + 1, next, es, (D.put (klOf (min x y) (max x y)) (.agg [])), a', A', G2, HL2.out, by omega, by omega, by omega, by omega⟩⟩))
                · by_cases hym : y = -1
                  · have hm := hym
                    have hxm0 := hxm
                    clear hym hxm
                    as_aux_lemma =>
                      obtain ⟨es, hes⟩ : ∃ es, ds.filter (fun d => !onWay (min x y) (max x y) d) = es := ⟨_, rfl⟩
                      have G2 : Good next es := by rw [← hes]; exact G.sub List.filter_sublist
                      obtain ⟨L2, hL2⟩ : ∃ L2, es.length = L2 := ⟨_, rfl⟩
                      have HL2 : Hid (es.length = L2) := ⟨hL2⟩
                      have hl2 : L2 ≤ L := by rw [← hL2, ← hes, ← HL.out]; exact List.length_filter_le _ _
                      have hsub : (L : Int) - ((L : Int) - (L2 : Int)) = (L2 : Int) := by omega
                      have HES : Hid (ds.filter (fun d => !onWay (min x y) (max x y) d) = es) := ⟨hes⟩
                      obtain ⟨N, HN⟩ : ∃ N, Hid ((nums x y es).length = N) := ⟨_, ⟨rfl⟩⟩
                      have HXY : Hid (x ≠ y) := ⟨hxy⟩
                      have hxyb : (x != y) = true := by simp [hxy]
                      have hxm : (x != -1) = true := by simp [hxm0]
                      have hym : (y != -1) = false := by simp [hm]
                      clear hes hL2 hxy hm hxm0
                      go_wp2_with (first
                        | ((with_reducible show wpList _ _ _ (Oper.mk _ (Op.load 40 _) _ _ _ _ :: _) _ _); refine load_act5 rfl _ rfl ab (aoff + i * 5) 5 nn x y s rfl hrw ?_)
                        | ((with_reducible show wpList _ _ _ (Oper.mk _ (Op.store 40 _ _) _ _ _ _ :: _) _ _); refine store_act5 rfl _ _ rfl 5 nn x y s _ rfl rfl rfl ?_; have I1 := inn_new A (actC 5 nn x y s); generalize World.alloc wr _ = w1 at I1 ⊢; generalize wr.heap.size = gq at I1 ⊢; have ⟨p0, p1, p2, p3, p4⟩ := cel5 I1.at_)
                        | (go_at_call 19; refine (I1.sever x y hx hy HXY.out (by unfold maxLen; omega) HES.out).mono ?_; rw [HL.out, HL2.out]; rintro e w2 ⟨rfl, I2⟩; have ⟨q20, q21, q22, q23, q24⟩ := cel5 I2.at_)
                        | (go_at_call 20; refine (I2.between x y G2.len HN.out).mono ?_; rintro e w3 ⟨va3, vc3, rfl, I3⟩; have ⟨q30, q31, q32, q33, q34⟩ := cel5 I3.at_; clear HN)
                        | (go_at_call 14; refine (I3.len).mono ?_; rw [HL2.out]; rintro e wlz ⟨rfl, hwl⟩; rw [hwl]; clear hwl)
                        | (go_at_call 20; refine (I3.between (-1) (-1) G2.len (n := L2) (by rw [nums_all, HL2.out])).mono ?_; rintro e wt ⟨vt, ct, rfl, It⟩))
                      all_goals (obtain ⟨a', A', _⟩ := It.out; go_roundg (gk - 1); (case measure => omega); (case rel => exact ⟨i + 1, la, L2, by first | rfl | go_num, by first | rfl | go_num, by first | rfl | go_num, by omega, ⟨k + 1, next, es, (D.put (klOf (min x y) (max x y)) (.agg [])), a', A', G2, HL2.out, by omega, by omega, by omega, by omega⟩⟩))
                  · as_aux_lemma =>
                      obtain ⟨es, hes⟩ : ∃ es, ds.filter (fun d => !onWay (min x y) (max x y) d) = es := ⟨_, rfl⟩
                      have G2 : Good next es := by rw [← hes]; exact G.sub List.filter_sublist
                      obtain ⟨L2, hL2⟩ : ∃ L2, es.length = L2 := ⟨_, rfl⟩
                      have HL2 : Hid (es.length = L2) := ⟨hL2⟩
                      have hl2 : L2 ≤ L := by rw [← hL2, ← hes, ← HL.out]; exact List.length_filter_le _ _
                      have hsub : (L : Int) - ((L : Int) - (L2 : Int)) = (L2 : Int) := by omega
                      have HES : Hid (ds.filter (fun d => !onWay (min x y) (max x y) d) = es) := ⟨hes⟩
                      have hN : (nums x y es).length = 0 := by rw [← hes]; exact nums_cut x y hxm hym ds
                      have HN : Hid ((nums x y es).length = 0) := ⟨hN⟩
                      have HXY : Hid (x ≠ y) := ⟨hxy⟩
                      clear hes hL2 hN hxy hxm hym
                      go_wp2_with (first
                        | ((with_reducible show wpList _ _ _ (Oper.mk _ (Op.load 40 _) _ _ _ _ :: _) _ _); refine load_act5 rfl _ rfl ab (aoff + i * 5) 5 nn x y s rfl hrw ?_)
                        | ((with_reducible show wpList _ _ _ (Oper.mk _ (Op.store 40 _ _) _ _ _ _ :: _) _ _); refine store_act5 rfl _ _ rfl 5 nn x y s _ rfl rfl rfl ?_; have I1 := inn_new A (actC 5 nn x y s); generalize World.alloc wr _ = w1 at I1 ⊢; generalize wr.heap.size = gq at I1 ⊢; have ⟨p0, p1, p2, p3, p4⟩ := cel5 I1.at_)
                        | (go_at_call 19; refine (I1.sever x y hx hy HXY.out (by unfold maxLen; omega) HES.out).mono ?_; rw [HL.out, HL2.out]; rintro e w2 ⟨rfl, I2⟩; have ⟨q20, q21, q22, q23, q24⟩ := cel5 I2.at_)
                        | (go_at_call 20; refine (I2.between x y G2.len HN.out).mono ?_; rintro e w3 ⟨va3, vc3, rfl, I3⟩; have ⟨q30, q31, q32, q33, q34⟩ := cel5 I3.at_; clear HN)
                        | (go_at_call 14; refine (I3.len).mono ?_; rw [HL2.out]; rintro e wlz ⟨rfl, hwl⟩; rw [hwl]; clear hwl)
                        | (go_at_call 20; refine (I3.between (-1) (-1) G2.len (n := L2) (by rw [nums_all, HL2.out])).mono ?_; rintro e wt ⟨vt, ct, rfl, It⟩))
                      all_goals (obtain ⟨a', A', _⟩ := It.out; go_roundg (gk - 1); (case measure => omega); (case rel => exact ⟨i + 1, la, L2, by first | rfl | go_num, by first | rfl | go_num, by first | rfl | go_num, by omega, ⟨k + 1, next, es, (D.put (klOf (min x y) (max x y)) (.agg [])), a', A', G2, HL2.out, by omega, by omega, by omega, by omega⟩⟩))
            · by_cases k6 : kd = 6
              · subst k6
                clear k1 k2 k3 k5
                as_aux_lemma =>
                  go_wp2_with (first
                    | ((with_reducible show wpList _ _ _ (Oper.mk _ (Op.load 40 _) _ _ _ _ :: _) _ _); refine load_act5 rfl _ rfl ab (aoff + i * 5) 6 nn x y s rfl hrw ?_)
                    | ((with_reducible show wpList _ _ _ (Oper.mk _ (Op.store 40 _ _) _ _ _ _ :: _) _ _); refine store_act5 rfl _ _ rfl 6 nn x y s _ rfl rfl rfl ?_; have I1 := inn_new A (actC 6 nn x y s); generalize World.alloc wr _ = w1 at I1 ⊢; generalize wr.heap.size = gq at I1 ⊢; have ⟨p0, p1, p2, p3, p4⟩ := cel5 I1.at_)
                    | (go_at_call 21; refine (I1.mend x y hx hy).mono ?_; rintro e w2 ⟨rfl, I2⟩; have ⟨q20, q21, q22, q23, q24⟩ := cel5 I2.at_)
                    | (go_at_call 14; refine (I2.len).mono ?_; rw [HL.out]; rintro e wlz ⟨rfl, hwl⟩; rw [hwl]; clear hwl)
                    | (go_at_call 20; refine (I2.between (-1) (-1) G.len (n := L) (by rw [nums_all, HL.out])).mono ?_; rintro e wt ⟨vt, ct, rfl, It⟩))
                  all_goals (obtain ⟨a', A', _⟩ := It.out; go_roundg (gk - 1); (case measure => omega); (case rel => exact ⟨i + 1, la, L, by first | rfl | go_num, by first | rfl | go_num, by first | rfl | go_num, by omega, ⟨k, next, ds, (D.del (klOf (min x y) (max x y))), a', A', G, HL.out, by omega, by omega, by omega, by omega⟩⟩))
              · by_cases k7 : kd = 7
                · subst k7
                  clear k1 k2 k3 k5 k6
                  by_cases hm : y = -1
                  · as_aux_lemma =>
                      obtain ⟨es, hes⟩ : ∃ es, ds.filter (fun d => !onTo y d) = es := ⟨_, rfl⟩
                      have G2 : Good next es := by rw [← hes]; exact G.sub List.filter_sublist
                      obtain ⟨L2, hL2⟩ : ∃ L2, es.length = L2 := ⟨_, rfl⟩
                      have HL2 : Hid (es.length = L2) := ⟨hL2⟩
                      have hl2 : L2 ≤ L := by rw [← hL2, ← hes, ← HL.out]; exact List.length_filter_le _ _
                      have hsub : (L : Int) - ((L : Int) - (L2 : Int)) = (L2 : Int) := by omega
                      have HES : Hid (ds.filter (fun d => !onTo y d) = es) := ⟨hes⟩
                      have hym : (y != -1) = false := by simp [hm]
                      clear hes hL2 hm
                      go_wp2_with (first
                        | ((with_reducible show wpList _ _ _ (Oper.mk _ (Op.load 40 _) _ _ _ _ :: _) _ _); refine load_act5 rfl _ rfl ab (aoff + i * 5) 7 nn x y s rfl hrw ?_)
                        | ((with_reducible show wpList _ _ _ (Oper.mk _ (Op.store 40 _ _) _ _ _ _ :: _) _ _); refine store_act5 rfl _ _ rfl 7 nn x y s _ rfl rfl rfl ?_; have I1 := inn_new A (actC 7 nn x y s); generalize World.alloc wr _ = w1 at I1 ⊢; generalize wr.heap.size = gq at I1 ⊢; have ⟨p0, p1, p2, p3, p4⟩ := cel5 I1.at_)
                        | (go_at_call 22; refine (I1.forget y HES.out).mono ?_; rw [HL.out, HL2.out]; rintro e w2 ⟨rfl, I2⟩; have ⟨q20, q21, q22, q23, q24⟩ := cel5 I2.at_)
                        | (go_at_call 14; refine (I2.len).mono ?_; rw [HL2.out]; rintro e wlz ⟨rfl, hwl⟩; rw [hwl]; clear hwl)
                        | (go_at_call 20; refine (I2.between (-1) (-1) G2.len (n := L2) (by rw [nums_all, HL2.out])).mono ?_; rintro e wt ⟨vt, ct, rfl, It⟩))
                      all_goals (obtain ⟨a', A', _⟩ := It.out; go_roundg (gk - 1); (case measure => omega); (case rel => exact ⟨i + 1, la, L2, by first | rfl | go_num, by first | rfl | go_num, by first | rfl | go_num, by omega, ⟨k, next, es, D, a', A', G2, HL2.out, by omega, by omega, by omega, by omega⟩⟩))
                  · as_aux_lemma =>
                      obtain ⟨es, hes⟩ : ∃ es, ds.filter (fun d => !onTo y d) = es := ⟨_, rfl⟩
                      have G2 : Good next es := by rw [← hes]; exact G.sub List.filter_sublist
                      obtain ⟨L2, hL2⟩ : ∃ L2, es.length = L2 := ⟨_, rfl⟩
                      have HL2 : Hid (es.length = L2) := ⟨hL2⟩
                      have hl2 : L2 ≤ L := by rw [← hL2, ← hes, ← HL.out]; exact List.length_filter_le _ _
                      have hsub : (L : Int) - ((L : Int) - (L2 : Int)) = (L2 : Int) := by omega
                      have HES : Hid (ds.filter (fun d => !onTo y d) = es) := ⟨hes⟩
                      have HN : Hid ((nums (-1) y es).length = 0) := ⟨by rw [← hes]; exact nums_to y hm ds⟩
                      have hym : (y != -1) = true := by simp [hm]
                      clear hes hL2 hm
                      go_wp2_with (first
                        | ((with_reducible show wpList _ _ _ (Oper.mk _ (Op.load 40 _) _ _ _ _ :: _) _ _); refine load_act5 rfl _ rfl ab (aoff + i * 5) 7 nn x y s rfl hrw ?_)
                        | ((with_reducible show wpList _ _ _ (Oper.mk _ (Op.store 40 _ _) _ _ _ _ :: _) _ _); refine store_act5 rfl _ _ rfl 7 nn x y s _ rfl rfl rfl ?_; have I1 := inn_new A (actC 7 nn x y s); generalize World.alloc wr _ = w1 at I1 ⊢; generalize wr.heap.size = gq at I1 ⊢; have ⟨p0, p1, p2, p3, p4⟩ := cel5 I1.at_)
                        | (go_at_call 22; refine (I1.forget y HES.out).mono ?_; rw [HL.out, HL2.out]; rintro e w2 ⟨rfl, I2⟩; have ⟨q20, q21, q22, q23, q24⟩ := cel5 I2.at_)
                        | (go_at_call 20; refine (I2.between (-1) y G2.len HN.out).mono ?_; rintro e w3 ⟨va3, vc3, rfl, I3⟩; have ⟨q30, q31, q32, q33, q34⟩ := cel5 I3.at_; clear HN)
                        | (go_at_call 14; refine (I3.len).mono ?_; rw [HL2.out]; rintro e wlz ⟨rfl, hwl⟩; rw [hwl]; clear hwl)
                        | (go_at_call 20; refine (I3.between (-1) (-1) G2.len (n := L2) (by rw [nums_all, HL2.out])).mono ?_; rintro e wt ⟨vt, ct, rfl, It⟩))
                      all_goals (obtain ⟨a', A', _⟩ := It.out; go_roundg (gk - 1); (case measure => omega); (case rel => exact ⟨i + 1, la, L2, by first | rfl | go_num, by first | rfl | go_num, by first | rfl | go_num, by omega, ⟨k, next, es, D, a', A', G2, HL2.out, by omega, by omega, by omega, by omega⟩⟩))
                · as_aux_lemma =>
                    have kf1 : (kd == 1) = false := by simp [k1]
                    have kf2 : (kd == 2) = false := by simp [k2]
                    have kf3 : (kd == 3) = false := by simp [k3]
                    have kf5 : (kd == 5) = false := by simp [k5]
                    have kf6 : (kd == 6) = false := by simp [k6]
                    have kf7 : (kd == 7) = false := by simp [k7]
                    clear k1 k2 k3 k5 k6 k7
                    go_wp2_with (first
                      | ((with_reducible show wpList _ _ _ (Oper.mk _ (Op.load 40 _) _ _ _ _ :: _) _ _); refine load_act5 rfl _ rfl ab (aoff + i * 5) kd nn x y s rfl hrw ?_)
                      | ((with_reducible show wpList _ _ _ (Oper.mk _ (Op.store 40 _ _) _ _ _ _ :: _) _ _); refine store_act5 rfl _ _ rfl kd nn x y s _ rfl rfl rfl ?_; have I1 := inn_new A (actC kd nn x y s); generalize World.alloc wr _ = w1 at I1 ⊢; generalize wr.heap.size = gq at I1 ⊢; have ⟨p0, p1, p2, p3, p4⟩ := cel5 I1.at_)
                      | (go_at_call 14; refine (I1.len).mono ?_; rw [HL.out]; rintro e wlz ⟨rfl, hwl⟩; rw [hwl]; clear hwl)
                      | (go_at_call 20; refine (I1.between (-1) (-1) G.len (n := L) (by rw [nums_all, HL.out])).mono ?_; rintro e wt ⟨vt, ct, rfl, It⟩))
                    all_goals (obtain ⟨a', A', _⟩ := It.out; go_roundg (gk - 1); (case measure => omega); (case rel => exact ⟨i + 1, la, L, by first | rfl | go_num, by first | rfl | go_num, by first | rfl | go_num, by omega, ⟨k, next, ds, D, a', A', G, HL.out, by omega, by omega, by omega, by omega⟩⟩))
    · have hcI : ¬ (i : Int) < (len : Int) := by omega
      have e : i = len := by omega
      subst e
      have bw := A.below
      go_wp2_with (go_at_call 10; refine (awake_any wr).mono ?_; rintro e wz ⟨rfl, bz⟩)
      go_ret
      exact ⟨rfl, bw.trans (bz.mono bw.size)⟩
end Go.Proofs.Ytoppecppmjpgiaa
