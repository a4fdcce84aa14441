/-
  Package shake: the document's put.
-/
import Derived.Test.YteoiogjaecpddaaS8
import Derived.Test.YteoiogjaecpddaaG1
namespace Go.Proofs.Yteoiogjaecpddaa
open Go.ChangeShapes Go.WideShapes Go.ChangeAt Go.RowKit
set_option linter.unusedVariables false
set_option linter.unusedSimpArgs false

section
variable {ops : Array Oper} {rest : List Oper} {o : Oper} {A : Act} {W : World} {Q : Exit → Act → World → Prop}
theorem wpList_froms (hgd : o.guard = none) (x y : Operand) (ho : o.op = .slice 22 x (some y) none none) {a : Option Addr} {n cap k : Nat} (a' : Option Addr) (hx : A.eval x = .slice a n cap) (hy : A.eval y = .int .i64 (k : Int)) (hk : k ≤ n) (ha : (if cap = k then a else a.map (·.add (k * 4))) = a')
    (h : wpList Try.prog ops Q rest (A.put o.dst (.slice a' (n - k) (cap - k))) W) : wpList Try.prog ops Q (o :: rest) A W := by
  refine wpList_plain hgd fun K hK => ?_
  unfold Oper.wp
  rw [exec_fromS ho hx hy hk, ha]
  exact hK _ _ h
end
theorem fin_put {w W0 w9 : World} {s : SN} {l : List SN} {p : Int} {n t i : Nat} {v : Value} (HI : insS s l = l.take (posS p l) ++ [s] ++ l.drop (toT p l)) (h1 : posS p l = i) (h2 : toT p l = t) (hl : l.length = n) (b0 : Below w.heap.size w W0) (B : Below W0.heap.size W0 w9) (ht : t ≤ n) (hi : i ≤ n)
    (O : w9.ownsRow W0.heap.size 33 4 v (0 + i + 1 + (n - t)) (csS ((([] ++ l.take i) ++ [s]) ++ l.drop t))) : Ans w (insS s l) (.returned v) w9 := by
  rw [h1, h2] at HI
  have hlen : 0 + i + 1 + (n - t) = (insS s l).length := by rw [HI]; simp; omega
  obtain ⟨a', cap', rfl, L', hb'⟩ := own_lstS O (by simp; omega)
  rw [List.nil_append, ← HI, hlen] at L'
  refine ⟨a', cap', by rw [← hlen], L', fun g off e => Nat.le_trans b0.size (hb' g off e), b0.trans (B.mono b0.size)⟩
theorem Below.dn {n k : Nat} {a w : World} (h : Below n a w) : Below n a (w.drewN k) := ⟨h.os, h.tape, h.output, h.size, h.block⟩
set_option maxRecDepth 100000 in
set_option maxHeartbeats 16000000 in
theorem rput_any (s : SN) (a : Option Addr) (n cap : Nat) (l : List SN) (w : World) (hr : RdS w a n cap l) (hn : n ≤ 65000) (hz : s.boot ≠ 0 ∨ s.mine ≠ 0) : Calls Try.prog 45 #[.slice a n cap, s.val] w (Ans w (insS s l)) := by
  obtain ⟨peer, boot, life, mine⟩ := s
  obtain ⟨W0, hW0⟩ : ∃ W0, w.alloc (.cells #[.int .i64 peer, .int .i64 boot, .int .i64 life, .int .i64 mine] 33) = W0 := ⟨_, rfl⟩
  have b0 : Below w.heap.size w W0 := by rw [← hW0]; exact (Below.refl _ _).alloc (Nat.le_refl _) _
  have T0 : W0.heap[w.heap.size]? = some (.cells (SN.cells ⟨peer, boot, life, mine⟩).toArray 33 (0, 0)) := by rw [← hW0]; exact heap_new rfl
  have HW : Hid (w.alloc (.cells #[.int .i64 peer, .int .i64 boot, .int .i64 life, .int .i64 mine] 33) = W0) := hW0
  have HI : Hid (insS ⟨peer, boot, life, mine⟩ l = l.take (posS peer l) ++ [⟨peer, boot, life, mine⟩] ++ l.drop (toT peer l)) := ins_cut _ l
  have HN : Hid (n ≤ 65000) := hn
  have HL : Hid (l.length = n) := hr.size
  have HLE : Hid (n ≤ cap) := hr.le
  have HR := hr.below b0
  have ⟨⟨s0, s1, s2, s3⟩, _⟩ := cel4 T0
  have kT : ∀ W, Below W0.heap.size W0 W → W.heap[w.heap.size]? = some (.cells #[.int .i64 peer, .int .i64 boot, .int .i64 life, .int .i64 mine] 33 (0, 0)) := fun W h => (h.block _ (row_lt T0)).trans T0
  have HZ : Hid (boot ≠ 0 ∨ mine ≠ 0) := hz
  dsimp only [SN.val]
  clear hW0 hn hz hr
  go_enter Try.func45, Try.ntmps45
  go_wp2_with (fail)
  rw [HW.out]
  go_loopg [6] n (fun gk v6 wr => ∃ i : Nat, v6 = .int .i64 (i : Int) ∧ i + gk = n ∧ (∃ m, wr = W0.drewN m) ∧ ∀ q ∈ l.take i, (fun x : SN => ltI x.peer peer) q = true)
  case atStart => exact ⟨0, by first | rfl | go_num, by omega, ⟨0, rfl⟩, fun q hq => by simp at hq⟩
  case round =>
    obtain ⟨i, rfl, hgk, ⟨m, rfl⟩, hlt⟩ := hrel
    have HLT : Hid (∀ q ∈ l.take i, (fun x : SN => ltI x.peer peer) q = true) := hlt
    have HGK : Hid (i + gk = n) := hgk
    clear hlt hgk
    by_cases hi : i < n
    case pos =>
      have HII : Hid (i < n) := hi
      have hiI : (i : Int) < (n : Int) := by omega
      have hwr : IntKind.i64.wrap ((i : Int) + 1) = (i : Int) + 1 := by rw [IntKind.wrap_i64]; have := HN.out; omega
      have HR0 := HR
      obtain ⟨b, off, rfl, hb, hd, hra⟩ := HR.at i hi
      obtain ⟨⟨xp, xb, xl, xm⟩, hri⟩ : ∃ r, l.getD i SN.z = r := ⟨_, rfl⟩
      rw [hri] at hra hd
      have HD : Hid (l[i]? = some ⟨xp, xb, xl, xm⟩) := hd
      have x0 : W0.cell? ⟨b, off + i * 4, none⟩ = some (.int .i64 xp) := hra 0 _ rfl
      have kx : ∀ W, Below W0.heap.size W0 W → W.cell? ⟨b, off + i * 4, none⟩ = some (.int .i64 xp) := fun W h => (h.cell (p := ⟨b, off + i * 4, none⟩) hb).trans x0
      clear hri hd hra hb hi
      by_cases hl : xp < peer
      case pos =>
        have HLT2 : Hid (∀ q ∈ l.take (i + 1), (fun x : SN => ltI x.peer peer) q = true) := by
          intro q hq
          rw [List.take_add_one, HD.out] at hq
          rcases List.mem_append.1 hq with hq | hq
          · exact HLT.out q hq
          · simp at hq; subst hq; exact decide_eq_true hl
        go_wp2_with (fail)
        go_quiet (fail)
        go_wp2
        go_roundg (gk - 1)
        case measure => have := HGK.out; have := HII.out; omega
        case rel => exact ⟨i + 1, by first | rfl | go_num, by have := HGK.out; have := HII.out; omega, ⟨_, rfl⟩, HLT2.out⟩
      case neg =>
        have HP := hit_at (lt := fun x : SN => ltI x.peer peer) (eq := fun x : SN => eqI x.peer peer) HLT.out HD.out (decide_eq_false hl)
        have HP1 : Hid (posS peer l = i) := HP.1
        by_cases he : xp = peer
        case pos =>
          have heb : (xp == peer) = true := by simpa using he
          have HTT : Hid (toT peer l = i + 1) := by show _ = _; unfold toT; rw [show hitS peer l = true from HP.2.trans (decide_eq_true he), HP1.out, if_pos rfl]
          clear HP he
          obtain ⟨a9, ha9⟩ : ∃ a9, (if cap = i + 1 then (some ⟨b, off, none⟩) else ((some ⟨b, off, none⟩) : Option Addr).map (·.add ((i + 1) * 4))) = a9 := ⟨_, rfl⟩
          have HA9 : Hid ((if cap = i + 1 then (some ⟨b, off, none⟩) else ((some ⟨b, off, none⟩) : Option Addr).map (·.add ((i + 1) * 4))) = a9) := ha9
          have HKC : Hid (i ≤ cap) := by show i ≤ cap; have := HLE.out; have := HII.out; omega
          have HTN : Hid (i + 1 ≤ n) := by show i + 1 ≤ n; have := HII.out; omega
          have R3 := HR0.from (i + 1) HTN.out
          rw [ha9] at R3
          clear ha9
          rcases HZ.out with hz | hz
          · have hzb : (boot != 0) = true := by simpa using hz
            clear hz
            go_wp2_with (fail)
            go_quiet (fail)
            go_wp2_with (first
              | ((with_reducible show wpList _ _ _ (Oper.mk _ (Op.slice 22 _ none _ none) _ _ _ _ :: _) _ _); refine wpList_toS rfl _ _ rfl rfl rfl HKC.out ?_)
              | ((with_reducible show wpList _ _ _ (Oper.mk _ (Op.load 33 (Operand.tmp 3)) _ _ _ _ :: _) _ _); refine wpList_load33x rfl _ rfl w.heap.size 0 peer boot life mine rfl (range_rowS (d := ⟨peer, boot, life, mine⟩) (kT _ B5)) ?_)
              | ((with_reducible show wpList _ _ _ (Oper.mk _ (Op.call { callee := Callee.builtin Builtin.append, args := #[Operand.tmp 23, Operand.tmp 26], argTypes := #[22, 22] }) _ _ _ _ :: _) _ _); go_must (refine wpList_grow_lstS rfl _ _ rfl (base := W0.heap.size) (k := 0) (es := []) rfl rfl (World.ownsRow_nil _ _ 33 4) ((HR0.to i (by have := HII.out; omega)).below (by first | exact Below.dn (Below.refl _ _) | exact Below.dn (Below.dn (Below.refl _ _)))) (by have := HN.out; have := HII.out; omega) (Nat.le_refl _) ?_; intro v5 w5 O5 g5 b5; have B5 : Below W0.heap.size W0 w5 := Below.trans (by first | exact Below.dn (Below.refl _ _) | exact Below.dn (Below.dn (Below.refl _ _))) b5; have ⟨⟨y0, y1, y2, y3⟩, _⟩ := cel4 (kT _ B5)))
              | ((with_reducible show wpList _ _ _ (Oper.mk _ (Op.call { callee := Callee.builtin Builtin.append, args := #[Operand.tmp 36, Operand.tmp 38], argTypes := #[22, 22] }) _ _ _ _ :: _) _ _); go_must (have B6 := B5.alloc (Nat.le_trans (Nat.le_refl _) B5.size) (.cells #[.int .i64 peer, .int .i64 boot, .int .i64 life, .int .i64 mine] 33); refine wpList_grow_lstS rfl _ _ rfl (base := W0.heap.size) rfl rfl (owns_later O5 ((Below.refl _ _).alloc (Nat.le_refl _) _)) (rd_one (s := ⟨peer, boot, life, mine⟩) (heap_new rfl)) (by have := HN.out; have := HII.out; omega) B6.size ?_; intro v7 w7 O7 g7 b7))
              | fail)
            have B6 := B5.alloc B5.size (.cells #[.int .i64 peer, .int .i64 boot, .int .i64 life, .int .i64 mine] 33)
            have B7 := B6.trans b7
            have ⟨⟨u0, u1, u2, u3⟩, _⟩ := cel4 (kT _ B7)
            have x7 := kx _ B7
            clear y0 y1 y2 y3 s0 s1 s2 s3
            go_quiet (fail)
            have B8 : Below W0.heap.size W0 (w7.drewN nq) := Below.dn B7
            have O8 : (w7.drewN nq).ownsRow W0.heap.size 33 4 v7 (0 + i + 1) (csS (([] ++ l.take i) ++ [⟨peer, boot, life, mine⟩])) := O7
            go_wp2_with (first
              | ((with_reducible show wpList _ _ _ (Oper.mk _ (Op.slice 22 _ _ none none) _ _ _ _ :: _) _ _); refine wpList_froms rfl _ _ rfl a9 rfl rfl HTN.out HA9.out ?_)
              | ((with_reducible show wpList _ _ _ (Oper.mk _ (Op.call { callee := Callee.builtin Builtin.append, args := #[Operand.tmp 56, Operand.tmp 59], argTypes := #[22, 22] }) _ _ _ _ :: _) _ _); go_must (refine wpList_grow_lstS rfl _ _ rfl (base := W0.heap.size) rfl rfl O8 (R3.below B8) (by have := HN.out; have := HII.out; omega) B8.size ?_; intro v9 w9 O9 g9 b9)))
            go_ret
            exact fin_put HI.out HP1.out HTT.out HL.out b0 (B8.trans b9) HTN.out (by have := HII.out; omega) O9
          · have hzm : (mine != 0) = true := by simpa using hz
            clear hz
            cases hzb : (boot != 0)
            case false =>
              go_wp2_with (fail)
              go_quiet (fail)
              go_wp2_with (first
                | ((with_reducible show wpList _ _ _ (Oper.mk _ (Op.slice 22 _ none _ none) _ _ _ _ :: _) _ _); refine wpList_toS rfl _ _ rfl rfl rfl HKC.out ?_)
                | ((with_reducible show wpList _ _ _ (Oper.mk _ (Op.load 33 (Operand.tmp 3)) _ _ _ _ :: _) _ _); refine wpList_load33x rfl _ rfl w.heap.size 0 peer boot life mine rfl (range_rowS (d := ⟨peer, boot, life, mine⟩) (kT _ B5)) ?_)
                | ((with_reducible show wpList _ _ _ (Oper.mk _ (Op.call { callee := Callee.builtin Builtin.append, args := #[Operand.tmp 23, Operand.tmp 26], argTypes := #[22, 22] }) _ _ _ _ :: _) _ _); go_must (refine wpList_grow_lstS rfl _ _ rfl (base := W0.heap.size) (k := 0) (es := []) rfl rfl (World.ownsRow_nil _ _ 33 4) ((HR0.to i (by have := HII.out; omega)).below (by first | exact Below.dn (Below.refl _ _) | exact Below.dn (Below.dn (Below.refl _ _)))) (by have := HN.out; have := HII.out; omega) (Nat.le_refl _) ?_; intro v5 w5 O5 g5 b5; have B5 : Below W0.heap.size W0 w5 := Below.trans (by first | exact Below.dn (Below.refl _ _) | exact Below.dn (Below.dn (Below.refl _ _))) b5; have ⟨⟨y0, y1, y2, y3⟩, _⟩ := cel4 (kT _ B5)))
                | ((with_reducible show wpList _ _ _ (Oper.mk _ (Op.call { callee := Callee.builtin Builtin.append, args := #[Operand.tmp 36, Operand.tmp 38], argTypes := #[22, 22] }) _ _ _ _ :: _) _ _); go_must (have B6 := B5.alloc (Nat.le_trans (Nat.le_refl _) B5.size) (.cells #[.int .i64 peer, .int .i64 boot, .int .i64 life, .int .i64 mine] 33); refine wpList_grow_lstS rfl _ _ rfl (base := W0.heap.size) rfl rfl (owns_later O5 ((Below.refl _ _).alloc (Nat.le_refl _) _)) (rd_one (s := ⟨peer, boot, life, mine⟩) (heap_new rfl)) (by have := HN.out; have := HII.out; omega) B6.size ?_; intro v7 w7 O7 g7 b7))
                | fail)
              have B6 := B5.alloc B5.size (.cells #[.int .i64 peer, .int .i64 boot, .int .i64 life, .int .i64 mine] 33)
              have B7 := B6.trans b7
              have ⟨⟨u0, u1, u2, u3⟩, _⟩ := cel4 (kT _ B7)
              have x7 := kx _ B7
              clear y0 y1 y2 y3 s0 s1 s2 s3
              go_quiet (fail)
              have B8 : Below W0.heap.size W0 (w7.drewN nq) := Below.dn B7
              have O8 : (w7.drewN nq).ownsRow W0.heap.size 33 4 v7 (0 + i + 1) (csS (([] ++ l.take i) ++ [⟨peer, boot, life, mine⟩])) := O7
              go_wp2_with (first
                | ((with_reducible show wpList _ _ _ (Oper.mk _ (Op.slice 22 _ _ none none) _ _ _ _ :: _) _ _); refine wpList_froms rfl _ _ rfl a9 rfl rfl HTN.out HA9.out ?_)
                | ((with_reducible show wpList _ _ _ (Oper.mk _ (Op.call { callee := Callee.builtin Builtin.append, args := #[Operand.tmp 56, Operand.tmp 59], argTypes := #[22, 22] }) _ _ _ _ :: _) _ _); go_must (refine wpList_grow_lstS rfl _ _ rfl (base := W0.heap.size) rfl rfl O8 (R3.below B8) (by have := HN.out; have := HII.out; omega) B8.size ?_; intro v9 w9 O9 g9 b9)))
              go_ret
              exact fin_put HI.out HP1.out HTT.out HL.out b0 (B8.trans b9) HTN.out (by have := HII.out; omega) O9
            case true =>
              go_wp2_with (fail)
              go_quiet (fail)
              go_wp2_with (first
                | ((with_reducible show wpList _ _ _ (Oper.mk _ (Op.slice 22 _ none _ none) _ _ _ _ :: _) _ _); refine wpList_toS rfl _ _ rfl rfl rfl HKC.out ?_)
                | ((with_reducible show wpList _ _ _ (Oper.mk _ (Op.load 33 (Operand.tmp 3)) _ _ _ _ :: _) _ _); refine wpList_load33x rfl _ rfl w.heap.size 0 peer boot life mine rfl (range_rowS (d := ⟨peer, boot, life, mine⟩) (kT _ B5)) ?_)
                | ((with_reducible show wpList _ _ _ (Oper.mk _ (Op.call { callee := Callee.builtin Builtin.append, args := #[Operand.tmp 23, Operand.tmp 26], argTypes := #[22, 22] }) _ _ _ _ :: _) _ _); go_must (refine wpList_grow_lstS rfl _ _ rfl (base := W0.heap.size) (k := 0) (es := []) rfl rfl (World.ownsRow_nil _ _ 33 4) ((HR0.to i (by have := HII.out; omega)).below (by first | exact Below.dn (Below.refl _ _) | exact Below.dn (Below.dn (Below.refl _ _)))) (by have := HN.out; have := HII.out; omega) (Nat.le_refl _) ?_; intro v5 w5 O5 g5 b5; have B5 : Below W0.heap.size W0 w5 := Below.trans (by first | exact Below.dn (Below.refl _ _) | exact Below.dn (Below.dn (Below.refl _ _))) b5; have ⟨⟨y0, y1, y2, y3⟩, _⟩ := cel4 (kT _ B5)))
                | ((with_reducible show wpList _ _ _ (Oper.mk _ (Op.call { callee := Callee.builtin Builtin.append, args := #[Operand.tmp 36, Operand.tmp 38], argTypes := #[22, 22] }) _ _ _ _ :: _) _ _); go_must (have B6 := B5.alloc (Nat.le_trans (Nat.le_refl _) B5.size) (.cells #[.int .i64 peer, .int .i64 boot, .int .i64 life, .int .i64 mine] 33); refine wpList_grow_lstS rfl _ _ rfl (base := W0.heap.size) rfl rfl (owns_later O5 ((Below.refl _ _).alloc (Nat.le_refl _) _)) (rd_one (s := ⟨peer, boot, life, mine⟩) (heap_new rfl)) (by have := HN.out; have := HII.out; omega) B6.size ?_; intro v7 w7 O7 g7 b7))
                | fail)
              have B6 := B5.alloc B5.size (.cells #[.int .i64 peer, .int .i64 boot, .int .i64 life, .int .i64 mine] 33)
              have B7 := B6.trans b7
              have ⟨⟨u0, u1, u2, u3⟩, _⟩ := cel4 (kT _ B7)
              have x7 := kx _ B7
              clear y0 y1 y2 y3 s0 s1 s2 s3
              go_quiet (fail)
              have B8 : Below W0.heap.size W0 (w7.drewN nq) := Below.dn B7
              have O8 : (w7.drewN nq).ownsRow W0.heap.size 33 4 v7 (0 + i + 1) (csS (([] ++ l.take i) ++ [⟨peer, boot, life, mine⟩])) := O7
              go_wp2_with (first
                | ((with_reducible show wpList _ _ _ (Oper.mk _ (Op.slice 22 _ _ none none) _ _ _ _ :: _) _ _); refine wpList_froms rfl _ _ rfl a9 rfl rfl HTN.out HA9.out ?_)
                | ((with_reducible show wpList _ _ _ (Oper.mk _ (Op.call { callee := Callee.builtin Builtin.append, args := #[Operand.tmp 56, Operand.tmp 59], argTypes := #[22, 22] }) _ _ _ _ :: _) _ _); go_must (refine wpList_grow_lstS rfl _ _ rfl (base := W0.heap.size) rfl rfl O8 (R3.below B8) (by have := HN.out; have := HII.out; omega) B8.size ?_; intro v9 w9 O9 g9 b9)))
              go_ret
              exact fin_put HI.out HP1.out HTT.out HL.out b0 (B8.trans b9) HTN.out (by have := HII.out; omega) O9
        case neg =>
          have heb : (xp == peer) = false := by simpa using he
          have HTT : Hid (toT peer l = i) := by show _ = _; unfold toT; rw [show hitS peer l = false from HP.2.trans (decide_eq_false he), HP1.out]; rfl
          clear HP he
          obtain ⟨a9, ha9⟩ : ∃ a9, (if cap = i then (some ⟨b, off, none⟩) else ((some ⟨b, off, none⟩) : Option Addr).map (·.add ((i) * 4))) = a9 := ⟨_, rfl⟩
          have HA9 : Hid ((if cap = i then (some ⟨b, off, none⟩) else ((some ⟨b, off, none⟩) : Option Addr).map (·.add ((i) * 4))) = a9) := ha9
          have HKC : Hid (i ≤ cap) := by show i ≤ cap; have := HLE.out; have := HII.out; omega
          have HTN : Hid (i ≤ n) := by show i ≤ n; have := HII.out; omega
          have R3 := HR0.from (i) HTN.out
          rw [ha9] at R3
          clear ha9
          rcases HZ.out with hz | hz
          · have hzb : (boot != 0) = true := by simpa using hz
            clear hz
            go_wp2_with (fail)
            go_quiet (fail)
            go_wp2_with (first
              | ((with_reducible show wpList _ _ _ (Oper.mk _ (Op.slice 22 _ none _ none) _ _ _ _ :: _) _ _); refine wpList_toS rfl _ _ rfl rfl rfl HKC.out ?_)
              | ((with_reducible show wpList _ _ _ (Oper.mk _ (Op.load 33 (Operand.tmp 3)) _ _ _ _ :: _) _ _); refine wpList_load33x rfl _ rfl w.heap.size 0 peer boot life mine rfl (range_rowS (d := ⟨peer, boot, life, mine⟩) (kT _ B5)) ?_)
              | ((with_reducible show wpList _ _ _ (Oper.mk _ (Op.call { callee := Callee.builtin Builtin.append, args := #[Operand.tmp 23, Operand.tmp 26], argTypes := #[22, 22] }) _ _ _ _ :: _) _ _); go_must (refine wpList_grow_lstS rfl _ _ rfl (base := W0.heap.size) (k := 0) (es := []) rfl rfl (World.ownsRow_nil _ _ 33 4) ((HR0.to i (by have := HII.out; omega)).below (by first | exact Below.dn (Below.refl _ _) | exact Below.dn (Below.dn (Below.refl _ _)))) (by have := HN.out; have := HII.out; omega) (Nat.le_refl _) ?_; intro v5 w5 O5 g5 b5; have B5 : Below W0.heap.size W0 w5 := Below.trans (by first | exact Below.dn (Below.refl _ _) | exact Below.dn (Below.dn (Below.refl _ _))) b5; have ⟨⟨y0, y1, y2, y3⟩, _⟩ := cel4 (kT _ B5)))
              | ((with_reducible show wpList _ _ _ (Oper.mk _ (Op.call { callee := Callee.builtin Builtin.append, args := #[Operand.tmp 36, Operand.tmp 38], argTypes := #[22, 22] }) _ _ _ _ :: _) _ _); go_must (have B6 := B5.alloc (Nat.le_trans (Nat.le_refl _) B5.size) (.cells #[.int .i64 peer, .int .i64 boot, .int .i64 life, .int .i64 mine] 33); refine wpList_grow_lstS rfl _ _ rfl (base := W0.heap.size) rfl rfl (owns_later O5 ((Below.refl _ _).alloc (Nat.le_refl _) _)) (rd_one (s := ⟨peer, boot, life, mine⟩) (heap_new rfl)) (by have := HN.out; have := HII.out; omega) B6.size ?_; intro v7 w7 O7 g7 b7))
              | fail)
            have B6 := B5.alloc B5.size (.cells #[.int .i64 peer, .int .i64 boot, .int .i64 life, .int .i64 mine] 33)
            have B7 := B6.trans b7
            have ⟨⟨u0, u1, u2, u3⟩, _⟩ := cel4 (kT _ B7)
            have x7 := kx _ B7
            clear y0 y1 y2 y3 s0 s1 s2 s3
            go_quiet (fail)
            have B8 : Below W0.heap.size W0 (w7.drewN nq) := Below.dn B7
            have O8 : (w7.drewN nq).ownsRow W0.heap.size 33 4 v7 (0 + i + 1) (csS (([] ++ l.take i) ++ [⟨peer, boot, life, mine⟩])) := O7
            go_wp2_with (first
              | ((with_reducible show wpList _ _ _ (Oper.mk _ (Op.slice 22 _ _ none none) _ _ _ _ :: _) _ _); refine wpList_froms rfl _ _ rfl a9 rfl rfl HTN.out HA9.out ?_)
              | ((with_reducible show wpList _ _ _ (Oper.mk _ (Op.call { callee := Callee.builtin Builtin.append, args := #[Operand.tmp 56, Operand.tmp 59], argTypes := #[22, 22] }) _ _ _ _ :: _) _ _); go_must (refine wpList_grow_lstS rfl _ _ rfl (base := W0.heap.size) rfl rfl O8 (R3.below B8) (by have := HN.out; have := HII.out; omega) B8.size ?_; intro v9 w9 O9 g9 b9)))
            go_ret
            exact fin_put HI.out HP1.out HTT.out HL.out b0 (B8.trans b9) HTN.out (by have := HII.out; omega) O9
          · have hzm : (mine != 0) = true := by simpa using hz
            clear hz
            cases hzb : (boot != 0)
            case false =>
              go_wp2_with (fail)
              go_quiet (fail)
              go_wp2_with (first
                | ((with_reducible show wpList _ _ _ (Oper.mk _ (Op.slice 22 _ none _ none) _ _ _ _ :: _) _ _); refine wpList_toS rfl _ _ rfl rfl rfl HKC.out ?_)
                | ((with_reducible show wpList _ _ _ (Oper.mk _ (Op.load 33 (Operand.tmp 3)) _ _ _ _ :: _) _ _); refine wpList_load33x rfl _ rfl w.heap.size 0 peer boot life mine rfl (range_rowS (d := ⟨peer, boot, life, mine⟩) (kT _ B5)) ?_)
                | ((with_reducible show wpList _ _ _ (Oper.mk _ (Op.call { callee := Callee.builtin Builtin.append, args := #[Operand.tmp 23, Operand.tmp 26], argTypes := #[22, 22] }) _ _ _ _ :: _) _ _); go_must (refine wpList_grow_lstS rfl _ _ rfl (base := W0.heap.size) (k := 0) (es := []) rfl rfl (World.ownsRow_nil _ _ 33 4) ((HR0.to i (by have := HII.out; omega)).below (by first | exact Below.dn (Below.refl _ _) | exact Below.dn (Below.dn (Below.refl _ _)))) (by have := HN.out; have := HII.out; omega) (Nat.le_refl _) ?_; intro v5 w5 O5 g5 b5; have B5 : Below W0.heap.size W0 w5 := Below.trans (by first | exact Below.dn (Below.refl _ _) | exact Below.dn (Below.dn (Below.refl _ _))) b5; have ⟨⟨y0, y1, y2, y3⟩, _⟩ := cel4 (kT _ B5)))
                | ((with_reducible show wpList _ _ _ (Oper.mk _ (Op.call { callee := Callee.builtin Builtin.append, args := #[Operand.tmp 36, Operand.tmp 38], argTypes := #[22, 22] }) _ _ _ _ :: _) _ _); go_must (have B6 := B5.alloc (Nat.le_trans (Nat.le_refl _) B5.size) (.cells #[.int .i64 peer, .int .i64 boot, .int .i64 life, .int .i64 mine] 33); refine wpList_grow_lstS rfl _ _ rfl (base := W0.heap.size) rfl rfl (owns_later O5 ((Below.refl _ _).alloc (Nat.le_refl _) _)) (rd_one (s := ⟨peer, boot, life, mine⟩) (heap_new rfl)) (by have := HN.out; have := HII.out; omega) B6.size ?_; intro v7 w7 O7 g7 b7))
                | fail)
              have B6 := B5.alloc B5.size (.cells #[.int .i64 peer, .int .i64 boot, .int .i64 life, .int .i64 mine] 33)
              have B7 := B6.trans b7
              have ⟨⟨u0, u1, u2, u3⟩, _⟩ := cel4 (kT _ B7)
              have x7 := kx _ B7
              clear y0 y1 y2 y3 s0 s1 s2 s3
              go_quiet (fail)
              have B8 : Below W0.heap.size W0 (w7.drewN nq) := Below.dn B7
              have O8 : (w7.drewN nq).ownsRow W0.heap.size 33 4 v7 (0 + i + 1) (csS (([] ++ l.take i) ++ [⟨peer, boot, life, mine⟩])) := O7
              go_wp2_with (first
                | ((with_reducible show wpList _ _ _ (Oper.mk _ (Op.slice 22 _ _ none none) _ _ _ _ :: _) _ _); refine wpList_froms rfl _ _ rfl a9 rfl rfl HTN.out HA9.out ?_)
                | ((with_reducible show wpList _ _ _ (Oper.mk _ (Op.call { callee := Callee.builtin Builtin.append, args := #[Operand.tmp 56, Operand.tmp 59], argTypes := #[22, 22] }) _ _ _ _ :: _) _ _); go_must (refine wpList_grow_lstS rfl _ _ rfl (base := W0.heap.size) rfl rfl O8 (R3.below B8) (by have := HN.out; have := HII.out; omega) B8.size ?_; intro v9 w9 O9 g9 b9)))
              go_ret
              exact fin_put HI.out HP1.out HTT.out HL.out b0 (B8.trans b9) HTN.out (by have := HII.out; omega) O9
            case true =>
              go_wp2_with (fail)
              go_quiet (fail)
              go_wp2_with (first
                | ((with_reducible show wpList _ _ _ (Oper.mk _ (Op.slice 22 _ none _ none) _ _ _ _ :: _) _ _); refine wpList_toS rfl _ _ rfl rfl rfl HKC.out ?_)
                | ((with_reducible show wpList _ _ _ (Oper.mk _ (Op.load 33 (Operand.tmp 3)) _ _ _ _ :: _) _ _); refine wpList_load33x rfl _ rfl w.heap.size 0 peer boot life mine rfl (range_rowS (d := ⟨peer, boot, life, mine⟩) (kT _ B5)) ?_)
                | ((with_reducible show wpList _ _ _ (Oper.mk _ (Op.call { callee := Callee.builtin Builtin.append, args := #[Operand.tmp 23, Operand.tmp 26], argTypes := #[22, 22] }) _ _ _ _ :: _) _ _); go_must (refine wpList_grow_lstS rfl _ _ rfl (base := W0.heap.size) (k := 0) (es := []) rfl rfl (World.ownsRow_nil _ _ 33 4) ((HR0.to i (by have := HII.out; omega)).below (by first | exact Below.dn (Below.refl _ _) | exact Below.dn (Below.dn (Below.refl _ _)))) (by have := HN.out; have := HII.out; omega) (Nat.le_refl _) ?_; intro v5 w5 O5 g5 b5; have B5 : Below W0.heap.size W0 w5 := Below.trans (by first | exact Below.dn (Below.refl _ _) | exact Below.dn (Below.dn (Below.refl _ _))) b5; have ⟨⟨y0, y1, y2, y3⟩, _⟩ := cel4 (kT _ B5)))
                | ((with_reducible show wpList _ _ _ (Oper.mk _ (Op.call { callee := Callee.builtin Builtin.append, args := #[Operand.tmp 36, Operand.tmp 38], argTypes := #[22, 22] }) _ _ _ _ :: _) _ _); go_must (have B6 := B5.alloc (Nat.le_trans (Nat.le_refl _) B5.size) (.cells #[.int .i64 peer, .int .i64 boot, .int .i64 life, .int .i64 mine] 33); refine wpList_grow_lstS rfl _ _ rfl (base := W0.heap.size) rfl rfl (owns_later O5 ((Below.refl _ _).alloc (Nat.le_refl _) _)) (rd_one (s := ⟨peer, boot, life, mine⟩) (heap_new rfl)) (by have := HN.out; have := HII.out; omega) B6.size ?_; intro v7 w7 O7 g7 b7))
                | fail)
              have B6 := B5.alloc B5.size (.cells #[.int .i64 peer, .int .i64 boot, .int .i64 life, .int .i64 mine] 33)
              have B7 := B6.trans b7
              have ⟨⟨u0, u1, u2, u3⟩, _⟩ := cel4 (kT _ B7)
              have x7 := kx _ B7
              clear y0 y1 y2 y3 s0 s1 s2 s3
              go_quiet (fail)
              have B8 : Below W0.heap.size W0 (w7.drewN nq) := Below.dn B7
              have O8 : (w7.drewN nq).ownsRow W0.heap.size 33 4 v7 (0 + i + 1) (csS (([] ++ l.take i) ++ [⟨peer, boot, life, mine⟩])) := O7
              go_wp2_with (first
                | ((with_reducible show wpList _ _ _ (Oper.mk _ (Op.slice 22 _ _ none none) _ _ _ _ :: _) _ _); refine wpList_froms rfl _ _ rfl a9 rfl rfl HTN.out HA9.out ?_)
                | ((with_reducible show wpList _ _ _ (Oper.mk _ (Op.call { callee := Callee.builtin Builtin.append, args := #[Operand.tmp 56, Operand.tmp 59], argTypes := #[22, 22] }) _ _ _ _ :: _) _ _); go_must (refine wpList_grow_lstS rfl _ _ rfl (base := W0.heap.size) rfl rfl O8 (R3.below B8) (by have := HN.out; have := HII.out; omega) B8.size ?_; intro v9 w9 O9 g9 b9)))
              go_ret
              exact fin_put HI.out HP1.out HTT.out HL.out b0 (B8.trans b9) HTN.out (by have := HII.out; omega) O9
    case neg =>
      have hin : i = n := by have := HGK.out; omega
      have HIN : Hid (i = n) := hin
      have hiI : decide (i < n) = false := decide_eq_false (by omega)
      have HP := hit_all (lt := fun x : SN => ltI x.peer peer) (eq := fun x : SN => eqI x.peer peer) (l := l) (fun q hq => HLT.out q (by rw [hin, ← HL.out, List.take_length]; exact hq))
      have HP1 : Hid (posS peer l = i) := by show _ = _; rw [show posS peer l = l.length from HP.1, hin]; exact HL.out
      have HTT : Hid (toT peer l = i) := by show _ = _; unfold toT; rw [show hitS peer l = false from HP.2, HP1.out]; rfl
      have HII : Hid (i ≤ n) := by show _ ≤ _; omega
      have HR0 := HR
      clear HP hin hi
      obtain ⟨a9, ha9⟩ : ∃ a9, (if cap = i then a else (a : Option Addr).map (·.add ((i) * 4))) = a9 := ⟨_, rfl⟩
      have HA9 : Hid ((if cap = i then a else (a : Option Addr).map (·.add ((i) * 4))) = a9) := ha9
      have HKC : Hid (i ≤ cap) := by show i ≤ cap; have := HLE.out; have := HII.out; omega
      have HTN : Hid (i ≤ n) := by show i ≤ n; have := HII.out; omega
      have R3 := HR0.from (i) HTN.out
      rw [ha9] at R3
      clear ha9
      rcases HZ.out with hz | hz
      · have hzb : (boot != 0) = true := by simpa using hz
        clear hz
        go_wp2_with (fail)
        go_quiet (fail)
        go_wp2_with (first
          | ((with_reducible show wpList _ _ _ (Oper.mk _ (Op.slice 22 _ none _ none) _ _ _ _ :: _) _ _); refine wpList_toS rfl _ _ rfl rfl rfl HKC.out ?_)
          | ((with_reducible show wpList _ _ _ (Oper.mk _ (Op.load 33 (Operand.tmp 3)) _ _ _ _ :: _) _ _); refine wpList_load33x rfl _ rfl w.heap.size 0 peer boot life mine rfl (range_rowS (d := ⟨peer, boot, life, mine⟩) (kT _ B5)) ?_)
          | ((with_reducible show wpList _ _ _ (Oper.mk _ (Op.call { callee := Callee.builtin Builtin.append, args := #[Operand.tmp 23, Operand.tmp 26], argTypes := #[22, 22] }) _ _ _ _ :: _) _ _); go_must (refine wpList_grow_lstS rfl _ _ rfl (base := W0.heap.size) (k := 0) (es := []) rfl rfl (World.ownsRow_nil _ _ 33 4) ((HR0.to i (by have := HII.out; omega)).below (by first | exact Below.dn (Below.refl _ _) | exact Below.dn (Below.dn (Below.refl _ _)))) (by have := HN.out; have := HII.out; omega) (Nat.le_refl _) ?_; intro v5 w5 O5 g5 b5; have B5 : Below W0.heap.size W0 w5 := Below.trans (by first | exact Below.dn (Below.refl _ _) | exact Below.dn (Below.dn (Below.refl _ _))) b5; have ⟨⟨y0, y1, y2, y3⟩, _⟩ := cel4 (kT _ B5)))
          | ((with_reducible show wpList _ _ _ (Oper.mk _ (Op.call { callee := Callee.builtin Builtin.append, args := #[Operand.tmp 36, Operand.tmp 38], argTypes := #[22, 22] }) _ _ _ _ :: _) _ _); go_must (have B6 := B5.alloc (Nat.le_trans (Nat.le_refl _) B5.size) (.cells #[.int .i64 peer, .int .i64 boot, .int .i64 life, .int .i64 mine] 33); refine wpList_grow_lstS rfl _ _ rfl (base := W0.heap.size) rfl rfl (owns_later O5 ((Below.refl _ _).alloc (Nat.le_refl _) _)) (rd_one (s := ⟨peer, boot, life, mine⟩) (heap_new rfl)) (by have := HN.out; have := HII.out; omega) B6.size ?_; intro v7 w7 O7 g7 b7))
          | fail)
        have B6 := B5.alloc B5.size (.cells #[.int .i64 peer, .int .i64 boot, .int .i64 life, .int .i64 mine] 33)
        have B7 := B6.trans b7
        have ⟨⟨u0, u1, u2, u3⟩, _⟩ := cel4 (kT _ B7)
        clear y0 y1 y2 y3 s0 s1 s2 s3
        go_quiet (fail)
        have B8 : Below W0.heap.size W0 (w7.drewN nq) := Below.dn B7
        have O8 : (w7.drewN nq).ownsRow W0.heap.size 33 4 v7 (0 + i + 1) (csS (([] ++ l.take i) ++ [⟨peer, boot, life, mine⟩])) := O7
        go_wp2_with (first
          | ((with_reducible show wpList _ _ _ (Oper.mk _ (Op.slice 22 _ _ none none) _ _ _ _ :: _) _ _); refine wpList_froms rfl _ _ rfl a9 rfl rfl HTN.out HA9.out ?_)
          | ((with_reducible show wpList _ _ _ (Oper.mk _ (Op.call { callee := Callee.builtin Builtin.append, args := #[Operand.tmp 56, Operand.tmp 59], argTypes := #[22, 22] }) _ _ _ _ :: _) _ _); go_must (refine wpList_grow_lstS rfl _ _ rfl (base := W0.heap.size) rfl rfl O8 (R3.below B8) (by have := HN.out; have := HII.out; omega) B8.size ?_; intro v9 w9 O9 g9 b9)))
        go_ret
        exact fin_put HI.out HP1.out HTT.out HL.out b0 (B8.trans b9) HTN.out (by have := HII.out; omega) O9
      · have hzm : (mine != 0) = true := by simpa using hz
        clear hz
        cases hzb : (boot != 0)
        case false =>
          go_wp2_with (fail)
          go_quiet (fail)
          go_wp2_with (first
            | ((with_reducible show wpList _ _ _ (Oper.mk _ (Op.slice 22 _ none _ none) _ _ _ _ :: _) _ _); refine wpList_toS rfl _ _ rfl rfl rfl HKC.out ?_)
            | ((with_reducible show wpList _ _ _ (Oper.mk _ (Op.load 33 (Operand.tmp 3)) _ _ _ _ :: _) _ _); refine wpList_load33x rfl _ rfl w.heap.size 0 peer boot life mine rfl (range_rowS (d := ⟨peer, boot, life, mine⟩) (kT _ B5)) ?_)
            | ((with_reducible show wpList _ _ _ (Oper.mk _ (Op.call { callee := Callee.builtin Builtin.append, args := #[Operand.tmp 23, Operand.tmp 26], argTypes := #[22, 22] }) _ _ _ _ :: _) _ _); go_must (refine wpList_grow_lstS rfl _ _ rfl (base := W0.heap.size) (k := 0) (es := []) rfl rfl (World.ownsRow_nil _ _ 33 4) ((HR0.to i (by have := HII.out; omega)).below (by first | exact Below.dn (Below.refl _ _) | exact Below.dn (Below.dn (Below.refl _ _)))) (by have := HN.out; have := HII.out; omega) (Nat.le_refl _) ?_; intro v5 w5 O5 g5 b5; have B5 : Below W0.heap.size W0 w5 := Below.trans (by first | exact Below.dn (Below.refl _ _) | exact Below.dn (Below.dn (Below.refl _ _))) b5; have ⟨⟨y0, y1, y2, y3⟩, _⟩ := cel4 (kT _ B5)))
            | ((with_reducible show wpList _ _ _ (Oper.mk _ (Op.call { callee := Callee.builtin Builtin.append, args := #[Operand.tmp 36, Operand.tmp 38], argTypes := #[22, 22] }) _ _ _ _ :: _) _ _); go_must (have B6 := B5.alloc (Nat.le_trans (Nat.le_refl _) B5.size) (.cells #[.int .i64 peer, .int .i64 boot, .int .i64 life, .int .i64 mine] 33); refine wpList_grow_lstS rfl _ _ rfl (base := W0.heap.size) rfl rfl (owns_later O5 ((Below.refl _ _).alloc (Nat.le_refl _) _)) (rd_one (s := ⟨peer, boot, life, mine⟩) (heap_new rfl)) (by have := HN.out; have := HII.out; omega) B6.size ?_; intro v7 w7 O7 g7 b7))
            | fail)
          have B6 := B5.alloc B5.size (.cells #[.int .i64 peer, .int .i64 boot, .int .i64 life, .int .i64 mine] 33)
          have B7 := B6.trans b7
          have ⟨⟨u0, u1, u2, u3⟩, _⟩ := cel4 (kT _ B7)
          clear y0 y1 y2 y3 s0 s1 s2 s3
          go_quiet (fail)
          have B8 : Below W0.heap.size W0 (w7.drewN nq) := Below.dn B7
          have O8 : (w7.drewN nq).ownsRow W0.heap.size 33 4 v7 (0 + i + 1) (csS (([] ++ l.take i) ++ [⟨peer, boot, life, mine⟩])) := O7
          go_wp2_with (first
            | ((with_reducible show wpList _ _ _ (Oper.mk _ (Op.slice 22 _ _ none none) _ _ _ _ :: _) _ _); refine wpList_froms rfl _ _ rfl a9 rfl rfl HTN.out HA9.out ?_)
            | ((with_reducible show wpList _ _ _ (Oper.mk _ (Op.call { callee := Callee.builtin Builtin.append, args := #[Operand.tmp 56, Operand.tmp 59], argTypes := #[22, 22] }) _ _ _ _ :: _) _ _); go_must (refine wpList_grow_lstS rfl _ _ rfl (base := W0.heap.size) rfl rfl O8 (R3.below B8) (by have := HN.out; have := HII.out; omega) B8.size ?_; intro v9 w9 O9 g9 b9)))
          go_ret
          exact fin_put HI.out HP1.out HTT.out HL.out b0 (B8.trans b9) HTN.out (by have := HII.out; omega) O9
        case true =>
          go_wp2_with (fail)
          go_quiet (fail)
          go_wp2_with (first
            | ((with_reducible show wpList _ _ _ (Oper.mk _ (Op.slice 22 _ none _ none) _ _ _ _ :: _) _ _); refine wpList_toS rfl _ _ rfl rfl rfl HKC.out ?_)
            | ((with_reducible show wpList _ _ _ (Oper.mk _ (Op.load 33 (Operand.tmp 3)) _ _ _ _ :: _) _ _); refine wpList_load33x rfl _ rfl w.heap.size 0 peer boot life mine rfl (range_rowS (d := ⟨peer, boot, life, mine⟩) (kT _ B5)) ?_)
            | ((with_reducible show wpList _ _ _ (Oper.mk _ (Op.call { callee := Callee.builtin Builtin.append, args := #[Operand.tmp 23, Operand.tmp 26], argTypes := #[22, 22] }) _ _ _ _ :: _) _ _); go_must (refine wpList_grow_lstS rfl _ _ rfl (base := W0.heap.size) (k := 0) (es := []) rfl rfl (World.ownsRow_nil _ _ 33 4) ((HR0.to i (by have := HII.out; omega)).below (by first | exact Below.dn (Below.refl _ _) | exact Below.dn (Below.dn (Below.refl _ _)))) (by have := HN.out; have := HII.out; omega) (Nat.le_refl _) ?_; intro v5 w5 O5 g5 b5; have B5 : Below W0.heap.size W0 w5 := Below.trans (by first | exact Below.dn (Below.refl _ _) | exact Below.dn (Below.dn (Below.refl _ _))) b5; have ⟨⟨y0, y1, y2, y3⟩, _⟩ := cel4 (kT _ B5)))
            | ((with_reducible show wpList _ _ _ (Oper.mk _ (Op.call { callee := Callee.builtin Builtin.append, args := #[Operand.tmp 36, Operand.tmp 38], argTypes := #[22, 22] }) _ _ _ _ :: _) _ _); go_must (have B6 := B5.alloc (Nat.le_trans (Nat.le_refl _) B5.size) (.cells #[.int .i64 peer, .int .i64 boot, .int .i64 life, .int .i64 mine] 33); refine wpList_grow_lstS rfl _ _ rfl (base := W0.heap.size) rfl rfl (owns_later O5 ((Below.refl _ _).alloc (Nat.le_refl _) _)) (rd_one (s := ⟨peer, boot, life, mine⟩) (heap_new rfl)) (by have := HN.out; have := HII.out; omega) B6.size ?_; intro v7 w7 O7 g7 b7))
            | fail)
          have B6 := B5.alloc B5.size (.cells #[.int .i64 peer, .int .i64 boot, .int .i64 life, .int .i64 mine] 33)
          have B7 := B6.trans b7
          have ⟨⟨u0, u1, u2, u3⟩, _⟩ := cel4 (kT _ B7)
          clear y0 y1 y2 y3 s0 s1 s2 s3
          go_quiet (fail)
          have B8 : Below W0.heap.size W0 (w7.drewN nq) := Below.dn B7
          have O8 : (w7.drewN nq).ownsRow W0.heap.size 33 4 v7 (0 + i + 1) (csS (([] ++ l.take i) ++ [⟨peer, boot, life, mine⟩])) := O7
          go_wp2_with (first
            | ((with_reducible show wpList _ _ _ (Oper.mk _ (Op.slice 22 _ _ none none) _ _ _ _ :: _) _ _); refine wpList_froms rfl _ _ rfl a9 rfl rfl HTN.out HA9.out ?_)
            | ((with_reducible show wpList _ _ _ (Oper.mk _ (Op.call { callee := Callee.builtin Builtin.append, args := #[Operand.tmp 56, Operand.tmp 59], argTypes := #[22, 22] }) _ _ _ _ :: _) _ _); go_must (refine wpList_grow_lstS rfl _ _ rfl (base := W0.heap.size) rfl rfl O8 (R3.below B8) (by have := HN.out; have := HII.out; omega) B8.size ?_; intro v9 w9 O9 g9 b9)))
          go_ret
          exact fin_put HI.out HP1.out HTT.out HL.out b0 (B8.trans b9) HTN.out (by have := HII.out; omega) O9
end Go.Proofs.Yteoiogjaecpddaa
