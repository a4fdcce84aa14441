/-
  All answers as the document says, whatever packets are sealed one behind the other, and whatever bytes stand behind them (P5.4): the law WireAll returns true for every input of bulk at most 1048576.
-/
import Derived.Test.YticmjlnpjopfbaaDoorGrDa
import Derived.Test.YticmjlnpjopfbaaDoorGrRd
import Derived.Test.YticmjlnpjopfbaaDoorSRow
import Derived.ProofKit
import Derived.OpenShut
import Derived.Test.YticmjlnpjopfbaaDoorRows
import Derived.Test.YticmjlnpjopfbaaDoorLoad
import Derived.ChangeSame
import Derived.Test.YticmjlnpjopfbaaDoorRowI
import Derived.Deep.Slices
import Derived.SizedLaws
import Derived.Deep.DeepHandedRow
import Derived.Test.YticmjlnpjopfbaaDoorGrEnc
import Derived.Deep.DeepCutAuto
import Derived.Test.YticmjlnpjopfbaaDoorCards
import Derived.Test.YticmjlnpjopfbaaDoorTie
import Derived.WalkKit
import Derived.ChangeOld
import Derived.Below
import Derived.Lib.LaidTab
namespace Go.Proofs.YticmjlnpjopfbaaDoor
open Go.ChangeShapes Go.WideShapes Go.ChangeAt Go.RowKit
open S (Tab Row Byt opn bv)
set_option linter.unusedVariables false
set_option linter.unusedSimpArgs false

/-- A packet that lies somewhere: it, and where its items are. -/
structure PkS where
  p : Pkt
  a : Option Addr
  n : Nat
  c : Nat
def PkS.cells (q : PkS) : List Value := pkc q.p q.a q.n q.c
theorem info24 : (Tryd.prog.info? 24).map (fun i => (i.zero, i.size, i.bytes)) = some (some (pkv pkZ none 0 0), 8, 80) := by kernel_rfl
/-- A list of packets of one's own. -/
structure OwnP (W : World) (base : Nat) (v : Value) (qs : List PkS) : Prop where
  own : W.ownsRow base 24 8 v qs.length (qs.flatMap PkS.cells)
  nil : qs = [] → v = .slice none 0 0
  its : ∀ q ∈ qs, RowI W q.a q.n q.c q.p.items ∧ (q.a = none ∨ ∃ g, q.a = some ⟨g, 0, none⟩ ∧ base ≤ g)
theorem OwnP.below {W W' : World} {base : Nat} {v : Value} {qs : List PkS} (h : OwnP W base v qs) (hb : Below W.heap.size W W') : OwnP W' base v qs where
  own := by
    refine own_kp h.own fun g hg => hb.block g (World.ownsRow.lt h.own g hg).2
  nil := h.nil
  its := fun q hq => ⟨(h.its q hq).1.below hb, (h.its q hq).2⟩
theorem OwnP.start (W : World) (base : Nat) : OwnP W base (.slice none 0 0) [] := ⟨World.ownsRow_nil _ _ _ _, fun _ => rfl, fun q hq => by cases hq⟩
/-- The list's own block is none that items lie in. -/
theorem OwnP.apart {W : World} {base : Nat} {v : Value} {qs : List PkS} (h : OwnP W base v qs) {g k c : Nat} {its : List Itm} (R : RowI W (some ⟨g, 0, none⟩) k c its) (hk : k ≠ 0) : v.ownBlock ≠ some g := by
  intro e
  cases qs with
  | nil => rw [h.nil rfl] at e; cases e
  | cons q qs =>
    rcases h.own.2 with ⟨h0, _⟩ | ⟨g', cp, cur, hv, _, hh, _, _, hsz, hcs⟩
    · rw [h0] at e; cases e
    · subst hv
      obtain rfl : g' = g := by simpa [Value.ownBlock] using e
      rcases R.mem with h0 | ⟨b, off, ea, _, hc⟩
      · exact hk h0
      · cases ea
        have h1 := hc 0 (by omega) 0 _ rfl
        have h2 := World.ownsRow.cells h.own (g := g') rfl 0 _ rfl
        simp only [add_plain, Nat.zero_add, Nat.zero_mul] at h1 h2
        rw [h1] at h2
        simp at h2
end Go.Proofs.YticmjlnpjopfbaaDoor

namespace Go.Proofs.YticmjlnpjopfbaaDoor
open Go.ChangeShapes Go.WideShapes Go.ChangeAt Go.RowKit
open S (Tab Row Byt opn bv)
set_option linter.unusedVariables false
set_option linter.unusedSimpArgs false

theorem opn_pos' {l b : List Int} {n : Nat} (h : opn l = .ok (b, n)) : 8 ≤ n ∧ n ≤ l.length := S.opn_pos h
/-- So far: ps, pos bytes. -/
def AllSt (zs : List Int) (ps : List Pkt) (pos : Nat) : Prop :=
  allPF zs.length zs = (ps ++ (allPF zs.length (zs.drop pos)).1, pos + (allPF zs.length (zs.drop pos)).2.1, (allPF zs.length (zs.drop pos)).2.2)
theorem AllSt.start (zs : List Int) : AllSt zs [] 0 := by simp [AllSt]
theorem fuel_succ {zs : List Int} {pos : Nat} (h : pos < zs.length) : allPF zs.length (zs.drop pos) = allPF ((zs.drop pos).length - 1 + 1) (zs.drop pos) := allPF_fuel _ _ _ (by rw [List.length_drop]; omega) (by omega)
theorem drop_ne {zs : List Int} {pos : Nat} (h : pos < zs.length) : zs.drop pos ≠ [] := fun e => by have := congrArg List.length e; rw [List.length_drop] at this; simp at this; omega
theorem AllSt.bad {zs : List Int} {ps : List Pkt} {pos : Nat} {c : Int} (S : AllSt zs ps pos) (h : pos < zs.length) (ho : opn (zs.drop pos) = .error c) : allPF zs.length zs = (ps, pos, c) := by
  unfold AllSt at S
  rw [S, fuel_succ h, allPF_err (drop_ne h) ho]
  simp
theorem AllSt.no {zs b : List Int} {ps : List Pkt} {pos n : Nat} {c : Int} (S : AllSt zs ps pos) (h : pos < zs.length) (ho : opn (zs.drop pos) = .ok (b, n)) (hr : openP b = .error c) : allPF zs.length zs = (ps, pos, c) := by
  unfold AllSt at S
  rw [S, fuel_succ h, allPF_no ho hr]
  simp
theorem AllSt.next {zs b : List Int} {ps : List Pkt} {pos n : Nat} {p : Pkt} (S : AllSt zs ps pos) (h : pos < zs.length) (ho : opn (zs.drop pos) = .ok (b, n)) (hr : openP b = .ok p) : AllSt zs (ps ++ [p]) (pos + n) := by
  unfold AllSt at *
  have hp := opn_pos' ho
  rw [S, fuel_succ h, allPF_ok ho hr, List.drop_drop, allPF_fuel ((zs.drop pos).length - 1) zs.length (zs.drop (pos + n)) (by rw [List.length_drop, List.length_drop]; omega) (by rw [List.length_drop]; omega)]
  simp [Nat.add_assoc]
theorem AllSt.last {zs : List Int} {ps : List Pkt} {pos : Nat} (S : AllSt zs ps pos) (h : ¬ pos < zs.length) : pos = zs.length → allPF zs.length zs = (ps, pos, 0) := by
  intro e
  unfold AllSt at S
  rw [S, List.drop_eq_nil_of_le (by omega), allPF_nil]
  simp
/-- What All hands back. -/
def AllOut (base : Nat) (W : World) (zs : List Int) (e : Ending) : Prop :=
  ∃ v qs, e = .returned (.tuple #[v, .int .i64 ((allPF zs.length zs).2.1 : Nat), .int .i64 (allPF zs.length zs).2.2]) ∧ OwnP W base v qs ∧ qs.map PkS.p = (allPF zs.length zs).1
theorem OwnP.snoc {W W' : World} {base : Nat} {v v' : Value} {qs : List PkS} (h : OwnP W base v qs) (q : PkS) (R : RowI W q.a q.n q.c q.p.items) (hq : q.a = none ∨ ∃ g, q.a = some ⟨g, 0, none⟩ ∧ base ≤ g)
    (ho : W'.ownsRow base 24 8 v' (qs.length + 1) (qs.flatMap PkS.cells ++ q.cells)) (hg : W.grownBy W' v.ownBlock) : OwnP W' base v' (qs ++ [q]) where
  own := by rw [List.length_append, List.flatMap_append, List.flatMap_singleton]; exact ho
  nil := fun e => by simp at e
  its := by
    have keep : ∀ x : PkS, RowI W x.a x.n x.c x.p.items → (x.a = none ∨ ∃ g, x.a = some ⟨g, 0, none⟩ ∧ base ≤ g) → RowI W' x.a x.n x.c x.p.items := by
      intro x hx ha
      refine ⟨hx.size, hx.le, hx.max, hx.nil, ?_⟩
      rcases hx.mem with h0 | ⟨b, off, ea, hb, hc⟩
      · exact .inl h0
      · by_cases hk : x.n = 0
        · exact .inl hk
        · refine .inr ⟨b, off, ea, Nat.lt_of_lt_of_le hb hg.size, fun j hj => (hc j hj).of_block (hg.block b hb ?_)⟩
          rcases ha with h1 | ⟨g, h1, _⟩
          · rw [h1] at ea; cases ea
          · rw [h1] at ea
            cases ea
            rw [h1] at hx
            exact fun e => h.apart hx hk e.symm
    intro x hx
    rcases List.mem_append.1 hx with hx | hx
    · exact ⟨keep x (h.its x hx).1 (h.its x hx).2, (h.its x hx).2⟩
    · simp at hx
      subst hx
      exact ⟨keep x R hq, hq⟩
end Go.Proofs.YticmjlnpjopfbaaDoor

namespace Go.Proofs.YticmjlnpjopfbaaDoor
open Go.ChangeShapes Go.WideShapes Go.ChangeAt Go.RowKit
open S (Tab Row Byt opn bv)
set_option linter.unusedVariables false
set_option linter.unusedSimpArgs false

set_option maxRecDepth 100000 in
set_option maxHeartbeats 8000000 in
theorem all_any (a : Option Addr) (len cap : Nat) (zs : List Int) (w : World) (R : Row .u8 w a len cap zs) (T : Tab w) (hl : len ≤ 1099511627776) (hcap : cap ≤ 9223372036854775807) :
    Calls Tryd.prog 24 #[.slice a len cap] w fun e w' => AllOut w.heap.size w' zs e ∧ Below w.heap.size w w' := by
  have HLz : Hid (zs.length = len) := R.size
  have hle := R.le
  have HBy : Hid (Byt zs) := R.byte
  obtain ⟨i0, hi0, hz0, hz1, hz2⟩ := info_parts info24
  go_enter Tryd.func24, Tryd.ntmps24
  go_wp2
  go_loopg [5, 6] len (fun g v5 v6 wr => ∃ (pos : Nat) (qs : List PkS), v6 = .int .i64 (pos : Int) ∧ pos + g = len ∧ qs.length ≤ pos ∧ Hid (OwnP wr w.heap.size v5 qs) ∧ Hid (AllSt zs (qs.map PkS.p) pos) ∧ Hid (Below w.heap.size w wr))
  case atStart => exact ⟨0, [], rfl, by omega, by simp, OwnP.start _ _, AllSt.start _, Below.refl _ _⟩
  case round =>
    obtain ⟨pos, qs, rfl, hg, hqp, HO, HS, HB⟩ := hrel
    have B0 := HB.out
    have z0 := B0.size
    by_cases hp : pos < len
    · have hpI : (pos : Int) < (len : Int) := by omega
      have hpz : pos < zs.length := by rw [HLz.out]; exact hp
      obtain ⟨b0, o0, rfl⟩ : ∃ b0 o0, a = some ⟨b0, o0, none⟩ := by
        rcases R.mem with h | ⟨b0, o0, h, _⟩
        · omega
        · exact ⟨b0, o0, h⟩
      have hc1 : ¬ (cap = pos) := by omega
      have R1 : Row .u8 wr (some ⟨b0, o0 + pos, none⟩) (len - pos) (cap - pos) (zs.drop pos) := by
        have h := (R.part pos len (by omega) (Nat.le_refl _)).below B0
        rw [add_plain, List.take_of_length_le (by rw [List.length_drop, HLz.out]; omega)] at h
        exact h
      have hn1 : len - pos ≤ 140737488355328 := by omega
      have hn2 : cap - pos ≤ 9223372036854775807 := by omega
      have KO := S.open_any (some ⟨b0, o0 + pos, none⟩) (len - pos) (cap - pos) (zs.drop pos) wr R1 (T.below B0) hn1 hn2
      have hby := R1.byte
      cases ho : opn (zs.drop pos) with
      | error c =>
        rw [ho] at KO
        have hc := ne_of_opn ho
        have HE := HS.out.bad hpz ho
        clear ho
        go_wp2_with (go_at_call 46; refine KO.mono ?_; rintro e w1 ⟨rfl, b1⟩)
        go_ret3
        exact ⟨⟨u5, qs, by rw [HE]; first | done | rfl, HO.out.below b1, by rw [HE]; first | done | rfl⟩, B0.trans (b1.mono z0)⟩
      | ok q =>
        obtain ⟨bb, n⟩ := q
        rw [ho] at KO
        have hnp := S.opn_pos ho
        rw [List.length_drop, HLz.out] at hnp
        obtain ⟨hb1, hb2⟩ := opn_body hby ho
        cases hr : openP bb with
        | error c =>
          have HE := HS.out.no hpz ho hr
          have hc : (c != 0) = true := by rcases openP_err hr with rfl | rfl <;> rfl
          clear ho
          go_wp2_with (first
            | (go_at_call 46; refine KO.mono ?_; rintro e w1 ⟨⟨v1, rfl, O1⟩, b1⟩; have KR := read_own O1 hb1 hb2; rw [hr] at KR; obtain ⟨a1, c1, rfl⟩ := S.own_len O1; have B1 := B0.trans (b1.mono z0))
            | (go_at_call 47; refine KR.mono ?_; rintro e w2 ⟨hd2, b2⟩; obtain rfl := hd2; have B2 := B1.trans (b2.mono B1.size))
            | ((with_reducible show wpList _ _ _ (Oper.mk _ (Op.store 24 _ _) _ _ _ _ :: _) _ _); refine wpList_store_row rfl 24 _ _ rfl w2.heap.size zPk8 rfl rfl 24 _ (World.alloc_heap_new _ _) (by kernel_rfl) rfl (by simp [zPk8, Value.oneCell']) ?_))
          go_ret3
          have B3 : Below wr.heap.size wr ((w2.alloc (.cells zPk8 24)).setRow w2.heap.size zPk8) := below_setRow ((b1.trans (b2.mono b1.size)).alloc (b1.trans (b2.mono b1.size)).size _) (b1.trans (b2.mono b1.size)).size _
          exact ⟨⟨u5, qs, by rw [HE]; first | done | rfl, HO.out.below B3, by rw [HE]; first | done | rfl⟩, B0.trans (B3.mono z0)⟩
        | ok p =>
          have HN := HS.out.next hpz ho hr
          clear ho
          go_wp2_with (first
            | (go_at_call 46; refine KO.mono ?_; rintro e w1 ⟨⟨v1, rfl, O1⟩, b1⟩; have KR := read_own O1 hb1 hb2; rw [hr] at KR; obtain ⟨a1, c1, rfl⟩ := S.own_len O1; have B1 := B0.trans (b1.mono z0))
            | (go_at_call 47; refine KR.mono ?_; rintro e w2 ⟨⟨a2, n2, c2, rfl, hag, I2⟩, b2⟩; have B2 := b1.trans (b2.mono b1.size); have z1 := b1.size; have z2 := b2.size)
            | ((with_reducible show wpList _ _ _ (Oper.mk _ (Op.store 24 _ _) _ _ _ _ :: _) _ _); refine wpList_store_row rfl 24 _ _ rfl w2.heap.size (pkc p a2 n2 c2).toArray rfl rfl 24 _ (World.alloc_heap_new _ _) (by kernel_rfl) rfl (by simp [pkc, Value.oneCell']) ?_; obtain ⟨w3, hw3⟩ : ∃ w3, (w2.alloc (.cells zPk8 24)).setRow w2.heap.size (pkc p a2 n2 c2).toArray = w3 := ⟨_, rfl⟩; have B3 : Below wr.heap.size wr w3 := (by rw [← hw3]; exact below_setRow (B2.alloc B2.size _) B2.size _); have P3 : PkB w3 w2.heap.size p a2 n2 c2 := (by rw [← hw3]; exact setRow_heap _ _ _ _ _ _ (World.alloc_heap_new _ _)); have I3 : RowI w3 a2 n2 c2 p.items := (by rw [← hw3]; exact I2.newer (by simp) (fun b hb => (setRow_other _ _ _ _ (by omega)).trans (Below.heap_alloc _ _ _ hb))); have E3 : (w2.alloc (.cells zPk8 24)).setRow w2.heap.size #[.int .i64 p.kind, .int .i64 p.src, .int .i64 p.dst, .int .i64 p.boot, .int .i64 p.life, .int .i64 p.echo, .int .i64 p.echoLife, .slice a2 n2 c2] = w3 := hw3; change wpList _ _ _ _ _ ((w2.alloc (.cells zPk8 24)).setRow w2.heap.size (pkc p a2 n2 c2).toArray); rw [hw3])
            | ((with_reducible show wpList _ _ _ (Oper.mk _ (Op.load 24 _) _ _ _ _ :: _) _ _); refine wpList_load_row rfl 24 _ rfl w2.heap.size rfl #[.int .i64 p.kind, .int .i64 p.src, .int .i64 p.dst, .int .i64 p.boot, .int .i64 p.life, .int .i64 p.echo, .int .i64 p.echoLife, .slice a2 n2 c2] (load_24 P3) ?_)
            | ((with_reducible show wpList _ _ _ (Oper.mk _ (Op.call { callee := Callee.builtin Builtin.append, args := _, argTypes := _ }) _ _ _ _ :: _) _ _); refine wpList_append_own _ rfl _ _ 52 rfl w.heap.size 24 i0 (pkv pkZ none 0 0) 8 80 Tryd.underlying52 hi0 hz0 hz1 hz2 rfl (by decide) u5 qs.length (qs.flatMap PkS.cells) rfl ?_ ⟨w3.heap.size, 0, none⟩ 1 1 (pkc p a2 n2 c2) rfl rfl ?_ ?_ ?_ ?_ ?_ ?_; (exact ((HO.out.below B3).below ((Below.refl _ _).alloc (Nat.le_refl _) _)).own); ((intro j u hj; rw [add_plain, Nat.zero_add]; exact pkAt_new w3 p a2 n2 c2 j u hj)); ((intro u hu; simp [pkc] at hu; rcases hu with rfl | rfl | rfl | rfl | rfl | rfl | rfl | rfl <;> rfl)); ((unfold maxLen; omega)); (omega); ((have := B3.size; simp; omega)); intro v6 w6 own6 hg6 _))
          have z3 := B3.size
          have P6 : OwnP w6 w.heap.size v6 (qs ++ [⟨p, a2, n2, c2⟩]) := (((HO.out.below B3).below ((Below.refl _ _).alloc (Nat.le_refl _) (pkObj p a2 n2 c2))).snoc ⟨p, a2, n2, c2⟩ (I3.alloc _) (hag.imp id fun ⟨g, h, hm⟩ => ⟨g, h, by omega⟩) own6 hg6)
          have B6 : Below w.heap.size w w6 := by
            have B4 : Below w.heap.size w (w3.alloc (pkObj p a2 n2 c2)) := (B0.trans (B3.mono z0)).alloc (Nat.le_trans z0 z3) _
            refine ⟨hg6.os.trans B4.os, hg6.tape.trans B4.tape, hg6.output.trans B4.output, Nat.le_trans B4.size hg6.size, fun b hb => (hg6.block b (Nat.lt_of_lt_of_le hb B4.size) ?_).trans (B4.block b hb)⟩
            intro e
            have := (World.ownsRow.lt HO.out.own b e.symm).1
            omega
          go_roundg (gk - n)
          case measure => omega
          case rel => exact ⟨pos + n, qs ++ [⟨p, a2, n2, c2⟩], by go_num, by omega, by rw [List.length_append]; simp; omega, by exact (show Hid _ from P6), by show AllSt _ _ _; rw [List.map_append]; exact HN, B6⟩
    · obtain rfl : pos = len := by omega
      have HE := HS.out.last (by rw [HLz.out]; omega) HLz.out.symm
      go_wp2
      go_ret3
      exact ⟨⟨u5, qs, by rw [HE]; first | done | rfl, HO.out, by rw [HE]; first | done | rfl⟩, B0⟩
end Go.Proofs.YticmjlnpjopfbaaDoor

namespace Go.Proofs.YticmjlnpjopfbaaDoor
open Go.ChangeShapes Go.WideShapes Go.ChangeAt Go.RowKit
open S (Tab Row Byt opn bv)
set_option linter.unusedVariables false
set_option linter.unusedSimpArgs false

set_option maxRecDepth 100000 in
set_option maxHeartbeats 8000000 in
theorem rall_any (a : Option Addr) (len cap : Nat) (zs : List Int) (w : World) (R : Row .u8 w a len cap zs) (hl : len ≤ 1099511627776) (hcap : cap ≤ 9223372036854775807) :
    Calls Tryd.prog 25 #[.slice a len cap] w fun e w' => AllOut w.heap.size w' zs e ∧ Below w.heap.size w w' := by
  have HLz : Hid (zs.length = len) := R.size
  have hle := R.le
  have HBy : Hid (Byt zs) := R.byte
  obtain ⟨i0, hi0, hz0, hz1, hz2⟩ := info_parts info24
  go_enter Tryd.func25, Tryd.ntmps25
  go_wp2
  go_loopg [5, 6] len (fun g v5 v6 wr => ∃ (pos : Nat) (qs : List PkS), v6 = .int .i64 (pos : Int) ∧ pos + g = len ∧ qs.length ≤ pos ∧ Hid (OwnP wr w.heap.size v5 qs) ∧ Hid (AllSt zs (qs.map PkS.p) pos) ∧ Hid (Below w.heap.size w wr))
  case atStart => exact ⟨0, [], rfl, by omega, by simp, OwnP.start _ _, AllSt.start _, Below.refl _ _⟩
  case round =>
    obtain ⟨pos, qs, rfl, hg, hqp, HO, HS, HB⟩ := hrel
    have B0 := HB.out
    have z0 := B0.size
    by_cases hp : pos < len
    · have hpI : (pos : Int) < (len : Int) := by omega
      have hpz : pos < zs.length := by rw [HLz.out]; exact hp
      obtain ⟨b0, o0, rfl⟩ : ∃ b0 o0, a = some ⟨b0, o0, none⟩ := by
        rcases R.mem with h | ⟨b0, o0, h, _⟩
        · omega
        · exact ⟨b0, o0, h⟩
      have hc1 : ¬ (cap = pos) := by omega
      have R1 : Row .u8 wr (some ⟨b0, o0 + pos, none⟩) (len - pos) (cap - pos) (zs.drop pos) := by
        have h := (R.part pos len (by omega) (Nat.le_refl _)).below B0
        rw [add_plain, List.take_of_length_le (by rw [List.length_drop, HLz.out]; omega)] at h
        exact h
      have hn1 : len - pos ≤ 140737488355328 := by omega
      have hn2 : cap - pos ≤ 9223372036854775807 := by omega
      have KO := S.ropen_any (some ⟨b0, o0 + pos, none⟩) (len - pos) (cap - pos) (zs.drop pos) wr R1 hn1 hn2
      have hby := R1.byte
      cases ho : opn (zs.drop pos) with
      | error c =>
        rw [ho] at KO
        have hc := ne_of_opn ho
        have HE := HS.out.bad hpz ho
        clear ho
        go_wp2_with (go_at_call 48; refine KO.mono ?_; rintro e w1 ⟨rfl, b1⟩)
        go_ret3
        exact ⟨⟨u5, qs, by rw [HE]; first | done | rfl, HO.out.below b1, by rw [HE]; first | done | rfl⟩, B0.trans (b1.mono z0)⟩
      | ok q =>
        obtain ⟨bb, n⟩ := q
        rw [ho] at KO
        have hnp := S.opn_pos ho
        rw [List.length_drop, HLz.out] at hnp
        obtain ⟨hb1, hb2⟩ := opn_body hby ho
        cases hr : openP bb with
        | error c =>
          have HE := HS.out.no hpz ho hr
          have hc : (c != 0) = true := by rcases openP_err hr with rfl | rfl <;> rfl
          clear ho
          go_wp2_with (first
            | (go_at_call 48; refine KO.mono ?_; rintro e w1 ⟨⟨v1, rfl, O1⟩, b1⟩; have KR := ropen_own O1 hb1 hb2; rw [hr] at KR; obtain ⟨a1, c1, rfl⟩ := S.own_len O1; have B1 := B0.trans (b1.mono z0))
            | (go_at_call 49; refine KR.mono ?_; rintro e w2 ⟨hd2, b2⟩; obtain rfl := hd2; have B2 := B1.trans (b2.mono B1.size))
            | ((with_reducible show wpList _ _ _ (Oper.mk _ (Op.store 24 _ _) _ _ _ _ :: _) _ _); refine wpList_store_row rfl 24 _ _ rfl w2.heap.size zPk8 rfl rfl 24 _ (World.alloc_heap_new _ _) (by kernel_rfl) rfl (by simp [zPk8, Value.oneCell']) ?_))
          go_ret3
          have B3 : Below wr.heap.size wr ((w2.alloc (.cells zPk8 24)).setRow w2.heap.size zPk8) := below_setRow ((b1.trans (b2.mono b1.size)).alloc (b1.trans (b2.mono b1.size)).size _) (b1.trans (b2.mono b1.size)).size _
          exact ⟨⟨u5, qs, by rw [HE]; first | done | rfl, HO.out.below B3, by rw [HE]; first | done | rfl⟩, B0.trans (B3.mono z0)⟩
        | ok p =>
          have HN := HS.out.next hpz ho hr
          clear ho
          go_wp2_with (first
            | (go_at_call 48; refine KO.mono ?_; rintro e w1 ⟨⟨v1, rfl, O1⟩, b1⟩; have KR := ropen_own O1 hb1 hb2; rw [hr] at KR; obtain ⟨a1, c1, rfl⟩ := S.own_len O1; have B1 := B0.trans (b1.mono z0))
            | (go_at_call 49; refine KR.mono ?_; rintro e w2 ⟨⟨a2, n2, c2, rfl, hag, I2⟩, b2⟩; have B2 := b1.trans (b2.mono b1.size); have z1 := b1.size; have z2 := b2.size)
            | ((with_reducible show wpList _ _ _ (Oper.mk _ (Op.store 24 _ _) _ _ _ _ :: _) _ _); refine wpList_store_row rfl 24 _ _ rfl w2.heap.size (pkc p a2 n2 c2).toArray rfl rfl 24 _ (World.alloc_heap_new _ _) (by kernel_rfl) rfl (by simp [pkc, Value.oneCell']) ?_; obtain ⟨w3, hw3⟩ : ∃ w3, (w2.alloc (.cells zPk8 24)).setRow w2.heap.size (pkc p a2 n2 c2).toArray = w3 := ⟨_, rfl⟩; have B3 : Below wr.heap.size wr w3 := (by rw [← hw3]; exact below_setRow (B2.alloc B2.size _) B2.size _); have P3 : PkB w3 w2.heap.size p a2 n2 c2 := (by rw [← hw3]; exact setRow_heap _ _ _ _ _ _ (World.alloc_heap_new _ _)); have I3 : RowI w3 a2 n2 c2 p.items := (by rw [← hw3]; exact I2.newer (by simp) (fun b hb => (setRow_other _ _ _ _ (by omega)).trans (Below.heap_alloc _ _ _ hb))); have E3 : (w2.alloc (.cells zPk8 24)).setRow w2.heap.size #[.int .i64 p.kind, .int .i64 p.src, .int .i64 p.dst, .int .i64 p.boot, .int .i64 p.life, .int .i64 p.echo, .int .i64 p.echoLife, .slice a2 n2 c2] = w3 := hw3; change wpList _ _ _ _ _ ((w2.alloc (.cells zPk8 24)).setRow w2.heap.size (pkc p a2 n2 c2).toArray); rw [hw3])
            | ((with_reducible show wpList _ _ _ (Oper.mk _ (Op.load 24 _) _ _ _ _ :: _) _ _); refine wpList_load_row rfl 24 _ rfl w2.heap.size rfl #[.int .i64 p.kind, .int .i64 p.src, .int .i64 p.dst, .int .i64 p.boot, .int .i64 p.life, .int .i64 p.echo, .int .i64 p.echoLife, .slice a2 n2 c2] (load_24 P3) ?_)
            | ((with_reducible show wpList _ _ _ (Oper.mk _ (Op.call { callee := Callee.builtin Builtin.append, args := _, argTypes := _ }) _ _ _ _ :: _) _ _); refine wpList_append_own _ rfl _ _ 52 rfl w.heap.size 24 i0 (pkv pkZ none 0 0) 8 80 Tryd.underlying52 hi0 hz0 hz1 hz2 rfl (by decide) u5 qs.length (qs.flatMap PkS.cells) rfl ?_ ⟨w3.heap.size, 0, none⟩ 1 1 (pkc p a2 n2 c2) rfl rfl ?_ ?_ ?_ ?_ ?_ ?_; (exact ((HO.out.below B3).below ((Below.refl _ _).alloc (Nat.le_refl _) _)).own); ((intro j u hj; rw [add_plain, Nat.zero_add]; exact pkAt_new w3 p a2 n2 c2 j u hj)); ((intro u hu; simp [pkc] at hu; rcases hu with rfl | rfl | rfl | rfl | rfl | rfl | rfl | rfl <;> rfl)); ((unfold maxLen; omega)); (omega); ((have := B3.size; simp; omega)); intro v6 w6 own6 hg6 _))
          have z3 := B3.size
          have P6 : OwnP w6 w.heap.size v6 (qs ++ [⟨p, a2, n2, c2⟩]) := (((HO.out.below B3).below ((Below.refl _ _).alloc (Nat.le_refl _) (pkObj p a2 n2 c2))).snoc ⟨p, a2, n2, c2⟩ (I3.alloc _) (hag.imp id fun ⟨g, h, hm⟩ => ⟨g, h, by omega⟩) own6 hg6)
          have B6 : Below w.heap.size w w6 := by
            have B4 : Below w.heap.size w (w3.alloc (pkObj p a2 n2 c2)) := (B0.trans (B3.mono z0)).alloc (Nat.le_trans z0 z3) _
            refine ⟨hg6.os.trans B4.os, hg6.tape.trans B4.tape, hg6.output.trans B4.output, Nat.le_trans B4.size hg6.size, fun b hb => (hg6.block b (Nat.lt_of_lt_of_le hb B4.size) ?_).trans (B4.block b hb)⟩
            intro e
            have := (World.ownsRow.lt HO.out.own b e.symm).1
            omega
          go_roundg (gk - n)
          case measure => omega
          case rel => exact ⟨pos + n, qs ++ [⟨p, a2, n2, c2⟩], by go_num, by omega, by rw [List.length_append]; simp; omega, by exact (show Hid _ from P6), by show AllSt _ _ _; rw [List.map_append]; exact HN, B6⟩
    · obtain rfl : pos = len := by omega
      have HE := HS.out.last (by rw [HLz.out]; omega) HLz.out.symm
      go_wp2
      go_ret3
      exact ⟨⟨u5, qs, by rw [HE]; first | done | rfl, HO.out, by rw [HE]; first | done | rfl⟩, B0⟩
end Go.Proofs.YticmjlnpjopfbaaDoor

namespace Go.Proofs.YticmjlnpjopfbaaDoor
open Go.ChangeShapes Go.WideShapes Go.ChangeAt Go.RowKit
open S (Row)
set_option linter.unusedVariables false
theorem cells5 : Tryd.prog.cellsOf 5 = 1 := by kernel_rfl
theorem row_mk {kd : IntKind} {w : World} {x : Addr} {len cap : Nat} {zs : List Int} (hl : len ≤ cap) (hz : zs.length = cap)
    (hcell : ∀ i, i < zs.length → w.cell? (x.add i) = some (.int kd (zs.getD i 0))) (hwz : ∀ n ∈ zs, (Lit.int kd n).wf = true) : Row kd w (some x) len cap (zs.take len) where
  size := by simp; omega
  le := hl
  nil := fun h => by cases h
  wf := fun n hn => hwz n (List.mem_of_mem_take hn)
  mem := by
    by_cases h0 : len = 0
    · exact .inl h0
    · obtain ⟨b, off, spot⟩ := x
      have hc := hcell 0 (by omega)
      have hspot : spot = none := by simpa [Addr.add] using World.cell?_spot hc
      subst hspot
      refine .inr ⟨b, off, rfl, World.block_lt_of_cell? _ _ hc, fun k hk => ?_⟩
      have hc2 := hcell k (by omega)
      have hplain : (⟨b, off, none⟩ : Addr).add k = ⟨b, off + k, none⟩ := by unfold Addr.add; split <;> simp_all
      rw [← hplain, hc2, List.getD_eq_getElem?_getD, List.getD_eq_getElem?_getD, List.getElem?_take, if_pos hk]

end Go.Proofs.YticmjlnpjopfbaaDoor

namespace Go.Proofs.YticmjlnpjopfbaaDoor
open Go.ChangeShapes Go.WideShapes Go.ChangeAt Go.RowKit
set_option linter.unusedVariables false

theorem cell_int {P : Program} {w : World} {r : Reach} {b t : Nat} {k : IntKind} {v : Value} (ht : P.underlying t = some (.int k)) (h : Cell.okWide P w r b t v) : ∃ n, v = .int k n ∧ k.has n := by
  simp only [Cell.okWide, Cell.ok, ht] at h
  cases v <;> simp_all
theorem cell_bool {P : Program} {w : World} {r : Reach} {b t : Nat} {v : Value} (ht : P.underlying t = some .bool) (h : Cell.okWide P w r b t v) : ∃ n, v = .bool n := by
  simp only [Cell.okWide, Cell.ok, ht] at h
  cases v <;> simp_all
theorem cell_string {P : Program} {w : World} {r : Reach} {b t : Nat} {v : Value} (ht : P.underlying t = some .string) (h : Cell.okWide P w r b t v) : ∃ n, v = .string n ∧ (n.size : Int) ≤ IntKind.i64.max := by
  simp only [Cell.okWide, Cell.ok, ht] at h
  cases v <;> simp_all
theorem okWide_cell {P : Program} {w : World} {r : Reach} {b t : Nat} {v : Value} (h : Value.okWide P w r b t v) (ht : (match P.underlying t with | some (.struct _) => false | some (.array _ _) => false | _ => true) = true) : Cell.okWide P w r b t v := by
  unfold Value.okWide at h
  split at h <;> simp_all

/-- The numbers of an item are 64 bits wide. -/
structure itWf (x : Itm) : Prop where
  name : (x.name.size : Int) ≤ IntKind.i64.max
  epoch : IntKind.i64.has x.epoch
  maker : IntKind.i64.has x.maker
  kind : IntKind.i64.has x.kind
  scale : IntKind.i64.has x.scale
  ver : IntKind.i64.has x.ver
  writer : IntKind.i64.has x.writer
  flow : IntKind.i64.has x.flow
  rest : IntKind.i64.has x.rest
  mnv : IntKind.i64.has x.mn.value
  mno : IntKind.i64.has x.mn.origin
  mna : IntKind.i64.has x.mn.age
  mxv : IntKind.i64.has x.mx.value
  mxo : IntKind.i64.has x.mx.origin
  mxa : IntKind.i64.has x.mx.age
theorem cells38 : Tryd.prog.cellsOf 38 = 19 := by kernel_rfl
theorem types38 : Tryd.prog.cellTypes Tryd.prog.depth 38 = some [9, 2, 3, 4, 3, 2, 2, 3, 2, 4, 2, 4, 2, 3, 2, 4, 2, 3, 2] := by kernel_rfl
set_option maxRecDepth 100000 in
theorem open_item {w : World} {r : Reach} {b : Nat} {v : Value} (h : Value.okWide Tryd.prog w r b 38 v) : ∃ x : Itm, v = itv x ∧ itWf x := by
  simp only [Value.okWide, Tryd.underlying38] at h
  obtain ⟨cs, rfl, hsz, ts, hts, _, hc⟩ := h
  rw [cells38] at hsz
  rw [types38] at hts
  cases hts
  have key : ∀ (i : Nat) (t : Nat), i < 19 → [9, 2, 3, 4, 3, 2, 2, 3, 2, 4, 2, 4, 2, 3, 2, 4, 2, 3, 2][i]? = some t → ∃ v, cs[i]? = some v ∧ Cell.okWide Tryd.prog w r b t v := by
    intro i t hi ht
    have hlt : i < cs.size := by rw [hsz]; exact hi
    obtain ⟨u, hu, hk⟩ := hc i (cs[i]'hlt) (Array.getElem?_eq_getElem hlt)
    rw [show ([9, 2, 3, 4, 3, 2, 2, 3, 2, 4, 2, 4, 2, 3, 2, 4, 2, 3, 2] : List Nat).length = 19 from rfl, Nat.mod_eq_of_lt hi, ht] at hu
    cases hu
    exact ⟨_, Array.getElem?_eq_getElem hlt, hk⟩
  obtain ⟨v0, c0, k0⟩ := key 0 9 (by omega) rfl
  obtain ⟨v1, c1, k1⟩ := key 1 2 (by omega) rfl
  obtain ⟨v2, c2, k2⟩ := key 2 3 (by omega) rfl
  obtain ⟨v3, c3, k3⟩ := key 3 4 (by omega) rfl
  obtain ⟨v4, c4, k4⟩ := key 4 3 (by omega) rfl
  obtain ⟨v5, c5, k5⟩ := key 5 2 (by omega) rfl
  obtain ⟨v6, c6, k6⟩ := key 6 2 (by omega) rfl
  obtain ⟨v7, c7, k7⟩ := key 7 3 (by omega) rfl
  obtain ⟨v8, c8, k8⟩ := key 8 2 (by omega) rfl
  obtain ⟨v9, c9, k9⟩ := key 9 4 (by omega) rfl
  obtain ⟨v10, c10, k10⟩ := key 10 2 (by omega) rfl
  obtain ⟨v11, c11, k11⟩ := key 11 4 (by omega) rfl
  obtain ⟨v12, c12, k12⟩ := key 12 2 (by omega) rfl
  obtain ⟨v13, c13, k13⟩ := key 13 3 (by omega) rfl
  obtain ⟨v14, c14, k14⟩ := key 14 2 (by omega) rfl
  obtain ⟨v15, c15, k15⟩ := key 15 4 (by omega) rfl
  obtain ⟨v16, c16, k16⟩ := key 16 2 (by omega) rfl
  obtain ⟨v17, c17, k17⟩ := key 17 3 (by omega) rfl
  obtain ⟨v18, c18, k18⟩ := key 18 2 (by omega) rfl
  obtain ⟨x0, rfl, h0⟩ := cell_string Tryd.underlying9 k0
  obtain ⟨x1, rfl, h1⟩ := cell_int Tryd.underlying2 k1
  obtain ⟨x2, rfl, h2⟩ := cell_int Tryd.underlying3 k2
  obtain ⟨x3, rfl⟩ := cell_bool Tryd.underlying4 k3
  obtain ⟨x4, rfl, h4⟩ := cell_int Tryd.underlying3 k4
  obtain ⟨x5, rfl, h5⟩ := cell_int Tryd.underlying2 k5
  obtain ⟨x6, rfl, h6⟩ := cell_int Tryd.underlying2 k6
  obtain ⟨x7, rfl, h7⟩ := cell_int Tryd.underlying3 k7
  obtain ⟨x8, rfl, h8⟩ := cell_int Tryd.underlying2 k8
  obtain ⟨x9, rfl⟩ := cell_bool Tryd.underlying4 k9
  obtain ⟨x10, rfl, h10⟩ := cell_int Tryd.underlying2 k10
  obtain ⟨x11, rfl⟩ := cell_bool Tryd.underlying4 k11
  obtain ⟨x12, rfl, h12⟩ := cell_int Tryd.underlying2 k12
  obtain ⟨x13, rfl, h13⟩ := cell_int Tryd.underlying3 k13
  obtain ⟨x14, rfl, h14⟩ := cell_int Tryd.underlying2 k14
  obtain ⟨x15, rfl⟩ := cell_bool Tryd.underlying4 k15
  obtain ⟨x16, rfl, h16⟩ := cell_int Tryd.underlying2 k16
  obtain ⟨x17, rfl, h17⟩ := cell_int Tryd.underlying3 k17
  obtain ⟨x18, rfl, h18⟩ := cell_int Tryd.underlying2 k18
  refine ⟨⟨x0, x1, x2, x3, x4, x5, x6, x7, x8, x9, x10, ⟨x11, x12, x13, x14⟩, ⟨x15, x16, x17, x18⟩⟩, ?_, ⟨h0, h1, h2, h4, h5, h6, h7, h8, h10, h12, h13, h14, h16, h17, h18⟩⟩
  have e : cs = (itc ⟨x0, x1, x2, x3, x4, x5, x6, x7, x8, x9, x10, ⟨x11, x12, x13, x14⟩, ⟨x15, x16, x17, x18⟩⟩).toArray := by
    apply Array.ext_getElem?
    intro i
    by_cases hi : i < 19
    · match i, hi with
      | 0, _ => exact c0
      | 1, _ => exact c1
      | 2, _ => exact c2
      | 3, _ => exact c3
      | 4, _ => exact c4
      | 5, _ => exact c5
      | 6, _ => exact c6
      | 7, _ => exact c7
      | 8, _ => exact c8
      | 9, _ => exact c9
      | 10, _ => exact c10
      | 11, _ => exact c11
      | 12, _ => exact c12
      | 13, _ => exact c13
      | 14, _ => exact c14
      | 15, _ => exact c15
      | 16, _ => exact c16
      | 17, _ => exact c17
      | 18, _ => exact c18
      | n + 19, h => exact absurd h (by omega)
    · rw [Array.getElem?_eq_none (by omega), Array.getElem?_eq_none (by simp [itc]; omega)]
  rw [e]
  rfl

end Go.Proofs.YticmjlnpjopfbaaDoor

namespace Go.Proofs.YticmjlnpjopfbaaDoor
open Go.ChangeShapes Go.WideShapes Go.ChangeAt Go.RowKit Go.Deep
set_option linter.unusedVariables false
set_option linter.unusedSimpArgs false
set_option maxRecDepth 100000

theorem cn2 : Tryd.prog.cellsOf 2 = 1 := by kernel_rfl
theorem cn3 : Tryd.prog.cellsOf 3 = 1 := by kernel_rfl
theorem cn4 : Tryd.prog.cellsOf 4 = 1 := by kernel_rfl
theorem cn9 : Tryd.prog.cellsOf 9 = 1 := by kernel_rfl
theorem cn32 : Tryd.prog.cellsOf 32 = 6 := by kernel_rfl
theorem cn34 : Tryd.prog.cellsOf 34 = 3 := by kernel_rfl
theorem cn36 : Tryd.prog.cellsOf 36 = 4 := by kernel_rfl
theorem cn38 : Tryd.prog.cellsOf 38 = 19 := by kernel_rfl
theorem wf_bd {n : Int} (h : (Lit.int .i64 n).wf = true) : -9223372036854775808 ≤ n ∧ n ≤ 9223372036854775807 := by
  have h2 : IntKind.i64.max = 9223372036854775807 := rfl
  have h3 : IntKind.i64.min = -9223372036854775808 := rfl
  simp only [Lit.wf, Bool.and_eq_true, decide_eq_true_eq, h2, h3] at h
  exact h

section
variable {H : Type} {enc : TypeId × Value → H} {W : World} {base n : Nat} {sp : Nat → Bool} {held : Bool} {x : DataW H × List MemPlace}
theorem open_chan {v0 v1 v2 v3 v4 v5 : Value} (h : DataW.trod enc Tryd.prog W base sp held n 32 [v0, v1, v2, v3, v4, v5] = some x) :
    ∃ (x0 : ByteArray) (x1 : Int) (x2 : Int) (x3 : Bool) (x4 : Int) (x5 : Int), (v0 = .string x0 ∧ v1 = .int .i64 x1 ∧ v2 = .int .i64 x2 ∧ v3 = .bool x3 ∧ v4 = .int .i64 x4 ∧ v5 = .int .i64 x5) ∧ ((-9223372036854775808 ≤ x1 ∧ x1 ≤ 9223372036854775807) ∧ (-9223372036854775808 ≤ x2 ∧ x2 ≤ 9223372036854775807) ∧ (-9223372036854775808 ≤ x4 ∧ x4 ≤ 9223372036854775807) ∧ (-9223372036854775808 ≤ x5 ∧ x5 ≤ 9223372036854775807)) := by
  obtain ⟨xs, k, hk, hxy, _, hxl, hf⟩ := DataW.trod_struct Tryd.underlying32 h
  match xs, hxl with
  | [y0, y1, y2, y3, y4, y5], _ =>
  have e0 := hf 0 _ rfl
  have e1 := hf 1 _ rfl
  have e2 := hf 2 _ rfl
  have e3 := hf 3 _ rfl
  have e4 := hf 4 _ rfl
  have e5 := hf 5 _ rfl
  simp [cn9] at e0
  simp [cn2] at e1
  simp [cn3] at e2
  simp [cn4] at e3
  simp [cn3] at e4
  simp [cn2] at e5
  obtain ⟨x0, q0, _, w0⟩ := DataW.trod_string Tryd.underlying9 e0
  obtain ⟨x1, q1, _, w1⟩ := DataW.trod_int Tryd.underlying2 e1
  obtain ⟨x2, q2, _, w2⟩ := DataW.trod_int Tryd.underlying3 e2
  obtain ⟨x3, q3, _⟩ := DataW.trod_bool Tryd.underlying4 e3
  obtain ⟨x4, q4, _, w4⟩ := DataW.trod_int Tryd.underlying3 e4
  obtain ⟨x5, q5, _, w5⟩ := DataW.trod_int Tryd.underlying2 e5
  simp at q0 q1 q2 q3 q4 q5
  exact ⟨x0, x1, x2, x3, x4, x5, ⟨q0, q1, q2, q3, q4, q5⟩, wf_bd w1, wf_bd w2, wf_bd w4, wf_bd w5⟩
theorem open_reg {v0 v1 v2 : Value} (h : DataW.trod enc Tryd.prog W base sp held n 34 [v0, v1, v2] = some x) :
    ∃ (x0 : Int) (x1 : Int) (x2 : Int), (v0 = .int .i64 x0 ∧ v1 = .int .i64 x1 ∧ v2 = .int .i64 x2) ∧ ((-9223372036854775808 ≤ x0 ∧ x0 ≤ 9223372036854775807) ∧ (-9223372036854775808 ≤ x1 ∧ x1 ≤ 9223372036854775807) ∧ (-9223372036854775808 ≤ x2 ∧ x2 ≤ 9223372036854775807)) := by
  obtain ⟨xs, k, hk, hxy, _, hxl, hf⟩ := DataW.trod_struct Tryd.underlying34 h
  match xs, hxl with
  | [y0, y1, y2], _ =>
  have e0 := hf 0 _ rfl
  have e1 := hf 1 _ rfl
  have e2 := hf 2 _ rfl
  simp [cn2] at e0
  simp [cn3] at e1
  simp [cn2] at e2
  obtain ⟨x0, q0, _, w0⟩ := DataW.trod_int Tryd.underlying2 e0
  obtain ⟨x1, q1, _, w1⟩ := DataW.trod_int Tryd.underlying3 e1
  obtain ⟨x2, q2, _, w2⟩ := DataW.trod_int Tryd.underlying2 e2
  simp at q0 q1 q2
  exact ⟨x0, x1, x2, ⟨q0, q1, q2⟩, wf_bd w0, wf_bd w1, wf_bd w2⟩
theorem open_ext {v0 v1 v2 v3 : Value} (h : DataW.trod enc Tryd.prog W base sp held n 36 [v0, v1, v2, v3] = some x) :
    ∃ (x0 : Bool) (x1 : Int) (x2 : Int) (x3 : Int), (v0 = .bool x0 ∧ v1 = .int .i64 x1 ∧ v2 = .int .i64 x2 ∧ v3 = .int .i64 x3) ∧ ((-9223372036854775808 ≤ x1 ∧ x1 ≤ 9223372036854775807) ∧ (-9223372036854775808 ≤ x2 ∧ x2 ≤ 9223372036854775807) ∧ (-9223372036854775808 ≤ x3 ∧ x3 ≤ 9223372036854775807)) := by
  obtain ⟨xs, k, hk, hxy, _, hxl, hf⟩ := DataW.trod_struct Tryd.underlying36 h
  match xs, hxl with
  | [y0, y1, y2, y3], _ =>
  have e0 := hf 0 _ rfl
  have e1 := hf 1 _ rfl
  have e2 := hf 2 _ rfl
  have e3 := hf 3 _ rfl
  simp [cn4] at e0
  simp [cn2] at e1
  simp [cn3] at e2
  simp [cn2] at e3
  obtain ⟨x0, q0, _⟩ := DataW.trod_bool Tryd.underlying4 e0
  obtain ⟨x1, q1, _, w1⟩ := DataW.trod_int Tryd.underlying2 e1
  obtain ⟨x2, q2, _, w2⟩ := DataW.trod_int Tryd.underlying3 e2
  obtain ⟨x3, q3, _, w3⟩ := DataW.trod_int Tryd.underlying2 e3
  simp at q0 q1 q2 q3
  exact ⟨x0, x1, x2, x3, ⟨q0, q1, q2, q3⟩, wf_bd w1, wf_bd w2, wf_bd w3⟩
structure itBd (x : Itm) : Prop where
  epoch : -9223372036854775808 ≤ x.epoch ∧ x.epoch ≤ 9223372036854775807
  rg : itRg x
theorem open_itm {v0 v1 v2 v3 v4 v5 v6 v7 v8 v9 v10 v11 v12 v13 v14 v15 v16 v17 v18 : Value} (h : DataW.trod enc Tryd.prog W base sp held n 38 [v0, v1, v2, v3, v4, v5, v6, v7, v8, v9, v10, v11, v12, v13, v14, v15, v16, v17, v18] = some x) : ∃ y : Itm, [v0, v1, v2, v3, v4, v5, v6, v7, v8, v9, v10, v11, v12, v13, v14, v15, v16, v17, v18] = itc y ∧ itRg y := by
  obtain ⟨xs, k, hk, hxy, _, hxl, hf⟩ := DataW.trod_struct Tryd.underlying38 h
  match xs, hxl with
  | [y0, y1, y2, y3, y4, y5], _ =>
  have e0 := hf 0 _ rfl
  have e1 := hf 1 _ rfl
  have e2 := hf 2 _ rfl
  have e3 := hf 3 _ rfl
  have e4 := hf 4 _ rfl
  have e5 := hf 5 _ rfl
  simp [cn32] at e0
  simp [cn34] at e1
  simp [cn4] at e2
  simp [cn2] at e3
  simp [cn36] at e4
  simp [cn36] at e5
  obtain ⟨c0, c1, c2, c3, c4, c5, ⟨rfl, rfl, rfl, rfl, rfl, rfl⟩, _⟩ := open_chan e0
  obtain ⟨r0, r1, r2, ⟨rfl, rfl, rfl⟩, _, _, hr2⟩ := open_reg e1
  obtain ⟨hr, q2, _⟩ := DataW.trod_bool Tryd.underlying4 e2
  obtain ⟨re, q3, _, w3⟩ := DataW.trod_int Tryd.underlying2 e3
  obtain ⟨m0, m1, m2, m3, ⟨rfl, rfl, rfl, rfl⟩, hm1, _⟩ := open_ext e4
  obtain ⟨k0, k1, k2, k3, ⟨rfl, rfl, rfl, rfl⟩, hk1, _⟩ := open_ext e5
  simp at q2 q3
  subst q2 q3
  exact ⟨⟨c0, c1, c2, c3, c4, c5, r0, r1, r2, hr, re, ⟨m0, m1, m2, m3⟩, ⟨k0, k1, k2, k3⟩⟩, rfl, ⟨hr2, wf_bd w3, hm1, hk1⟩⟩
theorem list19 {α : Type} {l : List α} (h : l.length = 19) : ∃ v0 v1 v2 v3 v4 v5 v6 v7 v8 v9 v10 v11 v12 v13 v14 v15 v16 v17 v18, l = [v0, v1, v2, v3, v4, v5, v6, v7, v8, v9, v10, v11, v12, v13, v14, v15, v16, v17, v18] := by
  match l, h with
  | [v0, v1, v2, v3, v4, v5, v6, v7, v8, v9, v10, v11, v12, v13, v14, v15, v16, v17, v18], _ => exact ⟨v0, v1, v2, v3, v4, v5, v6, v7, v8, v9, v10, v11, v12, v13, v14, v15, v16, v17, v18, rfl⟩
end

/-- The items of a packet that came in; sl: what the bound on all that came in says of them. -/
theorem open_its {H : Type} {enc : TypeId × Value → H} {W : World} {fuel : Nat} {v : Value} {x : DataW H × List MemPlace}
    (hf : DataW.trod enc Tryd.prog W 0 (fun _ => true) true fuel 22 [v] = some x) : ∃ (a : Option Addr) (len cap : Nat) (its : List Itm), v = .slice a len cap ∧ RowI W a len cap its ∧ (∀ y ∈ its, itRg y) ∧ (cap = 0 ∨ cap * 160 ∈ x.1.weights Tryd.prog 22) := by
  rcases open_slice Tryd.underlying22 hf with ⟨hcs, hx⟩ | ⟨ad, l, c, m, n, D, Pl, hcs, _, hl, hm, hmm, hx, hel⟩
  · simp at hcs
    subst hcs
    exact ⟨none, 0, 0, [], rfl, rowI_nil W, fun y hy => (by simp at hy), .inl rfl⟩
  · simp at hcs
    subst hcs
    have hmc : m = c := by simpa using hmm
    subst hmc
    rw [cn38] at hel
    have each : ∀ i, i < m → ∃ y : Itm, (∀ j v, (itc y)[j]? = some v → W.cell? ((ad.add (i * 19)).add j) = some v) ∧ itRg y := by
      intro i hi
      obtain ⟨cs', h1, h2⟩ := hel i hi
      obtain ⟨_, hlen, hcell⟩ := World.cells?_some h1
      obtain ⟨v0, v1, v2, v3, v4, v5, v6, v7, v8, v9, v10, v11, v12, v13, v14, v15, v16, v17, v18, rfl⟩ := list19 hlen
      obtain ⟨y, hy, hg⟩ := open_itm h2
      refine ⟨y, fun j v hj => ?_, hg⟩
      have hjl : j < 19 := (List.getElem?_eq_some_iff.1 hj).1
      have hc := hcell j hjl
      rw [hy] at hc
      rw [hc]
      exact hj
    haveI : Inhabited Itm := ⟨itZ⟩
    obtain ⟨F, hF⟩ := choose_lt each
    refine ⟨some ad, l, m, (List.range l).map F, rfl, ⟨by simp, hl, by unfold maxLen at hm; omega, fun h => (by cases h), ?_⟩, ?_, .inr ?_⟩
    · by_cases h0 : l = 0
      · exact .inl h0
      · obtain ⟨b, off, spot⟩ := ad
        have hc := (hF 0 (by omega)).1 0 _ rfl
        have hspot : spot = none := by simpa [Addr.add] using World.cell?_spot hc
        subst hspot
        refine .inr ⟨b, off, rfl, World.block_lt_of_cell? _ _ hc, fun j hj => ?_⟩
        have hget : ((List.range l).map F).getD j itZ = F j := by simp [List.getD, hj]
        rw [hget]
        intro i v hv
        have := (hF j (by omega)).1 i v hv
        rw [add_plain, add_plain] at this
        exact this
    · intro y hy
      obtain ⟨i, hi, rfl⟩ := List.mem_map.1 hy
      exact (hF i (by have := List.mem_range.1 hi; omega)).2
    · rw [hx]
      simp only [DataW.weights, Tryd.underlying22, List.length_map, List.length_range]
      rw [show Tryd.prog.bytesOf 38 = 160 by kernel_rfl, show l + (m - l) = m by omega]
      exact List.mem_cons_self
theorem list8 {α : Type} {l : List α} (h : l.length = 8) : ∃ v0 v1 v2 v3 v4 v5 v6 v7, l = [v0, v1, v2, v3, v4, v5, v6, v7] := by
  match l, h with
  | [v0, v1, v2, v3, v4, v5, v6, v7], _ => exact ⟨v0, v1, v2, v3, v4, v5, v6, v7, rfl⟩
/-- A packet that came in. -/
theorem open_pkc {H : Type} {enc : TypeId × Value → H} {W : World} {fuel : Nat} {cs : List Value} {x : DataW H × List MemPlace} (hl : cs.length = 8)
    (hf : DataW.trod enc Tryd.prog W 0 (fun _ => true) true fuel 24 cs = some x) : ∃ (p : Pkt) (a : Option Addr) (len cap : Nat), cs = [.int .i64 p.kind, .int .i64 p.src, .int .i64 p.dst, .int .i64 p.boot, .int .i64 p.life, .int .i64 p.echo, .int .i64 p.echoLife, .slice a len cap] ∧ RowI W a len cap p.items ∧ (∀ y ∈ p.items, itRg y) ∧ (cap = 0 ∨ cap * 160 ∈ x.1.weights Tryd.prog 24) := by
  obtain ⟨v0, v1, v2, v3, v4, v5, v6, v7, rfl⟩ := list8 hl
  obtain ⟨xs, k, hk, hxy, _, hxl, hg⟩ := DataW.trod_struct Tryd.underlying24 hf
  match xs, hxl with
  | [y0, y1, y2, y3, y4, y5, y6, y7], _ =>
  have e0 := hg 0 _ rfl
  have e1 := hg 1 _ rfl
  have e2 := hg 2 _ rfl
  have e3 := hg 3 _ rfl
  have e4 := hg 4 _ rfl
  have e5 := hg 5 _ rfl
  have e6 := hg 6 _ rfl
  have e7 := hg 7 _ rfl
  simp [cn3] at e0 e1 e2
  simp [cn2] at e3 e4 e5 e6
  simp [show Tryd.prog.cellsOf 22 = 1 by kernel_rfl] at e7
  obtain ⟨x0, q0, _, _⟩ := DataW.trod_int Tryd.underlying3 e0
  obtain ⟨x1, q1, _, _⟩ := DataW.trod_int Tryd.underlying3 e1
  obtain ⟨x2, q2, _, _⟩ := DataW.trod_int Tryd.underlying3 e2
  obtain ⟨x3, q3, _, _⟩ := DataW.trod_int Tryd.underlying2 e3
  obtain ⟨x4, q4, _, _⟩ := DataW.trod_int Tryd.underlying2 e4
  obtain ⟨x5, q5, _, _⟩ := DataW.trod_int Tryd.underlying2 e5
  obtain ⟨x6, q6, _, _⟩ := DataW.trod_int Tryd.underlying2 e6
  simp at q0 q1 q2 q3 q4 q5 q6
  subst q0 q1 q2 q3 q4 q5 q6
  obtain ⟨a, len, cap, its, rfl, R, hr, hw⟩ := open_its e7
  refine ⟨⟨x0, x1, x2, x3, x4, x5, x6, its⟩, a, len, cap, rfl, R, hr, hw.imp id fun h => ?_⟩
  rw [hxy]
  simp only [DataW.weights, Tryd.underlying24, List.map_cons, List.map_nil, DataW.weightsEach, List.mem_append]
  simp only [h, or_true, true_or]
set_option maxRecDepth 100000 in
theorem open_pkt {H : Type} {enc : TypeId × Value → H} {W : World} {r : Reach} {b : Nat} {v : Value} {d : DataW H} {ps : List MemPlace} (hv : Value.okWide Tryd.prog W r b 24 v) (h : DataW.Trod enc Tryd.prog W 0 (fun _ => true) true 24 v d ps) :
    ∃ (p : Pkt) (a : Option Addr) (len cap : Nat), v = pkv p a len cap ∧ RowI W a len cap p.items ∧ (∀ y ∈ p.items, itRg y) ∧ (cap = 0 ∨ cap * 160 ∈ d.weights Tryd.prog 24) := by
  simp only [Value.okWide, Tryd.underlying24] at hv
  obtain ⟨cs, rfl, hsz, _⟩ := hv
  rw [show Tryd.prog.cellsOf 24 = 8 by kernel_rfl] at hsz
  obtain ⟨fuel, hf⟩ := h
  obtain ⟨p, a, len, cap, hcs, R, hr, hw⟩ := open_pkc (x := (d, ps)) (by simpa [Value.cells] using hsz) hf
  refine ⟨p, a, len, cap, ?_, R, hr, hw⟩
  have : cs = (cs.toList).toArray := by simp
  rw [this, show cs.toList = _ from hcs]

end Go.Proofs.YticmjlnpjopfbaaDoor

namespace Go.Proofs.YticmjlnpjopfbaaDoor
open Go.ChangeShapes Go.WideShapes Go.ChangeAt Go.RowKit Go.Deep
set_option linter.unusedVariables false
set_option linter.unusedSimpArgs false
theorem bulk_1 {H : Type} (d : DataW H) : 1 ≤ Rows.uptoBulk d := by
  cases d with
  | lit l => cases l <;> simp [Rows.uptoBulk]
  | _ => simp [Rows.uptoBulk]
theorem bulk_l {H : Type} (l : List (DataW H)) : l.length ≤ Rows.uptoBulkAll l := by
  induction l with
  | nil => simp [Rows.uptoBulkAll]
  | cons x r ih => have := bulk_1 x; simp only [Rows.uptoBulkAll, List.length_cons]; omega
theorem bulk_m {H : Type} {l : List (DataW H)} {d : DataW H} (h : d ∈ l) : Rows.uptoBulk d ≤ Rows.uptoBulkAll l := by
  induction l with
  | nil => cases h
  | cons x r ih =>
    simp only [Rows.uptoBulkAll]
    rcases List.mem_cons.1 h with rfl | h
    · omega
    · have := ih h; omega
section
variable {H : Type} {enc : TypeId × Value → H} {W : World} {base n : Nat} {sp : Nat → Bool} {held : Bool} {x : DataW H × List MemPlace}
theorem name_chan {v0 v1 v2 v3 v4 v5 : Value} (h : DataW.trod enc Tryd.prog W base sp held n 32 [v0, v1, v2, v3, v4, v5] = some x) : ∃ s, v0 = .string s ∧ s.size ≤ Rows.uptoBulk x.1 := by
  obtain ⟨xs, k, hk, hxy, _, hxl, hf⟩ := DataW.trod_struct Tryd.underlying32 h
  match xs, hxl with
  | [y0, y1, y2, y3, y4, y5], _ =>
  have e0 := hf 0 _ rfl
  simp [cn9] at e0
  obtain ⟨x0, q0, r0, w0⟩ := DataW.trod_string Tryd.underlying9 e0
  simp at q0
  refine ⟨x0, q0, ?_⟩
  rw [hxy]
  simp only [List.map_cons, List.map_nil, Rows.uptoBulk, Rows.uptoBulkAll]
  rw [r0]
  simp [Rows.uptoBulk]
  omega
theorem name_itm {v0 v1 v2 v3 v4 v5 v6 v7 v8 v9 v10 v11 v12 v13 v14 v15 v16 v17 v18 : Value} (h : DataW.trod enc Tryd.prog W base sp held n 38 [v0, v1, v2, v3, v4, v5, v6, v7, v8, v9, v10, v11, v12, v13, v14, v15, v16, v17, v18] = some x) : ∃ s, v0 = .string s ∧ s.size ≤ Rows.uptoBulk x.1 := by
  obtain ⟨xs, k, hk, hxy, _, hxl, hf⟩ := DataW.trod_struct Tryd.underlying38 h
  match xs, hxl with
  | [y0, y1, y2, y3, y4, y5], _ =>
  have e0 := hf 0 _ rfl
  simp [cn32] at e0
  obtain ⟨s, hs, hb⟩ := name_chan e0
  refine ⟨s, hs, ?_⟩
  rw [hxy]
  simp only [List.map_cons, List.map_nil, Rows.uptoBulk, Rows.uptoBulkAll]
  omega
end
theorem open_itsU {H : Type} {enc : TypeId × Value → H} {W : World} {fuel : Nat} {v : Value} {x : DataW H × List MemPlace}
    (hf : DataW.trod enc Tryd.prog W 0 (fun _ => true) true fuel 22 [v] = some x) : ∃ (a : Option Addr) (len cap : Nat) (its : List Itm), v = .slice a len cap ∧ RowI W a len cap its ∧ (∀ y ∈ its, itRg y) ∧ (cap ≤ Rows.uptoBulk x.1 ∧ ∀ y ∈ its, y.name.size ≤ Rows.uptoBulk x.1) := by
  rcases open_slice Tryd.underlying22 hf with ⟨hcs, hx⟩ | ⟨ad, l, c, m, n, D, Pl, hcs, _, hl, hm, hmm, hx, hel⟩
  · simp at hcs
    subst hcs
    exact ⟨none, 0, 0, [], rfl, rowI_nil W, fun y hy => (by simp at hy), Nat.zero_le _, fun y hy => (by simp at hy)⟩
  · simp at hcs
    subst hcs
    have hmc : m = c := by simpa using hmm
    subst hmc
    rw [cn38] at hel
    have each : ∀ i, i < m → ∃ y : Itm, (∀ j v, (itc y)[j]? = some v → W.cell? ((ad.add (i * 19)).add j) = some v) ∧ itRg y ∧ y.name.size ≤ Rows.uptoBulk (D i) := by
      intro i hi
      obtain ⟨cs', h1, h2⟩ := hel i hi
      obtain ⟨_, hlen, hcell⟩ := World.cells?_some h1
      obtain ⟨v0, v1, v2, v3, v4, v5, v6, v7, v8, v9, v10, v11, v12, v13, v14, v15, v16, v17, v18, rfl⟩ := list19 hlen
      obtain ⟨y, hy, hg⟩ := open_itm h2
      obtain ⟨s, hs, hb⟩ := name_itm h2
      have hys : y.name = s := by have e := congrArg (fun l => l[0]?) hy; simp [itc, hs] at e; exact e.symm
      refine ⟨y, fun j v hj => ?_, hg, by rw [hys]; exact hb⟩
      have hjl : j < 19 := (List.getElem?_eq_some_iff.1 hj).1
      have hc := hcell j hjl
      rw [hy] at hc
      rw [hc]
      exact hj
    haveI : Inhabited Itm := ⟨itZ⟩
    obtain ⟨F, hF⟩ := choose_lt each
    refine ⟨some ad, l, m, (List.range l).map F, rfl, ⟨by simp, hl, by unfold maxLen at hm; omega, fun h => (by cases h), ?_⟩, ?_, ?_, ?_⟩
    · by_cases h0 : l = 0
      · exact .inl h0
      · obtain ⟨b, off, spot⟩ := ad
        have hc := (hF 0 (by omega)).1 0 _ rfl
        have hspot : spot = none := by simpa [Addr.add] using World.cell?_spot hc
        subst hspot
        refine .inr ⟨b, off, rfl, World.block_lt_of_cell? _ _ hc, fun j hj => ?_⟩
        have hget : ((List.range l).map F).getD j itZ = F j := by simp [List.getD, hj]
        rw [hget]
        intro i v hv
        have := (hF j (by omega)).1 i v hv
        rw [add_plain, add_plain] at this
        exact this
    · intro y hy
      obtain ⟨i, hi, rfl⟩ := List.mem_map.1 hy
      exact (hF i (by have := List.mem_range.1 hi; omega)).2.1
    · rw [hx]
      have h1 := bulk_l (H := H) ((List.range l).map D)
      have h2 := bulk_l (H := H) ((List.range (m - l)).map fun i => D (l + i))
      simp only [List.length_map, List.length_range] at h1 h2
      simp only [Rows.uptoBulk]
      omega
    · intro y hy
      obtain ⟨i, hi, rfl⟩ := List.mem_map.1 hy
      have hil := List.mem_range.1 hi
      have h1 := (hF i (by omega)).2.2
      have h2 := bulk_m (H := H) (l := (List.range l).map D) (List.mem_map.2 ⟨i, hi, rfl⟩)
      rw [hx]
      simp only [Rows.uptoBulk]
      omega
theorem open_pkcU {H : Type} {enc : TypeId × Value → H} {W : World} {fuel : Nat} {cs : List Value} {x : DataW H × List MemPlace} (hl : cs.length = 8)
    (hf : DataW.trod enc Tryd.prog W 0 (fun _ => true) true fuel 24 cs = some x) : ∃ (p : Pkt) (a : Option Addr) (len cap : Nat), cs = [.int .i64 p.kind, .int .i64 p.src, .int .i64 p.dst, .int .i64 p.boot, .int .i64 p.life, .int .i64 p.echo, .int .i64 p.echoLife, .slice a len cap] ∧ RowI W a len cap p.items ∧ (∀ y ∈ p.items, itRg y) ∧ (cap ≤ Rows.uptoBulk x.1 ∧ ∀ y ∈ p.items, y.name.size ≤ Rows.uptoBulk x.1) := by
  obtain ⟨v0, v1, v2, v3, v4, v5, v6, v7, rfl⟩ := list8 hl
  obtain ⟨xs, k, hk, hxy, _, hxl, hg⟩ := DataW.trod_struct Tryd.underlying24 hf
  match xs, hxl with
  | [y0, y1, y2, y3, y4, y5, y6, y7], _ =>
  have e0 := hg 0 _ rfl
  have e1 := hg 1 _ rfl
  have e2 := hg 2 _ rfl
  have e3 := hg 3 _ rfl
  have e4 := hg 4 _ rfl
  have e5 := hg 5 _ rfl
  have e6 := hg 6 _ rfl
  have e7 := hg 7 _ rfl
  simp [cn3] at e0 e1 e2
  simp [cn2] at e3 e4 e5 e6
  simp [show Tryd.prog.cellsOf 22 = 1 by kernel_rfl] at e7
  obtain ⟨x0, q0, _, _⟩ := DataW.trod_int Tryd.underlying3 e0
  obtain ⟨x1, q1, _, _⟩ := DataW.trod_int Tryd.underlying3 e1
  obtain ⟨x2, q2, _, _⟩ := DataW.trod_int Tryd.underlying3 e2
  obtain ⟨x3, q3, _, _⟩ := DataW.trod_int Tryd.underlying2 e3
  obtain ⟨x4, q4, _, _⟩ := DataW.trod_int Tryd.underlying2 e4
  obtain ⟨x5, q5, _, _⟩ := DataW.trod_int Tryd.underlying2 e5
  obtain ⟨x6, q6, _, _⟩ := DataW.trod_int Tryd.underlying2 e6
  simp at q0 q1 q2 q3 q4 q5 q6
  subst q0 q1 q2 q3 q4 q5 q6
  obtain ⟨a, len, cap, its, rfl, R, hr, hw⟩ := open_itsU e7
  have hxb : Rows.uptoBulk y7.1 ≤ Rows.uptoBulk x.1 := by
    rw [hxy]
    simp only [List.map_cons, List.map_nil, Rows.uptoBulk, Rows.uptoBulkAll]
    omega
  exact ⟨⟨x0, x1, x2, x3, x4, x5, x6, its⟩, a, len, cap, rfl, R, hr, Nat.le_trans hw.1 hxb, fun y hy => Nat.le_trans (hw.2 y hy) hxb⟩
set_option maxRecDepth 100000 in
theorem open_pktU {H : Type} {enc : TypeId × Value → H} {W : World} {r : Reach} {b : Nat} {v : Value} {d : DataW H} {ps : List MemPlace} (hv : Value.okWide Tryd.prog W r b 24 v) (h : DataW.Trod enc Tryd.prog W 0 (fun _ => true) true 24 v d ps) :
    ∃ (p : Pkt) (a : Option Addr) (len cap : Nat), v = pkv p a len cap ∧ RowI W a len cap p.items ∧ (∀ y ∈ p.items, itRg y) ∧ (cap ≤ Rows.uptoBulk d ∧ ∀ y ∈ p.items, y.name.size ≤ Rows.uptoBulk d) := by
  simp only [Value.okWide, Tryd.underlying24] at hv
  obtain ⟨cs, rfl, hsz, _⟩ := hv
  rw [show Tryd.prog.cellsOf 24 = 8 by kernel_rfl] at hsz
  obtain ⟨fuel, hf⟩ := h
  obtain ⟨p, a, len, cap, hcs, R, hr, hw⟩ := open_pkcU (x := (d, ps)) (by simpa [Value.cells] using hsz) hf
  refine ⟨p, a, len, cap, ?_, R, hr, hw⟩
  have : cs = (cs.toList).toArray := by simp
  rw [this, show cs.toList = _ from hcs]

theorem body_few {p : Pkt} (hl : p.items.length ≤ 1048576) (hn : ∀ y ∈ p.items, y.name.size ≤ 1048576) : (bodyP p).length ≤ 70368740000000 := by
  have h1 := hdF_len p
  have h2 := itsF_len p.items 1048576 hn
  rw [bodyP, List.length_append]
  have : (190 + 1048576) * p.items.length ≤ (190 + 1048576) * 1048576 := Nat.mul_le_mul_left _ hl
  omega
end Go.Proofs.YticmjlnpjopfbaaDoor

namespace Go.Proofs.YticmjlnpjopfbaaDoor
open Go.ChangeShapes Go.WideShapes Go.ChangeAt Go.RowKit Go.Deep
open S (Row)
set_option linter.unusedVariables false
theorem has_i64 {x : Int} (h : IntKind.i64.has x) : -9223372036854775808 ≤ x ∧ x ≤ 9223372036854775807 := by
  first
    | exact h
    | simpa [IntKind.has, IntKind.min, IntKind.max, IntKind.signed, IntKind.bits] using h
theorem has_u8 {x : Int} (h : IntKind.u8.has x) : 0 ≤ x ∧ x < 256 := by
  have h2 : 0 ≤ x ∧ x ≤ 255 := by
    first
      | exact h
      | simpa [IntKind.has, IntKind.min, IntKind.max, IntKind.signed, IntKind.bits] using h
  omega
/-- How long a list of numbers is, out of its bulk. -/
theorem bulk_lits {H : Type} (k : IntKind) (zs : List Int) (len : Nat) : zs.length + 1 ≤ Rows.uptoBulk (DataW.slice (H := H) (lits k (zs.take len)) (lits k (zs.drop len))) := by
  have h1 := bulk_l (H := H) (lits k (zs.take len))
  have h2 := bulk_l (H := H) (lits k (zs.drop len))
  simp only [lits, List.length_map, List.length_take, List.length_drop] at h1 h2
  simp only [Rows.uptoBulk, lits]
  omega

/-- A list of numbers that came in: what the walk is told, and its length. -/
theorem open_row {H : Type} {enc : TypeId × Value → H} {W : World} {t e : TypeId} {k : IntKind} {a : Option Addr} {len cap : Nat} {d : DataW H} {ps : List MemPlace} (ht : Tryd.prog.underlying t = some (.slice e)) (he : Tryd.prog.underlying e = some (.int k)) (hc : Tryd.prog.cellsOf e = 1)
    (h : DataW.Trod enc Tryd.prog W 0 (fun _ => true) true t (.slice a len cap) d ps) : ∃ zs, Row k W a len cap zs ∧ cap + 1 ≤ Rows.uptoBulk d ∧ cap ≤ maxLen := by
  obtain ⟨fuel, hf⟩ := h
  rcases open_ints ht he hc hf with ⟨hcs, hx⟩ | ⟨x, l, c, zs, hcs, _, hl, hm, hz, hx, hcell, hwz⟩
  · simp [Value.cells] at hcs
    obtain ⟨rfl, rfl, rfl⟩ := hcs
    exact ⟨[], S.row_nil k W, by have := bulk_1 d; omega, Nat.zero_le _⟩
  · simp [Value.cells] at hcs
    obtain ⟨rfl, rfl, rfl⟩ := hcs
    simp only [Prod.mk.injEq] at hx
    obtain ⟨hd, _⟩ := hx
    subst hd
    have hz' : zs.length = cap := by simpa using hz
    exact ⟨zs.take len, row_mk hl hz' hcell hwz, by have := bulk_lits (H := H) k zs len; omega, hm⟩
end Go.Proofs.YticmjlnpjopfbaaDoor

namespace Go.Proofs.YticmjlnpjopfbaaDoor
open Go.ChangeShapes Go.WideShapes Go.ChangeAt Go.RowKit Go.Deep
set_option linter.unusedVariables false
set_option linter.unusedSimpArgs false

def pksZ : PkS := ⟨pkZ, none, 0, 0⟩
theorem pkc_len (p : Pkt) (a : Option Addr) (n c : Nat) : (pkc p a n c).length = 8 := rfl
theorem cells_len (q : PkS) : q.cells.length = 8 := rfl
/-- A packet lies there. -/
def PkO (w : World) (g off : Nat) (q : PkS) : Prop := ∀ j v, q.cells[j]? = some v → w.cell? ⟨g, off + j, none⟩ = some v
theorem PkO.lt {w : World} {g off : Nat} {q : PkS} (h : PkO w g off q) : g < w.heap.size := by
  have h0 := h 0 _ rfl
  rcases Nat.lt_or_ge g w.heap.size with k | k
  · exact k
  · simp [World.cell?, Array.getElem?_eq_none k] at h0
theorem PkO.of_block {w w' : World} {g off : Nat} {q : PkS} (h : PkO w g off q) (hb : w'.heap[g]? = w.heap[g]?) : PkO w' g off q :=
  fun j v hj => (World.cell?_of_block (a := ⟨g, off + j, none⟩) hb).trans (h j v hj)
theorem PkO.below {w w' : World} {g off : Nat} {q : PkS} (h : PkO w g off q) (hb : Below w.heap.size w w') : PkO w' g off q := h.of_block (hb.block g h.lt)
theorem wpList_loadPO {ops : Array Oper} {rest : List Oper} {o : Oper} {a : Act} {W : World} {Q : Exit → Act → World → Prop} (x : Operand) (ho : o.op = .load 24 x)
    (hw : Region.wanted o (yielded ops a.tmps) = true) (g off : Nat) (q : PkS) (P : PkO W g off q) (hx : a.eval x = .pointer (some ⟨g, off, none⟩))
    (h : wpList Tryd.prog ops Q rest (a.put o.dst (pkv q.p q.a q.n q.c)) W) : wpList Tryd.prog ops Q (o :: rest) a W :=
  wpList_step fun K hK => by
    rw [if_pos hw]
    exact wp_load_agg 24 x ho g off hx (pkc q.p q.a q.n q.c) _ P Tryd.underlying24 rfl (by kernel_rfl) (hK _ _ h)
theorem pks_len (l : List PkS) : (l.flatMap PkS.cells).length = l.length * 8 := by
  induction l with
  | nil => rfl
  | cons x l ih => rw [List.flatMap_cons, List.length_append, ih, cells_len, List.length_cons]; omega
theorem pks_at : ∀ (l : List PkS) (j i : Nat), j < l.length → i < 8 → (l.flatMap PkS.cells)[j * 8 + i]? = (l.getD j pksZ).cells[i]?
  | [], _, _, h, _ => by simp at h
  | f :: fs, 0, i, _, hi => by
    rw [List.flatMap_cons, List.getElem?_append_left (by rw [cells_len]; omega)]
    simp
  | f :: fs, j + 1, i, h, hi => by
    rw [List.flatMap_cons, List.getElem?_append_right (by rw [cells_len]; omega), cells_len, show (j + 1) * 8 + i - 8 = j * 8 + i by omega, pks_at fs j i (by simpa using h) hi, List.getD_cons_succ]
/-- The packets that a slice value leads to in a world. -/
structure RowP (w : World) (a : Option Addr) (len cap : Nat) (l : List PkS) : Prop where
  size : l.length = len
  le : len ≤ cap
  nil : a = none → len = 0 ∧ cap = 0
  mem : len = 0 ∨ ∃ b off, a = some ⟨b, off, none⟩ ∧ b < w.heap.size ∧ ∀ j, j < len → PkO w b (off + j * 8) (l.getD j pksZ)
  its : ∀ q ∈ l, RowI w q.a q.n q.c q.p.items
theorem RowP.below {w w' : World} {a : Option Addr} {len cap : Nat} {l : List PkS} (R : RowP w a len cap l) (hb : Below w.heap.size w w') : RowP w' a len cap l where
  size := R.size
  le := R.le
  nil := R.nil
  mem := R.mem.imp id fun ⟨b, off, e, h, c⟩ => ⟨b, off, e, Nat.lt_of_lt_of_le h hb.size, fun j hj => (c j hj).below hb⟩
  its := fun q hq => (R.its q hq).below hb
theorem rowP_nil (w : World) : RowP w none 0 0 [] := ⟨rfl, Nat.le_refl _, fun _ => ⟨rfl, rfl⟩, .inl rfl, fun q hq => by cases hq⟩
theorem getD_mem {α : Type} (l : List α) (j : Nat) (d : α) (h : j < l.length) : l.getD j d ∈ l := by
  rw [List.getD_eq_getElem?_getD, List.getElem?_eq_getElem h]
  exact List.getElem_mem h
theorem OwnP.row {w : World} {base : Nat} {v : Value} {l : List PkS} (h : OwnP w base v l) : ∃ a cap, v = .slice a l.length cap ∧ RowP w a l.length cap l ∧ cap ≤ 9223372036854775807 ∧ (l ≠ [] → a ≠ none) := by
  rcases h.own.2 with ⟨rfl, hn⟩ | ⟨g, cap, cur, rfl, hg, hh, hn, hc, hcs, ht⟩
  · have e : l = [] := List.eq_nil_of_length_eq_zero hn
    subst e
    exact ⟨none, 0, rfl, rowP_nil _, by omega, fun h => absurd rfl h⟩
  · refine ⟨_, _, rfl, ⟨rfl, hn, fun h => (by cases h), .inr ⟨g, 0, rfl, (Array.getElem?_eq_some_iff.1 hh).1, fun j hj => ?_⟩, fun q hq => (h.its q hq).1⟩, by unfold maxLen at hc; omega, fun _ h => by cases h⟩
    intro i v hv
    have hi : i < 8 := (List.getElem?_eq_some_iff.1 hv).1
    rw [cell_of_row _ _ _ _ 24 _ hh]
    have e := pks_at l j i hj hi
    rw [← ht, List.getElem?_take, if_pos (by omega), hv] at e
    rw [Nat.zero_add]
    simpa using e

/-- A list of packets that came in: what the walk is told, and how much it weighs. -/
theorem open_pkts {H : Type} {enc : TypeId × Value → H} {W : World} {a : Option Addr} {len cap : Nat} {d : DataW H} {ps : List MemPlace}
    (h : DataW.Trod enc Tryd.prog W 0 (fun _ => true) true 52 (.slice a len cap) d ps) : ∃ l, RowP W a len cap l ∧ cap ≤ Rows.uptoBulk d ∧
      ∀ q ∈ l, (∀ y ∈ q.p.items, itRg y) ∧ q.c ≤ Rows.uptoBulk d ∧ ∀ y ∈ q.p.items, y.name.size ≤ Rows.uptoBulk d := by
  obtain ⟨fuel, hf⟩ := h
  rcases open_slice Tryd.underlying52 hf with ⟨hcs, hx⟩ | ⟨x, l, c, m, n, D, Pl, hcs, _, hl, hm, hmm, hx, hel⟩
  · simp [Value.cells] at hcs
    obtain ⟨rfl, rfl, rfl⟩ := hcs
    exact ⟨[], rowP_nil W, Nat.zero_le _, fun q hq => by cases hq⟩
  · simp [Value.cells] at hcs
    obtain ⟨rfl, rfl, rfl⟩ := hcs
    simp only [Prod.mk.injEq] at hx
    obtain ⟨hd, _⟩ := hx
    have hmc : m = cap := by simpa using hmm
    subst hmc
    rw [show Tryd.prog.cellsOf 24 = 8 by kernel_rfl] at hel
    have each : ∀ i, i < m → ∃ q : PkS, (∀ j v, q.cells[j]? = some v → W.cell? ((x.add (i * 8)).add j) = some v) ∧ RowI W q.a q.n q.c q.p.items ∧ (∀ y ∈ q.p.items, itRg y) ∧ q.c ≤ Rows.uptoBulk (D i) ∧ ∀ y ∈ q.p.items, y.name.size ≤ Rows.uptoBulk (D i) := by
      intro i hi
      obtain ⟨cs', h1, h2⟩ := hel i hi
      obtain ⟨_, hlen, hcell⟩ := World.cells?_some h1
      obtain ⟨p, a', n', c', hcs', hR, hr, hw⟩ := open_pkcU hlen h2
      refine ⟨⟨p, a', n', c'⟩, fun j v hj => ?_, hR, hr, hw⟩
      have hjl : j < 8 := (List.getElem?_eq_some_iff.1 hj).1
      have hc := hcell j hjl
      rw [hcs'] at hc
      rw [hc]
      exact hj
    haveI : Inhabited PkS := ⟨pksZ⟩
    obtain ⟨F, hF⟩ := choose_lt each
    have hget : ∀ j, j < len → ((List.range len).map F).getD j pksZ = F j := by
      intro j hj
      simp [List.getD, hj]
    have hbd : ∀ i, i < len → Rows.uptoBulk (D i) ≤ Rows.uptoBulk d := by
      intro i hi
      have h2 := bulk_m (H := H) (l := (List.range len).map D) (List.mem_map.2 ⟨i, List.mem_range.2 hi, rfl⟩)
      rw [hd]
      simp only [Rows.uptoBulk]
      omega
    refine ⟨(List.range len).map F, ⟨by simp, hl, fun h => (by cases h), ?_, ?_⟩, ?_, ?_⟩
    · by_cases h0 : len = 0
      · exact .inl h0
      · obtain ⟨b, off, spot⟩ := x
        have hc := (hF 0 (by omega)).1 0 _ rfl
        have hspot : spot = none := by simpa [Addr.add] using World.cell?_spot hc
        subst hspot
        refine .inr ⟨b, off, rfl, World.block_lt_of_cell? _ _ hc, fun j hj => ?_⟩
        rw [hget j hj]
        intro i v hv
        have := (hF j (by omega)).1 i v hv
        rw [add_plain, add_plain] at this
        exact this
    · intro q hq
      obtain ⟨i, hi, rfl⟩ := List.mem_map.1 hq
      exact (hF i (by have := List.mem_range.1 hi; omega)).2.1
    · rw [hd]
      have h1 := bulk_l (H := H) ((List.range len).map D)
      have h2 := bulk_l (H := H) ((List.range (m - len)).map fun i => D (len + i))
      simp only [List.length_map, List.length_range] at h1 h2
      simp only [Rows.uptoBulk]
      omega
    · intro q hq
      obtain ⟨i, hi, rfl⟩ := List.mem_map.1 hq
      have hil := List.mem_range.1 hi
      have h1 := (hF i (by omega)).2.2
      have h2 := hbd i hil
      exact ⟨h1.1, Nat.le_trans h1.2.1 h2, fun y hy => Nat.le_trans (h1.2.2 y hy) h2⟩
end Go.Proofs.YticmjlnpjopfbaaDoor

namespace Go.Proofs.YticmjlnpjopfbaaDoor
open Go.ChangeShapes Go.WideShapes Go.ChangeAt Go.RowKit
open S (Tab Row Byt opn bv)
open C (Fld)
set_option linter.unusedVariables false
set_option linter.unusedSimpArgs false

theorem exec_load24 {o : Oper} {a : Act} {w : World} {xx : Operand} {g off : Nat} {y : PkS} (ho : o.op = .load 24 xx) (hx : a.eval xx = .pointer (some ⟨g, off, none⟩)) (hc : PkO w g off y) :
    (execOp a.eval o).run Tryd.prog w = .ok (.value (pkv y.p y.a y.n y.c)) w := by
  unfold execOp
  simp only [ho, hx, Instr.loadAt, Instr.sureAddr, Sem.run_bind, Sem.run_pure, Result.andThen_ok, load_agg w g off 24 (pkc y.p y.a y.n y.c) _ hc Tryd.underlying24 rfl (by kernel_rfl)]
  rfl
theorem PkO.drew {w : World} {g off : Nat} {x : PkS} (h : PkO w g off x) : PkO w.drew g off x := h.of_block rfl
theorem RowP.drew {w : World} {a : Option Addr} {len cap : Nat} {l : List PkS} (R : RowP w a len cap l) : RowP w.drew a len cap l := R.below ((Below.refl _ _).drew)
/-- What All hands back, told anew. -/
def AllTold (w' : World) (ps : List Pkt) (N m : Nat) (k : Int) (e : Ending) : Prop :=
  ∃ a c qs, e = .returned (.tuple #[.slice a N c, .int .i64 (m : Int), .int .i64 k]) ∧ RowP w' a N c qs ∧ qs.map PkS.p = ps ∧ c ≤ 9223372036854775807 ∧ (0 < N → a ≠ none)
theorem AllOut.told {base : Nat} {w' : World} {zs : List Int} {e : Ending} {ps : List Pkt} {N m : Nat} {k : Int} (h : AllOut base w' zs e) (hA : allPF zs.length zs = (ps, m, k)) (hN : ps.length = N) : AllTold w' ps N m k e := by
  obtain ⟨v, qs, rfl, O, hp⟩ := h
  rw [hA] at hp ⊢
  obtain ⟨a, c, rfl, R, hc, hn⟩ := O.row
  replace hp : qs.map PkS.p = ps := hp
  have hl : qs.length = N := by rw [← hN, ← hp, List.length_map]
  rw [hl] at R ⊢
  exact ⟨a, c, qs, rfl, R, hp, hc, fun h0 => hn (fun e => by rw [e] at hl; simp at hl; omega)⟩
theorem all_told (a : Option Addr) (len cap : Nat) (zs : List Int) (w : World) (R : Row .u8 w a len cap zs) (T : Tab w) (hl : len ≤ 1099511627776) (hcap : cap ≤ 9223372036854775807) {ps : List Pkt} {N m : Nat} {k : Int} (hA : allPF zs.length zs = (ps, m, k)) (hN : ps.length = N) :
    Calls Tryd.prog 24 #[.slice a len cap] w fun e w' => AllTold w' ps N m k e ∧ Below w.heap.size w w' :=
  (all_any a len cap zs w R T hl hcap).mono fun e w' h => ⟨h.1.told hA hN, h.2⟩
theorem rall_told (a : Option Addr) (len cap : Nat) (zs : List Int) (w : World) (R : Row .u8 w a len cap zs) (hl : len ≤ 1099511627776) (hcap : cap ≤ 9223372036854775807) {ps : List Pkt} {N m : Nat} {k : Int} (hA : allPF zs.length zs = (ps, m, k)) (hN : ps.length = N) :
    Calls Tryd.prog 25 #[.slice a len cap] w fun e w' => AllTold w' ps N m k e ∧ Below w.heap.size w w' :=
  (rall_any a len cap zs w R hl hcap).mono fun e w' h => ⟨h.1.told hA hN, h.2⟩
def fjoin (qs : List PkS) (i : Nat) : List Int := (qs.take i).flatMap fun q => forgP q.p
theorem fjoin_succ (qs : List PkS) (i : Nat) (h : i < qs.length) : fjoin qs (i + 1) = fjoin qs i ++ forgP (qs.getD i pksZ).p := by
  unfold fjoin
  rw [List.take_succ_eq_append_getElem h, List.flatMap_append, List.flatMap_singleton, List.getD_eq_getElem?_getD, List.getElem?_eq_getElem h]
  rfl
theorem fjoin_len (qs : List PkS) (i : Nat) : (fjoin qs i).length ≤ i * 65543 := by
  unfold fjoin
  induction i generalizing qs with
  | zero => simp
  | succ i ih =>
    cases qs with
    | nil => simp
    | cons q qs =>
      rw [List.take_succ_cons, List.flatMap_cons, List.length_append]
      have := ih qs
      have := forgP_len q.p
      omega
theorem fjoin_byte {qs : List PkS} (h : ∀ q ∈ qs, Byt (bodyP q.p)) (i : Nat) : Byt (fjoin qs i) := by
  intro c hc
  obtain ⟨q, hq, hc⟩ := List.mem_flatMap.1 hc
  exact forgP_byte (h q (List.mem_of_mem_take hq)) c hc

set_option maxRecDepth 100000 in
set_option maxHeartbeats 8000000 in
theorem all_law (a : Option Addr) (len cap : Nat) (qs : List PkS) (a2 : Option Addr) (len2 cap2 : Nat) (zs : List Int) (w : World) (RP : RowP w a len cap qs) (R : Row .u8 w a2 len2 cap2 zs) (T : Tab w)
    (hq : ∀ q ∈ qs, (bodyP q.p).length ≤ 70368740000000 ∧ (∀ x ∈ q.p.items, itRg x) ∧ Byt (bodyP q.p)) (hl : len ≤ 1048576) (hl2 : len2 ≤ 1048576) :
    Calls Tryd.prog 7 #[.slice a len cap, .slice a2 len2 cap2] w fun e w' => e = .returned (.bool true) ∧ Below w.heap.size w w' := by
  haveI : DecidableEq Pkt := fun a b => Classical.propDecidable (a = b)
  have HQ : Hid (∀ q ∈ qs, (bodyP q.p).length ≤ 70368740000000 ∧ (∀ x ∈ q.p.items, itRg x) ∧ Byt (bodyP q.p)) := hq
  have HSZ : Hid (qs.length = len) := RP.size
  have HLZ : Hid (zs.length = len2) := R.size
  clear hq
  go_enter Tryd.func7, Tryd.ntmps7
  go_wp2
  go_loopg [5, 17] len (fun g v5 v17 wr => ∃ i : Nat, v17 = .int .i64 (i : Int) ∧ i + g = len ∧ Hid (S.Own w.heap.size wr v5 (fjoin qs i)) ∧ Hid (Below w.heap.size w wr))
  case atStart => exact ⟨0, rfl, by omega, S.Own.nil _ _, Below.refl _ _⟩
  case round =>
    obtain ⟨i, rfl, hg, HO, HB⟩ := hrel
    have B0 := HB.out
    have z0 := B0.size
    by_cases hi : i < len
    · have hiI : (i : Int) < (len : Int) := by omega
      have hiz : i < qs.length := by rw [HSZ.out]; exact hi
      obtain ⟨b, off, rfl, hbz, hcell⟩ := (RP.below B0).mem.resolve_left (by omega)
      have hP0 := hcell i hi
      have hm := getD_mem qs i pksZ hiz
      have hIt := ((RP.below B0).its _ hm)
      have hQ := HQ.out _ hm
      have hs := fjoin_succ qs i hiz
      have hfl := fjoin_len qs i
      obtain ⟨q, hqq⟩ : ∃ q, qs.getD i pksZ = q := ⟨_, rfl⟩
      rw [hqq] at hP0 hIt hQ hs
      clear hcell hm hqq
      obtain ⟨hq1, hq2, hq3⟩ := hQ
      have hfb := forgP_byte hq3
      have hfn := forgP_len q.p
      go_wp2_with (first
        | ((with_reducible show wpList _ _ _ (Oper.mk _ (Op.load 24 _) _ _ _ _ :: _) _ _); refine wpList_loadPO _ rfl (by rfl) b (off + i * 8) q hP0 rfl ?_)
        | ((with_reducible show wpList _ _ _ (Oper.mk _ (Op.store 24 _ _) _ _ _ _ :: _) _ _); refine wpList_store_row rfl 24 _ _ rfl wr.heap.size (pkc q.p q.a q.n q.c).toArray rfl rfl 24 _ (World.alloc_heap_new _ _) (by kernel_rfl) rfl (by simp [pkc, Value.oneCell']) ?_; obtain ⟨w3, hw3⟩ : ∃ w3, (wr.alloc (.cells zPk8 24)).setRow wr.heap.size (pkc q.p q.a q.n q.c).toArray = w3 := ⟨_, rfl⟩; have B3 : Below wr.heap.size wr w3 := (by rw [← hw3]; exact below_setRow ((Below.refl _ _).alloc (Nat.le_refl _) _) (Nat.le_refl _) _); have P3 : PkB w3 wr.heap.size q.p q.a q.n q.c := (by rw [← hw3]; exact setRow_heap _ _ _ _ _ _ (World.alloc_heap_new _ _)); have I3 := hIt.below B3; change wpList _ _ _ _ _ ((wr.alloc (.cells zPk8 24)).setRow wr.heap.size (pkc q.p q.a q.n q.c).toArray); rw [hw3])
        | ((with_reducible show wpList _ _ _ (Oper.mk _ (Op.load 24 _) _ _ _ _ :: _) _ _); refine wpList_load_row rfl 24 _ rfl wr.heap.size rfl (pkc q.p q.a q.n q.c).toArray (load_24 P3) ?_)
        | (go_at_call 20; refine (forged_any q.p q.a q.n q.c w3 I3 hq1 hq2 hq3).mono ?_; rintro e w4 ⟨v4, rfl, O4, b4⟩; obtain ⟨a4, n4, c4, rfl, R4, hn4⟩ := O4.row' hfb; have hn5 : n4 ≤ 65543 := (by omega); clear hn4; have B4 := B3.trans (b4.mono B3.size))
        | ((with_reducible show wpList _ _ _ (Oper.mk _ (Op.call { callee := Callee.builtin Builtin.append, args := _, argTypes := _ }) _ _ _ _ :: _) _ _); refine S.wpList_append_row _ rfl _ _ rfl w.heap.size u5 (fjoin qs i) rfl (HO.out.below B4) a4 n4 c4 (forgP q.p) rfl R4 (by have := B4.size; omega) (by omega) ?_; intro v5 w5 O5 b5; rw [← hs] at O5; have B5 := (B0.trans (B4.mono z0)).trans b5))
      go_roundg (gk - 1)
      case measure => omega
      case rel => exact ⟨i + 1, by go_num, by omega, by exact (show Hid _ from O5), B5⟩
    · obtain rfl : i = len := by omega
      have hfb := fjoin_byte (fun q hq => (HQ.out q hq).2.2) i
      have hfl := fjoin_len qs i
      obtain ⟨F, hF⟩ : ∃ F, fjoin qs i = F := ⟨_, rfl⟩
      rw [hF] at hfb hfl HO
      clear hF HQ
      have hby : Byt (F ++ zs) := fun c hc => (List.mem_append.1 hc).elim (hfb c) (R.byte c)
      have hll : (F ++ zs).length ≤ 1099511627776 := by rw [List.length_append, HLZ.out]; omega
      obtain ⟨⟨ps, m, k⟩, hA⟩ : ∃ A, allPF (F ++ zs).length (F ++ zs) = A := ⟨_, rfl⟩
      obtain ⟨N, hN⟩ : ∃ N, ps.length = N := ⟨_, rfl⟩
      have K24 := fun a1 n1 c1 W R1 T1 h1 h2 => all_told a1 n1 c1 (F ++ zs) W R1 T1 h1 h2 hA hN
      have K25 := fun a1 n1 c1 W R1 h1 h2 => rall_told a1 n1 c1 (F ++ zs) W R1 h1 h2 hA hN
      have q1 : ((m : Int) != (m : Int)) = false := by simp
      have q2 : (k != k) = false := by simp
      have q3 : ((N : Int) != (N : Int)) = false := by simp
      have hF2 : F.length + len2 ≤ 140737488355328 := by omega
      clear hA
      go_wp2_with (first
        | ((with_reducible show wpList _ _ _ (Oper.mk _ (Op.call { callee := Callee.builtin Builtin.append, args := _, argTypes := _ }) _ _ _ _ :: _) _ _); refine S.wpList_append_row _ rfl _ _ rfl w.heap.size u5 F rfl HO.out a2 len2 cap2 zs rfl (R.below B0) (by omega) hF2 ?_; intro v5 w5 O5 b5; obtain ⟨a5, n5, c5, rfl, R5, hn5⟩ := O5.row' hby; have hc5 := (S.Own.cap O5).2.2; have hn6 : n5 ≤ 1099511627776 := (by omega); clear hn5; have B5 := B0.trans b5; have T5 := T.below B5)
        | (go_at_call 24; refine (K24 _ _ _ _ R5 T5 hn6 hc5).mono ?_; rintro e w6 ⟨⟨ax, cx, qx, rfl, RX, hpx, hcx, hax⟩, b6⟩; have R6 := R5.below b6; have B6 := B5.trans (b6.mono B5.size))
        | (go_at_call 25; refine (K25 _ _ _ _ R6 hn6 hc5).mono ?_; rintro e w7 ⟨⟨ay, cy, qy, rfl, RY, hpy, hcy, hay⟩, b7⟩; have RX7 := RX.below b7; have B7 := B6.trans (b7.mono B6.size)))
      clear K24 K25
      have z7 := B7.size
      have hxN := RX7.le
      have hyN := RY.le
      have T7 := T.below B7
      go_loopg [58] N (fun g v58 wr => ∃ j : Nat, v58 = .int .i64 (j : Int) ∧ j + g = N ∧ Below w7.heap.size w7 wr)
      case atStart => exact ⟨0, rfl, by omega, Below.refl _ _⟩
      case round =>
        obtain ⟨j, rfl, hjg, hB⟩ := hrel
        have hBd := hB.drew
        by_cases hj : j < N
        · have hjI : (j : Int) < (N : Int) := by omega
          obtain ⟨bx, ox, rfl, hbx, hcx'⟩ := RX7.mem.resolve_left (by omega)
          obtain ⟨by_, oy, rfl, hby', hcy'⟩ := RY.mem.resolve_left (by omega)
          have Px := hcx' j hj
          have Py := hcy' j hj
          have jx : j < qx.length := by rw [RX7.size]; exact hj
          have jy : j < qy.length := by rw [RY.size]; exact hj
          have Ix := RX7.its _ (getD_mem qx j pksZ jx)
          have Iy := RY.its _ (getD_mem qy j pksZ jy)
          have hpp : (qx.getD j pksZ).p = (qy.getD j pksZ).p := by
            have e := congrArg (fun l => l[j]?) (hpx.trans hpy.symm)
            simp only [List.getElem?_map, List.getElem?_eq_getElem jx, List.getElem?_eq_getElem jy, Option.map_some, Option.some.injEq] at e
            rw [List.getD_eq_getElem?_getD, List.getD_eq_getElem?_getD, List.getElem?_eq_getElem jx, List.getElem?_eq_getElem jy]
            exact e
          obtain ⟨x, hx⟩ : ∃ x, qx.getD j pksZ = x := ⟨_, rfl⟩
          obtain ⟨y, hy⟩ : ∃ y, qy.getD j pksZ = y := ⟨_, rfl⟩
          rw [hx] at Px Ix hpp
          rw [hy] at Py Iy hpp
          have hsm : sameP x.p y.p = true := by rw [hpp]; exact sameP_one _
          clear hx hy hcx' hcy' jx jy hpp
          obtain ⟨wd, hwd⟩ : ∃ wd, World.drew wr = wd := ⟨_, rfl⟩
          have Bd : Below w7.heap.size w7 wd := by rw [← hwd]; exact hBd
          have Pxd := Px.below Bd
          have Pyd := Py.below Bd
          have Ixd := Ix.below Bd
          have Iyd := Iy.below Bd
          go_wp2
          refine wp_region_any (by kernel_rfl) ?_
          change wpAny _ _ _ _ _ _ _ (World.drew _)
          rw [hwd]
          refine S.wpAny_narrow (fun X => Below wd.heap.size wd X) _ _ _ _ ?_
          refine S.anyH_take 0 61 (.slice (some ⟨bx, ox, none⟩) N cx) rfl rfl (by kernel_rfl) (by kernel_rfl) (by kernel_rfl) (fun _ _ _ h => h) (Or.inl ⟨by rfl, by intro w hSw; go_simp⟩) (Below.refl _ _) ?_
          try simp only [Act.put, List.setIfInBounds_toArray, List.set_cons_zero, List.set_cons_succ]
          refine S.anyH_take 1 62 (.int .i64 (j : Int)) rfl rfl (by kernel_rfl) (by kernel_rfl) (by kernel_rfl) (fun _ _ _ h => h) (Or.inl ⟨by rfl, by intro w hSw; go_simp⟩) (Below.refl _ _) ?_
          try simp only [Act.put, List.setIfInBounds_toArray, List.set_cons_zero, List.set_cons_succ]
          refine S.anyH_take 2 63 (.pointer (some ⟨bx, ox + j * 8, none⟩)) rfl rfl (by kernel_rfl) (by kernel_rfl) (by kernel_rfl) (fun _ _ _ h => h) (Or.inl ⟨by rfl, by intro w hSw; go_simp⟩) (Below.refl _ _) ?_
          try simp only [Act.put, List.setIfInBounds_toArray, List.set_cons_zero, List.set_cons_succ]
          refine S.anyH_take 3 64 (pkv x.p x.a x.n x.c) rfl rfl (by kernel_rfl) (by kernel_rfl) (by kernel_rfl) (fun _ _ _ h => h) (Or.inl ⟨by rfl, by intro w' hSw; exact exec_load24 rfl rfl (Pxd.below hSw)⟩) (Below.refl _ _) ?_
          try simp only [Act.put, List.setIfInBounds_toArray, List.set_cons_zero, List.set_cons_succ]
          refine S.anyH_take 4 65 (.slice (some ⟨by_, oy, none⟩) N cy) rfl rfl (by kernel_rfl) (by kernel_rfl) (by kernel_rfl) (fun _ _ _ h => h) (Or.inl ⟨by rfl, by intro w hSw; go_simp⟩) (Below.refl _ _) ?_
          try simp only [Act.put, List.setIfInBounds_toArray, List.set_cons_zero, List.set_cons_succ]
          refine S.anyH_take 5 66 (.int .i64 (j : Int)) rfl rfl (by kernel_rfl) (by kernel_rfl) (by kernel_rfl) (fun _ _ _ h => h) (Or.inl ⟨by rfl, by intro w hSw; go_simp⟩) (Below.refl _ _) ?_
          try simp only [Act.put, List.setIfInBounds_toArray, List.set_cons_zero, List.set_cons_succ]
          refine S.anyH_take 6 67 (.pointer (some ⟨by_, oy + j * 8, none⟩)) rfl rfl (by kernel_rfl) (by kernel_rfl) (by kernel_rfl) (fun _ _ _ h => h) (Or.inl ⟨by rfl, by intro w hSw; go_simp⟩) (Below.refl _ _) ?_
          try simp only [Act.put, List.setIfInBounds_toArray, List.set_cons_zero, List.set_cons_succ]
          refine S.anyH_take 7 68 (pkv y.p y.a y.n y.c) rfl rfl (by kernel_rfl) (by kernel_rfl) (by kernel_rfl) (fun _ _ _ h => h) (Or.inl ⟨by rfl, by intro w' hSw; exact exec_load24 rfl rfl (Pyd.below hSw)⟩) (Below.refl _ _) ?_
          try simp only [Act.put, List.setIfInBounds_toArray, List.set_cons_zero, List.set_cons_succ]
          refine wpAnyH_ready (rs := [8]) (by kernel_rfl) (by simp) ?_
          refine AllReadyH.cons rfl (fun K hK => ?_) AllReadyH.nil
          go_simp
          go_wp2_with (go_at_call 14; refine (rsame_any x.p y.p x.a y.a x.n x.c y.n y.c wd Ixd Iyd).mono ?_; rintro e w8 ⟨rfl, b8⟩; rw [hsm])
          refine hK.out _ _ b8 (fun hS => ?_)
          clear hK
          refine S.anyH_take 9 70 (.bool false) rfl rfl (by kernel_rfl) (by kernel_rfl) (by kernel_rfl) (fun _ _ _ h => h) (Or.inl ⟨by rfl, by intro w hSw; go_simp⟩) b8 ?_
          try simp only [Act.put, List.setIfInBounds_toArray, List.set_cons_zero, List.set_cons_succ]
          refine wpAnyH_done (by kernel_rfl) ?_ _
          go_wp2
          go_roundg (gk - 1)
          case measure => omega
          case rel => exact ⟨j + 1, by first | rfl | go_num, by omega, Bd.trans (b8.mono Bd.size)⟩
        · obtain rfl : j = N := by omega
          go_wp2_with (go_at_call 15; refine (awake_any _ (T7.below hB)).mono ?_; rintro e w9 ⟨rfl, b9⟩)
          go_ret
          exact ⟨rfl, B7.trans ((hB.trans (b9.mono hB.size)).mono z7)⟩
end Go.Proofs.YticmjlnpjopfbaaDoor

namespace Go.Proofs.YticmjlnpjopfbaaDoor.wireAll
open Go.ChangeShapes Go.WideShapes Go.ChangeAt Go.RowKit
open S (Tab leaf Row)
set_option linter.unusedVariables false

theorem own : ownKnob Tryd.prog.godebug = none := by kernel_rfl
theorem laidOut : laidOutB Tryd.prog = true := by kernel_rfl
theorem gTab : Tryd.prog.globalNamed "eddy/seal.leaves" = some 0 := by kernel_rfl
theorem gTabType : (Tryd.prog.globals[0]?).map (·.type) = some 137 := by kernel_rfl
theorem cellsT : Tryd.prog.cellsOf 137 = 16 := by kernel_rfl
theorem cellsU : Tryd.prog.cellsOf 91 = 1 := by kernel_rfl
def leafI : List Int := [0, 498536548, 997073096, 651767980, 1994146192, 1802195444, 1303535960, 1342533948, 3988292384, 4027552580, 3604390888, 3412177804, 2607071920, 2262029012, 2685067896, 3183342108]
theorem leaf_int : ∀ i : Fin 16, leafI.getD i.val 0 = ((leaf i.val : Nat) : Int) := by decide +kernel
theorem table {W : World} (h : laidMetH Tryd.prog Rows.wireAllUptoRow.laid W) : Tab W := by
  have t : Lib.TabIs Tryd.prog W "eddy/seal.leaves" .u32 leafI := Lib.tabIs_of_head (rest := []) gTab gTabType Tryd.underlying137 Tryd.underlying91 cellsU cellsT h
  intro i hi
  have := t.cell gTab i (by show i < 16; exact hi)
  rw [leaf_int ⟨i, hi⟩] at this
  exact this

set_option maxRecDepth 100000 in
theorem contract (H : Type) (enc : TypeId × Value → H) (W : World) (base : Nat) (args : Array Value) (ds gs : List (DataW H)) (before : List MemPlace)
    (hval0 : ∀ (j : Nat) t v, Tryd.f7.params[j]? = some t → args[j]? = some v → Value.okWide Tryd.prog W .any base t v)
    (hW : DataW.Whole enc Tryd.prog Tryd.f7.params.toList Rows.wireAllSpec.vars false W args.toList ds gs before) (hL : laidMetH Tryd.prog Rows.wireAllUptoRow.laid W)
    (hk : Rows.uptoSmall H (ds ++ gs) = true) :
    Calls Tryd.prog 7 args W fun e W' => ∃ v, e = .returned v ∧ Rows.wireAllSpec.post enc Tryd.prog Tryd.f7 false true false false W args v W' := by
  have hval : ∀ (j : Nat) t v, Tryd.f7.params[j]? = some t → args[j]? = some v → Value.okWide Tryd.prog W .any base t v := hval0
  have hW' := hW
  obtain ⟨p, q, hA0, hV, rfl, hfz, hnd⟩ := hW
  have hA : DataW.TrodAll enc Tryd.prog W 0 (fun _ => true) true Tryd.f7.params.toList args.toList ds p := hA0
  rw [Tryd.params7] at hA hval
  have htab : Tab W := table hL
  obtain ⟨v0, vs0, d0, ds0, p0, q0, hargs, rfl, rfl, h0, r0⟩ := trodAll_cons hA
  obtain ⟨v1, vs1, d1, ds1, p1, q1, rfl, rfl, rfl, h1, r1⟩ := trodAll_cons r0
  obtain ⟨rfl, rfl, rfl⟩ := trodAll_nil r1
  obtain rfl : args = #[v0, v1] := by cases args; simp_all
  obtain ⟨rfl, rfl⟩ := trodVars_none hV
  have hb := of_decide_eq_true hk
  simp only [List.append_nil, Rows.uptoBulkAll, Nat.add_zero] at hb
  have k0 := h0
  have lt0 : ∀ x ∈ p0, x.block < W.heap.size := by obtain ⟨m, hm⟩ := k0; exact DataW.trod_lt m _ _ _ hm
  obtain ⟨a0, len0, cap0, rfl⟩ := okWide_slice Tryd.underlying52 (hval 0 52 v0 rfl rfl)
  obtain ⟨z0, R0, u0, m0⟩ := open_pkts k0
  have le0 := R0.le
  have k1 := h1
  have lt1 : ∀ x ∈ p1, x.block < W.heap.size := by obtain ⟨m, hm⟩ := k1; exact DataW.trod_lt m _ _ _ hm
  obtain ⟨a1, len1, cap1, rfl⟩ := okWide_slice Tryd.underlying27 (hval 1 27 v1 rfl rfl)
  obtain ⟨z1, R1, u1, m1⟩ := open_row Tryd.underlying27 Tryd.underlying5 cells5 k1
  have le1 := R1.le
  unfold maxLen at m1
  clear hA0 hval0
  refine (all_law a0 len0 cap0 z0 a1 len1 cap1 z1 W R0 R1 htab (fun q hq => by have h := m0 q hq; have hI := (R0.its q hq).size; have hI2 := (R0.its q hq).le; exact ⟨body_few (by omega) (fun y hy => by have := h.2.2 y hy; omega), h.1, body_byte h.1 (fun y hy => by have := h.2.2 y hy; omega)⟩) (by omega) (by omega)).mono fun e W' ⟨he, bel⟩ => ?_
  subst he
  exact ⟨_, rfl, _, _, _, [], _, [], hW', trodAll_mk1 (shut_bool Tryd.underlying4 _), (trodAll_cons_mk (Below.trod laidOut (by kernel_rfl) (of_decide_eq_true (by kernel_rfl)) k0 bel lt0) (trodAll_cons_mk (Below.trod laidOut (by kernel_rfl) (of_decide_eq_true (by kernel_rfl)) k1 bel lt1) trodAll_mk0)), rfl, bel.frame _, fun h => by cases h⟩

/-- A world for the witness: the settled one, the table holding what its initialiser lays. -/
def laidObj : Obj → Obj
  | .cells _ t frozen => .cells #[.int .u32 0, .int .u32 498536548, .int .u32 997073096, .int .u32 651767980, .int .u32 1994146192, .int .u32 1802195444, .int .u32 1303535960, .int .u32 1342533948, .int .u32 3988292384, .int .u32 4027552580, .int .u32 3604390888, .int .u32 3412177804, .int .u32 2607071920, .int .u32 2262029012, .int .u32 2685067896, .int .u32 3183342108] t frozen
  | o => o
theorem laid_met (os : Os) : laidMet Tryd.prog Rows.wireAllUptoRow.laid (({ World.holding Tryd.prog os ⟨#[], #[], []⟩ with heap := (World.holding Tryd.prog os ⟨#[], #[], []⟩).heap.modify 0 laidObj } : World).forCall (fun _ _ => 0) ⟨#[], #[.slice none 0 0, .slice none 0 0], []⟩).memory :=
  laidMet_of_run' 8 (by kernel_rfl) (by kernel_rfl)
theorem reads (os : Os) {H : Type} (enc : TypeId × Value → H) : ∃ places, DataW.whole enc Tryd.prog (({ World.holding Tryd.prog os ⟨#[], #[], []⟩ with heap := (World.holding Tryd.prog os ⟨#[], #[], []⟩).heap.modify 0 laidObj } : World).forCall (fun _ _ => 0) ⟨#[], #[.slice none 0 0, .slice none 0 0], []⟩).memory Tryd.f7.params.toList Rows.wireAllSpec.vars false (#[.slice none 0 0, .slice none 0 0] : Array Value).toList 8 = some ([.nil, .nil], [], places) :=
  ⟨[], by kernel_rfl⟩

set_option maxRecDepth 100000 in
theorem lifted (os : Os) (started : os.Started) (H : Type) (enc : TypeId × Value → H) (F : Stop.Interp) :
    ReturnsInHanded {} Tryd.checked os 7 .any ((Rows.OpenSpec.upto Rows.wireAllSpec).preRow enc Tryd.prog Tryd.f7 Rows.wireAllUptoRow.domain false Rows.wireAllUptoRow.laid) (((Rows.OpenSpec.upto Rows.wireAllSpec).at F).post enc Tryd.prog Tryd.f7 false true false false) := by
  obtain ⟨places, hx⟩ := reads os enc
  refine returnsInHanded_of_row (C := Tryd.checked) (s := (Rows.OpenSpec.upto Rows.wireAllSpec)) own started (by kernel_rfl) Tryd.func7
    (witness_row_at (enc := enc) (C := Tryd.checked) false ({ World.holding Tryd.prog os ⟨#[], #[], []⟩ with heap := (World.holding Tryd.prog os ⟨#[], #[], []⟩).heap.modify 0 laidObj } : World) #[.slice none 0 0, .slice none 0 0] rfl (by kernel_rfl) (by kernel_rfl) (by kernel_rfl)
      (OpenSpec.preRow_of_cond 8 hx (by kernel_rfl) (fun k hk => by cases hk; kernel_rfl) (by kernel_rfl) (laid_met os))) ?_
  intro W base args ds gs before hval hW _ hcond hsz hL _ _
  exact contract H enc W base args ds gs before hval hW hL (hcond _ rfl)

theorem over : Rows.WireAllUptoSaid :=
  OpenClaim.holds_of_cond 7 Tryd.f7 rfl rfl rfl rfl rfl rfl rfl ⟨rfl, rfl, rfl, rfl, rfl⟩ rfl rfl rfl rfl rfl (by kernel_rfl) Tryd.func7 (by kernel_rfl)
    (of_decide_eq_true (by kernel_rfl)) (by unfold Func.isWrapper; first | (rw [if_pos (by decide +kernel)]; kernel_rfl) | (rw [if_neg (by decide +kernel)]; exact ⟨rfl, rfl⟩))
    (fun os started H enc _ F => by rw [OpenClaim.pre_eq_preRow]; exact lifted os started H enc F)

theorem plain (f : FuncId) (fn : Func) (hf : Tryd.pinned.checked.prog.funcNamed "eddy/eddylaw05.WireAll" = some f) (hfn : Tryd.pinned.checked.prog.funcs[f]? = some fn) :
    true = Tryd.pinned.checked.prog.looks [] ∧ ∀ (j : Nat) t, fn.params[j]? = some t → Tryd.pinned.checked.prog.wantsStandIn t = false := by
  obtain rfl : f = 7 := Option.some.inj ((show Tryd.prog.funcNamed "eddy/eddylaw05.WireAll" = some 7 by kernel_rfl).symm.trans hf) |>.symm
  obtain rfl : fn = Tryd.f7 := (Option.some.inj (Tryd.func7.symm.trans hfn)).symm
  refine ⟨by kernel_rfl, fun j t ht => ?_⟩
  rw [Tryd.params7] at ht
  have h3 : t ∈ [52, 27] := List.mem_of_getElem? (by simpa using ht)
  simp only [List.mem_cons, List.not_mem_nil, or_false] at h3
  rcases h3 with rfl | rfl
  · exact (show Tryd.prog.wantsStandIn 52 = false by kernel_rfl)
  · exact (show Tryd.prog.wantsStandIn 27 = false by kernel_rfl)

/-- The statement: the tied card. -/
theorem proved : Rows.WireAllUptoCardSaid :=
  Claim7.holds_tied_plain_at .later [] _ _ _ _ over (fun _ h => by cases h) (by kernel_rfl) (fun _ h => by cases h) wireAllUpto_row_tie rfl ⟨rfl, rfl⟩ (by kernel_rfl) rfl plain (by kernel_rfl)
#print axioms proved
end Go.Proofs.YticmjlnpjopfbaaDoor.wireAll
