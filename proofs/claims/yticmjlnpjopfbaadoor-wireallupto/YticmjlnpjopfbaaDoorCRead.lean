/-
  Reading a row of fields (package code, read.go): Read.
-/
import Derived.Test.YticmjlnpjopfbaaDoorCCatch
namespace Go.Proofs.YticmjlnpjopfbaaDoor.C
open Go.ChangeShapes Go.WideShapes Go.ChangeAt Go.RowKit
set_option linter.unusedVariables false

/-- A row of fields, read: acc are there already, i bytes are behind. -/
def rdF : List Int → List Int → List Fld → Nat → Except Int (List Fld × Nat)
  | [], _, acc, i => .ok (acc, i)
  | k :: ks, bs, acc, i => match fld k (bs.drop i) with
    | .ok (f, n) => rdF ks bs (acc ++ [f]) (i + n)
    | .error c => .error c
def rd (ks bs : List Int) : Except Int (List Fld × Nat) := rdF ks bs [] 0
theorem rdF_ok {k : Int} {ks bs : List Int} {acc : List Fld} {i n : Nat} {f : Fld} (h : fld k (bs.drop i) = .ok (f, n)) : rdF (k :: ks) bs acc i = rdF ks bs (acc ++ [f]) (i + n) := by simp only [rdF, h]
theorem rdF_err {k : Int} {ks bs : List Int} {acc : List Fld} {i : Nat} {c : Int} (h : fld k (bs.drop i) = .error c) : rdF (k :: ks) bs acc i = .error c := by simp only [rdF, h]

theorem info50 : (Tryd.prog.info? 75).map (fun i => (i.zero, i.size, i.bytes)) = some (some (.agg #[.int .i64 0, .int .i64 0, .string ⟨#[]⟩, .bool false]), 4, 40) := by kernel_rfl

/-- Fields of one's own. -/
def OwnF (base : Nat) (w : World) (v : Value) (fs : List Fld) : Prop := w.ownsRow base 75 4 v fs.length (fs.flatMap fcells)

theorem Two.at {W : World} {k k' : Nat} {v0 v1 : Value} (h : Two W k v0 v1) (e : k = k') : Two W k' v0 v1 := e ▸ h

theorem Pl.grown {W0 : World} {a : Option Addr} {len cap : Nat} {zs : List Int} {p i : Nat} {w w' : World} {row : Option Nat} (h : Pl W0 a len cap zs p i w) (hg : w.grownBy w' row) (hr : ∀ k, row = some k → p < k) : Pl W0 a len cap zs p i w' :=
  ⟨h.two.of_block (hg.block p h.two.2.2.2.2 (fun e => by have := hr p e.symm; omega)) hg.size, h.row, h.old.grown hg h.old.size (fun k hk => by have := hr k hk; have := h.hp; omega), h.hp, h.le, h.max, h.cmax⟩
theorem Pl.far {W0 : World} {a : Option Addr} {len cap : Nat} {zs : List Int} {p i : Nat} {w : World} (h : Pl W0 a len cap zs p i w) {k : Nat} (h1 : W0.heap.size ≤ k) (h2 : p ≠ k) (j : Nat) (v : Value) : Pl W0 a len cap zs p i (w.setCell ⟨k, j, none⟩ v) :=
  ⟨h.two.of_block (Below.heap_setCell _ _ _ _ h2) (by simp), h.row, h.old.setCell h1 _, h.hp, h.le, h.max, h.cmax⟩

/-- Behind the append: the new list, in its variable; the rest as it was. -/
theorem read_next {w w1 w2 : World} {a : Option Addr} {len cap : Nat} {zs : List Int} {i m : Nat} {v v' : Value} {o : Obj} {xs : List Value} (O0 : One w1 w.heap.size v) (O1 : One w1 (w.heap.size + 1) (.int .i64 0)) (O2 : One w1 (w.heap.size + 1 + 1) (.int .i64 0))
    (P : Pl w a len cap zs (w.heap.size + 1 + 1 + 1) i w1) (hg : (w1.alloc o).grownBy w2 v.ownBlock) (hlt : ∀ k, v.ownBlock = some k → w.heap.size + 1 + 1 + 1 + 1 ≤ k) (own : w2.ownsRow (w.heap.size + 1 + 1 + 1 + 1) 75 4 v' m xs) :
    One w2 w.heap.size v ∧ One (w2.setCell ⟨w.heap.size, 0, none⟩ v') w.heap.size v' ∧ One (w2.setCell ⟨w.heap.size, 0, none⟩ v') (w.heap.size + 1) (.int .i64 0) ∧ One (w2.setCell ⟨w.heap.size, 0, none⟩ v') (w.heap.size + 1 + 1) (.int .i64 0) ∧
      Pl w a len cap zs (w.heap.size + 1 + 1 + 1) i (w2.setCell ⟨w.heap.size, 0, none⟩ v') ∧ (w2.setCell ⟨w.heap.size, 0, none⟩ v').ownsRow (w.heap.size + 1 + 1 + 1 + 1) 75 4 v' m xs := by
  have q0 : One w2 w.heap.size v := (O0.alloc o).grown hg (fun e => by have := hlt _ e; omega)
  refine ⟨q0, q0.set _, ?_, ?_, ?_, ?_⟩
  · exact ((O1.alloc o).grown hg (fun e => by have := hlt _ e; omega)).far _ (by omega) _
  · exact ((O2.alloc o).grown hg (fun e => by have := hlt _ e; omega)).far _ (by omega) _
  · exact ((P.alloc o).grown hg (fun k e => by have := hlt _ e; omega)).far (Nat.le_refl _) (by omega) _ _
  · exact ownsRow_setCell_below own (by show w.heap.size < _; omega) _

theorem new_cells (w : World) (f : Fld) (t : TypeId) : ∀ (j : Nat) (u : Value), (fcells f)[j]? = some u → (w.alloc (.cells #[.int .i64 f.kind, .int .i64 f.num, .string f.text, .bool f.is] t)).cell? ((⟨w.heap.size, 0, none⟩ : Addr).add j) = some u := by
  intro j u hj
  match j with
  | 0 => simp [fcells] at hj; subst hj; simp [Addr.add]
  | 1 => simp [fcells] at hj; subst hj; simp [Addr.add]
  | 2 => simp [fcells] at hj; subst hj; simp [Addr.add]
  | 3 => simp [fcells] at hj; subst hj; simp [Addr.add]
  | _ + 4 => simp [fcells] at hj

theorem owns_some {W : World} {base : Nat} {e : TypeId} {v : Value} {n : Nat} {xs : List Value} (h : W.ownsRow base e 4 v n xs) (h0 : n ≠ 0) : ∃ g cap, v = .slice (some ⟨g, 0, none⟩) n cap := by
  rcases h.2 with ⟨_, rfl⟩ | ⟨g, cap, cur, rfl, _⟩
  · have := h.1
    simp at this
    omega
  · exact ⟨g, cap, rfl⟩
theorem owns_slice {W : World} {base : Nat} {e : TypeId} {v : Value} {n : Nat} {xs : List Value} (h : W.ownsRow base e 4 v n xs) : ∃ a cap, v = .slice a n cap := by
  rcases h.2 with ⟨rfl, rfl⟩ | ⟨g, cap, cur, rfl, _⟩
  · have := h.1
    simp at this
    subst this
    exact ⟨none, 0, rfl⟩
  · exact ⟨_, cap, rfl⟩

theorem owns_at {W : World} {base base' : Nat} {e : TypeId} {size : Nat} {v : Value} {n : Nat} {xs : List Value} (h : W.ownsRow base e size v n xs) (hb : base' ≤ base) : W.ownsRow base' e size v n xs := by
  refine ⟨h.1, ?_⟩
  rcases h.2 with hn | ⟨g, cap, cur, rfl, hg, r⟩
  · exact .inl hn
  · exact .inr ⟨g, cap, cur, rfl, by omega, r⟩

def ReadOut (w : World) (res : Except Int (List Fld × Nat)) (e : Ending) (w' : World) : Prop :=
  Below w.heap.size w w' ∧ match res with
    | .ok (fs, n) => ∃ v, e = .returned (.tuple #[v, .int .i64 n, .int .i64 0]) ∧ OwnF w.heap.size w' v fs
    | .error c => e = .returned (.tuple #[.slice none 0 0, .int .i64 0, .int .i64 c])

set_option maxHeartbeats 4000000 in
theorem read_out (a : Option Addr) (len cap : Nat) (zs : List Int) (a2 : Option Addr) (len2 cap2 : Nat) (ks : List Int) (w : World) (R : Row .u8 w a len cap zs) (K : Row .i64 w a2 len2 cap2 ks)
    (hl : len ≤ 70368744170000) (hc : cap ≤ 9223372036854775807) (hl2 : len2 ≤ 1099511627776) (res : Except Int (List Fld × Nat)) (h : rd ks zs = res) :
    Calls Tryd.prog 67 #[.slice a len cap, .slice a2 len2 cap2] w (ReadOut w res) := by
  have hmf : ∀ (fn : Fn) (first cap : Array Value) (w : World), (Instr.makeFunc fn first cap).run Tryd.prog w = .ok (.func fn first cap) w := fun _ _ _ _ => rfl
  obtain ⟨i0, hi, hz0, hz1, hz2⟩ := info_parts info50
  have HK : Hid (Row .i64 w a2 len2 cap2 ks) := K
  have HR : Hid (Row .u8 w a len cap zs) := R
  have HH : Hid (rd ks zs = res) := h
  have HKL : Hid (ks.length = len2) := K.size
  clear R K h
  go_enter_defers Tryd.func67, Tryd.ntmps67
  go_wp2
  go_loopg [16] len2 (fun g c wr => ∃ (j i : Nat) (fs : List Fld) (v : Value), c = .int .i64 j ∧ j + g = len2 ∧ One wr w.heap.size v ∧ One wr (w.heap.size + 1) (.int .i64 0) ∧ One wr (w.heap.size + 1 + 1) (.int .i64 0) ∧
    Pl w a len cap zs (w.heap.size + 1 + 1 + 1) i wr ∧ wr.ownsRow (w.heap.size + 1 + 1 + 1 + 1) 75 4 v fs.length (fs.flatMap fcells) ∧ fs.length = j ∧ Hid (rdF (ks.drop j) zs fs i = res))
  case atStart =>
    refine ⟨0, 0, [], .slice none 0 0, rfl, by omega, ?_, ?_, ?_, ⟨?_, HR.out, ?_, by omega, by omega, hl, hc⟩, World.ownsRow_nil _ _ _ _, rfl, HH.out⟩
    · exact (((One.new w _ _).alloc _).alloc _).alloc _
    · exact (((One.new _ _ _).at (by simp)).alloc _).alloc _
    · exact (((One.new _ _ _).at (by simp))).alloc _
    · exact (Two.new _ _ _ _).at (by simp)
    · exact (((((Below.refl _ _).alloc (Nat.le_refl _) _).alloc (by simp) _).alloc (by simp; omega) _).alloc (by simp; omega) _)
  case round =>
    obtain ⟨j, i, fs, v, rfl, hg, O0, O1, O2, P, hown, hfl, HE⟩ := hrel
    have HG : Hid (j + gk = len2) := hg
    have hj : j ≤ len2 := by omega
    have f1 : fs.length ≤ j := by omega
    have f2 : j ≤ fs.length := by omega
    clear hg hfl
    by_cases hlt : j < len2
    · obtain ⟨b2, o2, rfl, hb2, hc2⟩ := HK.out.mem.resolve_left (by omega)
      have hcell := (P.old.cell (p := ⟨b2, o2 + j, none⟩) hb2).trans (hc2 j hlt)
      have hd := drop_cons (zs := ks) (k := j) (by have := HKL.out; omega)
      rw [hd] at HE
      clear hd hc2
      obtain ⟨k, hk⟩ : ∃ k, ks.getD j 0 = k := ⟨_, rfl⟩
      rw [hk] at HE hcell
      have hI : (j : Int) < (len2 : Int) := by omega
      obtain ⟨l0, l1, l2⟩ := id O0
      cases hf : fld k (zs.drop i) with
      | error c =>
        have HF : Hid (fld k (zs.drop i) = .error c) := hf
        have E : res = .error c := by rw [← HE.out, rdF_err hf]
        clear hf hk
        subst E
        go_wp2
        refine wp_region_any (by kernel_rfl) ?_
        change wpAny _ _ _ _ _ _ _ (World.drew _)
        refine wpAny_ready (rs := [0, 1]) (by kernel_rfl) (by simp) ?_
        refine AllReady.cons rfl (fun K hK => ?_) (AllReady.cons rfl (fun K hK => ?_) AllReady.nil)
        · go_simp
          refine hK _ _ ?_
          refine wpAny_ready (rs := [1]) (by kernel_rfl) (by simp) ?_
          refine AllReady.cons rfl (fun K hK => ?_) AllReady.nil
          go_simp
          refine hK _ _ ?_
          refine wpAny_ready (rs := [2]) (by kernel_rfl) (by simp) ?_
          refine AllReady.cons rfl (fun K hK => ?_) AllReady.nil
          go_simp
          go_wp2_with (go_at_call 85; refine (field_err w a len cap zs _ i k _ P.drew c HF.out).mono ?_; rintro e w1 ⟨rfl, hk1⟩)
          refine leaves_cons (f := 83) (args := #[.pointer (some ⟨w.heap.size, 0, none⟩), .pointer (some ⟨w.heap.size + 1, 0, none⟩), .pointer (some ⟨w.heap.size + 1 + 1, 0, none⟩)]) (by simp) (by simp [go_sem]) ?_
          refine (catch_panicking _ _ _ _ _ _ c [] _ (One.kp O0.drew hk1 (by omega)) (One.kp O1.drew hk1 (by omega)) (One.kp O2.drew hk1 (by omega)) (by omega) (by omega) (by omega)).mono ?_
          rintro e u' w'' ⟨rfl, rfl, rfl⟩
          have B1 : Below w.heap.size w w1 := P.drew.old.trans (hk1.below (by omega) (by have := P.old.size; simpa using this))
          obtain ⟨x0, x1, x2⟩ := One.kp O0.drew hk1 (by omega)
          obtain ⟨y0, y1, y2⟩ := One.kp O1.drew hk1 (by omega)
          obtain ⟨z0, z1, z2⟩ := One.kp O2.drew hk1 (by omega)
          refine ⟨.tuple #[.slice none 0 0, .int .i64 0, .int .i64 c], ?_, ?_, rfl⟩
          · simp [results, Tryd.results67, go_sem, x0, y0, z0]
          · exact ((B1.setCell (by simp) _).setCell (by simp) _).setCell (by simp; omega) _
        · go_simp
          refine hK _ _ ?_
          refine wpAny_ready (rs := [0, 2]) (by kernel_rfl) (by simp) ?_
          refine AllReady.cons rfl (fun K hK => ?_) (AllReady.cons rfl (fun K hK => ?_) AllReady.nil)
          · go_simp
            refine hK _ _ ?_
            refine wpAny_ready (rs := [2]) (by kernel_rfl) (by simp) ?_
            refine AllReady.cons rfl (fun K hK => ?_) AllReady.nil
            go_simp
            go_wp2_with (go_at_call 85; refine (field_err w a len cap zs _ i k _ P.drew c HF.out).mono ?_; rintro e w1 ⟨rfl, hk1⟩)
            refine leaves_cons (f := 83) (args := #[.pointer (some ⟨w.heap.size, 0, none⟩), .pointer (some ⟨w.heap.size + 1, 0, none⟩), .pointer (some ⟨w.heap.size + 1 + 1, 0, none⟩)]) (by simp) (by simp [go_sem]) ?_
            refine (catch_panicking _ _ _ _ _ _ c [] _ (One.kp O0.drew hk1 (by omega)) (One.kp O1.drew hk1 (by omega)) (One.kp O2.drew hk1 (by omega)) (by omega) (by omega) (by omega)).mono ?_
            rintro e u' w'' ⟨rfl, rfl, rfl⟩
            have B1 : Below w.heap.size w w1 := P.drew.old.trans (hk1.below (by omega) (by have := P.old.size; simpa using this))
            obtain ⟨x0, x1, x2⟩ := One.kp O0.drew hk1 (by omega)
            obtain ⟨y0, y1, y2⟩ := One.kp O1.drew hk1 (by omega)
            obtain ⟨z0, z1, z2⟩ := One.kp O2.drew hk1 (by omega)
            refine ⟨.tuple #[.slice none 0 0, .int .i64 0, .int .i64 c], ?_, ?_, rfl⟩
            · simp [results, Tryd.results67, go_sem, x0, y0, z0]
            · exact ((B1.setCell (by simp) _).setCell (by simp) _).setCell (by simp; omega) _
          · go_simp
            go_wp2_with (go_at_call 85; refine (field_err w a len cap zs _ i k _ P.drew c HF.out).mono ?_; rintro e w1 ⟨rfl, hk1⟩)
            refine leaves_cons (f := 83) (args := #[.pointer (some ⟨w.heap.size, 0, none⟩), .pointer (some ⟨w.heap.size + 1, 0, none⟩), .pointer (some ⟨w.heap.size + 1 + 1, 0, none⟩)]) (by simp) (by simp [go_sem]) ?_
            refine (catch_panicking _ _ _ _ _ _ c [] _ (One.kp O0.drew hk1 (by omega)) (One.kp O1.drew hk1 (by omega)) (One.kp O2.drew hk1 (by omega)) (by omega) (by omega) (by omega)).mono ?_
            rintro e u' w'' ⟨rfl, rfl, rfl⟩
            have B1 : Below w.heap.size w w1 := P.drew.old.trans (hk1.below (by omega) (by have := P.old.size; simpa using this))
            obtain ⟨x0, x1, x2⟩ := One.kp O0.drew hk1 (by omega)
            obtain ⟨y0, y1, y2⟩ := One.kp O1.drew hk1 (by omega)
            obtain ⟨z0, z1, z2⟩ := One.kp O2.drew hk1 (by omega)
            refine ⟨.tuple #[.slice none 0 0, .int .i64 0, .int .i64 c], ?_, ?_, rfl⟩
            · simp [results, Tryd.results67, go_sem, x0, y0, z0]
            · exact ((B1.setCell (by simp) _).setCell (by simp) _).setCell (by simp; omega) _
      | ok r =>
        obtain ⟨f, n⟩ := r
        have HF : Hid (fld k (zs.drop i) = .ok (f, n)) := hf
        have HE' : Hid (rdF (ks.drop (j + 1)) zs (fs ++ [f]) (i + n) = res) := by show _ = _; rw [← HE.out, rdF_ok hf]
        have HO : Hid (wr.ownsRow (w.heap.size + 1 + 1 + 1 + 1) 75 4 v fs.length (fs.flatMap fcells)) := hown
        clear hf hk hown HE
        go_wp2
        refine wp_region_any (by kernel_rfl) ?_
        change wpAny _ _ _ _ _ _ _ (World.drew _)
        refine wpAny_ready (rs := [0, 1]) (by kernel_rfl) (by simp) ?_
        refine AllReady.cons rfl (fun K hK => ?_) (AllReady.cons rfl (fun K hK => ?_) AllReady.nil)
        · go_simp
          refine hK _ _ ?_
          refine wpAny_ready (rs := [1]) (by kernel_rfl) (by simp) ?_
          refine AllReady.cons rfl (fun K hK => ?_) AllReady.nil
          go_simp
          refine hK _ _ ?_
          refine wpAny_ready (rs := [2]) (by kernel_rfl) (by simp) ?_
          refine AllReady.cons rfl (fun K hK => ?_) AllReady.nil
          go_simp
          go_wp2_with (go_at_call 85; refine (field_ok w a len cap zs _ i k _ P.drew f n HF.out).mono ?_; rintro e w1 ⟨rfl, hp1, hk1⟩; have Q0 := One.kp O0.drew hk1 (by omega); obtain ⟨x0, x1, x2⟩ := id Q0)
          refine wpAny_ready (rs := [3]) (by kernel_rfl) (by simp) ?_
          refine AllReady.cons rfl (fun K hK => ?_) AllReady.nil
          go_simp
          refine hK _ _ ?_
          refine wpAny_ready (rs := [4]) (by kernel_rfl) (by simp) ?_
          refine AllReady.cons rfl (fun K hK => ?_) AllReady.nil
          rw [if_pos (by rfl)]
          have Q1 := One.kp O1.drew hk1 (by omega)
          have Q2 := One.kp O2.drew hk1 (by omega)
          have own1 := (World.ownsRow.kept (World.ownsRow.drew HO.out) hk1 (.inr (fun e => by have := (World.ownsRow.lt HO.out _ e).1; omega)))
          refine wp_append_own _ _ _ 63 rfl (w.heap.size + 1 + 1 + 1 + 1) 75 i0 _ 4 40 Tryd.underlying63 hi hz0 hz1 hz2 rfl (by decide) v fs.length (fs.flatMap fcells) rfl (own1.alloc _) ⟨w1.heap.size, 0, none⟩ 1 1 (fcells f) rfl rfl (new_cells _ _ _) (by simp [fcells, Value.oneCell']) (by unfold maxLen; omega) (by omega) (by have := hp1.two.2.2.2.2; simp; omega) ?_
          intro v' w2 own2 hg2 _; obtain ⟨g', cap', hv'⟩ := owns_some own2 (by omega); subst hv'
          obtain ⟨s0, s1, s2, s3, s4, s5⟩ := read_next Q0 Q1 Q2 hp1 hg2 (fun q e => (World.ownsRow.lt HO.out q e).1) own2
          obtain ⟨t0, t1, t2⟩ := id s0
          refine hK _ _ ?_
          refine wpAny_ready (rs := [5]) (by kernel_rfl) (by simp) ?_
          refine AllReady.cons rfl (fun K hK => ?_) AllReady.nil
          go_simp
          refine hK _ _ ?_
          refine wpAny_done (by kernel_rfl) ?_ _
          clear own1 own2 hg2 Q0 Q1 Q2 t0 t1 t2 s0 x0 x1 x2
          go_wp2
          go_roundg (gk - 1)
          case measure => have := HG.out; omega
          case rel => exact ⟨j + 1, i + n, fs ++ [f], _, by go_num, by have := HG.out; omega, s1, s2, s3, s4, by simpa using s5, by simp; omega, HE'⟩
        · go_simp
          refine hK _ _ ?_
          refine wpAny_ready (rs := [0, 2]) (by kernel_rfl) (by simp) ?_
          refine AllReady.cons rfl (fun K hK => ?_) (AllReady.cons rfl (fun K hK => ?_) AllReady.nil)
          · go_simp
            refine hK _ _ ?_
            refine wpAny_ready (rs := [2]) (by kernel_rfl) (by simp) ?_
            refine AllReady.cons rfl (fun K hK => ?_) AllReady.nil
            go_simp
            go_wp2_with (go_at_call 85; refine (field_ok w a len cap zs _ i k _ P.drew f n HF.out).mono ?_; rintro e w1 ⟨rfl, hp1, hk1⟩; have Q0 := One.kp O0.drew hk1 (by omega); obtain ⟨x0, x1, x2⟩ := id Q0)
            refine wpAny_ready (rs := [3]) (by kernel_rfl) (by simp) ?_
            refine AllReady.cons rfl (fun K hK => ?_) AllReady.nil
            go_simp
            refine hK _ _ ?_
            refine wpAny_ready (rs := [4]) (by kernel_rfl) (by simp) ?_
            refine AllReady.cons rfl (fun K hK => ?_) AllReady.nil
            rw [if_pos (by rfl)]
            have Q1 := One.kp O1.drew hk1 (by omega)
            have Q2 := One.kp O2.drew hk1 (by omega)
            have own1 := (World.ownsRow.kept (World.ownsRow.drew HO.out) hk1 (.inr (fun e => by have := (World.ownsRow.lt HO.out _ e).1; omega)))
            refine wp_append_own _ _ _ 63 rfl (w.heap.size + 1 + 1 + 1 + 1) 75 i0 _ 4 40 Tryd.underlying63 hi hz0 hz1 hz2 rfl (by decide) v fs.length (fs.flatMap fcells) rfl (own1.alloc _) ⟨w1.heap.size, 0, none⟩ 1 1 (fcells f) rfl rfl (new_cells _ _ _) (by simp [fcells, Value.oneCell']) (by unfold maxLen; omega) (by omega) (by have := hp1.two.2.2.2.2; simp; omega) ?_
            intro v' w2 own2 hg2 _; obtain ⟨g', cap', hv'⟩ := owns_some own2 (by omega); subst hv'
            obtain ⟨s0, s1, s2, s3, s4, s5⟩ := read_next Q0 Q1 Q2 hp1 hg2 (fun q e => (World.ownsRow.lt HO.out q e).1) own2
            obtain ⟨t0, t1, t2⟩ := id s0
            refine hK _ _ ?_
            refine wpAny_ready (rs := [5]) (by kernel_rfl) (by simp) ?_
            refine AllReady.cons rfl (fun K hK => ?_) AllReady.nil
            go_simp
            refine hK _ _ ?_
            refine wpAny_done (by kernel_rfl) ?_ _
            clear own1 own2 hg2 Q0 Q1 Q2 t0 t1 t2 s0 x0 x1 x2
            go_wp2
            go_roundg (gk - 1)
            case measure => have := HG.out; omega
            case rel => exact ⟨j + 1, i + n, fs ++ [f], _, by go_num, by have := HG.out; omega, s1, s2, s3, s4, by simpa using s5, by simp; omega, HE'⟩
          · go_simp
            go_wp2_with (go_at_call 85; refine (field_ok w a len cap zs _ i k _ P.drew f n HF.out).mono ?_; rintro e w1 ⟨rfl, hp1, hk1⟩; have Q0 := One.kp O0.drew hk1 (by omega); obtain ⟨x0, x1, x2⟩ := id Q0)
            refine wpAny_ready (rs := [0, 3]) (by kernel_rfl) (by simp) ?_
            refine AllReady.cons rfl (fun K hK => ?_) (AllReady.cons rfl (fun K hK => ?_) AllReady.nil)
            · go_simp
              refine hK _ _ ?_
              refine wpAny_ready (rs := [3]) (by kernel_rfl) (by simp) ?_
              refine AllReady.cons rfl (fun K hK => ?_) AllReady.nil
              go_simp
              refine hK _ _ ?_
              refine wpAny_ready (rs := [4]) (by kernel_rfl) (by simp) ?_
              refine AllReady.cons rfl (fun K hK => ?_) AllReady.nil
              rw [if_pos (by rfl)]
              have Q1 := One.kp O1.drew hk1 (by omega)
              have Q2 := One.kp O2.drew hk1 (by omega)
              have own1 := (World.ownsRow.kept (World.ownsRow.drew HO.out) hk1 (.inr (fun e => by have := (World.ownsRow.lt HO.out _ e).1; omega)))
              refine wp_append_own _ _ _ 63 rfl (w.heap.size + 1 + 1 + 1 + 1) 75 i0 _ 4 40 Tryd.underlying63 hi hz0 hz1 hz2 rfl (by decide) v fs.length (fs.flatMap fcells) rfl (own1.alloc _) ⟨w1.heap.size, 0, none⟩ 1 1 (fcells f) rfl rfl (new_cells _ _ _) (by simp [fcells, Value.oneCell']) (by unfold maxLen; omega) (by omega) (by have := hp1.two.2.2.2.2; simp; omega) ?_
              intro v' w2 own2 hg2 _; obtain ⟨g', cap', hv'⟩ := owns_some own2 (by omega); subst hv'
              obtain ⟨s0, s1, s2, s3, s4, s5⟩ := read_next Q0 Q1 Q2 hp1 hg2 (fun q e => (World.ownsRow.lt HO.out q e).1) own2
              obtain ⟨t0, t1, t2⟩ := id s0
              refine hK _ _ ?_
              refine wpAny_ready (rs := [5]) (by kernel_rfl) (by simp) ?_
              refine AllReady.cons rfl (fun K hK => ?_) AllReady.nil
              go_simp
              refine hK _ _ ?_
              refine wpAny_done (by kernel_rfl) ?_ _
              clear own1 own2 hg2 Q0 Q1 Q2 t0 t1 t2 s0 x0 x1 x2
              go_wp2
              go_roundg (gk - 1)
              case measure => have := HG.out; omega
              case rel => exact ⟨j + 1, i + n, fs ++ [f], _, by go_num, by have := HG.out; omega, s1, s2, s3, s4, by simpa using s5, by simp; omega, HE'⟩
            · go_simp
              refine hK _ _ ?_
              refine wpAny_ready (rs := [0]) (by kernel_rfl) (by simp) ?_
              refine AllReady.cons rfl (fun K hK => ?_) AllReady.nil
              go_simp
              refine hK _ _ ?_
              refine wpAny_ready (rs := [4]) (by kernel_rfl) (by simp) ?_
              refine AllReady.cons rfl (fun K hK => ?_) AllReady.nil
              rw [if_pos (by rfl)]
              have Q1 := One.kp O1.drew hk1 (by omega)
              have Q2 := One.kp O2.drew hk1 (by omega)
              have own1 := (World.ownsRow.kept (World.ownsRow.drew HO.out) hk1 (.inr (fun e => by have := (World.ownsRow.lt HO.out _ e).1; omega)))
              refine wp_append_own _ _ _ 63 rfl (w.heap.size + 1 + 1 + 1 + 1) 75 i0 _ 4 40 Tryd.underlying63 hi hz0 hz1 hz2 rfl (by decide) v fs.length (fs.flatMap fcells) rfl (own1.alloc _) ⟨w1.heap.size, 0, none⟩ 1 1 (fcells f) rfl rfl (new_cells _ _ _) (by simp [fcells, Value.oneCell']) (by unfold maxLen; omega) (by omega) (by have := hp1.two.2.2.2.2; simp; omega) ?_
              intro v' w2 own2 hg2 _; obtain ⟨g', cap', hv'⟩ := owns_some own2 (by omega); subst hv'
              obtain ⟨s0, s1, s2, s3, s4, s5⟩ := read_next Q0 Q1 Q2 hp1 hg2 (fun q e => (World.ownsRow.lt HO.out q e).1) own2
              obtain ⟨t0, t1, t2⟩ := id s0
              refine hK _ _ ?_
              refine wpAny_ready (rs := [5]) (by kernel_rfl) (by simp) ?_
              refine AllReady.cons rfl (fun K hK => ?_) AllReady.nil
              go_simp
              refine hK _ _ ?_
              refine wpAny_done (by kernel_rfl) ?_ _
              clear own1 own2 hg2 Q0 Q1 Q2 t0 t1 t2 s0 x0 x1 x2
              go_wp2
              go_roundg (gk - 1)
              case measure => have := HG.out; omega
              case rel => exact ⟨j + 1, i + n, fs ++ [f], _, by go_num, by have := HG.out; omega, s1, s2, s3, s4, by simpa using s5, by simp; omega, HE'⟩
    · have E : res = .ok (fs, i) := by
        rw [← HE.out, List.drop_eq_nil_of_le (by have := HKL.out; omega)]; rfl
      subst E
      obtain ⟨va, vc, hv⟩ := owns_slice hown
      subst hv
      obtain ⟨l0, l1, l2⟩ := id O0
      obtain ⟨m0, m1, m2⟩ := id O1
      obtain ⟨n0, n1, n2⟩ := id O2
      obtain ⟨p0, p1, p2, p3, p4⟩ := id P.two
      have HO : Hid (wr.ownsRow (w.heap.size + 1 + 1 + 1 + 1) 75 4 (.slice va fs.length vc) fs.length (fs.flatMap fcells)) := hown
      clear hown
      go_wp2
      go_region
      all_goals go_wp2
      all_goals refine leaves_cons (f := 83) (args := #[.pointer (some ⟨w.heap.size, 0, none⟩), .pointer (some ⟨w.heap.size + 1, 0, none⟩), .pointer (some ⟨w.heap.size + 1 + 1, 0, none⟩)]) (by simp) (by simp [go_sem]) ?_
      all_goals refine (catch_idle _ _ _ _).mono ?_
      all_goals rintro e u' w'' ⟨rfl, rfl, rfl⟩
      all_goals refine ⟨.tuple #[.slice va fs.length vc, .int .i64 i, .int .i64 0], ?_, ?_, _, rfl, ?_⟩
      · simp [results, Tryd.results67, go_sem, l0, m0, n0]
      · exact (((P.old.setCell (Nat.le_refl _) _).setCell (by simp) _).setCell (by simp; omega) _).drew
      · have h1 := World.ownsRow.drew (ownsRow_setCell_below (ownsRow_setCell_below (ownsRow_setCell_below HO.out (a := ⟨w.heap.size, 0, none⟩) (by show w.heap.size < _; omega) (.slice va fs.length vc)) (a := ⟨w.heap.size + 1, 0, none⟩) (by show w.heap.size + 1 < _; omega) (.int .i64 i)) (a := ⟨w.heap.size + 1 + 1, 0, none⟩) (by show w.heap.size + 1 + 1 < _; omega) (.int .i64 0))
        exact owns_at h1 (by omega)

end Go.Proofs.YticmjlnpjopfbaaDoor.C
