/-
  Package book: the iterator over entries.
-/
import Derived.Test.YtcacocndcfbmaaaB0
import Derived.Test.YtcacocndcfbmaaaH12
import Derived.Test.YtcacocndcfbmaaaHeldIn
import Derived.Test.YtcacocndcfbmaaaH17
namespace Go.Proofs.Ytcacocndcfbmaaa
open Go.ChangeShapes Go.WideShapes Go.ChangeAt Go.RowKit Go.Maps Go.Shelf
set_option linter.unusedVariables false
set_option linter.unusedSimpArgs false
attribute [local go_sem] Oper.semAt_some

/-- What a half-edge's entry is, if it has a line of the name. -/
def ent1 (id : Int) (name : ByteArray) (x : HS) : Option (Int × Int) :=
  if zeroB (regN name x.ls).v (regN name x.ls).p (regN name x.ls).f = true then none else some (x.peer, outZ (regN name x.ls).v (regN name x.ls).p (regN name x.ls).f id x.peer)
def ents (id : Int) (name : ByteArray) (hs : List HS) : List (Int × Int) := hs.filterMap (ent1 id name)
theorem ents_none {id : Int} {name : ByteArray} {hs : List HS} {i : Nat} (hi : i < hs.length) (h : ent1 id name (hs.getD i HS.z) = none) : ents id name (hs.take (i + 1)) = ents id name (hs.take i) := by
  unfold ents
  rw [take_next (z := HS.z) hi, List.filterMap_append, List.filterMap_cons, h]
  simp
theorem ents_some {id : Int} {name : ByteArray} {hs : List HS} {i : Nat} {p : Int × Int} (hi : i < hs.length) (h : ent1 id name (hs.getD i HS.z) = some p) : ents id name (hs.take (i + 1)) = ents id name (hs.take i) ++ [p] ∧ (ents id name hs)[(ents id name (hs.take i)).length]? = some p := by
  have e : ents id name (hs.take (i + 1)) = ents id name (hs.take i) ++ [p] := by
    unfold ents
    rw [take_next (z := HS.z) hi, List.filterMap_append, List.filterMap_cons, h]
    simp
  refine ⟨e, ?_⟩
  have e2 : ents id name hs = ents id name (hs.take (i + 1)) ++ ents id name (hs.drop (i + 1)) := by
    unfold ents
    rw [← List.filterMap_append, List.take_append_drop]
  rw [e2, e, List.append_assoc, List.getElem?_append_right (Nat.le_refl _), Nat.sub_self]
  rfl
theorem ents_len (id : Int) (name : ByteArray) (hs : List HS) : (ents id name hs).length ≤ hs.length := List.length_filterMap_le _ _
theorem ents_rng {id : Int} {name : ByteArray} {hs : List HS} {p : Int × Int} (h : p ∈ ents id name hs) : -2147483647 ≤ p.2 ∧ p.2 ≤ 2147483647 := by
  obtain ⟨x, _, hx⟩ := List.mem_filterMap.1 h
  unfold ent1 at hx
  split at hx
  · cases hx
  · cases hx
    exact out_rng _ _ _ _ _
def encE (p : Int × Int) : Array Value := #[.int .i64 p.1, .int .i64 p.2]
/-- What the iterator has captured stays. -/
structure KeepE (w0 : World) (fb : Nat) (id : Int) (v : Value) (name : ByteArray) (W : World) : Prop where
  below : Below w0.heap.size w0 W
  id_ : One W fb (.int .i64 id)
  lst : One W (fb + 1) v
  nm : One W (fb + 1 + 1) (.string name)
theorem KeepE.same {w0 A B : World} {fb M : Nat} {id : Int} {v : Value} {name : ByteArray} {C : Nat → Prop} (h : KeepE w0 fb id v name A) (s : Same M C A B) (hf : fb + 3 ≤ M) (hw : w0.heap.size ≤ M) : KeepE w0 fb id v name B :=
  ⟨Below.same h.below s hw (Nat.le_refl _), h.id_.same s (by omega), h.lst.same s (by omega), h.nm.same s (by omega)⟩
theorem KeepE.later {w0 A B : World} {fb : Nat} {id : Int} {v : Value} {name : ByteArray} (h : KeepE w0 fb id v name A) (b : Below A.heap.size A B) : KeepE w0 fb id v name B :=
  ⟨h.below.trans (b.mono h.below.size), h.id_.below b, h.lst.below b, h.nm.below b⟩
set_option maxHeartbeats 2000000 in
theorem entries_any (id : Int) (a : Option Addr) (n c : Nat) (name : ByteArray) (w : World) : Calls Try.prog 25 #[.int .i64 id, .slice a n c, .string name] w fun e w' => e = .returned (.func (.func 38) #[] #[.pointer (some ⟨w.heap.size + 1, 0, none⟩), .pointer (some ⟨w.heap.size + 1 + 1, 0, none⟩), .pointer (some ⟨w.heap.size, 0, none⟩)]) ∧ w' = (((w.alloc (.cells #[.int .i64 id] 3)).alloc (.cells #[.slice a n c] 22)).alloc (.cells #[.string name] 9)) := by
  go_enter Try.func25, Try.ntmps25
  go_wp2
  go_ret
  exact ⟨by simp, rfl⟩
theorem keepE_start {id : Int} {v : Value} {name : ByteArray} {w w' : World} (e : w' = (((w.alloc (.cells #[.int .i64 id] 3)).alloc (.cells #[v] 22)).alloc (.cells #[.string name] 9))) : KeepE w w.heap.size id v name w' ∧ w'.heap.size = w.heap.size + 3 := by
  subst e
  refine ⟨⟨(((Below.refl _ _).alloc (Nat.le_refl _) _).alloc (by simp <;> omega) _).alloc (by simp <;> omega) _, ((One.new _ _ _).alloc _).alloc _, ((One.new _ _ _).at (by simp)).alloc _, (One.new _ _ _).at (by simp)⟩, by simp⟩
set_option maxRecDepth 100000 in
set_option maxHeartbeats 8000000 in
theorem entries_gives (w0 : World) (fb : Nat) (id : Int) (A : Option Addr) (c : Nat) (hs : List HS) (name : ByteArray) (w : World) (P : Hs w0 A hs.length c hs) :
    Gives Try.prog 38 #[.pointer (some ⟨fb + 1, 0, none⟩), .pointer (some ⟨fb + 1 + 1, 0, none⟩), .pointer (some ⟨fb, 0, none⟩)] encE (ents id name hs) w (KeepE w0 fb id (.slice A hs.length c) name) := by
  intro lp J Jx W hbW hJ hJx hKeep hY h0
  have K0 := hKeep _ _ _ h0
  obtain ⟨o0, of0, oz0⟩ := _root_.id K0.lst
  have HSM : Hid (hs.length * 64 ≤ 140737488355328) := P.small
  refine (callsIn_wide (n := 2)).1 ?_
  refine callsIn_of_wp Try.func38 rfl trivial ?_
  simp only [Try.ntmps38, List.size_toArray, List.length_cons, List.length_nil, Nat.reduceAdd, Nat.reduceSub, Array.replicate_succ, Array.replicate_zero, List.push_toArray, List.append_toArray, List.nil_append, List.cons_append]
  gi_wp2
  gi_loopg [10] hs.length (fun g v10 wr => ∃ (i : Nat) (C : Nat → Prop), v10 = .int .i64 (i : Int) ∧ i + g = hs.length ∧ J (ents id name (hs.take i)).length C wr ∧ (∀ c, C c → W.heap.size ≤ c ∧ c < wr.heap.size) ∧ W.heap.size ≤ wr.heap.size)
  case atStart =>
    exact ⟨0, fun _ => False, by first | rfl | go_num, by omega, h0, fun c h => h.elim, Nat.le_refl _⟩
  case round =>
    obtain ⟨i, C, rfl, hg, hJi, hCw, hWs⟩ := hrel
    have Kr := hKeep _ _ _ hJi
    by_cases hi : i < hs.length
    case pos =>
      have hiI : (i : Int) < (hs.length : Int) := by omega
      have HI : Hid (i < hs.length) := hi
      obtain ⟨g, o, a1, c1, rfl, k10, r10, R10⟩ := P.at i hi
      obtain ⟨x, ex⟩ : ∃ x, hs.getD i HS.z = x := ⟨_, rfl⟩
      rw [ex] at r10 R10
      have HX : Hid (hs.getD i HS.z = x) := ex
      have r1 := range_later r10 k10 Kr.below
      have bA : Below wr.heap.size wr (wr.alloc (.cells #[.int .i64 x.peer, .int .i64 x.boot, .int .i64 x.life, .slice a1 x.ls.length c1, .bool x.pend, .int .i64 x.miss] 43)) := (Below.refl _ _).alloc (Nat.le_refl _) _
      have T : (wr.alloc (.cells #[.int .i64 x.peer, .int .i64 x.boot, .int .i64 x.life, .slice a1 x.ls.length c1, .bool x.pend, .int .i64 x.miss] 43)).heap[wr.heap.size]? = some (.cells (x.on a1 c1).cells.toArray 43 (0, 0)) := heap_new rfl
      have KA := Kr.later bA
      have R1 : RdO (wr.alloc (.cells #[.int .i64 x.peer, .int .i64 x.boot, .int .i64 x.life, .slice a1 x.ls.length c1, .bool x.pend, .int .i64 x.miss] 43)) x a1 c1 := RdL.below R10 KA.below
      obtain ⟨n0, n1, n2⟩ := _root_.id KA.nm
      have KR := reg_any x a1 c1 name _ R1
      obtain ⟨⟨rn, rv, rp, rf⟩, hr⟩ : ∃ r, regN name x.ls = r := ⟨_, rfl⟩
      have HR : Hid (regN name x.ls = ⟨rn, rv, rp, rf⟩) := hr
      rw [hr] at KR
      have hwr : IntKind.i64.wrap ((i : Int) + 1) = (i : Int) + 1 := by rw [IntKind.wrap_i64]; have := HSM.out; omega
      clear ex r10 R10 hr o0 of0 oz0
      cases hz : zeroB rv rp rf with
      | true =>
        have hzz : sameB rv rp rf 0 0 0 = true := hz
        have HN : Hid (ents id name (hs.take (i + 1)) = ents id name (hs.take i)) := by
          show _ = _
          refine ents_none HI.out ?_
          rw [HX.out]
          unfold ent1
          rw [HR.out, if_pos hz]
        clear hz
        gi_wp2_with (first
          | ((with_reducible show wpListIn _ _ _ _ _ (Oper.mk _ (Op.load 43 (Operand.tmp 12)) _ _ _ _ :: _) _ _); refine wpListIn_load24x rfl _ rfl g (o + i * 6) _ _ _ _ _ _ _ _ rfl r1 ?_)
          | ((with_reducible show wpListIn _ _ _ _ _ (Oper.mk _ (Op.load 43 (Operand.tmp 6)) _ _ _ _ :: _) _ _); refine wpListIn_load24 rfl _ rfl wr.heap.size 0 (x.on a1 c1) rfl (range_rowH T) ?_)
          | (refine ⟨trivial, ?_⟩; gi_at_call 39; refine (callsIn_wide.2 KR).mono ?_; rintro e w5 ⟨rfl, b5⟩; dsimp only [LS.r]; clear KR)
          | ((with_reducible show wpListIn _ _ _ _ _ (Oper.mk _ (Op.binOp .eql 50 _ _ 50) _ _ _ _ :: _) _ _); refine wpListIn_eql42 (by rfl) rfl rv rp rf 0 0 0 rfl rfl ?_; rw [hzz]))
        have b6 : Below w5.heap.size w5 (w5.alloc (.cells #[.int .i64 rv, .int .i64 rp, .int .i64 rf] 50)) := (Below.refl _ _).alloc (Nat.le_refl _) _
        have bZ := (bA.trans (b5.mono bA.size)).trans (b6.mono (Nat.le_trans bA.size b5.size))
        have J6 := hJ _ _ _ _ hJi (Same.of_below (n := W.heap.size) (C := C) bZ)
        gi_roundg (gk - 1)
        case measure => omega
        case rel => exact ⟨i + 1, C, by first | rfl | go_num, by omega, by rw [HN.out]; exact J6, fun c hc => ⟨(hCw c hc).1, Nat.lt_of_lt_of_le (hCw c hc).2 bZ.size⟩, Nat.le_trans hWs bZ.size⟩
      | false =>
        have hzz : sameB rv rp rf 0 0 0 = false := hz
        have HN : Hid (ents id name (hs.take (i + 1)) = ents id name (hs.take i) ++ [(x.peer, outZ rv rp rf id x.peer)] ∧ (ents id name hs)[(ents id name (hs.take i)).length]? = some (x.peer, outZ rv rp rf id x.peer)) := by
          show _ ∧ _
          refine ents_some HI.out ?_
          rw [HX.out]
          unfold ent1
          rw [HR.out, if_neg (by rw [hz]; decide)]
        clear hz
        gi_wp2_with (first
          | ((with_reducible show wpListIn _ _ _ _ _ (Oper.mk _ (Op.load 43 (Operand.tmp 12)) _ _ _ _ :: _) _ _); refine wpListIn_load24x rfl _ rfl g (o + i * 6) _ _ _ _ _ _ _ _ rfl r1 ?_)
          | ((with_reducible show wpListIn _ _ _ _ _ (Oper.mk _ (Op.load 43 (Operand.tmp 6)) _ _ _ _ :: _) _ _); refine wpListIn_load24 rfl _ rfl wr.heap.size 0 (x.on a1 c1) rfl (range_rowH T) ?_)
          | (refine ⟨trivial, ?_⟩; gi_at_call 39; refine (callsIn_wide.2 KR).mono ?_; rintro e w5 ⟨rfl, b5⟩; dsimp only [LS.r]; clear KR)
          | ((with_reducible show wpListIn _ _ _ _ _ (Oper.mk _ (Op.binOp .eql 50 _ _ 50) _ _ _ _ :: _) _ _); refine wpListIn_eql42 (by rfl) rfl rv rp rf 0 0 0 rfl rfl ?_; rw [hzz])
          | fail)
        have b6 : Below w5.heap.size w5 (w5.alloc (.cells #[.int .i64 rv, .int .i64 rp, .int .i64 rf] 50)) := (Below.refl _ _).alloc (Nat.le_refl _) _
        have bZ := (bA.trans (b5.mono bA.size)).trans (b6.mono (Nat.le_trans bA.size b5.size))
        have J6 := hJ _ _ _ _ hJi (Same.of_below (n := W.heap.size) (C := C) bZ)
        have X6 := ((b5.trans (b6.mono b5.size)).block _ (row_lt T)).trans T
        have Y6 : (w5.alloc (.cells #[.int .i64 rv, .int .i64 rp, .int .i64 rf] 50)).heap[w5.heap.size]? = some (.cells #[.int .i64 rv, .int .i64 rp, .int .i64 rf] 50 (0, 0)) := heap_new rfl
        have K6 := hKeep _ _ _ J6
        have hz5 : wr.heap.size < w5.heap.size := Nat.lt_of_lt_of_le (row_lt T) b5.size
        obtain ⟨w6, hw6⟩ : ∃ w6, w5.alloc (.cells #[.int .i64 rv, .int .i64 rp, .int .i64 rf] 50) = w6 := ⟨_, rfl⟩
        rw [hw6] at bZ J6 X6 Y6 K6 ⊢
        have hz6 : w5.heap.size < w6.heap.size := row_lt Y6
        obtain ⟨qx, hqx⟩ : ∃ q : Nat, wr.heap.size = q := ⟨_, rfl⟩
        obtain ⟨qr, hqr⟩ : ∃ q : Nat, w5.heap.size = q := ⟨_, rfl⟩
        rw [hqr] at Y6 hz5 hz6
        rw [hqx] at X6 hz5
        simp only [hqx, hqr]
        have HCQ : Hid (¬ C qx ∧ ¬ C qr ∧ W.heap.size ≤ qx ∧ W.heap.size ≤ qr) := by
          show _ ∧ _ ∧ _ ∧ _
          exact ⟨fun h => by have := (hCw _ h).2; omega, fun h => by have := (hCw _ h).2; omega, by omega, by omega⟩
        have HQZ : Hid (qx < w6.heap.size ∧ qr < w6.heap.size) := ⟨by omega, hz6⟩
        have HBZ : Hid (Below wr.heap.size wr w6) := bZ
        have i0 := (K6.id_).1
        clear hw6 hqx hqr b6 b5 bA T R1 KA Kr K0 hz5 hz6 r1 n0 n1 n2
        refine region_heldIn (fun W' => W'.heap[qx]? = some (.cells (x.on a1 c1).cells.toArray 43 (0, 0)) ∧ W'.heap[qr]? = some (.cells #[.int .i64 rv, .int .i64 rp, .int .i64 rf] 50 (0, 0))) (by kernel_rfl) ?_
        refine anyInH_take 0 20 (.func (.yield lp) #[] #[]) (by kernel_rfl) rfl rfl (by kernel_rfl) (by kernel_rfl) (by kernel_rfl) (fun _ _ _ h => h) (Or.inl ⟨by rfl, by intro w hSw; go_simp⟩) (fun w => by simp [Oper.about]) (⟨X6, Y6⟩) ?_
        try simp only [Act.put, List.setIfInBounds_toArray, List.set_cons_zero, List.set_cons_succ]
        refine anyInH_take 1 21 (.pointer (some ⟨qx, 0, none⟩)) (by kernel_rfl) rfl rfl (by kernel_rfl) (by kernel_rfl) (by kernel_rfl) (fun _ _ _ h => h) (Or.inl ⟨by rfl, by intro w hSw; go_simp⟩) (fun w => by simp [Oper.about]) (⟨X6, Y6⟩) ?_
        try simp only [Act.put, List.setIfInBounds_toArray, List.set_cons_zero, List.set_cons_succ]
        refine anyInH_take 5 25 (.pointer (some ⟨qx, 0, none⟩)) (by kernel_rfl) rfl rfl (by kernel_rfl) (by kernel_rfl) (by kernel_rfl) (fun _ _ _ h => h) (Or.inl ⟨by rfl, by intro w hSw; go_simp⟩) (fun w => by simp [Oper.about]) (⟨X6, Y6⟩) ?_
        try simp only [Act.put, List.setIfInBounds_toArray, List.set_cons_zero, List.set_cons_succ]
        refine anyInH_take 2 22 (.int .i64 x.peer) (by kernel_rfl) rfl rfl (by kernel_rfl) (by kernel_rfl) (by kernel_rfl) (fun _ _ _ h => h) (Or.inl ⟨by rfl, by intro w hSw; have s1 : w.cell? ⟨qx, 0, none⟩ = some (.int .i64 x.peer) := row_cell hSw.1 0 _ rfl; go_simp⟩) (fun w => by simp [Oper.about]) (⟨X6, Y6⟩) ?_
        try simp only [Act.put, List.setIfInBounds_toArray, List.set_cons_zero, List.set_cons_succ]
        refine anyInH_take 6 26 (.int .i64 x.peer) (by kernel_rfl) rfl rfl (by kernel_rfl) (by kernel_rfl) (by kernel_rfl) (fun _ _ _ h => h) (Or.inl ⟨by rfl, by intro w hSw; have s1 : w.cell? ⟨qx, 0, none⟩ = some (.int .i64 x.peer) := row_cell hSw.1 0 _ rfl; go_simp⟩) (fun w => by simp [Oper.about]) (⟨X6, Y6⟩) ?_
        try simp only [Act.put, List.setIfInBounds_toArray, List.set_cons_zero, List.set_cons_succ]
        refine anyInH_take 3 23 (rg rv rp rf) (by kernel_rfl) rfl rfl (by kernel_rfl) (by kernel_rfl) (by kernel_rfl) (fun _ _ _ h => h) (Or.inl ⟨by rfl, fun X hSw => exec_load42 rfl qr rv rp rf rfl hSw.2⟩) (fun w => by simp [Oper.about]) (⟨X6, Y6⟩) ?_
        try simp only [Act.put, List.setIfInBounds_toArray, List.set_cons_zero, List.set_cons_succ]
        refine anyInH_one 4 (by kernel_rfl) rfl (by rfl) (fun K hK => ?_)
        go_simp
        refine hK _ _ ⟨X6, Y6⟩ (fun hS => ?_)
        clear hK
        try simp only [Act.put, List.setIfInBounds_toArray, List.set_cons_zero, List.set_cons_succ]
        refine anyInH_one 7 (by kernel_rfl) rfl (by rfl) (fun K hK => ?_)
        go_simp
        refine ⟨trivial, ?_⟩
        gi_at_call 40
        refine (callsIn_wide.2 (out_any rv rp rf id x.peer _)).mono ?_
        rintro e w7 ⟨rfl, b7⟩
        have b67 : Below w6.heap.size w6 w7 := (Below.refl _ _).drew.trans b7
        have hX7 : w7.heap[qx]? = some (.cells (x.on a1 c1).cells.toArray 43 (0, 0)) := (b67.block _ HQZ.out.1).trans X6
        have hY7 : w7.heap[qr]? = some (.cells #[.int .i64 rv, .int .i64 rp, .int .i64 rf] 50 (0, 0)) := (b67.block _ HQZ.out.2).trans Y6
        refine hK _ _ ⟨hX7, hY7⟩ (fun hS7 => ?_)
        clear hK
        try simp only [Act.put, List.setIfInBounds_toArray, List.set_cons_zero, List.set_cons_succ]
        have J7 := hJ _ _ _ _ J6 (Same.of_below (n := W.heap.size) (C := C) b67)
        have hz7 := b67.size
        have hzz7 := HBZ.out.size
        obtain ⟨fn1, tmps, assign, body, hy, hR⟩ := hY _ C (x.peer, outZ rv rp rf id x.peer) _ J7 (by omega) (fun c hc => ⟨(hCw c hc).1, by have := (hCw c hc).2; omega⟩) HN.out.2
        dsimp only [encE] at hy hR
        refine anyInH_one 8 (by kernel_rfl) rfl (by rfl) (fun K hK => ?_)
        go_simp
        refine (RoundIn.wideAny hR).mono ?_
        clear hR hy hY
        rintro e W3 (⟨rfl, C', hJ3, t3⟩ | ⟨rfl, C', hx3, t3⟩)
        · have hX3 := (t3.keep qx HCQ.out.2.2.1 (Nat.lt_of_lt_of_le HQZ.out.1 hz7) HCQ.out.1).trans hX7
          have hY3 := (t3.keep qr HCQ.out.2.2.2 (Nat.lt_of_lt_of_le HQZ.out.2 hz7) HCQ.out.2.1).trans hY7
          refine hK _ _ ⟨hX3, hY3⟩ (fun hS3 => ?_)
          clear hK
          try simp only [Act.put, List.setIfInBounds_toArray, List.set_cons_zero, List.set_cons_succ]
          refine anyInH_take 9 29 (.bool false) (by kernel_rfl) rfl rfl (by kernel_rfl) (by kernel_rfl) (by kernel_rfl) (fun _ _ _ h => h) (Or.inl ⟨by rfl, by intro w hSw; go_simp⟩) (fun w => by simp [Oper.about]) (⟨hX3, hY3⟩) ?_
          try simp only [Act.put, List.setIfInBounds_toArray, List.set_cons_zero, List.set_cons_succ]
          refine anyInH_done (by kernel_rfl) ?_ _
          have hs3 := t3.size
          have hC3 : ∀ c, C' c → W.heap.size ≤ c ∧ c < W3.heap.size := fun c hc => ⟨(t3.mine c hc).1, (t3.mine c hc).2.1⟩
          have hs4 : W.heap.size ≤ W3.heap.size := by omega
          have HL : Hid ((ents id name (hs.take (i + 1))).length = (ents id name (hs.take i)).length + 1) := by show _ = _; rw [HN.out.1, List.length_append]; rfl
          clear hs3 t3 hX3 hY3 hX7 hY7 hS hS7 hS3 X6 Y6 K6 i0 hz7 hzz7
          gi_wp2
          gi_roundg (gk - 1)
          case measure => omega
          case rel => exact ⟨i + 1, C', by first | rfl | go_num, by omega, by rw [HL.out]; exact hJ3, hC3, hs4⟩
        · have hX3 := (t3.keep qx HCQ.out.2.2.1 (Nat.lt_of_lt_of_le HQZ.out.1 hz7) HCQ.out.1).trans hX7
          have hY3 := (t3.keep qr HCQ.out.2.2.2 (Nat.lt_of_lt_of_le HQZ.out.2 hz7) HCQ.out.2.1).trans hY7
          refine hK _ _ ⟨hX3, hY3⟩ (fun hS3 => ?_)
          clear hK
          try simp only [Act.put, List.setIfInBounds_toArray, List.set_cons_zero, List.set_cons_succ]
          refine anyInH_take 9 29 (.bool true) (by kernel_rfl) rfl rfl (by kernel_rfl) (by kernel_rfl) (by kernel_rfl) (fun _ _ _ h => h) (Or.inl ⟨by rfl, by intro w hSw; go_simp⟩) (fun w => by simp [Oper.about]) (⟨hX3, hY3⟩) ?_
          try simp only [Act.put, List.setIfInBounds_toArray, List.set_cons_zero, List.set_cons_succ]
          refine anyInH_done (by kernel_rfl) ?_ _
          gi_wp2
          exact bodyPost_ret (v := .tuple #[]) (by simp [results, Try.results38, go_sem]) rfl ⟨⟨_, rfl⟩, C', fun b hb => ⟨(t3.mine b hb).1, (t3.mine b hb).2.1⟩, .inr hx3⟩
    case neg =>
      have hin : i = hs.length := by omega
      have HI : Hid (i = hs.length) := hin
      clear hin
      gi_wp2
      exact bodyPost_end (v := .tuple #[]) (by simp [results, Try.results38, go_sem]) rfl ⟨⟨_, rfl⟩, C, hCw, .inl (by rw [HI.out, List.take_length] at hJi; exact hJi)⟩
end Go.Proofs.Ytcacocndcfbmaaa
