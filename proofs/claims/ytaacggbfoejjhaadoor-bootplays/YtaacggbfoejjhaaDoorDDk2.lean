/-
  Package disk: Write.
-/
import Derived.Test.YtaacggbfoejjhaaDoorDDk1
namespace Go.Proofs.YtaacggbfoejjhaaDoor.D
open Go.ChangeShapes Go.WideShapes Go.ChangeAt Go.RowKit
set_option linter.unusedVariables false
set_option linter.unusedSimpArgs false

/-- Block d holds the disk's pointer, for live's methods. -/
theorem box_at {W W' : World} {g d : Nat} (h : W.heap[g]? = some (.cells #[.pointer (some ⟨d, 0, none⟩)] 98 (0, 0))) : W.cell? ⟨g, 0, none⟩ = some (.pointer (some ⟨d, 0, none⟩)) := row_cell h 0 _ rfl
set_option maxHeartbeats 1000000 in
theorem livewrite_no (d l : Nat) (S : DS) (x : Int) (v : Value) (w : World) (D : DkP w d l S) (h : inS S x = false) : Calls Tryd.prog 73 #[.agg #[.pointer (some ⟨d, 0, none⟩)], .int .i64 x, v] w fun e w' => e = .returned (.int .i64 31) ∧ Below w.heap.size w w' := by
  have B1 : Below w.heap.size w (w.alloc (.cells #[.pointer (some ⟨d, 0, none⟩)] 98)) := (Below.refl _ _).alloc (Nat.le_refl _) _
  have K := has_any d l S x _ (D.below B1)
  rw [h] at K
  go_enter Tryd.func73, Tryd.ntmps73
  go_wp2_with (go_at_call 74; refine K.mono ?_; rintro e w1 ⟨rfl, b1⟩)
  go_ret
  exact ⟨rfl, B1.trans (b1.mono B1.size)⟩
set_option maxHeartbeats 1000000 in
theorem livewrite_form (d l : Nat) (S : DS) (x : Int) (a : Option Addr) (n c : Nat) (w : World) (D : DkP w d l S) (h : inS S x = true) (hn : n ≠ 16) : Calls Tryd.prog 73 #[.agg #[.pointer (some ⟨d, 0, none⟩)], .int .i64 x, .slice a n c] w fun e w' => e = .returned (.int .i64 20) ∧ Below w.heap.size w w' := by
  have B1 : Below w.heap.size w (w.alloc (.cells #[.pointer (some ⟨d, 0, none⟩)] 98)) := (Below.refl _ _).alloc (Nat.le_refl _) _
  have K := has_any d l S x _ (D.below B1)
  rw [h] at K
  have hn' : ((n : Int) != 16) = true := by simp; omega
  go_enter Tryd.func73, Tryd.ntmps73
  go_wp2_with (go_at_call 74; refine K.mono ?_; rintro e w1 ⟨rfl, b1⟩)
  go_ret
  exact ⟨rfl, B1.trans (b1.mono B1.size)⟩
set_option maxHeartbeats 1000000 in
theorem livewrite_cut (d l : Nat) (S : DS) (x : Int) (a : Option Addr) (c : Nat) (w : World) (D : DkP w d l S) (h : inS S x = true) (h0 : S.left = 0) : Calls Tryd.prog 73 #[.agg #[.pointer (some ⟨d, 0, none⟩)], .int .i64 x, .slice a 16 c] w fun e w' => e = .returned (.int .i64 32) ∧ DkP w' d l ⟨true, S.left, S.stays, S.n, S.bs, S.done⟩ ∧ Only (at1 d) w w' := by
  have B1 : Below w.heap.size w (w.alloc (.cells #[.pointer (some ⟨d, 0, none⟩)] 98)) := (Below.refl _ _).alloc (Nat.le_refl _) _
  have X0 : (w.alloc (.cells #[.pointer (some ⟨d, 0, none⟩)] 98)).heap[w.heap.size]? = _ := World.alloc_heap_new _ _
  have K := has_any d l S x _ (D.below B1)
  rw [h] at K
  have hdz := row_lt D.obj
  go_enter Tryd.func73, Tryd.ntmps73
  go_wp2_with (first
    | (go_at_call 74; refine K.mono ?_; rintro e w1 ⟨rfl, b1⟩; have D1 := (D.below B1).below b1; have x0 := row_cell ((b1.block _ (row_lt X0)).trans X0) 0 (.pointer (some ⟨d, 0, none⟩)) rfl; have b2 := B1.trans (b1.mono B1.size))
    | (go_at_call 75; refine (lets_no d l S _ D1 h0).mono ?_; rintro e w2 ⟨rfl, D2, o2⟩))
  go_ret
  exact ⟨rfl, D2, (Only.of_below b2).trans o2⟩
/-- What a write does. -/
def DS.put (S : DS) (i : Nat) (zs : List Int) : DS := ⟨S.gone, if 0 < S.left then S.left - 1 else S.left, S.stays, S.n, splice S.bs (i * 16) zs, wrap64 (S.done + 1)⟩
theorem splice_byt {bs zs : List Int} (o : Nat) (h : Byt bs) (k : Byt zs) : Byt (splice bs o zs) := by
  intro c hc
  unfold splice at hc
  rcases List.mem_append.1 hc with hc | hc
  · exact h c (List.mem_of_mem_take hc)
  · rcases List.mem_append.1 hc with hc | hc
    · exact k c hc
    · exact h c (List.mem_of_mem_drop hc)
theorem wrap64_lo (x : Int) : -9223372036854775808 ≤ wrap64 x ∧ wrap64 x ≤ 9223372036854775807 := by unfold wrap64; omega
theorem DS.Ok.put {S : DS} (h : S.Ok) {i : Nat} (hi : i < S.n) {zs : List Int} (hz : zs.length = 16) (hb : Byt zs) : (S.put i zs).Ok where
  len := by show (splice S.bs (i * 16) zs).length = 16 * S.n; rw [length_splice _ _ _ (by rw [hz, h.len]; omega), h.len]
  lo := h.lo
  hi := h.hi
  byt := splice_byt _ h.byt hb
  left0 := by simp only [DS.put]; have := h.left0; split <;> omega
  left1 := by simp only [DS.put]; have := h.left1; split <;> omega
  dn0 := (wrap64_lo _).1
  dn1 := (wrap64_lo _).2
theorem map_splice (bs zs : List Int) (o : Nat) : (splice bs o zs).map bv = splice (bs.map bv) o (zs.map bv) := by simp [splice]
theorem run_store58 (w : World) (l o : Nat) (t : TypeId) (bs zs : List Int) (hl : w.heap[l]? = some (.cells (bs.map bv).toArray t (0, 0))) (hz : zs.length = 16) (hf : o + 16 ≤ bs.length) :
    (Instr.storeAt 77 (.pointer (some ⟨l, o, none⟩)) (.agg (zs.map bv).toArray)).run Tryd.prog w = .ok () (w.setRow l ((splice bs o zs).map bv).toArray) := by
  have hst := run_storeCells_at Tryd.prog l o t (zs.map bv) 0 (bs.map bv).toArray w hl (by simp; omega) (bv_one _)
  simp only [Nat.add_zero] at hst
  have e : ((bs.map bv).toArray.toList.take o ++ zs.map bv ++ (bs.map bv).toArray.toList.drop (o + (zs.map bv).length)).toArray = ((splice bs o zs).map bv).toArray := by simp [splice]
  rw [e] at hst
  have hi : (Tryd.prog.info? 77).map (·.size) = some 16 := by kernel_rfl
  cases hq : Tryd.prog.info? 77 with
  | none => simp [hq] at hi
  | some j =>
    have hs : j.size = 16 := by simpa [hq] using hi
    simp [Instr.storeAt, Instr.sureAddr, storeVar, sizeOf, typeInfo, hq, Value.cells, hs, hz, hst]
theorem wp_store58 {o : Oper} {a : Act} {w : World} {K : Act → World → Prop} {Q : Exit → Act → World → Prop} (x y : Operand) (ho : o.op = .store 77 x y) (l off : Nat) (t : TypeId) (bs zs : List Int)
    (hx : a.eval x = .pointer (some ⟨l, off, none⟩)) (hy : a.eval y = .agg (zs.map bv).toArray) (hl : w.heap[l]? = some (.cells (bs.map bv).toArray t (0, 0))) (hz : zs.length = 16) (hf : off + 16 ≤ bs.length)
    (h : K (a.put o.dst undef) (w.setRow l ((splice bs off zs).map bv).toArray)) : o.wp Tryd.prog a w K Q := by
  unfold Oper.wp execOp
  simp only [ho, hx, hy, Sem.run_bind, run_store58 w l off t bs zs hl hz hf, Result.andThen_ok, Sem.run_pure]
  exact h
theorem exec_load58 {o : Oper} {a : Act} {w : World} {xx : Operand} {g off : Nat} {zs : List Int} (ho : o.op = .load 77 xx) (hx : a.eval xx = .pointer (some ⟨g, off, none⟩)) (hc : w.rangeAt g off (zs.map bv)) (hz : zs.length = 16) :
    (execOp a.eval o).run Tryd.prog w = .ok (.value (.agg (zs.map bv).toArray)) w := by
  unfold execOp
  simp only [ho, hx, Instr.loadAt, Instr.sureAddr, Sem.run_bind, Sem.run_pure, Result.andThen_ok, run_loadVar_mid w g off 77 (zs.map bv) _ hc Tryd.underlying77 rfl (by rw [List.length_map, hz]; kernel_rfl)]
theorem arr58 (X : World) (a : Option Addr) (n c : Nat) (h : 16 ≤ n) : (Instr.arrayAt 77 (.slice a n c)).run Tryd.prog X = .ok (.pointer a) X := by simp [Instr.arrayAt, run_underlying Tryd.underlying77, Nat.not_lt.2 h]
theorem Row.range {w : World} {b off len cap : Nat} {zs : List Int} (R : Row .u8 w (some ⟨b, off, none⟩) len cap zs) : w.rangeAt b off (zs.map bv) := fun j v hv => by have := R.cells j v hv; rw [add_plain] at this; exact this
theorem DkP.setList {W : World} {d l : Nat} {S : DS} (D : DkP W d l S) (bs : List Int) (hok : DS.Ok { S with bs := bs }) : DkP (W.setRow l (bs.map bv).toArray) d l { S with bs := bs } :=
  ⟨(setRow_other _ _ _ _ D.ne).trans D.obj, setRow_heap _ _ _ _ _ _ D.lst, D.ne, hok⟩
set_option maxHeartbeats 4000000 in
theorem livewrite_ok (d l : Nat) (S : DS) (i : Nat) (b off : Nat) (c : Nat) (zs : List Int) (w : World) (D : DkP w d l S) (hi : i < S.n) (h0 : S.left ≠ 0) (R : Row .u8 w (some ⟨b, off, none⟩) 16 c zs) (hbd : b ≠ d) (hbl : b ≠ l) : Calls Tryd.prog 73 #[.agg #[.pointer (some ⟨d, 0, none⟩)], .int .i64 (i : Int), .slice (some ⟨b, off, none⟩) 16 c] w fun e w' => e = .returned (.int .i64 0) ∧ DkP w' d l (S.put i zs) ∧ Only (at2 d l) w w' := by
  have B1 : Below w.heap.size w (w.alloc (.cells #[.pointer (some ⟨d, 0, none⟩)] 98)) := (Below.refl _ _).alloc (Nat.le_refl _) _
  have X0 : (w.alloc (.cells #[.pointer (some ⟨d, 0, none⟩)] 98)).heap[w.heap.size]? = _ := World.alloc_heap_new _ _
  have K := has_any d l S i _ (D.below B1)
  have h : inS S (i : Int) = true := by unfold inS; simp; omega
  rw [h] at K
  have hiI : (i : Int) < (S.n : Int) := by omega
  have hdz := row_lt D.obj
  have hlz := row_lt D.lst
  have hz := R.size
  have hbyt := R.byte
  go_enter Tryd.func73, Tryd.ntmps73
  go_wp2_with (first
    | (go_at_call 74; refine K.mono ?_; rintro e w1 ⟨rfl, b1⟩; have D1 := (D.below B1).below b1; have x0 := row_cell ((b1.block _ (row_lt X0)).trans X0) 0 (.pointer (some ⟨d, 0, none⟩)) rfl; have b2 := B1.trans (b1.mono B1.size); have R1 := R.below b2)
    | (go_at_call 75; refine (lets_yes d l S _ D1 h0).mono ?_; rintro e w2 ⟨rfl, D2, o2⟩; have x2 := (o2.block _ (row_lt ((b1.block _ (row_lt X0)).trans X0)) (by intro e; have e' : w.heap.size = d := e; omega)).trans ((b1.block _ (row_lt X0)).trans X0); have R2 : Row .u8 w2 (some ⟨b, off, none⟩) 16 c zs := R1.of_block o2.size (fun b' o e hb => o2.block b' hb (fun e' => by cases e; exact hbd e'))))
  obtain ⟨wd, hwd⟩ : ∃ wd, World.drew w2 = wd := ⟨_, rfl⟩
  have Dd := D2.of_blocks (W' := wd) (by rw [← hwd]; rfl) (by rw [← hwd]; rfl)
  have od : Only (at1 d) w1 wd := by rw [← hwd]; exact o2.drew
  have xd : wd.heap[w.heap.size]? = some (.cells #[.pointer (some ⟨d, 0, none⟩)] 98 (0, 0)) := by rw [← hwd]; exact x2
  have Rd : Row .u8 wd (some ⟨b, off, none⟩) 16 c zs := by rw [← hwd]; exact R2.drew
  have XB : ∀ X, Only (at1 l) wd X → X.cell? ⟨w.heap.size, 0, none⟩ = some (.pointer (some ⟨d, 0, none⟩)) := fun X hX => row_cell ((hX.block _ (row_lt xd) (by intro e; have e' : w.heap.size = l := e; omega)).trans xd) 0 _ rfl
  have XD : ∀ X, Only (at1 l) wd X → X.cell? ⟨d, 3, none⟩ = some (.slice (some ⟨l, 0, none⟩) S.n S.n) := fun X hX => row_cell ((hX.block _ (row_lt Dd.obj) D.ne).trans Dd.obj) 3 _ rfl
  have XR : ∀ X, Only (at1 l) wd X → X.rangeAt b off (zs.map bv) := fun X hX => (Rd.of_block hX.size (fun b' o e hb => hX.block b' hb (fun e' => by cases e; exact hbl e'))).range
  have hat : ∀ X : World, (Instr.arrayAt 77 (.slice (some ⟨b, off, none⟩) 16 c)).run Tryd.prog X = .ok (.pointer (some ⟨b, off, none⟩)) X := fun X => arr58 X _ _ _ (by omega)
  clear x0 x2 R2 D2 o2
  refine wp_region_any (by kernel_rfl) ?_
  change wpAny _ _ _ _ _ _ _ (World.drew _)
  rw [hwd]
  refine wpAny_narrow (fun X => Only (at1 l) wd X) _ _ _ _ ?_
  refine anyH_take 0 20 (.pointer (some ⟨w.heap.size, 0, none⟩)) rfl rfl (by kernel_rfl) (by kernel_rfl) (by kernel_rfl) (fun _ _ _ h => h) (Or.inl ⟨by rfl, by intro X hSw; go_simp⟩) (Only.refl _ _) ?_
  try simp only [Act.put, List.setIfInBounds_toArray, List.set_cons_zero, List.set_cons_succ]
  refine anyH_take 1 21 (.pointer (some ⟨d, 0, none⟩)) rfl rfl (by kernel_rfl) (by kernel_rfl) (by kernel_rfl) (fun _ _ _ h => h) (Or.inl ⟨by rfl, by intro X hSw; have q := XB X hSw; go_simp⟩) (Only.refl _ _) ?_
  try simp only [Act.put, List.setIfInBounds_toArray, List.set_cons_zero, List.set_cons_succ]
  refine anyH_take 2 22 (.pointer (some ⟨d, 0, none⟩)) rfl rfl (by kernel_rfl) (by kernel_rfl) (by kernel_rfl) (fun _ _ _ h => h) (Or.inl ⟨by rfl, by intro X hSw; go_simp⟩) (Only.refl _ _) ?_
  try simp only [Act.put, List.setIfInBounds_toArray, List.set_cons_zero, List.set_cons_succ]
  refine anyH_take 3 23 (.pointer (some ⟨d, 3, none⟩)) rfl rfl (by kernel_rfl) (by kernel_rfl) (by kernel_rfl) (fun _ _ _ h => h) (Or.inl ⟨by rfl, by intro X hSw; go_simp⟩) (Only.refl _ _) ?_
  try simp only [Act.put, List.setIfInBounds_toArray, List.set_cons_zero, List.set_cons_succ]
  refine anyH_take 4 24 (.slice (some ⟨l, 0, none⟩) S.n S.n) rfl rfl (by kernel_rfl) (by kernel_rfl) (by kernel_rfl) (fun _ _ _ h => h) (Or.inl ⟨by rfl, by intro X hSw; have q := XD X hSw; go_simp⟩) (Only.refl _ _) ?_
  try simp only [Act.put, List.setIfInBounds_toArray, List.set_cons_zero, List.set_cons_succ]
  refine anyH_take 5 25 (.int .i64 (i : Int)) rfl rfl (by kernel_rfl) (by kernel_rfl) (by kernel_rfl) (fun _ _ _ h => h) (Or.inl ⟨by rfl, by intro X hSw; go_simp⟩) (Only.refl _ _) ?_
  try simp only [Act.put, List.setIfInBounds_toArray, List.set_cons_zero, List.set_cons_succ]
  refine anyH_take 6 26 (.slice (some ⟨b, off, none⟩) 16 c) rfl rfl (by kernel_rfl) (by kernel_rfl) (by kernel_rfl) (fun _ _ _ h => h) (Or.inl ⟨by rfl, by intro X hSw; go_simp⟩) (Only.refl _ _) ?_
  try simp only [Act.put, List.setIfInBounds_toArray, List.set_cons_zero, List.set_cons_succ]
  refine anyH_take 7 27 (.pointer (some ⟨b, off, none⟩)) rfl rfl (by kernel_rfl) (by kernel_rfl) (by kernel_rfl) (fun _ _ _ h => h) (Or.inl ⟨by rfl, by intro X hSw; go_simp⟩) (Only.refl _ _) ?_
  try simp only [Act.put, List.setIfInBounds_toArray, List.set_cons_zero, List.set_cons_succ]
  refine anyH_take 8 28 (.agg (zs.map bv).toArray) rfl rfl (by kernel_rfl) (by kernel_rfl) (by kernel_rfl) (fun _ _ _ h => h) (Or.inl ⟨by rfl, by intro X hSw; exact exec_load58 rfl rfl (XR X hSw) hz⟩) (Only.refl _ _) ?_
  try simp only [Act.put, List.setIfInBounds_toArray, List.set_cons_zero, List.set_cons_succ]
  refine anyH_take 9 29 (.pointer (some ⟨l, i * 16, none⟩)) rfl rfl (by kernel_rfl) (by kernel_rfl) (by kernel_rfl) (fun _ _ _ h => h) (Or.inl ⟨by rfl, by intro X hSw; go_simp⟩) (Only.refl _ _) ?_
  try simp only [Act.put, List.setIfInBounds_toArray, List.set_cons_zero, List.set_cons_succ]
  refine wpAnyH_ready (rs := [10]) (by kernel_rfl) (by simp) ?_
  refine AllReadyH.cons rfl (fun K hK => ?_) AllReadyH.nil
  refine wp_store58 _ _ rfl l (i * 16) 77 S.bs zs rfl rfl Dd.lst hz (by have := D.ok.len; omega) ?_
  have ol : Only (at1 l) wd (wd.setRow l ((splice S.bs (i * 16) zs).map bv).toArray) := Only.setRow (C := at1 l) (Only.refl _ _) (fun _ => rfl) _
  refine hK.out _ _ ol (fun hS => ?_)
  clear hK
  have De := Dd.setList (splice S.bs (i * 16) zs) ⟨by show (splice S.bs (i * 16) zs).length = 16 * S.n; rw [length_splice _ _ _ (by rw [hz, D.ok.len]; omega), D.ok.len], D.ok.lo, D.ok.hi, splice_byt _ D.ok.byt hbyt, Dd.ok.left0, Dd.ok.left1, D.ok.dn0, D.ok.dn1⟩
  have xe := XB _ ol
  obtain ⟨we, hwe⟩ : ∃ we, wd.setRow l ((splice S.bs (i * 16) zs).map bv).toArray = we := ⟨_, rfl⟩
  rw [hwe] at De xe ol ⊢
  have c4 := De.cel.c4
  have f4 := De.free 4
  refine wpAnyH_done (by kernel_rfl) ?_ _
  go_wp2
  go_ret
  refine ⟨rfl, ⟨?_, ?_, D.ne, D.ok.put hi hz hbyt⟩, ?_⟩
  · have := set_row De.obj 4 (.int .i64 (wrap64 (S.done + 1)))
    exact this
  · have := set_far De.lst D.ne.symm 4 (.int .i64 (wrap64 (S.done + 1)))
    exact this
  · exact (((Only.of_below b2).trans ((od.two l).trans (ol.mono fun q _ hq => Or.inr hq)))).setCell (fun _ => Or.inl rfl) _ _
end Go.Proofs.YtaacggbfoejjhaaDoor.D
