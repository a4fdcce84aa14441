/-
  Package bag: Put on the whole; Double.
-/
import Derived.Test.YtoppecppmjpgiaaBgG
import Derived.Test.YtoppecppmjpgiaaBg4
namespace Go.Proofs.Ytoppecppmjpgiaa
open Go.ChangeShapes Go.WideShapes Go.ChangeAt Go.RowKit Go.Maps Go.Shelf
set_option linter.unusedVariables false
set_option linter.unusedSimpArgs false
attribute [local go_sem] Oper.semAt_some

/-- What Put comes to: its two results, and the numbers and packets behind it. -/
structure PutS where
  r0 : Int
  r1 : Int
  next : Int
  ds : List DG
def putS (D : DataW Unit) (next : Int) (ds : List DG) (x y : Int) (s : ByteArray) : PutS :=
  if cut D x y then ⟨0, 34, next, ds⟩ else if 65536 ≤ ds.length ∨ 4611686018427387904 ≤ next then ⟨0, 30, next, ds⟩ else ⟨next + 1, 0, next + 1, ds ++ [⟨next + 1, x, y, s⟩]⟩
/-- A bag with these numbers and packets, at the same place. -/
def BagIs (b M : Nat) (a : Option Addr) (k : Nat) (D : DataW Unit) (C : Nat → Prop) (next : Int) (ds : List DG) (W : World) : Prop :=
  ∃ a' cap', BagAt W b M a' ds.length cap' k next ds D ∧ (∀ g off, a' = some ⟨g, off, none⟩ → (∃ o, a = some ⟨g, o, none⟩) ∨ C g)
theorem put_any (b M : Nat) (a : Option Addr) (n cap k : Nat) (next : Int) (ds : List DG) (D : DataW Unit) (x y : Int) (s : ByteArray) (w : World) (B : BagAt w b M a n cap k next ds D) (hx : I64 x) (hy : I64 y) (hs0 : 0 ≤ next) :
    Calls Try.prog 16 #[.pointer (some ⟨b, 0, none⟩), .int .i64 x, .int .i64 y, .string s] w fun e w' => e = .returned (.tuple #[.int .i64 (putS D next ds x y s).r0, .int .i64 (putS D next ds x y s).r1]) ∧ Only (bagC b M a) w w' ∧ BagIs b M a k D (fun g => w.heap.size ≤ g) (putS D next ds x y s).next (putS D next ds x y s).ds w' := by
  have hn := B.lst.size
  have old : ∀ w', Below w.heap.size w w' → BagIs b M a k D (fun g => w.heap.size ≤ g) next ds w' := fun w' hb => ⟨a, cap, by rw [hn]; exact B.below hb, fun g off e => .inl ⟨off, e⟩⟩
  cases hc : cut D x y with
  | true =>
    have e : putS D next ds x y s = ⟨0, 34, next, ds⟩ := by simp [putS, hc]
    rw [e]
    refine (put_cut b M a n cap k next ds D x y s w B hx hy hc).mono ?_
    rintro e w' ⟨rfl, hb⟩
    exact ⟨rfl, Only.of_below hb, old w' hb⟩
  | false =>
    by_cases h1 : 65536 ≤ n
    · have e : putS D next ds x y s = ⟨0, 30, next, ds⟩ := by simp [putS, hc, hn, h1]
      rw [e]
      refine (put_full b M a n cap k next ds D x y s w B hx hy hc h1).mono ?_
      rintro e w' ⟨rfl, hb⟩
      exact ⟨rfl, Only.of_below hb, old w' hb⟩
    · by_cases h2 : 4611686018427387904 ≤ next
      · have e : putS D next ds x y s = ⟨0, 30, next, ds⟩ := by simp [putS, hc, h2]
        rw [e]
        refine (put_spent b M a n cap k next ds D x y s w B hx hy hc (by omega) h2).mono ?_
        rintro e w' ⟨rfl, hb⟩
        exact ⟨rfl, Only.of_below hb, old w' hb⟩
      · have e : putS D next ds x y s = ⟨next + 1, 0, next + 1, ds ++ [⟨next + 1, x, y, s⟩]⟩ := by
          unfold putS
          rw [hc, if_neg (by simp), if_neg (by rw [hn]; omega)]
        rw [e]
        refine (put_ok b M a n cap k next ds D x y s w B hx hy hc (by omega) hs0 (by omega)).mono ?_
        rintro e w' ⟨rfl, o, a', cap', B', h'⟩
        exact ⟨rfl, o, a', cap', by simpa [hn] using B', h'⟩
/-- What Double comes to. -/
def DoubleOut (b M : Nat) (a : Option Addr) (k : Nat) (next : Int) (ds : List DG) (D : DataW Unit) (num : Int) (w : World) (e : Ending) (w' : World) : Prop :=
  (∃ (j : Nat) (d : DG), ds[j]? = some d ∧ d.num = num ∧ e = .returned (.tuple #[.int .i64 (putS D next ds d.src d.dst d.body).r0, .int .i64 (putS D next ds d.src d.dst d.body).r1]) ∧ BagIs b M a k D (fun g => w.heap.size ≤ g) (putS D next ds d.src d.dst d.body).next (putS D next ds d.src d.dst d.body).ds w' ∧ Only (bagC b M a) w w') ∨
  ((∀ d ∈ ds, d.num ≠ num) ∧ e = .returned (.tuple #[.int .i64 0, .int .i64 31]) ∧ Below w.heap.size w w')
structure Dubbed (b M : Nat) (a : Option Addr) (k : Nat) (next : Int) (ds : List DG) (D : DataW Unit) (num : Int) (C : Nat → Prop) (w W : World) : Prop where
  out : ∃ (j : Nat) (d : DG), ds[j]? = some d ∧ d.num = num ∧ BagIs b M a k D C (putS D next ds d.src d.dst d.body).next (putS D next ds d.src d.dst d.body).ds W ∧ W.heap[w.heap.size + 2]? = some (.cells #[.int .i64 (putS D next ds d.src d.dst d.body).r0] 2 (0, 0)) ∧ W.heap[w.heap.size + 3]? = some (.cells #[.int .i64 (putS D next ds d.src d.dst d.body).r1] 46 (0, 0))
  only : Only (bagC b M a) w W
theorem BagIs.of_blocks {b M : Nat} {a : Option Addr} {k : Nat} {D : DataW Unit} {C : Nat → Prop} {next : Int} {ds : List DG} {W W' : World} (h : BagIs b M a k D C next ds W) (hb : ∀ q, bagC b M a q ∨ C q → q < W.heap.size → W'.heap[q]? = W.heap[q]?) : BagIs b M a k D C next ds W' := by
  obtain ⟨a', cap', B, h'⟩ := h
  refine ⟨a', cap', B.of_blocks fun q hq => hb q ?_ (B.ltC q hq), h'⟩
  rcases hq with e | e | ⟨off, e⟩
  · exact .inl (.inl e)
  · exact .inl (.inr (.inl e))
  · exact (h' q off e).imp (fun x => .inr (.inr x)) id
theorem BagIs.mono {b M : Nat} {a : Option Addr} {k : Nat} {D : DataW Unit} {C C' : Nat → Prop} {next : Int} {ds : List DG} {W : World} (h : BagIs b M a k D C next ds W) (hc : ∀ q, q < W.heap.size → C q → C' q) : BagIs b M a k D C' next ds W := by
  obtain ⟨a', cap', B, h'⟩ := h
  exact ⟨a', cap', B, fun g off e => (h' g off e).imp id (hc g (B.ltC g (.inr (.inr ⟨off, e⟩))))⟩
theorem Dubbed.same {b M : Nat} {a : Option Addr} {k : Nat} {next : Int} {ds : List DG} {D : DataW Unit} {num : Int} {w W W' : World} {N : Nat} {C : Nat → Prop} (h : Dubbed b M a k next ds D num C w W) (s : Same N C W W') (hN : w.heap.size + 6 ≤ N) (hb : ∀ q, bagC b M a q → q < w.heap.size) : Dubbed b M a k next ds D num C w W' := by
  obtain ⟨j, d, h1, h2, Bj, h3, h4⟩ := h.out
  exact ⟨⟨j, d, h1, h2, Bj.of_blocks (fun q hq hl => s.block q hl (hq.imp (fun x => by have := hb q x; omega) id)), (s.block _ (row_lt h3) (.inl (by omega))).trans h3, (s.block _ (row_lt h4) (.inl (by omega))).trans h4⟩, only_same h.only s (by omega)⟩
theorem dub_mk {b M : Nat} {a : Option Addr} {k : Nat} {next : Int} {ds : List DG} {D : DataW Unit} {num : Int} {w W W2 : World} {N j : Nat} {d : DG} {C : Nat → Prop} (hb : Below w.heap.size w W) (hbC : ∀ q, bagC b M a q → q < w.heap.size) (h1 : ds[j]? = some d) (h2 : d.num = num) (B2 : BagIs b M a k D (fun g => W.heap.size ≤ g) (putS D next ds d.src d.dst d.body).next (putS D next ds d.src d.dst d.body).ds W2) (o2 : Only (bagC b M a) W W2) {p0 p1 : Value}
    (R2 : W2.heap[w.heap.size + 2]? = some (.cells #[p0] 2 (0, 0))) (R3 : W2.heap[w.heap.size + 3]? = some (.cells #[p1] 46 (0, 0))) (hN : w.heap.size + 6 ≤ N) (hNW : N ≤ W.heap.size) (hC : ∀ b, C b → N ≤ b ∧ b < W.heap.size) :
    ∃ C', Dubbed b M a k next ds D num C' w ((W2.setCell ⟨w.heap.size + 2, 0, none⟩ (.int .i64 (putS D next ds d.src d.dst d.body).r0)).setCell ⟨w.heap.size + 3, 0, none⟩ (.int .i64 (putS D next ds d.src d.dst d.body).r1)) ∧ Turn N C C' W ((W2.setCell ⟨w.heap.size + 2, 0, none⟩ (.int .i64 (putS D next ds d.src d.dst d.body).r0)).setCell ⟨w.heap.size + 3, 0, none⟩ (.int .i64 (putS D next ds d.src d.dst d.body).r1)) := by
  obtain ⟨P, hP⟩ : ∃ P, putS D next ds d.src d.dst d.body = P := ⟨_, rfl⟩
  rw [hP] at B2 ⊢
  have hWs := hb.size
  have hos := o2.size
  have far : ∀ q, q ≠ w.heap.size + 2 → q ≠ w.heap.size + 3 → ((W2.setCell ⟨w.heap.size + 2, 0, none⟩ (.int .i64 P.r0)).setCell ⟨w.heap.size + 3, 0, none⟩ (.int .i64 P.r1)).heap[q]? = W2.heap[q]? := fun q h h' => (set_far rfl h' _ _).trans (set_far rfl h _ _)
  have hsz : ((W2.setCell ⟨w.heap.size + 2, 0, none⟩ (.int .i64 P.r0)).setCell ⟨w.heap.size + 3, 0, none⟩ (.int .i64 P.r1)).heap.size = W2.heap.size := by simp [World.setCell]
  refine ⟨fun g => W.heap.size ≤ g ∧ g < W2.heap.size, ⟨⟨j, d, h1, h2, ?_, ?_, ?_⟩, ?_⟩, ⟨by rw [hsz]; exact hos, fun q h1 h2 h3 => (far q (by omega) (by omega)).trans (o2.block q h2 (fun h => by have := hbC q h; omega)), fun q hq => ⟨by omega, by rw [hsz]; exact hq.2, .inr hq.1⟩⟩⟩
  · rw [hP]
    refine (B2.mono (fun q hl hq => ⟨hq, hl⟩)).of_blocks fun q hq hl => far q ?_ ?_
    · rcases hq with hq | hq
      · have := hbC q hq; omega
      · omega
    · rcases hq with hq | hq
      · have := hbC q hq; omega
      · omega
  · rw [hP]; exact (set_far rfl (by omega) _ _).trans (set_row R2 0 _)
  · rw [hP]; exact set_row ((set_far rfl (by omega) _ _).trans R3) 0 _
  · exact (((Only.of_below hb).trans o2).setCell (fun h => by omega) _ _).setCell (fun h => by omega) _ _
set_option maxRecDepth 100000 in
set_option maxHeartbeats 8000000 in
theorem double_any (b M : Nat) (a : Option Addr) (n cap k : Nat) (next : Int) (ds : List DG) (D : DataW Unit) (num : Int) (w : World) (B : BagAt w b M a n cap k next ds D) (hn : n ≤ 65536) (hasc : Asc ds) (hok : ∀ d ∈ ds, I64 d.src ∧ I64 d.dst) (hs0 : 0 ≤ next) :
    Calls Try.prog 17 #[.pointer (some ⟨b, 0, none⟩), .int .i64 num] w (DoubleOut b M a k next ds D num w) := by
  have hbC := B.ltC
  have hsz := B.lst.size
  have KT := toward_any (some ⟨b, 0, none⟩) num
  obtain ⟨w0, hw0⟩ : ∃ w0, ((((w.alloc (.cells #[.pointer (some ⟨b, 0, none⟩)] 28)).alloc (.cells #[.int .i64 num] 2)).alloc (.cells #[.int .i64 0] 2)).alloc (.cells #[.int .i64 0] 46)) = w0 := ⟨_, rfl⟩
  have B1 : Below w.heap.size w w0 := by rw [← hw0]; exact ((((Below.refl _ _).alloc (Nat.le_refl _) _).alloc (by simp <;> omega) _).alloc (by simp <;> omega) _).alloc (by simp <;> omega) _
  have z0 : w0.heap.size = w.heap.size + 4 := by rw [← hw0]; simp
  have x0 : w0.heap[w.heap.size]? = some (.cells #[.pointer (some ⟨b, 0, none⟩)] 28 (0, 0)) := by rw [← hw0]; exact (Below.heap_alloc _ _ _ (by simp <;> omega)).trans ((Below.heap_alloc _ _ _ (by simp <;> omega)).trans ((Below.heap_alloc _ _ _ (by simp <;> omega)).trans (World.alloc_heap_new _ _)))
  have x1 : w0.heap[w.heap.size + 1]? = some (.cells #[.int .i64 num] 2 (0, 0)) := by rw [← hw0]; exact (Below.heap_alloc _ _ _ (by simp <;> omega)).trans ((Below.heap_alloc _ _ _ (by simp <;> omega)).trans (heap_new (by simp <;> omega)))
  have x2 : w0.heap[w.heap.size + 2]? = some (.cells #[.int .i64 0] 2 (0, 0)) := by rw [← hw0]; exact (Below.heap_alloc _ _ _ (by simp <;> omega)).trans (heap_new (by simp <;> omega))
  have x3 : w0.heap[w.heap.size + 3]? = some (.cells #[.int .i64 0] 46 (0, 0)) := by rw [← hw0]; exact heap_new (by simp <;> omega)
  have BA := B.below B1
  refine (callsIn_wide (n := 2)).1 ?_
  refine callsIn_of_wp_marks Try.func17 rfl trivial ?_
  simp only [Try.ntmps17, List.size_toArray, List.length_cons, List.length_nil, Nat.reduceAdd, Nat.reduceSub, Array.replicate_succ, Array.replicate_zero, List.push_toArray, List.append_toArray, List.nil_append, List.cons_append]
  have c0 := row_cell x0 0 _ rfl
  have c1 := row_cell x1 0 _ rfl
  gi_wp2_with (first
    | (refine ⟨trivial, ?_⟩; gi_at_call 34; refine (callsIn_wide.2 (given_any b M a n cap k next ds D _ BA)).mono ?_; rintro e w1 ⟨rfl, hw⟩; rw [hw]; clear hw)
    | (refine ⟨trivial, ?_⟩; gi_at_call 39; refine (callsIn_wide.2 (KT _)).mono ?_; rintro e w1 ⟨rfl, hw1⟩))
  have B2 : Below w0.heap.size w0 w1 := by rw [hw1]; exact ((Below.refl _ _).alloc (Nat.le_refl _) _).alloc (by simp) _
  have z1 : w1.heap.size = w.heap.size + 6 := by rw [hw1]; simp [z0]
  have L0 : Looks b M a n cap k next ds D num w (.cells #[.int .i64 0] 2) (.cells #[.int .i64 0] 46) w1 := by
    refine ⟨⟨BA.below B2, ?_, ?_⟩, (B2.block _ (row_lt x0)).trans x0, (B2.block _ (row_lt x1)).trans x1, (B2.block _ (row_lt x2)).trans x2, (B2.block _ (row_lt x3)).trans x3, B1.trans (B2.mono B1.size)⟩
    · rw [hw1, ← z0]; exact (One.new _ _ _).alloc _
    · rw [hw1]; exact One.at (One.new _ _ _) (by simp [z0])
  rw [← hw1]
  have HZ : Hid (w1.heap.size = w.heap.size + 6) := ⟨z1⟩
  clear z1 KT hw1 x0 x1 x2 x3 c0 c1 hw0
  obtain ⟨xs, hxs⟩ : ∃ xs, probes ds num n 0 n = xs := ⟨_, rfl⟩
  have HXS : Hid (probes ds num n 0 n = xs) := ⟨hxs⟩
  have G := toward_gives b M a n cap k next ds D (w.heap.size + 4) (w.heap.size + 5) num w1 hn
  rw [hxs] at G
  clear hxs
  refine range_turns (gf := 55) (lb := #[.pointer (some ⟨w.heap.size + 4, 0, none⟩), .pointer (some ⟨w.heap.size + 4 + 1, 0, none⟩)]) (by first | rfl | simp) (enters_of Try.func55 (by kernel_rfl) rfl)
    G (Below.refl _ _) (fun _ => rfl)
    (fun i C W => Looks b M a n cap k next ds D num w (.cells #[.int .i64 0] 2) (.cells #[.int .i64 0] 46) W ∧ Unseen xs num i)
    (fun c C W => c = .ret ∧ Dubbed b M a k next ds D num C w W)
    (fun i C A h => h.1.keep)
    (fun i C A B h s => ⟨h.1.same s (by have := HZ.out; omega) hbC, h.2⟩)
    (fun c C A B h s => ⟨h.1, h.2.same s (by have := HZ.out; omega) hbC⟩)
    ⟨L0, fun q hq => by simp at hq⟩
    (fun q a' W => ∃ c : Nat, w1.heap.size + 2 ≤ c ∧ W.heap[c]? = some (.cells #[.int .i64 q.2.num, .int .i64 q.2.src, .int .i64 q.2.dst, .string q.2.body] 33 (0, 0)) ∧ a' = { tmps := #[.pointer (some ⟨b, 0, none⟩), .int .i64 num, .pointer (some ⟨w.heap.size, 0, none⟩), .pointer (some ⟨w.heap.size + 1, 0, none⟩), .pointer (some ⟨w.heap.size + 1 + 1, 0, none⟩), .pointer (some ⟨w.heap.size + 1 + 1 + 1, 0, none⟩), undef, .pointer (some ⟨c, 0, none⟩), .pointer (some ⟨b, 0, none⟩), .bool true, .bool false, .pointer (some ⟨b, 0, none⟩), .int .i64 num, .func (.func 55) #[] #[.pointer (some ⟨w.heap.size + 4, 0, none⟩), .pointer (some ⟨w.heap.size + 4 + 1, 0, none⟩)], .int .i64 (q.1 : Int), .agg #[.int .i64 q.2.num, .int .i64 q.2.src, .int .i64 q.2.dst, .string q.2.body], undef, undef, undef, undef, undef, undef, undef, undef, undef, undef, undef, undef, undef, undef], defers := [] })
    (fun q a' A o ⟨c, hc, hr, e⟩ => ⟨c, hc, (World.putObj_heap_other (by omega)).trans hr, e⟩)
    ?assign ?body ?done ?stop
  case assign =>
    intro i q W C K hi hs hK
    gi_wp2
    exact hK _ _ ⟨W.heap.size, hs, World.alloc_heap_new _ _, rfl⟩ ((Below.refl _ _).alloc (Nat.le_refl _) _)
  case body =>
    rintro i ⟨m, dn, ds1, dd1, dby⟩ C a' W ⟨LK, hno⟩ ⟨c, hc, hr, rfl⟩ hx hs hC
    have r0 := row_cell hr 0 (.int .i64 dn) rfl
    have n1 := row_cell LK.what 0 (.int .i64 num) rfl
    have p1 := row_cell LK.ptr 0 (.pointer (some ⟨b, 0, none⟩)) rfl
    have hC' : ∀ b, C b → w1.heap.size ≤ b ∧ b < W.heap.size := fun b hb => ⟨by have := (hC b hb).1; omega, (hC b hb).2⟩
    by_cases he : dn = num
    · subst he
      have hmem : (m, (⟨dn, ds1, dd1, dby⟩ : DG)) ∈ probes ds dn n 0 n := by rw [HXS.out]; exact List.mem_of_getElem? hx
      obtain ⟨_, hmn, hmd⟩ := probes_in ds dn n 0 n _ hmem
      simp only at hmn hmd
      have hdm : ds[m]? = some ⟨dn, ds1, dd1, dby⟩ := by rw [hmd, List.getD_eq_getElem?_getD, List.getElem?_eq_getElem (by omega)]; rfl
      have HDM : Hid (ds[m]? = some ⟨dn, ds1, dd1, dby⟩) := ⟨hdm⟩
      have hI := hok _ (List.mem_of_getElem? hdm)
      have KP := put_any b M a n cap k next ds D ds1 dd1 dby W LK.keep.bag hI.1 hI.2 hs0
      obtain ⟨PS, hPS⟩ : ∃ PS, putS D next ds ds1 dd1 dby = PS := ⟨_, rfl⟩
      rw [hPS] at KP
      have r1 := row_cell hr 1 (.int .i64 ds1) rfl
      have r2 := row_cell hr 2 (.int .i64 dd1) rfl
      have r3 := row_cell hr 3 (.string dby) rfl
      have hz := HZ.out
      have HPS : Hid (putS D next ds ds1 dd1 dby = PS) := ⟨hPS⟩
      clear hdm hmd hmem hx hno HXS G hI hPS hz
      gi_wp2_with (refine ⟨trivial, ?_⟩; gi_at_call 16; refine (CallsIn.inRound _ (callsIn_wide.2 KP)).mono ?_; rintro e W2 ⟨rfl, o2, B2⟩; clear KP; have R2 := (o2.block _ (row_lt LK.res0) (fun h => (by have := hbC _ h; omega))).trans LK.res0; have R3 := (o2.block _ (row_lt LK.res1) (fun h => (by have := hbC _ h; omega))).trans LK.res1; have R3' : (W2.setCell ⟨w.heap.size + 2, 0, none⟩ (.int .i64 PS.r0)).heap[w.heap.size + 3]? = some (.cells #[.int .i64 0] 46 (0, 0)) := set_far R3 (by omega) _ _; have c2 := row_cell R2 0 (.int .i64 0) rfl; have f2 := row_free R2 0; have c46 := row_cell R3' 0 (.int .i64 0) rfl; have f46 := row_free R3' 0)
      have hz := HZ.out
      have hp := HPS.out
      rw [← hp] at B2
      obtain ⟨C', t1, t2⟩ := dub_mk (d := ⟨dn, ds1, dd1, dby⟩) (N := w1.heap.size) LK.below hbC HDM.out rfl B2 o2 R2 R3 (by omega) (by omega) hC'
      simp only [hp] at t1 t2
      exact ⟨C', ⟨rfl, t1⟩, t2⟩
    · gi_wp2
      refine ⟨C, ⟨LK, fun q hq => ?_⟩, Turn.of_below (Below.refl _ _) hC'⟩
      rw [List.take_add_one, hx] at hq
      rcases List.mem_append.1 hq with hq | hq
      · exact hno q hq
      · simp at hq; subst hq; exact he
  case done =>
    rintro C W ⟨LK, hno⟩ hK hC
    have hnone : ∀ d ∈ ds, d.num ≠ num := by
      intro d hd he
      obtain ⟨j, hj, hjd⟩ := List.mem_iff_getElem.1 hd
      have hg : ds.getD j DG.z = d := by rw [List.getD_eq_getElem?_getD, List.getElem?_eq_getElem hj, hjd]; rfl
      have := probes_find hasc num j (by rw [hg]; exact he) n 0 n (by omega) (Nat.zero_le _) (by omega) (by omega)
      rw [HXS.out] at this
      exact hno _ (by rw [List.take_length]; exact this) (by rw [hg]; exact he)
    have HN : Hid (∀ d ∈ ds, d.num ≠ num) := ⟨hnone⟩
    have R2 := LK.res0
    have R3' : (W.setCell ⟨w.heap.size + 2, 0, none⟩ (.int .i64 0)).heap[w.heap.size + 3]? = some (.cells #[.int .i64 0] 46 (0, 0)) := set_far LK.res1 (by omega) _ _
    have c2 := row_cell R2 0 (.int .i64 0) rfl
    have f2 := row_free R2 0
    have c46 := row_cell R3' 0 (.int .i64 0) rfl
    have f46 := row_free R3' 0
    clear hnone hno G HXS
    gi_wp2
    have hz := HZ.out
    have hD : ((W.setCell ⟨w.heap.size + 2, 0, none⟩ (.int .i64 0)).setCell ⟨w.heap.size + 3, 0, none⟩ (.int .i64 31)).heap[w1.heap.size]? = some (.deferred (some [])) := (set_far rfl (by omega) _ _).trans ((set_far rfl (by omega) _ _).trans hK)
    refine ⟨by simp, .inl ⟨_, _, rfl, run_takeDeferred hD, ?_⟩⟩
    refine ⟨_, results_two rfl _ _ (w.heap.size + 2) (w.heap.size + 3) _ _ rfl rfl (load_2 (x := 0) ((World.putObj_heap_other (by omega)).trans ((set_far rfl (by omega) _ _).trans (set_row R2 0 _)))) (load_46 (x := 31) ((World.putObj_heap_other (by omega)).trans (set_row R3' 0 _))), .inr ⟨HN.out, rfl, ?_⟩⟩
    have BW := LK.below
    exact below_putObj ((BW.setCell (p := ⟨w.heap.size + 2, 0, none⟩) (by show w.heap.size ≤ w.heap.size + 2; omega) _).setCell (by show w.heap.size ≤ w.heap.size + 3; omega) _) (by omega) _
  case stop =>
    rintro c C W ⟨rfl, TK⟩ hK hC
    gi_wp2
    have hz := HZ.out
    obtain ⟨j, d, h1, h2, Bj, h3, h4⟩ := TK.out
    refine ⟨by simp, .inl ⟨_, _, rfl, run_takeDeferred hK, ?_⟩⟩
    refine ⟨_, results_two rfl _ _ (w.heap.size + 2) (w.heap.size + 3) _ _ rfl rfl (load_2 ((World.putObj_heap_other (by omega)).trans h3)) (load_46 ((World.putObj_heap_other (by omega)).trans h4)), .inl ⟨j, d, h1, h2, rfl, ?_, TK.only.putObj (by omega) _⟩⟩
    refine (Bj.of_blocks fun q hq hl => World.putObj_heap_other ?_).mono (fun q hl hq => by have := (hC q hq).1; omega)
    rcases hq with hq | hq
    · have := hbC q hq; omega
    · have := (hC q hq).1; omega
end Go.Proofs.Ytoppecppmjpgiaa
