/-
  Package boot: recordOf.
-/
import Derived.Test.YtaacggbfoejjhaaDoorB2
namespace Go.Proofs.YtaacggbfoejjhaaDoor
open Go.ChangeShapes Go.WideShapes Go.ChangeAt Go.RowKit
open D
set_option linter.unusedVariables false
set_option linter.unusedSimpArgs false

theorem rec_s2 (n : Nat) : splice (splice (zr 32) 0 (le 8 n)) 8 mark = recA n ++ zr 16 := by
  simp [zr, splice, le, mark, recA, List.replicate]
theorem splice_mid (A R X : List Int) (o : Nat) (ho : o = A.length) : splice (A ++ R) o X = A ++ (X ++ R.drop X.length) := by
  subst ho
  unfold splice
  rw [List.take_left' rfl, List.drop_append, List.drop_eq_nil_of_le (by omega), List.nil_append, Nat.add_sub_cancel_left]
theorem rec_s4 (A : List Int) (hA : A.length = 16) (s n : Nat) : splice (splice (A ++ zr 16) 16 (le 4 s)) 20 (le 8 n) = A ++ (le 4 s ++ (le 8 n ++ [0, 0, 0, 0])) := by
  rw [splice_mid A _ _ 16 hA.symm, ← List.append_assoc, splice_mid (A ++ le 4 s) _ _ 20 (by simp [hA, le_len]), List.append_assoc, le_len, le_len]
  rfl
theorem zr_len (n : Nat) : (zr n).length = n := by simp [zr]
theorem zeros_byt (n : Nat) : Byt (zr n) := by intro c hc; have := List.eq_of_mem_replicate hc; omega
theorem results_one {P : Program} {fn : Func} {p : Tmp} {t : TypeId} (h : fn.results = #[.cell p t]) (tmps : Array Value) (w : World) (g : Nat) (v : Value)
    (hp : tmps.getD p undef = .pointer (some ⟨g, 0, none⟩)) (h1 : (loadVar t ⟨g, 0, none⟩).run P w = .ok v w) :
    (results fn tmps).run P w = .ok v w := by
  have hp' : tmps[p]?.getD undef = .pointer (some ⟨g, 0, none⟩) := by simpa using hp
  simp [results, h, hp', asAddr, h1]
theorem loadVarB {w : World} {g T n : Nat} {t : TypeId} {zs : List Int} (hT : Arr T n) (h : Blk w g t zs) (hz : zs.length = n) : (loadVar T ⟨g, 0, none⟩).run Tryd.prog w = .ok (vb zs) w := by
  obtain ⟨d, hd, hr⟩ := hT.row
  exact run_loadVar_mid w g 0 T (zs.map bv) d h.whole hd hr (by rw [List.length_map, hz]; exact hT.sz)
theorem copy_mark (w : World) (g : Nat) (t : TypeId) (bs : List Int) (h : Blk w g t bs) (hb : 16 ≤ bs.length) : (Builtin.copy_ #[22, 9] 3 #[.slice (some ⟨g, 8, none⟩) 8 8, .string { data := #[69, 68, 68, 89, 66, 79, 79, 84] }]).run Tryd.prog w = .ok (goInt 8) (w.setRow g ((splice bs 8 mark).map bv).toArray) := by
  have := Lib.run_copy_row_string (P := Tryd.prog) w 22 9 3 5 g 8 8 8 { data := #[69, 68, 68, 89, 66, 79, 79, 84] } _ t Tryd.underlying22 (by kernel_rfl) h (by decide) (by simp; show 16 ≤ _; omega)
  refine this.trans ?_
  have e : ((bs.map bv).toArray.toList.take 8 ++ Lib.byteCells ({ data := #[69, 68, 68, 89, 66, 79, 79, 84] } : ByteArray).data.toList ++ (bs.map bv).toArray.toList.drop (8 + ({ data := #[69, 68, 68, 89, 66, 79, 79, 84] } : ByteArray).size)).toArray = ((splice bs 8 mark).map bv).toArray := by
    simp [splice, mark, Lib.byteCells]
    rfl
  rw [e]
  rfl
set_option maxHeartbeats 4000000 in
theorem recordOf_any (n : Nat) (w : World) (hn : n ≤ 9223372036854775807) (ht : S.Tab w) : Calls Tryd.prog 29 #[.int .i64 (n : Int)] w fun e w' => e = .returned (vb (recd n)) ∧ Below w.heap.size w w' := by
  go_enter Tryd.func29, Tryd.ntmps29
  go_wp2_with (first
    | ((with_reducible show wpList _ _ _ (Oper.mk _ (Op.alloc 54) _ _ _ _ :: _) _ _); refine wpList_allocB rfl 54 32 arr54 rfl ?_; (first | (have _x := N1; clear _x; intro w2 N2) | intro w1 N1))
    | (go_at_call 45; refine (lay_any w1.heap.size 0 8 16 n 54 _ w2 N2.blk (by rw [zr_len]; decide) (by decide) (by omega)).mono ?_; rintro e w3 ⟨rfl, B3, o3, z3⟩; have hcp := copy_mark w3 _ _ _ B3 (by rw [length_splice _ _ _ (by rw [le_len, zr_len]; decide), zr_len]; decide); have W4 := wrote_row B3 (splice (splice (zr 32) 0 (le 8 n)) 8 mark)))
  generalize hw4 : World.setRow w3 _ _ = w4 at W4
  clear hw4 hcp
  rw [rec_s2] at W4
  have T4 : S.Tab w4 := by
    have t1 := (ht.below N1.below).below N2.below
    have t3 : S.Tab w3 := fun i hi => (World.cell?_of_block (a := ⟨0, i, none⟩) (o3.block 0 t1.pos (by intro e; have e' : 0 = w1.heap.size := e; have := N1.size; omega))).trans (t1 i hi)
    exact fun i hi => (World.cell?_of_block (a := ⟨0, i, none⟩) (W4.only.block 0 t3.pos (by intro e; have e' : 0 = w1.heap.size := e; have := N1.size; omega))).trans (t3 i hi)
  have X4 : Blk w4 w.heap.size 54 (zr 32) := by
    have x2 := N1.blk.below N2.below
    have hne : ¬ at1 w1.heap.size w.heap.size := by intro e; have e' : w.heap.size = w1.heap.size := e; have := N1.size; omega
    exact (Blk.only x2 o3 hne).only W4.only hne
  have O4 : Below w.heap.size w w4 := by
    have c1 := N1.below.trans (N2.below.mono N1.below.size)
    have hk : ∀ q, at1 w1.heap.size q → w.heap.size ≤ q := by intro q e; have e' : q = w1.heap.size := e; have := N1.size; omega
    exact (c1.trans (o3.below c1.size hk)).trans (W4.only.below (Nat.le_trans c1.size o3.size) hk)
  have hk1 : w.heap.size < w1.heap.size := by have := N1.size; omega
  generalize w1.heap.size = k at *
  clear N1 N2 B3 o3 z3
  refine wp_region_any (by kernel_rfl) ?_
  change wpAny _ _ _ _ _ _ _ (World.drew _)
  obtain ⟨wd, hwd⟩ : ∃ wd, World.drew w4 = wd := ⟨_, rfl⟩
  rw [hwd]
  have Bd : Blk wd k 54 (recA n ++ zr 16) := by rw [← hwd]; exact W4.blk
  have Xd : Blk wd w.heap.size 54 (zr 32) := by rw [← hwd]; exact X4
  have Td : S.Tab wd := by rw [← hwd]; exact T4.drew
  have Od : Below w.heap.size w wd := by rw [← hwd]; exact O4.drew
  clear hwd W4 T4 X4 O4
  have Rd := Bd.row (byt_app (recA_byt n) (zeros_byt 16)) 0 16 16 (by simp [recA_len, zr_len]) (by omega)
  rw [List.drop_zero, List.take_left' (recA_len n)] at Rd
  have hsl := S.sumB_lt (recA n)
  refine any_take 0 12 (.pointer (some ⟨k, 16, none⟩)) rfl rfl (by kernel_rfl) (by kernel_rfl) (by kernel_rfl) (fun _ _ _ h => h) (Or.inl ⟨by rfl, by intro w; go_simp⟩) ?_
  try simp only [Act.put, List.setIfInBounds_toArray, List.set_cons_zero, List.set_cons_succ]
  refine any_take 1 13 (.slice (some ⟨k, 16, none⟩) 4 16) rfl rfl (by kernel_rfl) (by kernel_rfl) (by kernel_rfl) (fun _ _ _ h => h) (Or.inl ⟨by rfl, by intro w; go_simp⟩) ?_
  try simp only [Act.put, List.setIfInBounds_toArray, List.set_cons_zero, List.set_cons_succ]
  refine any_take 2 14 (.pointer (some ⟨k, 0, none⟩)) rfl rfl (by kernel_rfl) (by kernel_rfl) (by kernel_rfl) (fun _ _ _ h => h) (Or.inl ⟨by rfl, by intro w; go_simp⟩) ?_
  try simp only [Act.put, List.setIfInBounds_toArray, List.set_cons_zero, List.set_cons_succ]
  refine any_take 3 15 (.slice (some ⟨k, 0, none⟩) 16 16) rfl rfl (by kernel_rfl) (by kernel_rfl) (by kernel_rfl) (fun _ _ _ h => h) (Or.inl ⟨by rfl, by intro w; go_simp⟩) ?_
  try simp only [Act.put, List.setIfInBounds_toArray, List.set_cons_zero, List.set_cons_succ]
  refine wpAny_ready (rs := [4]) (by kernel_rfl) (by simp) ?_
  refine AllReady.cons rfl (fun K hK => ?_) AllReady.nil
  go_simp
  go_wp2_with (go_at_call 46; refine (S.sum_any _ 16 16 _ wd (Row.toS Rd) Td (by omega)).mono ?_; rintro e w5 ⟨rfl, hw⟩; rw [hw]; clear hw)
  have hsw : IntKind.u64.wrap ((S.sumB (recA n) : Nat) : Int) = ((S.sumB (recA n) : Nat) : Int) := by rw [IntKind.wrap_u64]; omega
  refine any_take 5 17 (.int .u64 ((S.sumB (recA n) : Nat) : Int)) rfl rfl (by kernel_rfl) (by kernel_rfl) (by kernel_rfl) (fun _ _ _ h => h) (Or.inl ⟨by rfl, by intro w; go_simp⟩) ?_
  clear hsw
  try simp only [Act.put, List.setIfInBounds_toArray, List.set_cons_zero, List.set_cons_succ]
  refine wpAny_ready (rs := [6]) (by kernel_rfl) (by simp) ?_
  refine AllReady.cons rfl (fun K hK => ?_) AllReady.nil
  go_simp
  go_wp2_with (go_at_call 45; refine (lay_any k 16 4 16 (S.sumB (recA n)) 54 _ wd Bd (by simp [recA_len, zr_len]) (by decide) (by omega)).mono ?_; rintro e w6 ⟨rfl, B6, o6, z6⟩)
  refine wpAny_done (by kernel_rfl) ?_ _
  go_wp2_with (first
    | (go_at_call 45; refine (lay_any k 20 8 12 n 54 _ w6 B6 (by rw [length_splice _ _ _ (by simp [le_len, recA_len, zr_len])]; simp [recA_len, zr_len]) (by decide) (by omega)).mono ?_; rintro e w7 ⟨rfl, B7, o7, z7⟩; rw [rec_s4 _ (recA_len n)] at B7; have B7' : Blk w7 k 54 (recd n) := B7)
    | ((with_reducible show wpList _ _ _ (Oper.mk _ (Op.load 54 _) _ _ _ _ :: _) _ _); refine wpList_loadB rfl 54 32 arr54 _ rfl k 0 (recd n) rfl B7'.whole (rec_len n) ?_; have X7 : Blk w7 w.heap.size 54 (zr 32) := (Xd.only o6 (by intro e; have e' : w.heap.size = k := e; omega)).only o7 (by intro e; have e' : w.heap.size = k := e; omega))
    | ((with_reducible show wpList _ _ _ (Oper.mk _ (Op.store 54 _ _) _ _ _ _ :: _) _ _); refine wpList_storeB rfl 54 32 arr54 _ _ rfl w.heap.size 0 54 (zr 32) (recd n) rfl rfl X7 (rec_len n) (by rw [zr_len]; decide) ?_; intro w8 W8))
  rw [splice_all _ _ (by rw [rec_len, zr_len])] at W8
  have hk : ∀ q, at1 k q → w.heap.size ≤ q := by intro q e; have e' : q = k := e; omega
  have hk0 : ∀ q, at1 w.heap.size q → w.heap.size ≤ q := by intro q e; have e' : q = w.heap.size := e; omega
  have O6 := Od.trans (o6.below Od.size hk)
  have O7 := O6.trans (o7.below O6.size hk)
  refine bodyPost_ret (v := vb (recd n)) (results_one rfl _ _ w.heap.size _ rfl (loadVarB arr54 W8.blk (rec_len n))) rfl ⟨rfl, O7.trans (W8.only.below O7.size hk0)⟩
end Go.Proofs.YtaacggbfoejjhaaDoor
