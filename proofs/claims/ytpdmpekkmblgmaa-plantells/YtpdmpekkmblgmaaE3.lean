/-
  The document: Script.
-/
import Derived.Test.YtpdmpekkmblgmaaE2
namespace Go.Proofs.Ytpdmpekkmblgmaa
open Go.ChangeShapes Go.WideShapes Go.ChangeAt Go.RowKit Go.Maps Go.Shelf
set_option linter.unusedVariables false
set_option linter.unusedSimpArgs false
attribute [local go_sem] Oper.semAt_some

theorem ahead_len {l : List LK} (h : l.length ≤ 256) : (aheadL l).length ≤ 600 := by
  unfold aheadL
  rw [List.length_append, lks_len, List.length_replicate]
  omega
set_option maxRecDepth 100000 in
set_option maxHeartbeats 2000000 in
theorem rscript_any (n : Nat) (a : Option Addr) (k cap : Nat) (l : List LK) (nm : ByteArray) (kd sc : Int) (a' : Option Addr) (k' cap' : Nat) (zs : List Int) (w : World) (hr : RdL w a k cap l) (hz : Row w a' k' cap' zs) (hl : l.length ≤ 256) (hn : n ≤ 16) :
    Calls Try.prog 27 #[.int .i64 (n : Int), .slice a k cap, .string nm, .int .i64 kd, .int .i64 sc, .slice a' k' cap'] w fun e w' => ∃ c d m, e = .returned (.slice c m d) ∧ RdS w' c m d (scriptL (min n k') l nm kd sc zs) ∧ Below w.heap.size w w' := by
  have HN : Hid (n ≤ 16 ∧ l.length ≤ 256 ∧ l.length = k ∧ zs.length = k') := ⟨hn, hl, hr.size, hz.size⟩
  have KA := rahead_any a k cap l w hr hl
  have HY : Hid ((aheadL l).length ≤ 600) := ahead_len hl
  obtain ⟨ys, hys⟩ : ∃ ys, aheadL l = ys := ⟨_, rfl⟩
  have HYE : Hid (aheadL l = ys) := hys
  rw [hys] at KA HY
  obtain ⟨B, hB⟩ : ∃ B, min n k' = B := ⟨_, rfl⟩
  have HM : Hid (min n k' = B ∧ B ≤ n ∧ B ≤ k' ∧ (B = n ∨ B = k')) := by show _ ∧ _; omega
  rw [hB]
  clear hl hn hys hr hB
  go_enter Try.func27, Try.ntmps27
  go_wp2_with (first
    | (go_at_call 43; refine KA.mono ?_; clear KA; rintro e w1 ⟨v, rfl, O⟩; have OB := O.later ((Below.refl _ _).alloc (Nat.le_refl _) (.cells (csS (mkS nm kd sc)).toArray 74)))
    | ((with_reducible show wpList _ _ _ (Oper.mk _ (Op.call { callee := Callee.builtin Builtin.append, args := _, argTypes := _ }) _ _ _ _ :: _) _ _); refine wpList_apps rfl _ _ rfl w.heap.size _ _ _ rfl OB.own ⟨_, 0, none⟩ 2 (mkS nm kd sc) rfl rfl (fun j u hu => row_alloc (csS (mkS nm kd sc)) 74 j u hu _ (by simp)) (by have := HY.out; omega) (Nat.le_trans OB.below.size (Nat.le_refl _)) ?_; intro v' w' r1 r2; have O9 := OB.more (mkS nm kd sc) r1 r2))
  have HY9 : Hid ((ys ++ mkS nm kd sc).length ≤ 700) := by show _ ≤ _; rw [List.length_append]; have := HY.out; show _ + 2 ≤ _; omega
  have HS9 : Hid (aheadL l ++ mkS nm kd sc = ys ++ mkS nm kd sc) := by show _ = _; rw [HYE.out]
  obtain ⟨ts, hts⟩ : ∃ ts, ys ++ mkS nm kd sc = ts := ⟨_, rfl⟩
  rw [hts] at O9 HY9 HS9
  clear hts OB r1 r2 O
  go_loopg [13, 14] B (fun gk v13 v14 wr => ∃ i : Nat, v14 = .int .i64 (i : Int) ∧ i + gk = B ∧ OwS w v13 (ts ++ (List.range i).map (setS nm zs)) wr)
  case atStart => exact ⟨0, by first | rfl | go_num, by omega, by rw [List.range_zero, List.map_nil, List.append_nil]; exact O9⟩
  case round =>
    clear O9
    obtain ⟨i, rfl, hg3, O⟩ := hrel
    by_cases hi3 : i < B
    case pos =>
      have hi3n : (i : Int) < (n : Int) := by have := HM.out; omega
      have hi3k : (i : Int) < (k' : Int) := by have := HM.out; omega
      obtain ⟨b, off, rfl, hb, hc⟩ := (hz.below O.below).mem.resolve_left (by omega)
      have hc3 := hc i (by omega)
      have HT : Hid (ts ++ (List.range (i + 1)).map (setS nm zs) = (ts ++ (List.range i).map (setS nm zs)) ++ [setS nm zs i]) := by show _ = _; rw [List.range_succ, List.map_append, List.append_assoc]; rfl
      have HQ : Hid ((ts ++ (List.range i).map (setS nm zs)).length ≤ 1000) := by show _ ≤ _; rw [List.length_append, List.length_map, List.length_range]; have := HY9.out; have := HN.out; omega
      obtain ⟨qs, hqs⟩ : ∃ qs, ts ++ (List.range i).map (setS nm zs) = qs := ⟨_, rfl⟩
      rw [hqs] at O HT HQ
      obtain ⟨z, hz0⟩ : ∃ z, zs.getD i 0 = z := ⟨_, rfl⟩
      have HZ0 : Hid (setS nm zs i = ⟨5, (i : Int), 0, nm, 0, z⟩) := by show _ = _; unfold setS; rw [hz0]
      rw [hz0] at hc3
      rw [HZ0.out] at HT
      have hin : IntKind.i64.wrap ((i : Int) + 1) = (i : Int) + 1 := by rw [IntKind.wrap_i64]; have := HN.out; omega
      have OB := O.later ((Below.refl _ _).alloc (Nat.le_refl _) (.cells (csS [⟨5, (i : Int), 0, nm, 0, z⟩]).toArray 74))
      clear hqs hz0 hc
      go_wp2_with ((with_reducible show wpList _ _ _ (Oper.mk _ (Op.call { callee := Callee.builtin Builtin.append, args := _, argTypes := _ }) _ _ _ _ :: _) _ _); refine wpList_apps rfl _ _ rfl w.heap.size _ _ _ rfl OB.own ⟨_, 0, none⟩ 1 ([⟨5, (i : Int), 0, nm, 0, z⟩]) rfl rfl (fun j u hu => row_alloc (csS ([⟨5, (i : Int), 0, nm, 0, z⟩])) 74 j u hu _ (by simp)) (by have := HQ.out; omega) (Nat.le_trans OB.below.size (Nat.le_refl _)) ?_; intro v' w' r1 r2; have O9 := OB.more ([⟨5, (i : Int), 0, nm, 0, z⟩]) r1 r2)
      go_roundg (gk - 1)
      case measure => omega
      case rel => exact ⟨i + 1, by first | rfl | go_num, by omega, by rw [HT.out]; exact O9⟩
    case neg =>
      have hi3e : i = B := by omega
      have HF : Hid (ts ++ (List.range i).map (setS nm zs) = scriptL B l nm kd sc zs) := by show _ = _; unfold scriptL; rw [HS9.out, hi3e]
      rw [HF.out] at O
      have HLn : Hid ((scriptL B l nm kd sc zs).length ≤ 100000) := by show _ ≤ _; rw [← HF.out, List.length_append, List.length_map, List.length_range]; have := HY9.out; have := HN.out; have := HM.out; omega
      obtain ⟨c, d, rfl, R9⟩ := O.fin HLn.out
      have HB := O.below
      obtain ⟨rs, hrs⟩ : ∃ rs, scriptL B l nm kd sc zs = rs := ⟨_, rfl⟩
      rw [hrs] at R9 ⊢
      by_cases h1 : (i : Int) < (n : Int)
      case pos =>
        have h2 : ¬ (i : Int) < (k' : Int) := by have := HM.out; omega
        go_wp2
        go_ret
        exact ⟨c, d, _, rfl, R9, HB⟩
      case neg =>
        go_wp2
        go_ret
        exact ⟨c, d, _, rfl, R9, HB⟩
end Go.Proofs.Ytpdmpekkmblgmaa
