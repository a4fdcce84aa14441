/-
  Package dir: lists copied, compared and searched.
-/
import Derived.Test.YtoeebofappbneaaGreatD4
namespace Go.Proofs.YtoeebofappbneaaGreat
open Go.ChangeShapes Go.WideShapes Go.ChangeAt Go.RowKit
set_option linter.unusedVariables false
set_option linter.unusedSimpArgs false

/-- A new list that is a function's answer. -/
def Ans (w : World) (l : List CH) (e : Ending) (w' : World) : Prop := ∃ a' cap', e = .returned (.slice a' l.length cap') ∧ LstC w' a' l.length cap' l ∧ (∀ g off, a' = some ⟨g, off, none⟩ → w.heap.size ≤ g) ∧ Below w.heap.size w w'
set_option maxHeartbeats 4000000 in
theorem rcopied_any (a : Option Addr) (cap : Nat) (l : List CH) (w : World) (hr : RdC w a l.length cap l) : Calls Tryz.prog 63 #[.slice a l.length cap] w (Ans w l) := by
  go_enter Tryz.func63, Tryz.ntmps63
  go_wp2_with ((with_reducible show wpList _ _ _ (Oper.mk _ (Op.call { callee := Callee.builtin Builtin.append, args := _, argTypes := #[44, 44] }) _ _ _ _ :: _) _ _); go_must (refine wpList_copy_lstC rfl _ _ rfl rfl rfl hr ?_; intro a1 c1 w1 L1 o1 b1))
  go_ret
  exact ⟨a1, c1, rfl, L1, o1, b1⟩
set_option maxHeartbeats 4000000 in
theorem own_any (a : Option Addr) (cap : Nat) (l : List CH) (w : World) (hr : RdC w a l.length cap l) : Calls Tryz.prog 49 #[.slice a l.length cap] w (Ans w l) := by
  go_enter Tryz.func49, Tryz.ntmps49
  go_wp2_with ((with_reducible show wpList _ _ _ (Oper.mk _ (Op.call { callee := Callee.builtin Builtin.append, args := _, argTypes := #[44, 44] }) _ _ _ _ :: _) _ _); go_must (refine wpList_copy_lstC rfl _ _ rfl rfl rfl hr ?_; intro a1 c1 w1 L1 o1 b1))
  go_ret
  exact ⟨a1, c1, rfl, L1, o1, b1⟩
def sameL : List CH → List CH → Bool
  | [], [] => true
  | a :: x, b :: y => eqC a b && sameL x y
  | _, _ => false
theorem sameL_iff : ∀ (l m : List CH), sameL l m = true ↔ l = m
  | [], [] => by simp [sameL]
  | [], b :: y => by simp [sameL]
  | a :: x, [] => by simp [sameL]
  | a :: x, b :: y => by simp [sameL, eqC_iff, sameL_iff x y]
theorem sameL_len {l m : List CH} (h : l.length ≠ m.length) : sameL l m = false := by
  cases k : sameL l m with
  | false => rfl
  | true => rw [(sameL_iff l m).1 k] at h; exact absurd rfl h
theorem sameL_at {l m : List CH} {i : Nat} (hi : i < l.length) (h : eqC (l.getD i CH.z) (m.getD i CH.z) = false) : sameL l m = false := by
  cases k : sameL l m with
  | false => rfl
  | true => rw [(sameL_iff l m).1 k, eqC_self] at h; cases h
theorem sameL_all {l m : List CH} (hl : l.length = m.length) (h : ∀ j, j < l.length → eqC (l.getD j CH.z) (m.getD j CH.z) = true) : sameL l m = true := by
  rw [sameL_iff]
  refine List.ext_getElem hl fun i h1 h2 => ?_
  have := (eqC_iff _ _).1 (h i h1)
  rw [List.getD_eq_getElem?_getD, List.getD_eq_getElem?_getD, List.getElem?_eq_getElem h1, List.getElem?_eq_getElem h2] at this
  exact this
theorem lk_at {k : ByteArray} : ∀ {l : List CH} {i : Nat}, i < l.length → (∀ j, j < i → (l.getD j CH.z).nm ≠ k) → (l.getD i CH.z).nm = k → lk k l = some (l.getD i CH.z)
  | [], i, h, _, _ => by cases h
  | a :: x, 0, _, _, hk => by rw [lk, if_pos (show a.nm = k from hk)]; rfl
  | a :: x, i + 1, h, hn, hk => by
    rw [lk, if_neg (show ¬ a.nm = k from hn 0 (by omega))]
    exact lk_at (by simpa using h) (fun j hj => hn (j + 1) (by omega)) hk
theorem lk_no {k : ByteArray} : ∀ {l : List CH}, (∀ j, j < l.length → (l.getD j CH.z).nm ≠ k) → lk k l = none
  | [], _ => rfl
  | a :: x, h => by
    rw [lk, if_neg (show ¬ a.nm = k from h 0 (by simp))]
    exact lk_no fun j hj => h (j + 1) (by simpa using hj)
/-- What Find tells. -/
def fdc (o : Option CH) : CH := o.getD CH.z
def fnd (o : Option CH) : Value := .tuple #[(fdc o).val, .bool o.isSome]
theorem nm_beq {a b : ByteArray} : (a.toList == b.toList) = true ↔ a = b := eqN_iff
theorem nm_bne {a b : ByteArray} (h : a ≠ b) : (a.toList == b.toList) = false := by
  cases k : (a.toList == b.toList) with
  | false => rfl
  | true => exact absurd (nm_beq.1 k) h
set_option maxRecDepth 100000 in
set_option maxHeartbeats 4000000 in
theorem find_any (a : Option Addr) (n cap : Nat) (l : List CH) (key : ByteArray) (w : World) (hr : RdC w a n cap l) : Calls Tryz.prog 29 #[.slice a n cap, .string key] w fun e w' => e = .returned (fnd (lk key l)) ∧ Below w.heap.size w w' := by
  have M := Mem.nil w
  have HN : Hid (n ≤ 140737488355328) := hr.small
  have HL : Hid (l.length = n) := hr.size
  go_enter Tryz.func29, Tryz.ntmps29
  go_wp2_with (first
      | ((with_reducible show wpList _ _ _ (Oper.mk (some 4) (Op.alloc 47) _ _ _ _ :: _) _ _); refine wpList_alloc M rfl rfl rt23 ?_; clear M; intro k4 W M))
  go_loopg [7, 10] n (fun gk v7 v10 wr => ∃ i : Nat, v10 = .int .i64 (i : Int) ∧ i + gk = n ∧ Mem w wr [(k4, zC, 47)] ∧ Hid (∀ j, j < i → (l.getD j CH.z).nm ≠ key))
  case atStart => exact ⟨0, by first | rfl | go_num, by omega, M, fun j hj => by omega⟩
  case round =>
    clear M
    obtain ⟨i, rfl, hgk, M, HA⟩ := hrel
    by_cases hi : i < n
    case pos =>
      have HI : Hid (i < n) := hi
      have hiI : (i : Int) < (n : Int) := by omega
      have hwr : IntKind.i64.wrap ((i : Int) + 1) = (i : Int) + 1 := by rw [IntKind.wrap_i64]; have := HN.out; omega
      obtain ⟨b, off, rfl, hb1, hd, hra⟩ := hr.at i hi
      obtain ⟨⟨nm, ep, mr, al, kd, sc⟩, hri⟩ : ∃ r, l.getD i CH.z = r := ⟨_, rfl⟩
      rw [hri] at hra
      have HX : Hid (l.getD i CH.z = ⟨nm, ep, mr, al, kd, sc⟩) := hri
      have KR : ∀ X, Below w.heap.size w X → X.rangeAt b (off + i * 6) (CH.cells ⟨nm, ep, mr, al, kd, sc⟩) := fun X h => range_later hra hb1 h
      clear hri hd hi hra
      skip
      by_cases hk : nm = key
      case pos =>
        have hkb : (nm.toList == key.toList) = true := nm_beq.2 hk
        have HV : Hid (lk key l = some ⟨nm, ep, mr, al, kd, sc⟩) := by
          show _ = _
          rw [lk_at (i := i) (by rw [HL.out]; exact HI.out) HA.out (by rw [HX.out]; exact hk), HX.out]
        clear hk
        go_wp2_with (first
      | ((with_reducible show wpList _ _ _ (Oper.mk _ (Op.load 47 (Operand.tmp 12)) _ _ _ _ :: _) _ _); refine wpList_load23w (by rfl) _ rfl b (off + i * 6) nm ep mr al kd sc rfl (KR _ M.below) ?_)
      | ((with_reducible show wpList _ _ _ (Oper.mk (some 7) (Op.alloc 47) _ _ _ _ :: _) _ _); refine wpList_alloc M rfl rfl rt23 ?_; clear M; intro k7 W M)
      | ((with_reducible show wpList _ _ _ (Oper.mk _ (Op.store 47 _ _) _ _ _ _ :: _) _ _); (first | (refine wpList_put M rfl _ _ rfl rt23 0 _ rfl rfl rfl rfl rfl (by simp [Value.oneCell']) ?_) | (refine wpList_put M rfl _ _ rfl rt23 1 _ rfl rfl rfl rfl rfl (by simp [Value.oneCell']) ?_)); clear M; intro W M; simp only [List.set_cons_zero, List.set_cons_succ] at M)
      | ((with_reducible show wpList _ _ _ (Oper.mk _ (Op.load 9 _) _ _ _ _ :: _) _ _); refine wpList_cell9 M (by rfl) _ rfl _ rfl (by first | exact .head _ | exact .tail _ (.head _)) rfl ?_)
      | ((with_reducible show wpList _ _ _ (Oper.mk _ (Op.load 47 _) _ _ _ _ :: _) _ _); refine wpList_load M (by rfl) _ rfl rt23 rfl (by first | exact .head _ | exact .tail _ (.head _)) (by rfl) ?_))
        refine bodyPost_ret (results_ct rfl _ _ k4 _ rfl (load_row (M.get (.tail _ (.head _))) rt23 rfl)) rfl ⟨?_, M.below⟩
        rw [HV.out]
        rfl
      case neg =>
        have hkb : (nm.toList == key.toList) = false := nm_bne hk
        have HK : Hid (nm ≠ key) := hk
        clear hk
        go_wp2_with (first
      | ((with_reducible show wpList _ _ _ (Oper.mk _ (Op.load 47 (Operand.tmp 12)) _ _ _ _ :: _) _ _); refine wpList_load23w (by rfl) _ rfl b (off + i * 6) nm ep mr al kd sc rfl (KR _ M.below) ?_)
      | ((with_reducible show wpList _ _ _ (Oper.mk (some 7) (Op.alloc 47) _ _ _ _ :: _) _ _); refine wpList_alloc M rfl rfl rt23 ?_; clear M; intro k7 W M)
      | ((with_reducible show wpList _ _ _ (Oper.mk _ (Op.store 47 _ _) _ _ _ _ :: _) _ _); (first | (refine wpList_put M rfl _ _ rfl rt23 0 _ rfl rfl rfl rfl rfl (by simp [Value.oneCell']) ?_) | (refine wpList_put M rfl _ _ rfl rt23 1 _ rfl rfl rfl rfl rfl (by simp [Value.oneCell']) ?_)); clear M; intro W M; simp only [List.set_cons_zero, List.set_cons_succ] at M)
      | ((with_reducible show wpList _ _ _ (Oper.mk _ (Op.load 9 _) _ _ _ _ :: _) _ _); refine wpList_cell9 M (by rfl) _ rfl _ rfl (by first | exact .head _ | exact .tail _ (.head _)) rfl ?_)
      | ((with_reducible show wpList _ _ _ (Oper.mk _ (Op.load 47 _) _ _ _ _ :: _) _ _); refine wpList_load M (by rfl) _ rfl rt23 rfl (by first | exact .head _ | exact .tail _ (.head _)) (by rfl) ?_))
        go_roundg (gk - 1)
        case measure => have := HI.out; omega
        case rel =>
          refine ⟨i + 1, by first | rfl | go_num, by have := HI.out; omega, M.tail, fun j hj => ?_⟩
          by_cases e : j = i
          · rw [e, HX.out]; exact HK.out
          · exact HA.out j (by omega)
    case neg =>
      have hiI : ¬ (i : Int) < (n : Int) := by omega
      have HV : Hid (lk key l = none) := lk_no fun j hj => HA.out j (by rw [HL.out] at hj; omega)
      go_wp2_with (first
      | ((with_reducible show wpList _ _ _ (Oper.mk _ (Op.store 47 _ _) _ _ _ _ :: _) _ _); (first | (refine wpList_put M rfl _ _ rfl rt23 0 _ rfl rfl rfl rfl rfl (by simp [Value.oneCell']) ?_)); clear M; intro W M; simp only [List.set_cons_zero, List.set_cons_succ] at M))
      refine bodyPost_ret (results_ct rfl _ _ k4 _ rfl (load_row (M.get (.head _)) rt23 rfl)) rfl ⟨?_, M.below⟩
      rw [HV.out]
      rfl
set_option maxRecDepth 100000 in
set_option maxHeartbeats 4000000 in
theorem rfind_any (a : Option Addr) (n cap : Nat) (l : List CH) (key : ByteArray) (w : World) (hr : RdC w a n cap l) : Calls Tryz.prog 61 #[.slice a n cap, .string key] w fun e w' => e = .returned (fnd (lk key l)) ∧ Below w.heap.size w w' := by
  have M := Mem.nil w
  have HN : Hid (n ≤ 140737488355328) := hr.small
  have HL : Hid (l.length = n) := hr.size
  go_enter Tryz.func61, Tryz.ntmps61
  go_wp2_with (first
      | ((with_reducible show wpList _ _ _ (Oper.mk (some 4) (Op.alloc 47) _ _ _ _ :: _) _ _); refine wpList_alloc M rfl rfl rt23 ?_; clear M; intro k4 W M))
  go_loopg [6] n (fun gk v6 wr => ∃ i : Nat, v6 = .int .i64 (i : Int) ∧ i + gk = n ∧ Mem w wr [(k4, zC, 47)] ∧ Hid (∀ j, j < i → (l.getD j CH.z).nm ≠ key))
  case atStart => exact ⟨0, by first | rfl | go_num, by omega, M, fun j hj => by omega⟩
  case round =>
    clear M
    obtain ⟨i, rfl, hgk, M, HA⟩ := hrel
    by_cases hi : i < n
    case pos =>
      have HI : Hid (i < n) := hi
      have hiI : (i : Int) < (n : Int) := by omega
      have hwr : IntKind.i64.wrap ((i : Int) + 1) = (i : Int) + 1 := by rw [IntKind.wrap_i64]; have := HN.out; omega
      obtain ⟨b, off, rfl, hb1, hd, hra⟩ := hr.at i hi
      obtain ⟨⟨nm, ep, mr, al, kd, sc⟩, hri⟩ : ∃ r, l.getD i CH.z = r := ⟨_, rfl⟩
      rw [hri] at hra
      have HX : Hid (l.getD i CH.z = ⟨nm, ep, mr, al, kd, sc⟩) := hri
      have KR : ∀ X, Below w.heap.size w X → X.rangeAt b (off + i * 6) (CH.cells ⟨nm, ep, mr, al, kd, sc⟩) := fun X h => range_later hra hb1 h
      clear hri hd hi hra
      have x0 : wr.cell? ⟨b, off + i * 6, none⟩ = some (.string nm) := KR _ M.below 0 _ rfl
      by_cases hk : nm = key
      case pos =>
        have hkb : (nm.toList == key.toList) = true := nm_beq.2 hk
        have HV : Hid (lk key l = some ⟨nm, ep, mr, al, kd, sc⟩) := by
          show _ = _
          rw [lk_at (i := i) (by rw [HL.out]; exact HI.out) HA.out (by rw [HX.out]; exact hk), HX.out]
        clear hk
        go_wp2_with (first
      | ((with_reducible show wpList _ _ _ (Oper.mk _ (Op.load 47 (Operand.tmp 22)) _ _ _ _ :: _) _ _); refine wpList_load23w (by rfl) _ rfl b (off + i * 6) nm ep mr al kd sc rfl (KR _ M.below) ?_)
      | ((with_reducible show wpList _ _ _ (Oper.mk _ (Op.store 47 _ _) _ _ _ _ :: _) _ _); (first | (refine wpList_put M rfl _ _ rfl rt23 0 _ rfl rfl rfl rfl rfl (by simp [Value.oneCell']) ?_)); clear M; intro W M; simp only [List.set_cons_zero, List.set_cons_succ] at M))
        refine bodyPost_ret (results_ct rfl _ _ k4 _ rfl (load_row (M.get (.head _)) rt23 rfl)) rfl ⟨?_, M.below⟩
        rw [HV.out]
        rfl
      case neg =>
        have hkb : (nm.toList == key.toList) = false := nm_bne hk
        have HK : Hid (nm ≠ key) := hk
        clear hk
        go_wp2_with (first
      | ((with_reducible show wpList _ _ _ (Oper.mk _ (Op.load 47 (Operand.tmp 22)) _ _ _ _ :: _) _ _); refine wpList_load23w (by rfl) _ rfl b (off + i * 6) nm ep mr al kd sc rfl (KR _ M.below) ?_)
      | ((with_reducible show wpList _ _ _ (Oper.mk _ (Op.store 47 _ _) _ _ _ _ :: _) _ _); (first | (refine wpList_put M rfl _ _ rfl rt23 0 _ rfl rfl rfl rfl rfl (by simp [Value.oneCell']) ?_)); clear M; intro W M; simp only [List.set_cons_zero, List.set_cons_succ] at M))
        go_roundg (gk - 1)
        case measure => have := HI.out; omega
        case rel =>
          refine ⟨i + 1, by first | rfl | go_num, by have := HI.out; omega, M, fun j hj => ?_⟩
          by_cases e : j = i
          · rw [e, HX.out]; exact HK.out
          · exact HA.out j (by omega)
    case neg =>
      have hiI : ¬ (i : Int) < (n : Int) := by omega
      have HV : Hid (lk key l = none) := lk_no fun j hj => HA.out j (by rw [HL.out] at hj; omega)
      go_wp2_with (first
      | ((with_reducible show wpList _ _ _ (Oper.mk _ (Op.store 47 _ _) _ _ _ _ :: _) _ _); (first | (refine wpList_put M rfl _ _ rfl rt23 0 _ rfl rfl rfl rfl rfl (by simp [Value.oneCell']) ?_)); clear M; intro W M; simp only [List.set_cons_zero, List.set_cons_succ] at M))
      refine bodyPost_ret (results_ct rfl _ _ k4 _ rfl (load_row (M.get (.head _)) rt23 rfl)) rfl ⟨?_, M.below⟩
      rw [HV.out]
      rfl
end Go.Proofs.YtoeebofappbneaaGreat
