/-
  Package dir: the records of channels that are there.
-/
import Derived.Test.YtmbchcpggbfkcaaE1
namespace Go.Proofs.Ytmbchcpggbfkcaa
open Go.ChangeShapes Go.WideShapes Go.ChangeAt Go.RowKit Go.Maps Go.Shelf
set_option linter.unusedVariables false
set_option linter.unusedSimpArgs false

def alv (l : List CH) (i : Nat) : List CH := (l.take i).filter CH.al
theorem alv_step {l : List CH} {i : Nat} {x : CH} (h : l[i]? = some x) : alv l (i + 1) = alv l i ++ (if x.al = true then [x] else []) := by
  unfold alv
  rw [List.take_add_one, h, List.filter_append]
  cases hx : x.al <;> simp [hx]
theorem alv_len (l : List CH) (i : Nat) : (alv l i).length ≤ i := by
  unfold alv
  exact Nat.le_trans (List.length_filter_le _ _) (by rw [List.length_take]; omega)
theorem alv_all {l : List CH} {n : Nat} (h : l.length = n) : alv l n = l.filter CH.al := by unfold alv; rw [List.take_of_length_le (by omega)]
set_option maxRecDepth 100000 in
set_option maxHeartbeats 4000000 in
theorem alive_any (a : Option Addr) (n cap : Nat) (l : List CH) (w : World) (hr : RdC w a n cap l) (hn : n ≤ 1000) : Calls Try.prog 24 #[.slice a n cap] w (Ans w (l.filter CH.al)) := by
  have HN : Hid (n ≤ 1000) := hn
  have HL : Hid (l.length = n) := hr.size
  obtain ⟨LL, hLL⟩ : ∃ LL, l.filter CH.al = LL := ⟨_, rfl⟩
  rw [hLL]
  have HF : Hid (alv l n = LL) := (alv_all hr.size).trans hLL
  clear hLL hn
  go_enter Try.func24, Try.ntmps24
  go_wp2
  go_loopg [3, 5, 8] n (fun gk v3 v5 v8 wr => ∃ (i : Nat) (v : Value), v = v3 ∧ v8 = .int .i64 (i : Int) ∧ i + gk = n ∧ Mem w wr [] ∧ wr.ownsRow w.heap.size 23 6 v (alv l i).length (csC (alv l i)))
  case atStart => exact ⟨0, _, rfl, by first | rfl | go_num, by omega, Mem.nil w, World.ownsRow_nil _ _ _ _⟩
  case round =>
    obtain ⟨i, v, rfl, rfl, hgk, M0, O⟩ := hrel
    obtain ⟨av, cv, rfl⟩ : ∃ av cv, v = .slice av (alv l i).length cv := by
      rcases O.2 with ⟨e, h0⟩ | ⟨g, cp, cur, e, _⟩
      · exact ⟨_, _, by rw [e, h0]⟩
      · exact ⟨_, _, e⟩
    by_cases hi : i < n
    case pos =>
      have HI : Hid (i < n) := hi
      have HIK : Hid ((alv l i).length ≤ 1000) := by show _ ≤ _; have := alv_len l i; have := HN.out; omega
      have hiI : (i : Int) < (n : Int) := by omega
      have hwr : IntKind.i64.wrap ((i : Int) + 1) = (i : Int) + 1 := by rw [IntKind.wrap_i64]; have := HN.out; omega
      obtain ⟨b, off, rfl, hb1, hd, hra⟩ := hr.at i hi
      obtain ⟨⟨nm, ep, mr, al, kd, sc⟩, hri⟩ : ∃ r, l.getD i CH.z = r := ⟨_, rfl⟩
      rw [hri] at hra hd
      have HS := alv_step hd
      dsimp only at HS
      have KR : ∀ X, Below w.heap.size w X → X.rangeAt b (off + i * 6) (CH.cells ⟨nm, ep, mr, al, kd, sc⟩) := fun X h => range_later hra hb1 h
      have HX : Hid (alv l (i + 1) = alv l i ++ (if al = true then [⟨nm, ep, mr, al, kd, sc⟩] else [])) := HS
      obtain ⟨ds, hds⟩ : ∃ ds, alv l i = ds := ⟨_, rfl⟩
      rw [hds] at O HX HIK ⊢
      clear hri hd hi hra HS hds
      have M := M0.own O (fun g hg p hp => by cases hp)
      skip
      cases al with
      | true =>
        go_wp2_with (first
      | ((with_reducible show wpList _ _ _ (Oper.mk _ (Op.load 23 (Operand.tmp 10)) _ _ _ _ :: _) _ _); refine wpList_load23w (by rfl) _ rfl b (off + i * 6) nm ep mr true kd sc rfl (KR _ (M0.back M).below) ?_)
      | ((with_reducible show wpList _ _ _ (Oper.mk (some 5) (Op.alloc 23) _ _ _ _ :: _) _ _); refine wpList_alloc M rfl rfl rt23 ?_; clear M; intro k5 W M)
      | ((with_reducible show wpList _ _ _ (Oper.mk _ (Op.store 23 _ _) _ _ _ _ :: _) _ _); (first | (refine wpList_put M rfl _ _ rfl rt23 0 _ rfl rfl rfl rfl rfl (by simp [Value.oneCell']) ?_)); clear M; intro W M; simp only [List.set_cons_zero, List.set_cons_succ] at M)
      | ((with_reducible show wpList _ _ _ (Oper.mk _ (Op.load 4 _) _ _ _ _ :: _) _ _); refine wpList_cell4 M (by rfl) _ rfl _ rfl (by first | exact .head _) rfl ?_)
      | ((with_reducible show wpList _ _ _ (Oper.mk _ (Op.load 23 _) _ _ _ _ :: _) _ _); refine wpList_load M (by rfl) _ rfl rt23 rfl (by first | exact .head _) (by rfl) ?_)
      | ((with_reducible show wpList _ _ _ (Oper.mk _ (Op.buildSlice 24 1 _) _ _ _ _ :: _) _ _); refine wpList_mk1 M rfl _ rfl nm ep mr true kd sc rfl ?_; clear M; intro q W M)
      | ((with_reducible show wpList _ _ _ (Oper.mk _ (Op.call { callee := Callee.builtin Builtin.append, args := _, argTypes := #[24, 24] }) _ _ _ _ :: _) _ _); refine wpList_appM M O rfl _ _ rfl rfl rfl (by have := HIK.out; omega) ?_; clear M; intro g cp W M1 O1 N1))
        go_roundg (gk - 1)
        case measure => have := HI.out; omega
        case rel =>
          exact ⟨i + 1, _, rfl, by first | rfl | go_num, by have := HI.out; omega, M0.back (M1.tail), by rw [HX.out, if_pos (by first | rfl | trivial), csC_snoc, List.length_append]; exact O1⟩
      | false =>
        go_wp2_with (first
      | ((with_reducible show wpList _ _ _ (Oper.mk _ (Op.load 23 (Operand.tmp 10)) _ _ _ _ :: _) _ _); refine wpList_load23w (by rfl) _ rfl b (off + i * 6) nm ep mr false kd sc rfl (KR _ (M0.back M).below) ?_)
      | ((with_reducible show wpList _ _ _ (Oper.mk (some 5) (Op.alloc 23) _ _ _ _ :: _) _ _); refine wpList_alloc M rfl rfl rt23 ?_; clear M; intro k5 W M)
      | ((with_reducible show wpList _ _ _ (Oper.mk _ (Op.store 23 _ _) _ _ _ _ :: _) _ _); (first | (refine wpList_put M rfl _ _ rfl rt23 0 _ rfl rfl rfl rfl rfl (by simp [Value.oneCell']) ?_)); clear M; intro W M; simp only [List.set_cons_zero, List.set_cons_succ] at M)
      | ((with_reducible show wpList _ _ _ (Oper.mk _ (Op.load 4 _) _ _ _ _ :: _) _ _); refine wpList_cell4 M (by rfl) _ rfl _ rfl (by first | exact .head _) rfl ?_)
      | ((with_reducible show wpList _ _ _ (Oper.mk _ (Op.load 23 _) _ _ _ _ :: _) _ _); refine wpList_load M (by rfl) _ rfl rt23 rfl (by first | exact .head _) (by rfl) ?_)
      | ((with_reducible show wpList _ _ _ (Oper.mk _ (Op.buildSlice 24 1 _) _ _ _ _ :: _) _ _); refine wpList_mk1 M rfl _ rfl nm ep mr true kd sc rfl ?_; clear M; intro q W M)
      | ((with_reducible show wpList _ _ _ (Oper.mk _ (Op.call { callee := Callee.builtin Builtin.append, args := _, argTypes := #[24, 24] }) _ _ _ _ :: _) _ _); refine wpList_appM M O rfl _ _ rfl rfl rfl (by have := HIK.out; omega) ?_; clear M; intro g cp W M1 O1 N1))
        go_roundg (gk - 1)
        case measure => have := HI.out; omega
        case rel =>
          exact ⟨i + 1, _, rfl, by first | rfl | go_num, by have := HI.out; omega, M0.back (M.tail), by rw [HX.out, if_neg (by first | decide | simp), List.append_nil]; exact M.owns O⟩
    case neg =>
      have hiI : ¬ (i : Int) < (n : Int) := by omega
      have hin : i = n := by omega
      rw [hin, HF.out] at O
      rw [hin, HF.out]
      have B := M0.below
      clear hin hi hgk
      go_wp2
      go_ret
      obtain ⟨a2, c2, e2, L2, h2⟩ := own_lstC O rfl
      cases e2
      exact ⟨_, _, rfl, L2, h2, B⟩
set_option maxRecDepth 100000 in
set_option maxHeartbeats 4000000 in
theorem ralive_any (a : Option Addr) (n cap : Nat) (l : List CH) (w : World) (hr : RdC w a n cap l) (hn : n ≤ 1000) : Calls Try.prog 25 #[.slice a n cap] w (Ans w (l.filter CH.al)) := by
  have HN : Hid (n ≤ 1000) := hn
  have HL : Hid (l.length = n) := hr.size
  obtain ⟨LL, hLL⟩ : ∃ LL, l.filter CH.al = LL := ⟨_, rfl⟩
  rw [hLL]
  have HF : Hid (alv l n = LL) := (alv_all hr.size).trans hLL
  clear hLL hn
  go_enter Try.func25, Try.ntmps25
  go_wp2
  go_loopg [3, 4] n (fun gk v3 v4 wr => ∃ (i : Nat) (v : Value), v = v3 ∧ v4 = .int .i64 (i : Int) ∧ i + gk = n ∧ Mem w wr [] ∧ wr.ownsRow w.heap.size 23 6 v (alv l i).length (csC (alv l i)))
  case atStart => exact ⟨0, _, rfl, by first | rfl | go_num, by omega, Mem.nil w, World.ownsRow_nil _ _ _ _⟩
  case round =>
    obtain ⟨i, v, rfl, rfl, hgk, M0, O⟩ := hrel
    obtain ⟨av, cv, rfl⟩ : ∃ av cv, v = .slice av (alv l i).length cv := by
      rcases O.2 with ⟨e, h0⟩ | ⟨g, cp, cur, e, _⟩
      · exact ⟨_, _, by rw [e, h0]⟩
      · exact ⟨_, _, e⟩
    by_cases hi : i < n
    case pos =>
      have HI : Hid (i < n) := hi
      have HIK : Hid ((alv l i).length ≤ 1000) := by show _ ≤ _; have := alv_len l i; have := HN.out; omega
      have hiI : (i : Int) < (n : Int) := by omega
      have hwr : IntKind.i64.wrap ((i : Int) + 1) = (i : Int) + 1 := by rw [IntKind.wrap_i64]; have := HN.out; omega
      obtain ⟨b, off, rfl, hb1, hd, hra⟩ := hr.at i hi
      obtain ⟨⟨nm, ep, mr, al, kd, sc⟩, hri⟩ : ∃ r, l.getD i CH.z = r := ⟨_, rfl⟩
      rw [hri] at hra hd
      have HS := alv_step hd
      dsimp only at HS
      have KR : ∀ X, Below w.heap.size w X → X.rangeAt b (off + i * 6) (CH.cells ⟨nm, ep, mr, al, kd, sc⟩) := fun X h => range_later hra hb1 h
      have HX : Hid (alv l (i + 1) = alv l i ++ (if al = true then [⟨nm, ep, mr, al, kd, sc⟩] else [])) := HS
      obtain ⟨ds, hds⟩ : ∃ ds, alv l i = ds := ⟨_, rfl⟩
      rw [hds] at O HX HIK ⊢
      clear hri hd hi hra HS hds
      have M := M0.own O (fun g hg p hp => by cases hp)
      have x3 : wr.cell? ⟨b, off + i * 6 + 3, none⟩ = some (.bool al) := KR _ M0.below 3 _ rfl
      cases al with
      | true =>
        go_wp2_with (first
      | ((with_reducible show wpList _ _ _ (Oper.mk _ (Op.load 23 (Operand.tmp 19)) _ _ _ _ :: _) _ _); refine wpList_load23w (by rfl) _ rfl b (off + i * 6) nm ep mr true kd sc rfl (KR _ (M0.back M).below) ?_)
      | ((with_reducible show wpList _ _ _ (Oper.mk _ (Op.buildSlice 24 1 _) _ _ _ _ :: _) _ _); refine wpList_mk1 M rfl _ rfl nm ep mr true kd sc rfl ?_; clear M; intro q W M)
      | ((with_reducible show wpList _ _ _ (Oper.mk _ (Op.call { callee := Callee.builtin Builtin.append, args := _, argTypes := #[24, 24] }) _ _ _ _ :: _) _ _); refine wpList_appM M O rfl _ _ rfl rfl rfl (by have := HIK.out; omega) ?_; clear M; intro g cp W M1 O1 N1))
        go_roundg (gk - 1)
        case measure => have := HI.out; omega
        case rel =>
          exact ⟨i + 1, _, rfl, by first | rfl | go_num, by have := HI.out; omega, M0.back (M1), by rw [HX.out, if_pos (by first | rfl | trivial), csC_snoc, List.length_append]; exact O1⟩
      | false =>
        go_wp2_with (first
      | ((with_reducible show wpList _ _ _ (Oper.mk _ (Op.load 23 (Operand.tmp 19)) _ _ _ _ :: _) _ _); refine wpList_load23w (by rfl) _ rfl b (off + i * 6) nm ep mr false kd sc rfl (KR _ (M0.back M).below) ?_)
      | ((with_reducible show wpList _ _ _ (Oper.mk _ (Op.buildSlice 24 1 _) _ _ _ _ :: _) _ _); refine wpList_mk1 M rfl _ rfl nm ep mr true kd sc rfl ?_; clear M; intro q W M)
      | ((with_reducible show wpList _ _ _ (Oper.mk _ (Op.call { callee := Callee.builtin Builtin.append, args := _, argTypes := #[24, 24] }) _ _ _ _ :: _) _ _); refine wpList_appM M O rfl _ _ rfl rfl rfl (by have := HIK.out; omega) ?_; clear M; intro g cp W M1 O1 N1))
        go_roundg (gk - 1)
        case measure => have := HI.out; omega
        case rel =>
          exact ⟨i + 1, _, rfl, by first | rfl | go_num, by have := HI.out; omega, M0.back (M), by rw [HX.out, if_neg (by first | decide | simp), List.append_nil]; exact M.owns O⟩
    case neg =>
      have hiI : ¬ (i : Int) < (n : Int) := by omega
      have hin : i = n := by omega
      rw [hin, HF.out] at O
      rw [hin, HF.out]
      have B := M0.below
      clear hin hi hgk
      go_wp2
      go_ret
      obtain ⟨a2, c2, e2, L2, h2⟩ := own_lstC O rfl
      cases e2
      exact ⟨_, _, rfl, L2, h2, B⟩
end Go.Proofs.Ytmbchcpggbfkcaa
