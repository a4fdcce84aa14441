/-
  DirAgrees.
-/
import Derived.Test.YtmbchcpggbfkcaaS1
namespace Go.Proofs.Ytmbchcpggbfkcaa
open Go.ChangeShapes Go.WideShapes Go.ChangeAt Go.RowKit Go.Maps Go.Shelf
set_option linter.unusedVariables false
set_option linter.unusedSimpArgs false

set_option maxRecDepth 100000 in
set_option maxHeartbeats 8000000 in
theorem agrees_walk (a : Option Addr) (n cap : Nat) (l : List CH) (a' : Option Addr) (n' cap' : Nat) (m : List CH) (a'' : Option Addr) (n'' cap'' : Nat) (k : List CH) (w : World) (hr : RdC w a n cap l) (hl : Hid (∀ x, x ∈ l → (x.nm.size : Int) ≤ 9223372036854775807)) (hr' : RdC w a' n' cap' m) (hm : Hid (∀ x, x ∈ m → (x.nm.size : Int) ≤ 9223372036854775807)) (hr'' : RdC w a'' n'' cap'' k) (hk : Hid (∀ x, x ∈ k → (x.nm.size : Int) ≤ 9223372036854775807)) :
    Calls Try.prog 7 #[.slice a n cap, .slice a' n' cap', .slice a'' n'' cap''] w fun e w' => e = .returned (.bool true) ∧ Below w.heap.size w w' := by
  have M := Mem.nil w
  have KA := fun W (b : Below w.heap.size w W) => rfits_any a n cap l W (hr.below b) hl.out
  have KB := fun W (b : Below w.heap.size w W) => rfits_any a' n' cap' m W (hr'.below b) hm.out
  have KC := fun W (b : Below w.heap.size w W) => rfits_any a'' n'' cap'' k W (hr''.below b) hk.out
  cases hfa : fitsB l with
  | false =>
    rw [hfa] at KA
    clear hfa hr hr' hr'' KB KC
    go_enter Try.func7, Try.ntmps7
    go_wp2_with (first
      | (go_at_call 14; refine (KA _ M.below).mono ?_; clear KA; rintro e W1 ⟨rfl, b1⟩; replace M := M.later b1; clear b1)
      | (go_at_call 17; refine (awake_any _).mono ?_; rintro e W9 ⟨rfl, b9⟩; replace M := M.later b9; clear b9))
    go_ret
    exact ⟨rfl, M.below⟩
  | true =>
  rw [hfa] at KA
  cases hfb : fitsB m with
  | false =>
    rw [hfb] at KB
    clear hfa hfb hr hr' hr'' KC
    go_enter Try.func7, Try.ntmps7
    go_wp2_with (first
      | (go_at_call 14; refine (KA _ M.below).mono ?_; clear KA; rintro e W1 ⟨rfl, b1⟩; replace M := M.later b1; clear b1)
      | (go_at_call 14; refine (KB _ M.below).mono ?_; clear KB; rintro e W1 ⟨rfl, b1⟩; replace M := M.later b1; clear b1)
      | (go_at_call 17; refine (awake_any _).mono ?_; rintro e W9 ⟨rfl, b9⟩; replace M := M.later b9; clear b9))
    go_ret
    exact ⟨rfl, M.below⟩
  | true =>
  rw [hfb] at KB
  cases hfc : fitsB k with
  | false =>
    rw [hfc] at KC
    clear hfa hfb hfc hr hr' hr''
    go_enter Try.func7, Try.ntmps7
    go_wp2_with (first
      | (go_at_call 14; refine (KA _ M.below).mono ?_; clear KA; rintro e W1 ⟨rfl, b1⟩; replace M := M.later b1; clear b1)
      | (go_at_call 14; refine (KB _ M.below).mono ?_; clear KB; rintro e W1 ⟨rfl, b1⟩; replace M := M.later b1; clear b1)
      | (go_at_call 14; refine (KC _ M.below).mono ?_; clear KC; rintro e W1 ⟨rfl, b1⟩; replace M := M.later b1; clear b1)
      | (go_at_call 17; refine (awake_any _).mono ?_; rintro e W9 ⟨rfl, b9⟩; replace M := M.later b9; clear b9))
    go_ret
    exact ⟨rfl, M.below⟩
  | true =>
  rw [hfc] at KC
  obtain rfl := hr.size
  obtain rfl := hr'.size
  obtain rfl := hr''.size
  have n1 := (fitsB_iff.1 hfa).1
  have n2 := (fitsB_iff.1 hfb).1
  have n3 := (fitsB_iff.1 hfc).1
  have KT : ∀ W kb, Below w.heap.size w W → W.heap[kb]? = some (.cells #[.slice a l.length cap, .slice a' m.length cap', .slice a'' k.length cap''] 24 (0, 0)) → Calls Try.prog 32 #[.slice (some ⟨kb, 0, none⟩) 3 3] W fun e w' => e = .returned (.bool (stmpB (l ++ m ++ k))) ∧ Below W.heap.size W w' := fun W kb b h => stamped_any a a' a'' cap cap' cap'' kb l m k W h (hr.below b) (hr'.below b) (hr''.below b) n1 n2 n3
  cases hst : stmpB (l ++ m ++ k) with
  | false =>
    rw [hst] at KT
    clear hfa hfb hfc hst hr hr' hr'' n1 n2 n3
    go_enter Try.func7, Try.ntmps7
    go_wp2_with (first
      | (go_at_call 14; refine (KA _ M.below).mono ?_; clear KA; rintro e W1 ⟨rfl, b1⟩; replace M := M.later b1; clear b1)
      | (go_at_call 14; refine (KB _ M.below).mono ?_; clear KB; rintro e W1 ⟨rfl, b1⟩; replace M := M.later b1; clear b1)
      | (go_at_call 14; refine (KC _ M.below).mono ?_; clear KC; rintro e W1 ⟨rfl, b1⟩; replace M := M.later b1; clear b1)
      | ((with_reducible show wpList _ _ _ (Oper.mk _ (Op.buildSlice 48 3 _) _ _ _ _ :: _) _ _); refine wpList_mk3 M (by rfl) _ _ _ rfl _ _ _ _ _ _ _ _ _ rfl rfl rfl ?_; clear M; intro kb WS M)
      | (go_at_call 32; refine (KT _ _ M.below (M.get (.head _))).mono ?_; clear KT; rintro e W2 ⟨rfl, b2⟩; replace M := M.later b2; clear b2)
      | (go_at_call 17; refine (awake_any _).mono ?_; rintro e W9 ⟨rfl, b9⟩; replace M := M.later b9; clear b9))
    go_ret
    exact ⟨rfl, M.below⟩
  | true =>
  rw [hst] at KT
  obtain ⟨hU, S, hS, h8⟩ := stmp_ok hst
  have p1 := fitsB_rise hfa
  have p2 := fitsB_rise hfb
  have p3 := fitsB_rise hfc
  have hX := mg_comm p1 p2 (fun d hd c hc => hU d (List.mem_append.2 (.inl hd)) c (List.mem_append.2 (.inl hc))) (hS.sub (fun x hx => List.mem_append.2 (.inl hx))) h8
  have hS0 := mg_self p1 (hS.sub (fun x hx => List.mem_append.2 (.inl (List.mem_append.2 (.inl hx))))) h8
  have hA := mg_assoc p1 p2 p3 hS h8
  have g1 := mg_len m l
  have g2 := mg_len k m
  have g3 := mg_len k (m.foldl lrnL l)
  have q1 := mg_rise m l p1
  have q2 := mg_rise k m p2
  have K1 := fun W (b : Below w.heap.size w W) => merge_any a l.length cap l a' m.length cap' m W (hr.below b) (hr'.below b) (by omega) (by omega)
  have K2 := fun W (b : Below w.heap.size w W) => merge_any a' m.length cap' m a l.length cap l W (hr'.below b) (hr.below b) (by omega) (by omega)
  have K3 := fun W (b : Below w.heap.size w W) => merge_any a l.length cap l a l.length cap l W (hr.below b) (hr.below b) (by omega) (by omega)
  have K4 := fun W (b : Below w.heap.size w W) => merge_any a' m.length cap' m a'' k.length cap'' k W (hr'.below b) (hr''.below b) (by omega) (by omega)
  rw [GL_fold _ _ p1 p2] at K1
  rw [GL_fold _ _ p2 p1, ← hX] at K2
  rw [GL_fold _ _ p1 p1, hS0] at K3
  rw [GL_fold _ _ p2 p3] at K4
  have K5 := fun W (b : Below w.heap.size w W) a1 c1 (L : LstC W a1 (m.foldl lrnL l).length c1 (m.foldl lrnL l)) => merge_any a1 (m.foldl lrnL l).length c1 (m.foldl lrnL l) a'' k.length cap'' k W (L.rd (by omega)) (hr''.below b) (by omega) (by omega)
  rw [GL_fold _ _ q1 p3] at K5
  have K6 := fun W (b : Below w.heap.size w W) a1 c1 (L : LstC W a1 (k.foldl lrnL m).length c1 (k.foldl lrnL m)) => merge_any a l.length cap l a1 (k.foldl lrnL m).length c1 (k.foldl lrnL m) W (hr.below b) (L.rd (by omega)) (by omega) (by omega)
  rw [GL_fold _ _ p1 q2, ← hA] at K6
  have KS3 := fun W (b : Below w.heap.size w W) a1 c1 (L : LstC W a1 l.length c1 l) => same_any a1 a l.length l.length c1 cap l l W (L.rd (by omega)) (hr.below b)
  rw [(sameL_iff l l).2 rfl] at KS3
  have K1b := K1
  obtain ⟨X, hXX⟩ : ∃ X, m.foldl lrnL l = X := ⟨_, rfl⟩
  obtain ⟨V, hVV⟩ : ∃ V, k.foldl lrnL m = V := ⟨_, rfl⟩
  rw [hXX] at K1 K1b K2 K5 K6 g1 g3
  rw [hVV] at K4 K6
  obtain ⟨Y, hYY⟩ : ∃ Y, k.foldl lrnL X = Y := ⟨_, rfl⟩
  rw [hYY] at K5 K6 g3
  have KS1 := same_self X (by omega)
  have KS2 := same_self Y (by omega)
  clear hXX hVV hYY hX hS0 hA g1 g2 g3 q1 q2 p1 p2 p3 hU hS h8 hst hfa hfb hfc n1 n2 n3 hr hr' hr''
  go_enter Try.func7, Try.ntmps7
  go_wp2_with (first
      | (go_at_call 14; refine (KA _ M.below).mono ?_; clear KA; rintro e W1 ⟨rfl, b1⟩; replace M := M.later b1; clear b1)
      | (go_at_call 14; refine (KB _ M.below).mono ?_; clear KB; rintro e W1 ⟨rfl, b1⟩; replace M := M.later b1; clear b1)
      | (go_at_call 14; refine (KC _ M.below).mono ?_; clear KC; rintro e W1 ⟨rfl, b1⟩; replace M := M.later b1; clear b1)
      | ((with_reducible show wpList _ _ _ (Oper.mk _ (Op.buildSlice 48 3 _) _ _ _ _ :: _) _ _); refine wpList_mk3 M (by rfl) _ _ _ rfl _ _ _ _ _ _ _ _ _ rfl rfl rfl ?_; clear M; intro kb WS M)
      | (go_at_call 32; refine (KT _ _ M.below (M.get (.head _))).mono ?_; clear KT; rintro e W2 ⟨rfl, b2⟩; replace M := M.later b2; clear b2)
      | (go_at_call 30; refine (K1 _ M.below).mono ?_; clear K1; rintro e W3 ⟨a1, c1, rfl, L1, o1, b1⟩; replace M := M.later b1; clear b1 o1)
      | (go_at_call 30; refine (K2 _ M.below).mono ?_; clear K2; rintro e W3 ⟨a2, c2, rfl, L2, o2, b2⟩; replace L1 := L1.below b2; replace M := M.later b2; clear b2 o2)
      | (go_at_call 23; refine (KS1 _ _ _ _ _ L1 L2).mono ?_; clear KS1; rintro e W8 ⟨rfl, b8⟩; replace M := M.later b8; clear b8)
      | (go_at_call 30; refine (K3 _ M.below).mono ?_; clear K3; rintro e W3 ⟨a3, c3, rfl, L3, o3, b3⟩; replace M := M.later b3; clear b3 o3)
      | (go_at_call 23; refine (KS3 _ M.below _ _ L3).mono ?_; clear KS3; rintro e W8 ⟨rfl, b8⟩; replace M := M.later b8; clear b8)
      | (go_at_call 30; refine (K1b _ M.below).mono ?_; clear K1b; rintro e W3 ⟨a4, c4, rfl, L4, o4, b4⟩; replace M := M.later b4; clear b4 o4)
      | (go_at_call 30; refine (K5 _ M.below _ _ L4).mono ?_; clear K5; rintro e W3 ⟨a5, c5, rfl, L5, o5, b5⟩; replace M := M.later b5; clear b5 o5)
      | (go_at_call 30; refine (K4 _ M.below).mono ?_; clear K4; rintro e W3 ⟨a6, c6, rfl, L6, o6, b6⟩; replace L5 := L5.below b6; replace M := M.later b6; clear b6 o6)
      | (go_at_call 30; refine (K6 _ M.below _ _ L6).mono ?_; clear K6; rintro e W3 ⟨a7, c7, rfl, L7, o7, b7⟩; replace L5 := L5.below b7; replace M := M.later b7; clear b7 o7)
      | (go_at_call 23; refine (KS2 _ _ _ _ _ L5 L7).mono ?_; clear KS2; rintro e W8 ⟨rfl, b8⟩; replace M := M.later b8; clear b8)
      | (go_at_call 17; refine (awake_any _).mono ?_; rintro e W9 ⟨rfl, b9⟩; replace M := M.later b9; clear b9))
  go_ret
  exact ⟨rfl, M.below⟩
end Go.Proofs.Ytmbchcpggbfkcaa
