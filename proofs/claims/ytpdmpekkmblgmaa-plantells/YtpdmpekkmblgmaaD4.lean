/-
  The document: Distances.
-/
import Derived.Test.YtpdmpekkmblgmaaD3
namespace Go.Proofs.Ytpdmpekkmblgmaa
open Go.ChangeShapes Go.WideShapes Go.ChangeAt Go.RowKit Go.Maps Go.Shelf
set_option linter.unusedVariables false
set_option linter.unusedSimpArgs false
attribute [local go_sem] Oper.semAt_some

set_option maxRecDepth 100000 in
set_option maxHeartbeats 2000000 in
theorem rdistances_any (N : Nat) (a : Option Addr) (k cap : Nat) (l : List LK) (v : Int) (w : World) (hr : RdL w a k cap l) (hf : fit (N : Int) l = true) : Calls Try.prog 20 #[.int .i64 (N : Int), .slice a k cap, .int .i64 v] w fun e w' => ∃ g, e = .returned (.slice (some ⟨g, 0, none⟩) N N) ∧ w.heap.size ≤ g ∧ w'.heap[g]? = some (.cells ((dst N l v).map iv).toArray 3 (0, 0)) ∧ Below w.heap.size w w' := by
  have HN : Hid (1 ≤ N ∧ N ≤ 16) := by
    obtain ⟨M, h1, h2, h3⟩ := few_nat (fit_few hf)
    show _ ∧ _
    omega
  have HL : Hid (l.length = k) := hr.size
  have HK : Hid (k ≤ 256) := by
    have h1 := rises_len (fit_rises hf)
    have h4 : N * N ≤ 16 * 16 := Nat.mul_le_mul HN.out.2 HN.out.2
    show _ ≤ _
    have := HL.out
    omega
  have HR : Hid (rises (N : Int) l = true) := fit_rises hf
  have MK := fun W => make36 N HN.out.2 W
  have hN0 : ¬ (N : Int) < 0 := by omega
  clear hf
  go_enter Try.func20, Try.ntmps20
  go_wp2
  obtain ⟨w1, hw1⟩ : ∃ X, w.alloc (.cells (Array.replicate N (iv 0)) 3) = X := ⟨_, rfl⟩
  have D1 : DS w (rw1 0 N) w1 := by
    rw [← hw1]
    refine ⟨?_, (Below.refl _ w).alloc (Nat.le_refl _) _⟩
    rw [World.alloc_heap_new]
    simp [rw1]
  rw [hw1]
  clear hw1 MK
  go_loopg [8] N (fun gk v8 wr => ∃ i : Nat, v8 = .int .i64 (i : Int) ∧ i + gk = N ∧ DS w (rw1 i N) wr)
  case atStart => exact ⟨0, by first | rfl | go_num, by omega, D1⟩
  case round =>
    clear D1
    obtain ⟨i, rfl, hg, D⟩ := hrel
    by_cases hi : i < N
    case pos =>
      have hiI : (i : Int) < (N : Int) := by omega
      obtain ⟨c0, c1⟩ := D.at (v := i) (by simp [rw1]; omega)
      have D2 := D.set i (-1)
      rw [rw1_set hi] at D2
      have hin : IntKind.i64.wrap ((i : Int) + 1) = (i : Int) + 1 := by rw [IntKind.wrap_i64]; have := HN.out; omega
      clear D
      go_wp2
      go_roundg (gk - 1)
      case measure => omega
      case rel => exact ⟨i + 1, by first | rfl | go_num, by omega, D2⟩
    case neg =>
      have hiI : ¬ (i : Int) < (N : Int) := by omega
      have hie : i = N := by omega
      have hrp : rw1 N N = List.replicate N (-1) := by simp [rw1]
      rw [hie, hrp] at D
      by_cases h1 : v < 0
      case pos =>
        have HD : Hid (dst N l v = List.replicate N (-1)) := by show _ = _; unfold dst; rw [if_neg (by omega)]
        go_wp2
        go_ret
        exact ⟨_, rfl, Nat.le_refl _, by rw [HD.out]; exact D.row, D.below⟩
      case neg =>
        by_cases h2 : (N : Int) ≤ v
        case pos =>
          have HD : Hid (dst N l v = List.replicate N (-1)) := by show _ = _; unfold dst; rw [if_neg (by omega)]
          go_wp2
          go_ret
          exact ⟨_, rfl, Nat.le_refl _, by rw [HD.out]; exact D.row, D.below⟩
        case neg =>
          obtain ⟨V, rfl⟩ : ∃ V : Nat, v = (V : Int) := ⟨v.toNat, by omega⟩
          have HD : Hid (dst N l (V : Int) = lev l (out0 N (V : Int)) N ∧ V < N) := by show _ ∧ _; unfold dst; rw [if_pos (by omega)]; exact ⟨rfl, by omega⟩
          have hVN : (V : Int) < (N : Int) := by omega
          obtain ⟨c0, c1⟩ := D.at (v := V) (by simp; omega)
          have D2 := D.set V 0
          rw [show (List.replicate N (-1)).set V 0 = lev l (out0 N (V : Int)) 0 from rfl] at D2
          obtain ⟨F0, hF0⟩ : ∃ F, out0 N (V : Int) = F := ⟨_, rfl⟩
          have HF0 : Hid (F0.length = N ∧ dst N l (V : Int) = lev l F0 N) := ⟨by rw [← hF0, out0_len], by rw [← hF0]; exact HD.out.1⟩
          rw [hF0] at D2
          clear D hF0 hie hrp
          go_wp2
          go_loopg [9] N (fun gk v9 wr => ∃ r : Nat, v9 = .int .i64 (r : Int) ∧ r + gk = N ∧ DS w (lev l F0 r) wr)
          case atStart => exact ⟨0, by first | rfl | go_num, by omega, D2⟩
          case round =>
            clear D2 c0 c1
            obtain ⟨r, rfl, hg1, D⟩ := hrel
            by_cases hr1 : r < N
            case neg =>
              have hrI : ¬ (r : Int) < (N : Int) := by omega
              have hre : r = N := by omega
              have HE : Hid (lev l F0 r = dst N l (V : Int)) := by show _ = _; rw [hre, HF0.out.2]
              rw [HE.out] at D
              go_wp2
              go_ret
              exact ⟨_, rfl, Nat.le_refl _, D.row, D.below⟩
            case pos =>
              have hrI : (r : Int) < (N : Int) := by omega
              have HRN : Hid (r < N) := hr1
              have hrin : IntKind.i64.wrap ((r : Int) + 1) = (r : Int) + 1 := by rw [IntKind.wrap_i64]; have := HN.out; omega
              have hr11 : ((r : Int) + 1 == (r : Int)) = false := by simp; omega
              obtain ⟨F, hF⟩ : ∃ F, lev l F0 r = F := ⟨_, rfl⟩
              have HF : Hid (F.length = N ∧ lev l F0 (r + 1) = sweep l (r : Int) F) := ⟨by rw [← hF, lev_len, HF0.out.1], by rw [lev, hF]⟩
              rw [hF] at D
              obtain ⟨g1, hg1e⟩ : ∃ g1, g1 = gk := ⟨_, rfl⟩
              have hsw : sweep (l.take 0) (r : Int) F = F := by
                refine sweep_still ?_
                unfold fur
                rw [List.any_eq_false]
                intro j _
                rw [hit_no (fun u hu _ => by simp [nbs] at hu)]
                simp
              clear hF
              go_wp2
              go_loopg [10] k (fun gk v10 wr => ∃ i : Nat, v10 = .int .i64 (i : Int) ∧ i + gk = k ∧ DS w (sweep (l.take i) (r : Int) F) wr)
              case atStart => exact ⟨0, by first | rfl | go_num, by omega, by rw [hsw]; exact D⟩
              case round =>
                clear D hsw
                obtain ⟨i, rfl, hg2, D⟩ := hrel
                by_cases hi2 : i < k
                case neg =>
                  have hiI : ¬ (i : Int) < (k : Int) := by omega
                  have hT : l.take i = l := List.take_of_length_le (by have := HL.out; omega)
                  rw [hT, ← HF.out.2] at D
                  go_wp2
                  go_roundg (g1 - 1)
                  case measure => have := HRN.out; omega
                  case rel => exact ⟨r + 1, by first | rfl | go_num, by have := HRN.out; omega, D⟩
                case pos =>
                  have hiI : (i : Int) < (k : Int) := by omega
                  have hiin : IntKind.i64.wrap ((i : Int) + 1) = (i : Int) + 1 := by rw [IntKind.wrap_i64]; have := HK.out; omega
                  obtain ⟨b, off, rfl, hb, hd, hra⟩ := (hr.below D.below).at i hi2
                  obtain ⟨⟨p, q⟩, hgi⟩ : ∃ x : LK, l.getD i LK.z = x := ⟨_, rfl⟩
                  rw [hgi] at hra hd
                  have hpq := inR_of HR.out (List.mem_of_getElem? hd)
                  obtain ⟨A, rfl⟩ : ∃ A : Nat, p = (A : Int) := ⟨p.toNat, by have := hpq.1; dsimp only at this; omega⟩
                  obtain ⟨B, rfl⟩ : ∃ B : Nat, q = (B : Int) := ⟨q.toNat, by have := hpq.1; have := hpq.2.1; dsimp only at *; omega⟩
                  dsimp only at hpq
                  obtain ⟨e0, e1⟩ := cellsL hra
                  have SP := sweep_pair (l := l) (r := (r : Int)) (F := F) (by omega) hd (by omega) (by have := HF.out; omega) (by have := HF.out; omega)
                  have hAN : (A : Int) < (N : Int) := by omega
                  have hBN : (B : Int) < (N : Int) := by omega
                  obtain ⟨H, hH⟩ : ∃ H, sweep (l.take i) (r : Int) F = H := ⟨_, rfl⟩
                  have HHL : Hid (H.length = N) := by show _ = _; rw [← hH, sweep_len, HF.out.1]
                  rw [hH] at SP D
                  obtain ⟨x0, x1⟩ := D.at (v := A) (by have := HHL.out; omega)
                  obtain ⟨y0, y1⟩ := D.at (v := B) (by have := HHL.out; omega)
                  obtain ⟨x, hx⟩ : ∃ x, H.getD A 0 = x := ⟨_, rfl⟩
                  obtain ⟨y, hy⟩ : ∃ y, H.getD B 0 = y := ⟨_, rfl⟩
                  rw [hx] at SP x0
                  rw [hy] at SP y0
                  have hAB : A ≠ B := by omega
                  clear hH hd hgi hra hx hy hpq
                  by_cases h3 : x = (r : Int)
                  case pos =>
                    by_cases h4 : y < 0
                    case pos =>
                      have HS : Hid (sweep (l.take (i + 1)) (r : Int) F = H.set B ((r : Int) + 1)) := by show _ = _; rw [SP]; rw [if_pos ⟨h3, h4⟩]
                      have DZ := D.set B ((r : Int) + 1)
                      have z0 := (DZ.at (v := B) (by rw [List.length_set]; have := HHL.out; omega)).1
                      rw [getD_set (by have := HHL.out; omega), if_pos rfl] at z0
                      subst h3
                      clear SP
                      go_wp2
                      go_roundg (gk - 1)
                      case measure => omega
                      case rel => exact ⟨i + 1, by first | rfl | go_num, by omega, by rw [HS.out]; exact DZ⟩
                    case neg =>
                      have h5 : ¬ (r : Int) < 0 := by omega
                      subst h3
                      by_cases h6 : y = (r : Int)
                      case pos =>
                        subst h6
                        have HS : Hid (sweep (l.take (i + 1)) (r : Int) F = H) := by show _ = _; rw [SP]; rw [if_neg (fun h => h4 h.2), if_neg (fun h => h5 h.2)]
                        clear SP
                        go_wp2
                        go_roundg (gk - 1)
                        case measure => omega
                        case rel => exact ⟨i + 1, by first | rfl | go_num, by omega, by rw [HS.out]; exact D⟩
                      case neg =>
                        have h6' : (y == (r : Int)) = false := by simpa using h6
                        have HS : Hid (sweep (l.take (i + 1)) (r : Int) F = H) := by show _ = _; rw [SP]; rw [if_neg (fun h => h4 h.2), if_neg (fun h => h5 h.2)]
                        clear SP
                        go_wp2
                        go_roundg (gk - 1)
                        case measure => omega
                        case rel => exact ⟨i + 1, by first | rfl | go_num, by omega, by rw [HS.out]; exact D⟩
                  case neg =>
                    have h3' : (x == (r : Int)) = false := by simpa using h3
                    by_cases h4 : y = (r : Int)
                    case pos =>
                      by_cases h5 : x < 0
                      case pos =>
                        have HS : Hid (sweep (l.take (i + 1)) (r : Int) F = H.set A ((r : Int) + 1)) := by show _ = _; rw [SP]; rw [if_neg (fun h => h3 h.1), if_pos ⟨h4, h5⟩]
                        have DZ := D.set A ((r : Int) + 1)
                        subst h4
                        clear SP
                        go_wp2
                        go_roundg (gk - 1)
                        case measure => omega
                        case rel => exact ⟨i + 1, by first | rfl | go_num, by omega, by rw [HS.out]; exact DZ⟩
                      case neg =>
                        have HS : Hid (sweep (l.take (i + 1)) (r : Int) F = H) := by show _ = _; rw [SP]; rw [if_neg (fun h => h3 h.1), if_neg (fun h => h5 h.2)]
                        subst h4
                        clear SP
                        go_wp2
                        go_roundg (gk - 1)
                        case measure => omega
                        case rel => exact ⟨i + 1, by first | rfl | go_num, by omega, by rw [HS.out]; exact D⟩
                    case neg =>
                      have h4' : (y == (r : Int)) = false := by simpa using h4
                      have HS : Hid (sweep (l.take (i + 1)) (r : Int) F = H) := by show _ = _; rw [SP]; rw [if_neg (fun h => h3 h.1), if_neg (fun h => h4 h.1)]
                      clear SP
                      go_wp2
                      go_roundg (gk - 1)
                      case measure => omega
                      case rel => exact ⟨i + 1, by first | rfl | go_num, by omega, by rw [HS.out]; exact D⟩
end Go.Proofs.Ytpdmpekkmblgmaa
