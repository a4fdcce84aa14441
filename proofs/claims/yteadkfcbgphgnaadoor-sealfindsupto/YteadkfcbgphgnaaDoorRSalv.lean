/-
  What the document's own Salvage returns.
-/
import Derived.Test.YteadkfcbgphgnaaDoorInts
import Derived.Test.YteadkfcbgphgnaaDoorROpens
namespace Go.Proofs.YteadkfcbgphgnaaDoor
open Go.ChangeShapes Go.WideShapes Go.ChangeAt Go.RowKit
set_option linter.unusedVariables false

set_option maxHeartbeats 4000000 in
theorem rsalvage_any (a : Option Addr) (len cap : Nat) (zs : List Int) (w : World) (R : Row .u8 w a len cap zs) (hl : len ≤ 1099511627776) (hcap : cap ≤ 9223372036854775807) :
    Calls Tryd.prog 21 #[.slice a len cap] w fun e w' => (∃ v u, e = .returned (.tuple #[v, u]) ∧ Bods w.heap.size w' v ((salF len 0 zs).map (·.1)) ∧ Pls w.heap.size w' u ((salF len 0 zs).map (·.2))) ∧ Below w.heap.size w w' := by
  have hsz := R.size
  have hle := R.le
  obtain ⟨A, hA⟩ : ∃ A, salF len 0 zs = A := ⟨_, rfl⟩
  rw [hA]
  go_enter Tryd.func21, Tryd.ntmps21
  go_wp2
  go_loopg [4, 5, 6] len (fun g bo pl ix wr => ∃ (j : Nat) (ds : List (List Int × Nat)), ix = .int .i64 j ∧ j ≤ len ∧ Bods w.heap.size wr bo (ds.map (·.1)) ∧ Pls w.heap.size wr pl (ds.map (·.2)) ∧ Hid (A = ds ++ salF (len - j) j (zs.drop j)) ∧ len - j ≤ g ∧ 8 * ds.length ≤ j ∧ Below w.heap.size w wr)
  case atStart => exact ⟨0, [], rfl, by omega, Bods.nil _ _, Pls.nil _ _, by show _ = _; rw [← hA]; simp, by omega, by simp, Below.refl _ _⟩
  case round =>
    obtain ⟨j, ds, rfl, hj, hbo, hpl, HA, hg, hd, hB⟩ := hrel
    clear hA
    by_cases hc : j < len
    · obtain ⟨b, off, rfl, hb, hcc⟩ := R.mem.resolve_left (by omega)
      clear hcc
      have P := (R.below hB).part j len (by omega) (by omega)
      have e1 : (⟨b, off, none⟩ : Addr).add j = ⟨b, off + j, none⟩ := by unfold Addr.add; split <;> simp_all
      have e2 : (zs.drop j).take (len - j) = zs.drop j := List.take_of_length_le (by rw [List.length_drop]; omega)
      rw [e1, e2] at P
      have hbs := hB.size
      have KO := ropen_any _ _ _ _ wr P (by omega) (by omega)
      have hne : zs.drop j ≠ [] := by intro h; have := congrArg List.length h; rw [List.length_drop] at this; simp at this; omega
      obtain ⟨f, hf⟩ : ∃ f, len - j = f + 1 := ⟨len - j - 1, by omega⟩
      cases ho : opn (zs.drop j) with
      | error c =>
        rw [ho] at KO
        simp only [OpenOut] at KO
        have hc0 : (c != 0) = true := by rcases opn_err ho with rfl | rfl | rfl <;> rfl
        have HA2 : Hid (A = ds ++ salF (len - (j + 1)) (j + 1) (zs.drop (j + 1))) := by
          show _ = _
          rw [HA.out, hf, salF_err hne ho, List.drop_drop, salF_fuel f (len - (j + 1)) _ _ (by rw [List.length_drop]; omega) (by rw [List.length_drop]; omega)]
        clear HA ho P e1 e2 hne hf
        go_wp2_with (go_at_call 17; refine KO.mono ?_; rintro e w2 ⟨rfl, hB2⟩; clear KO)
        go_roundg (gk - 1)
        case measure => omega
        case rel => exact ⟨j + 1, ds, by first | rfl | go_num, by omega, hbo.below hB2, hpl.below hB2, HA2, by omega, by omega, hB.trans (hB2.mono hbs)⟩
      | ok q =>
        obtain ⟨bd, n⟩ := q
        rw [ho] at KO
        simp only [OpenOut] at KO
        have hp := opn_pos ho
        rw [List.length_drop] at hp
        have HA2 : Hid (A = (ds ++ [(bd, j)]) ++ salF (len - (j + n)) (j + n) (zs.drop (j + n))) := by
          show _ = _
          rw [HA.out, hf, salF_ok ho, List.drop_drop, salF_fuel f (len - (j + n)) _ _ (by rw [List.length_drop]; omega) (by rw [List.length_drop]; omega)]
          simp
        have l1 : ((ds.map (·.1)).length + 1) * 24 ≤ 140737488355328 := by rw [List.length_map]; omega
        have l2 : ((ds.map (·.2)).length + 1) * 8 ≤ 140737488355328 := by rw [List.length_map]; omega
        clear HA ho P e1 e2 hne hf
        go_wp2_with (first
          | (go_at_call 17; refine KO.mono ?_; rintro e w2 ⟨⟨v2, rfl, ho2⟩, hB2⟩; obtain ⟨a2, c2, rfl⟩ := own_len ho2; have hbo2 := hbo.below hB2; have hpl2 := hpl.below hB2; have ho2' := ho2.at hbs; have hb2 : w.heap.size ≤ w2.heap.size := Nat.le_trans hbs hB2.size; have BB2 : Below w.heap.size w w2 := hB.trans (hB2.mono hbs); clear KO ho2)
          | (at_builtin; refine wpList_append_bod2 _ w2 rfl _ _ rfl w.heap.size _ _ _ bd rfl rfl rfl hbo2 ho2' hb2 l1 ?_; intro v3 w3 hb3 hB3 hk3 hs3; have hpl3 := hpl2.bods hbo2 hk3; have hb3s : w.heap.size ≤ w3.heap.size := Nat.le_trans hb2 hs3; clear hbo2 ho2' hpl2)
          | (at_builtin; refine wpList_append_pl _ w3 rfl _ _ rfl w.heap.size _ _ j rfl rfl rfl hpl3 hb3s l2 ?_; intro v4 w4 hb4 hB4 hk4 hs4; have hbo4 := hb3.keeps hpl3 (by decide) (by decide) hk4))
        go_roundg (gk - 1)
        case measure => omega
        case rel => exact ⟨j + n, ds ++ [(bd, j)], by first | rfl | go_num, by omega, by simpa using hbo4, by simpa using hb4, HA2, by omega, by simp; omega, (BB2.trans hB3).trans hB4⟩
    · have e : j = len := by omega
      subst e
      have HA2 : Hid (A = ds) := by
        show _ = _
        rw [HA.out, Nat.sub_self]
        simp [salF]
      clear HA
      go_wp2
      go_ret2
      rw [HA2.out]
      exact ⟨⟨_, _, rfl, hbo, hpl⟩, hB⟩

end Go.Proofs.YteadkfcbgphgnaaDoor
