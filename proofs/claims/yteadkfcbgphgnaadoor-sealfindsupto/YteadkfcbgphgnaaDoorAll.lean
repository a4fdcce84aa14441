/-
  What All and the document's own All return.
-/
import Derived.Test.YteadkfcbgphgnaaDoorLists
import Derived.Test.YteadkfcbgphgnaaDoorROpens
namespace Go.Proofs.YteadkfcbgphgnaaDoor
open Go.ChangeShapes Go.WideShapes Go.ChangeAt Go.RowKit
set_option linter.unusedVariables false

set_option maxHeartbeats 4000000 in
theorem all_any (a : Option Addr) (len cap : Nat) (zs : List Int) (w : World) (R : Row .u8 w a len cap zs) (ht : Tab w) (hl : len ≤ 1099511627776) (hcap : cap ≤ 9223372036854775807) :
    Calls Tryd.prog 18 #[.slice a len cap] w fun e w' => (∃ v, e = .returned (.tuple #[v, .int .i64 ((allF len zs).2.1 : Nat), .int .i64 (allF len zs).2.2]) ∧ Bods w.heap.size w' v (allF len zs).1) ∧ Below w.heap.size w w' := by
  have hsz := R.size
  have hle := R.le
  obtain ⟨A, hA⟩ : ∃ A, allF len zs = A := ⟨_, rfl⟩
  rw [hA]
  go_enter Tryd.func18, Tryd.ntmps18
  go_wp2
  go_loopg [5, 6] len (fun g bo ix wr => ∃ (j : Nat) (ds : List (List Int)), ix = .int .i64 j ∧ j ≤ len ∧ Bods w.heap.size wr bo ds ∧ Hid (A = (ds ++ (allF (len - j) (zs.drop j)).1, j + (allF (len - j) (zs.drop j)).2.1, (allF (len - j) (zs.drop j)).2.2)) ∧ len - j ≤ g ∧ 8 * ds.length ≤ j ∧ Below w.heap.size w wr)
  case atStart => exact ⟨0, [], rfl, by omega, Bods.nil _ _, by show _ = _; rw [← hA]; simp, by omega, by simp, Below.refl _ _⟩
  case round =>
    obtain ⟨j, ds, rfl, hj, hbo, HA, hg, hd, hB⟩ := hrel
    clear hA
    by_cases hc : j < len
    · obtain ⟨b, off, rfl, hb, hcc⟩ := R.mem.resolve_left (by omega)
      clear hcc
      have P := (R.below hB).part j len (by omega) (by omega)
      have e1 : (⟨b, off, none⟩ : Addr).add j = ⟨b, off + j, none⟩ := by unfold Addr.add; split <;> simp_all
      have e2 : (zs.drop j).take (len - j) = zs.drop j := List.take_of_length_le (by rw [List.length_drop]; omega)
      rw [e1, e2] at P
      have hbs := hB.size
      have KO := open_any _ _ _ _ wr P (ht.below hB) (by omega) (by omega)
      cases ho : opn (zs.drop j) with
      | error c =>
        rw [ho] at KO
        simp only [OpenOut] at KO
        have hc0 : (c != 0) = true := by rcases opn_err ho with rfl | rfl | rfl <;> rfl
        have HA2 : Hid (A = (ds, j, c)) := by
          show _ = _
          rw [HA.out]
          obtain ⟨f, hf⟩ : ∃ f, len - j = f + 1 := ⟨len - j - 1, by omega⟩
          rw [hf, allF_err (by intro h; have := congrArg List.length h; rw [List.length_drop] at this; simp at this; omega) ho]
          simp
        clear HA ho P e1 e2
        go_wp2_with (go_at_call 16; refine KO.mono ?_; rintro e w2 ⟨rfl, hB2⟩; clear KO)
        go_ret3
        rw [HA2.out]
        exact ⟨⟨_, rfl, hbo.below hB2⟩, hB.trans (hB2.mono hbs)⟩
      | ok q =>
        obtain ⟨bd, n⟩ := q
        rw [ho] at KO
        simp only [OpenOut] at KO
        have hp := opn_pos ho
        rw [List.length_drop] at hp
        have HA2 : Hid (A = ((ds ++ [bd]) ++ (allF (len - (j + n)) (zs.drop (j + n))).1, (j + n) + (allF (len - (j + n)) (zs.drop (j + n))).2.1, (allF (len - (j + n)) (zs.drop (j + n))).2.2)) := by
          show _ = _
          rw [HA.out]
          obtain ⟨f, hf⟩ : ∃ f, len - j = f + 1 := ⟨len - j - 1, by omega⟩
          rw [hf, allF_ok ho, List.drop_drop, allF_fuel f (len - (j + n)) _ (by rw [List.length_drop]; omega) (by rw [List.length_drop]; omega)]
          simp [Nat.add_assoc]
        clear HA ho P e1 e2
        go_wp2_with (first
          | (go_at_call 16; refine KO.mono ?_; rintro e w2 ⟨⟨v2, rfl, ho2⟩, hB2⟩; obtain ⟨a2, c2, rfl⟩ := own_len ho2; have hbo2 := hbo.below hB2; have ho2' := ho2.at hbs; have hb2 : w.heap.size ≤ w2.heap.size := Nat.le_trans hbs hB2.size; have BB2 : Below w.heap.size w w2 := hB.trans (hB2.mono hbs); clear KO ho2)
          | (at_builtin; refine wpList_append_bod _ w2 rfl _ _ rfl w.heap.size _ _ ds bd rfl rfl rfl hbo2 ho2' hb2 (by omega) ?_; intro v3 w3 hb3 hB3))
        go_roundg (gk - 1)
        case measure => omega
        case rel => exact ⟨j + n, ds ++ [bd], by first | rfl | go_num, by omega, hb3, HA2, by omega, by simp; omega, BB2.trans hB3⟩
    · have e : j = len := by omega
      subst e
      have HA2 : Hid (A = (ds, j, 0)) := by
        show _ = _
        rw [HA.out, Nat.sub_self]
        simp [allF]
      clear HA
      go_wp2
      go_ret3
      rw [HA2.out]
      exact ⟨⟨_, rfl, hbo⟩, hB⟩

set_option maxHeartbeats 4000000 in
theorem rall_any (a : Option Addr) (len cap : Nat) (zs : List Int) (w : World) (R : Row .u8 w a len cap zs) (hl : len ≤ 1099511627776) (hcap : cap ≤ 9223372036854775807) :
    Calls Tryd.prog 19 #[.slice a len cap] w fun e w' => (∃ v, e = .returned (.tuple #[v, .int .i64 ((allF len zs).2.1 : Nat), .int .i64 (allF len zs).2.2]) ∧ Bods w.heap.size w' v (allF len zs).1) ∧ Below w.heap.size w w' := by
  have hsz := R.size
  have hle := R.le
  obtain ⟨A, hA⟩ : ∃ A, allF len zs = A := ⟨_, rfl⟩
  rw [hA]
  go_enter Tryd.func19, Tryd.ntmps19
  go_wp2
  go_loopg [5, 6] len (fun g bo ix wr => ∃ (j : Nat) (ds : List (List Int)), ix = .int .i64 j ∧ j ≤ len ∧ Bods w.heap.size wr bo ds ∧ Hid (A = (ds ++ (allF (len - j) (zs.drop j)).1, j + (allF (len - j) (zs.drop j)).2.1, (allF (len - j) (zs.drop j)).2.2)) ∧ len - j ≤ g ∧ 8 * ds.length ≤ j ∧ Below w.heap.size w wr)
  case atStart => exact ⟨0, [], rfl, by omega, Bods.nil _ _, by show _ = _; rw [← hA]; simp, by omega, by simp, Below.refl _ _⟩
  case round =>
    obtain ⟨j, ds, rfl, hj, hbo, HA, hg, hd, hB⟩ := hrel
    clear hA
    by_cases hc : j < len
    · obtain ⟨b, off, rfl, hb, hcc⟩ := R.mem.resolve_left (by omega)
      clear hcc
      have P := (R.below hB).part j len (by omega) (by omega)
      have e1 : (⟨b, off, none⟩ : Addr).add j = ⟨b, off + j, none⟩ := by unfold Addr.add; split <;> simp_all
      have e2 : (zs.drop j).take (len - j) = zs.drop j := List.take_of_length_le (by rw [List.length_drop]; omega)
      rw [e1, e2] at P
      have hbs := hB.size
      have KO := ropen_any _ _ _ _ wr P (by omega) (by omega)
      cases ho : opn (zs.drop j) with
      | error c =>
        rw [ho] at KO
        simp only [OpenOut] at KO
        have hc0 : (c != 0) = true := by rcases opn_err ho with rfl | rfl | rfl <;> rfl
        have HA2 : Hid (A = (ds, j, c)) := by
          show _ = _
          rw [HA.out]
          obtain ⟨f, hf⟩ : ∃ f, len - j = f + 1 := ⟨len - j - 1, by omega⟩
          rw [hf, allF_err (by intro h; have := congrArg List.length h; rw [List.length_drop] at this; simp at this; omega) ho]
          simp
        clear HA ho P e1 e2
        go_wp2_with (go_at_call 17; refine KO.mono ?_; rintro e w2 ⟨rfl, hB2⟩; clear KO)
        go_ret3
        rw [HA2.out]
        exact ⟨⟨_, rfl, hbo.below hB2⟩, hB.trans (hB2.mono hbs)⟩
      | ok q =>
        obtain ⟨bd, n⟩ := q
        rw [ho] at KO
        simp only [OpenOut] at KO
        have hp := opn_pos ho
        rw [List.length_drop] at hp
        have HA2 : Hid (A = ((ds ++ [bd]) ++ (allF (len - (j + n)) (zs.drop (j + n))).1, (j + n) + (allF (len - (j + n)) (zs.drop (j + n))).2.1, (allF (len - (j + n)) (zs.drop (j + n))).2.2)) := by
          show _ = _
          rw [HA.out]
          obtain ⟨f, hf⟩ : ∃ f, len - j = f + 1 := ⟨len - j - 1, by omega⟩
          rw [hf, allF_ok ho, List.drop_drop, allF_fuel f (len - (j + n)) _ (by rw [List.length_drop]; omega) (by rw [List.length_drop]; omega)]
          simp [Nat.add_assoc]
        clear HA ho P e1 e2
        go_wp2_with (first
          | (go_at_call 17; refine KO.mono ?_; rintro e w2 ⟨⟨v2, rfl, ho2⟩, hB2⟩; obtain ⟨a2, c2, rfl⟩ := own_len ho2; have hbo2 := hbo.below hB2; have ho2' := ho2.at hbs; have hb2 : w.heap.size ≤ w2.heap.size := Nat.le_trans hbs hB2.size; have BB2 : Below w.heap.size w w2 := hB.trans (hB2.mono hbs); clear KO ho2)
          | (at_builtin; refine wpList_append_bod _ w2 rfl _ _ rfl w.heap.size _ _ ds bd rfl rfl rfl hbo2 ho2' hb2 (by omega) ?_; intro v3 w3 hb3 hB3))
        go_roundg (gk - 1)
        case measure => omega
        case rel => exact ⟨j + n, ds ++ [bd], by first | rfl | go_num, by omega, hb3, HA2, by omega, by simp; omega, BB2.trans hB3⟩
    · have e : j = len := by omega
      subst e
      have HA2 : Hid (A = (ds, j, 0)) := by
        show _ = _
        rw [HA.out, Nat.sub_self]
        simp [allF]
      clear HA
      go_wp2
      go_ret3
      rw [HA2.out]
      exact ⟨⟨_, rfl, hbo⟩, hB⟩

end Go.Proofs.YteadkfcbgphgnaaDoor
