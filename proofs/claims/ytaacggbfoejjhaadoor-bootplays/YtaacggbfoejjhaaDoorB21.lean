/-
  The document's own: what stands in bytes.
-/
import Derived.Test.YtaacggbfoejjhaaDoorB15
import Derived.Lib.SlicesS
namespace Go.Proofs.YtaacggbfoejjhaaDoor
open Go.ChangeShapes Go.WideShapes Go.ChangeAt Go.RowKit
open D
set_option linter.unusedVariables false
set_option linter.unusedSimpArgs false

theorem str_app (A B : List Int) : strOfNums A ++ strOfNums B = strOfNums (A ++ B) := by
  apply ByteArray.ext
  rw [ByteArray.data_append]
  simp [strOfNums]
theorem str_inj {A B : List Int} (ha : Byt A) (hb : Byt B) (h : strOfNums A = strOfNums B) : A = B := by
  have e : A.map (fun n => UInt8.ofNat n.toNat) = B.map (fun n => UInt8.ofNat n.toNat) := by rw [← strOfNums_data, ← strOfNums_data, h]
  clear h
  induction A generalizing B with
  | nil => cases B with
    | nil => rfl
    | cons b B => simp at e
  | cons a A ih =>
    cases B with
    | nil => simp at e
    | cons b B =>
      simp only [List.map_cons, List.cons.injEq] at e
      have h1 := ha a (List.mem_cons_self ..)
      have h2 := hb b (List.mem_cons_self ..)
      have e1 := congrArg UInt8.toNat e.1
      simp only [UInt8.toNat_ofNat'] at e1
      rw [ih (fun c hc => ha c (List.mem_cons_of_mem _ hc)) (fun c hc => hb c (List.mem_cons_of_mem _ hc)) e.2]
      congr 1
      omega
theorem add_step (t z j : Nat) (ht : t < 2 ^ (8 * j)) (hz : z < 256) (hj : j < 8) : IntKind.u64.wrap ((t : Int) + IntKind.u64.wrap ((z : Int) * 2 ^ (8 * j))) = ((t + z * 2 ^ (8 * j) : Nat) : Int) := by
  have h1 := pw8 hj
  have h2 : z * 2 ^ (8 * j) ≤ 255 * 2 ^ (8 * j) := Nat.mul_le_mul_right _ (by omega)
  have h0 : 0 < 2 ^ (8 * j) := Nat.two_pow_pos _
  rw [shl_step z j hz hj, IntKind.wrap_u64]
  omega
set_option maxRecDepth 100000 in
set_option maxHeartbeats 4000000 in
theorem stands_x (a : Option Addr) (cap : Nat) (zs : List Int) (w : World) (R : Row .u8 w a 32 cap zs) :
    Calls Tryd.prog 49 #[.slice a 32 cap] w fun e w' => e = .returned (.int .i64 ((stand zs : Nat) : Int)) ∧ Below w.heap.size w w' := by
  have hlz := R.size
  have hby := R.byte
  obtain ⟨b, off, rfl, hb, hcell⟩ := R.mem.resolve_left (by omega)
  go_enter Tryd.func49, Tryd.ntmps49
  go_wp2
  go_loopg [3, 4] 8 (fun g st ix wr => ∃ (j t : Nat), ix = .int .i64 j ∧ st = .int .u64 t ∧ Hid (tell (zs.take j) = t) ∧ j + g = 8 ∧ wr = w)
  case atStart => exact ⟨0, 0, rfl, rfl, rfl, by omega, rfl⟩
  case round =>
    obtain ⟨j, t, rfl, rfl, HT, hg, rfl⟩ := hrel
    by_cases hc : j < 8
    · have hcI : (j : Int) < 8 := by omega
      have hcj := hcell j (by omega)
      obtain ⟨z, hz, hz2⟩ := byte_nat hby j (by omega)
      have HN : Hid (tell (zs.take (j + 1)) = t + z * 2 ^ (8 * j)) := by
        show _ = _
        rw [S.take_snoc _ _ (by omega), tell_snoc, HT.out, hz, List.length_take, Nat.min_eq_left (by omega)]
        rfl
      have hlt : t < 2 ^ (8 * j) := by
        have := tell_lt (zs.take j) (fun c hc => hby c (List.mem_of_mem_take hc))
        rw [HT.out, List.length_take, Nat.min_eq_left (by omega)] at this
        exact this
      rw [hz] at hcj
      have hj32 : (j : Int) < 32 := by omega
      have ha := add_step t z j hlt hz2 (by omega)
      clear hcell hz
      go_wp2
      go_roundg (gk - 1)
      case measure => omega
      case rel => exact ⟨j + 1, t + z * 2 ^ (8 * j), by first | rfl | go_num, by first | rfl | rw [ha], HN, by omega, rfl⟩
    · have e : j = 8 := by omega
      subst e
      clear hcell
      have hz8 : (zs.take 8).length = 8 := by rw [List.length_take]; omega
      have hT := HT.out
      have HST : Hid (stand zs = if fitB t = true ∧ zs = recd t then t else 0) := by show _ = _; unfold stand; rw [hT]
      clear hT HT hz8
      have qz := conv_row R
      have hzs := hby
      by_cases hgt : 1099511627776 < t
      · have hgI : (1099511627776 : Int) < (t : Int) := by omega
        have HS : Hid (stand zs = 0) := by show _ = _; rw [HST.out, if_neg]; rintro ⟨h, _⟩; simp [fitB] at h; omega
        clear HST hgt qz
        go_wp2
        go_ret
        exact ⟨by rw [HS.out]; rfl, Below.refl _ _⟩
      · have hgI : ¬ (1099511627776 : Int) < (t : Int) := by omega
        have htb : t ≤ 1099511627776 := by omega
        cases hf : fitB t with
        | false =>
          have ht0 : t = 0 := by simp [fitB] at hf; omega
          subst ht0
          have HS : Hid (stand zs = 0) := by show _ = _; rw [HST.out, hf, if_neg]; rintro ⟨h, _⟩; cases h
          have K := rrecord_no 0 wr (by rfl)
          have hne : ((strOfNums [] ++ strOfNums []).toList == (strOfNums zs).toList) = false := by
            rw [str_app, Lib.bytes_beq_false_iff]
            intro h
            have := congrArg ByteArray.size h
            rw [strOfNums_size, strOfNums_size, hlz] at this
            cases this
          have q0 := fun W => conv_row (row_nil .u8 W)
          clear HST hf hgt
          go_wp2_with (go_at_call 16; refine K.mono ?_; rintro e w1 ⟨rfl, b1⟩; have qz1 := conv_row (R.below b1); clear qz)
          go_ret
          exact ⟨by rw [HS.out]; rfl, b1⟩
        | true =>
          have K := rrecord_ok t wr hf
          have hA := recA_byt t
          have hB := recB_byt t
          by_cases heq : zs = recd t
          · have HS : Hid (stand zs = t) := by show _ = _; rw [HST.out, if_pos ⟨hf, heq⟩]
            have hne : ((strOfNums (recA t) ++ strOfNums (recB t)).toList == (strOfNums zs).toList) = true := by
              rw [str_app, heq]; show ((strOfNums (recd t)).toList == (strOfNums (recd t)).toList) = true; simp
            clear HST hf heq hgt
            have hsA : (strOfNums (recA t)).size = 16 := by rw [strOfNums_size, recA_len]
            have hsB : (strOfNums (recB t)).size = 16 := by rw [strOfNums_size, recB_len]
            generalize recA t = A at *
            generalize recB t = B at *
            go_wp2_with (go_at_call 16; refine K.mono ?_; rintro e w1 ⟨va, vc, rfl, Oa, Oc, b1⟩; have qz1 := conv_row (R.below b1); obtain ⟨aa, na, ca, rfl, Ra, hna, _, _⟩ := Oa.row hA; obtain ⟨ab, nb, cb, rfl, Rb, hnb, _, _⟩ := Oc.row hB; clear hna hnb qz; have q3 := conv_row Ra; have q4 := conv_row Rb)
            go_ret
            exact ⟨by rw [HS.out]; rfl, b1⟩
          · have HS : Hid (stand zs = 0) := by show _ = _; rw [HST.out, if_neg]; rintro ⟨_, h⟩; exact heq h
            have hne : ((strOfNums (recA t) ++ strOfNums (recB t)).toList == (strOfNums zs).toList) = false := by
              rw [str_app, Lib.bytes_beq_false_iff]
              intro h
              exact heq (str_inj (rec_byt t) hby h).symm
            clear HST hf heq hgt
            have hsA : (strOfNums (recA t)).size = 16 := by rw [strOfNums_size, recA_len]
            have hsB : (strOfNums (recB t)).size = 16 := by rw [strOfNums_size, recB_len]
            generalize recA t = A at *
            generalize recB t = B at *
            go_wp2_with (go_at_call 16; refine K.mono ?_; rintro e w1 ⟨va, vc, rfl, Oa, Oc, b1⟩; have qz1 := conv_row (R.below b1); obtain ⟨aa, na, ca, rfl, Ra, hna, _, _⟩ := Oa.row hA; obtain ⟨ab, nb, cb, rfl, Rb, hnb, _, _⟩ := Oc.row hB; clear hna hnb qz; have q3 := conv_row Ra; have q4 := conv_row Rb)
            go_ret
            exact ⟨by rw [HS.out]; rfl, b1⟩
end Go.Proofs.YtaacggbfoejjhaaDoor
