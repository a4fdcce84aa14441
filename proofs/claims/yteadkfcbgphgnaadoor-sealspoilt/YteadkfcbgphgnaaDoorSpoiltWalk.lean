/-
  The law SealSpoilt, walked.
-/
import Derived.Test.YteadkfcbgphgnaaDoorWritesWalk
import Derived.Laws.OwnMore
import Derived.Laws.ShiftsVar
namespace Go.Proofs.YteadkfcbgphgnaaDoor
open Go.ChangeShapes Go.WideShapes Go.ChangeAt Go.RowKit
set_option linter.unusedVariables false

/-- A byte of one's own is written. -/
theorem own_set {base : Nat} {w : World} {g len cap : Nat} {zs : List Int} (h : Own base w (.slice (some ⟨g, 0, none⟩) len cap) zs) (hl : zs.length = len) (k : Nat) (z : Int) : Own base (w.setCell ⟨g, k, none⟩ (bv z)) (.slice (some ⟨g, 0, none⟩) len cap) (zs.set k z) := by
  subst hl
  have h0 : w.ownsRow base 5 1 (.slice (some ⟨g, 0, none⟩) zs.length cap) zs.length (zs.map bv) := h
  have h1 := (h0.stored k (bv z)).1
  show World.ownsRow _ _ _ _ _ (zs.set k z).length ((zs.set k z).map bv)
  rw [List.length_set, List.map_set]
  exact h1
theorem drop_set2 (l : List Int) (m : Nat) (z : Int) : (l.set (2 + m) z).drop 2 = (l.drop 2).set m z := by
  rw [Nat.add_comm]
  match l with
  | [] => simp
  | [a] => simp
  | a :: b :: r => rfl
theorem take_set2 (l : List Int) (m : Nat) (z : Int) : (l.set (2 + m) z).take 2 = l.take 2 := by
  rw [Nat.add_comm]
  match l with
  | [] => simp
  | [a] => simp
  | a :: b :: r => rfl

/-- What holds of the bytes while bits are turned: F was there; from bit a on i bits were turned or not, as those of B say. -/
structure Spt (F gs : List Int) (a i all B : Nat) (tb : Bool) : Prop where
  len : gs.length = F.length
  byt : Byt gs
  two : gs.take 2 = F.take 2
  dif : List.zipWith (· != ·) (bitsL (F.drop 2)) (bitsL (gs.drop 2)) = zer a ++ (bitsN i B ++ zer (all - (a + i)))
  not : tb = false → gs = F
  yes : tb = true → ∃ j, j < i ∧ B.testBit j = true
theorem Spt.skip {F gs : List Int} {a i all B : Nat} {tb : Bool} (h : Spt F gs a i all B tb) (hl : a + i < all) (hb : B.testBit i = false) : Spt F gs a (i + 1) all B tb := by
  refine ⟨h.len, h.byt, h.two, ?_, h.not, fun e => let ⟨j, h1, h2⟩ := h.yes e; ⟨j, by omega, h2⟩⟩
  have := turn_not _ _ a (all - (a + (i + 1))) _ (by rw [show all - (a + (i + 1)) + 1 = all - (a + i) by omega]; exact h.dif)
  rw [this, bitsN_snoc, hb]
theorem xor_byte (x k : Nat) (hx : x < 256) (hk : k < 8) : x ^^^ 2 ^ k < 256 := Nat.xor_lt_two_pow (n := 8) hx (Nat.pow_lt_pow_right (by omega) hk)
theorem Spt.turn {F gs : List Int} {a i all B : Nat} {tb : Bool} (h : Spt F gs a i all B tb) (hF : 2 ≤ F.length) (hall : all = 8 * (F.length - 2)) (hl : a + i < all) (hb : B.testBit i = true) :
    Spt F (gs.set (2 + (a + i) / 8) ((((gs.drop 2).getD ((a + i) / 8) 0).toNat ^^^ 2 ^ ((a + i) % 8) : Nat) : Int)) a (i + 1) all B true := by
  have hg := h.len
  have hdl : (gs.drop 2).length = F.length - 2 := by rw [List.length_drop, hg]
  have hz : ((gs.drop 2).getD ((a + i) / 8) 0) ≥ 0 ∧ ((gs.drop 2).getD ((a + i) / 8) 0) < 256 := byt_at (fun c hc => h.byt c (List.mem_of_mem_drop hc)) _ (by omega)
  refine ⟨by rw [List.length_set, hg], ?_, by rw [take_set2]; exact h.two, ?_, (fun e => by cases e), fun _ => ⟨i, by omega, hb⟩⟩
  · intro c hc
    rcases List.mem_or_eq_of_mem_set hc with hc | rfl
    · exact h.byt c hc
    · have := xor_byte _ ((a + i) % 8) (show ((gs.drop 2).getD ((a + i) / 8) 0).toNat < 256 by omega) (by omega)
      omega
  · rw [drop_set2, flip_bits (gs.drop 2) (a + i) (by omega)]
    have hbl : (bitsN i B).length = i := bitsN_len i B
    have ht := turn_one (bitsL (F.drop 2)) (bitsL (gs.drop 2)) a (all - (a + (i + 1))) (bitsN i B) (by rw [bitsL_len, bitsL_len, hdl, List.length_drop]) (by rw [show all - (a + (i + 1)) + 1 = all - (a + i) by omega]; exact h.dif)
      (((gs.drop 2).getD ((a + i) / 8) 0).toNat.testBit ((a + i) % 8)) (by rw [hbl, bitsL_get, if_pos (by omega)])
    rw [hbl] at ht
    rw [ht, bitsN_snoc, hb]
theorem Spt.start {F : List Int} (hb : Byt F) (hF : 2 ≤ F.length) (a all B : Nat) (hall : all = 8 * (F.length - 2)) (ha : a ≤ all) : Spt F F a 0 all B false := by
  refine ⟨rfl, hb, rfl, ?_, (fun _ => rfl), (fun h => by cases h)⟩
  have : ∀ l : List Bool, List.zipWith (· != ·) l l = zer l.length := by
    intro l
    induction l with
    | nil => rfl
    | cons x r ih => rw [List.zipWith_cons_cons, ih]; cases x <;> rfl
  rw [this, bitsL_len, List.length_drop, ← hall]
  show zer all = zer a ++ ([] ++ zer (all - (a + 0)))
  rw [List.nil_append, ← zer_add]
  congr 1
  omega
/-- With a bit turned no frame of that length is there. -/
theorem Spt.told {zs gs : List Int} {a i all B : Nat} (h : Spt (frm zs) gs a i all B true) (hz : zs.length ≤ 65535) (hi : i ≤ 32) (b : List Int) (n : Nat) (ho : opn gs = .ok (b, n)) : n ≠ gs.length := by
  intro e
  have hB := opn_spoilt zs gs hz h.byt h.len a (all - (a + i)) (bitsN i B) (by rw [bitsN_len]; exact hi) h.two h.dif b n ho e
  rw [bitsN_len] at hB
  obtain ⟨j, hj, hb⟩ := h.yes rfl
  have := bitsN_zer i B hB j hj
  rw [this] at hb
  cases hb

theorem bit32 (B i : Nat) (hB : B < 4294967296) (hi : i < 32) : (bits .and .u32 ((B : Int) / 2 ^ i) 1 == 1) = B.testBit i := by
  have e : (B : Int) / 2 ^ i = ((B / 2 ^ i : Nat) : Int) := by
    rw [Int.natCast_ediv, Int.natCast_pow]
    rfl
  rw [e, and1 _ (Nat.lt_of_le_of_lt (Nat.div_le_self _ _) hB), Nat.testBit_eq_decide_div_mod_eq]
  rcases Nat.mod_two_eq_zero_or_one (B / 2 ^ i) with h | h <;> rw [h] <;> rfl
theorem xor8 (z k : Nat) (hz : z < 256) (hk : k < 8) : bits .xor .u8 (z : Int) (2 ^ k % 256) = ((z ^^^ 2 ^ k : Nat) : Int) := by
  have h : 2 ^ k < 256 := Nat.pow_lt_pow_right (a := 2) (by omega) hk
  have := u8_xor_nat z (2 ^ k) hz h
  have e : ((2 ^ k : Nat) : Int) = (2 : Int) ^ k := by rw [Int.natCast_pow]; rfl
  rw [← e]
  obtain ⟨P, hP⟩ : ∃ P : Nat, 2 ^ k = P := ⟨_, rfl⟩
  rw [hP] at this h ⊢
  rw [Int.emod_eq_of_lt (by omega) (by omega)]
  exact this

set_option maxRecDepth 100000 in
set_option maxHeartbeats 8000000 in
theorem spoilt_short (a : Option Addr) (len cap : Nat) (zs : List Int) (at0 : Int) (B : Nat) (w : World) (R : Row .u8 w a len cap zs) (ht : Tab w) (hL : len ≤ 65535) (hB : B < 4294967296) :
    Calls Tryd.prog 7 #[.slice a len cap, .int .i64 at0, .int .u32 (B : Int)] w fun e w' => e = .returned (.bool true) ∧ Below w.heap.size w w' := by
  have hsz := R.size
  have hfb := byt_frm R.byte (by omega)
  have hfl : (frm zs).length = len + 8 := by rw [frm_len, hsz]
  have K1 := seal_ok _ _ _ _ w R ht hL
  go_enter Tryd.func7, Tryd.ntmps7
  go_wp2_with fail
  refine K1.mono ?_
  rintro e w1 ⟨v1, rfl, o1, b1⟩
  obtain ⟨g, c1, rfl, hgb, hgl, hlc, hc1⟩ := o1.some (by intro e; rw [e] at hfl; simp at hfl)
  rw [hfl] at o1 hlc ⊢
  obtain ⟨k0, hk, hkl⟩ := rem_u64 at0 (8 * (len + 6)) (by omega) (by omega)
  rw [show ((8 * (len + 6) : Nat) : Int) = 8 * ((len : Int) + 8 - 2) by omega] at hk
  have hst := Spt.start hfb (by omega) k0 (8 * (len + 6)) B (by omega) (by omega)
  clear K1
  go_wp2
  go_loopg [11, 12] 32 (fun f tn ix wr => ∃ (i : Nat) (gs : List Int) (tb : Bool), ix = .int .i64 i ∧ tn = .bool tb ∧ i + f = 32 ∧ k0 + i ≤ 8 * (len + 6) ∧ Own w.heap.size wr (.slice (some ⟨g, 0, none⟩) (len + 8) c1) gs ∧ Spt (frm zs) gs k0 i (8 * (len + 6)) B tb ∧ Below w.heap.size w wr)
  case atStart => exact ⟨0, frm zs, false, rfl, rfl, rfl, by omega, o1, hst, b1⟩
  case round =>
    obtain ⟨i, gs, tb, rfl, rfl, hif, hia, ho, hs, hB1⟩ := hrel
    have hgl2 : gs.length = len + 8 := by rw [hs.len, hfl]
    by_cases hc : i < 32 ∧ k0 + i < 8 * (len + 6)
    · obtain ⟨hc1, hc2⟩ := hc
      have j1 : (i : Int) < 32 := by omega
      have j2 : (k0 : Int) + (i : Int) < 8 * ((len : Int) + 8 - 2) := by omega
      obtain ⟨z, hz⟩ : ∃ z : Nat, gs.getD (2 + (k0 + i) / 8) 0 = (z : Int) := ⟨(gs.getD (2 + (k0 + i) / 8) 0).toNat, by have := byt_at hs.byt (2 + (k0 + i) / 8) (by omega); omega⟩
      have hzb : z < 256 := by have := byt_at hs.byt (2 + (k0 + i) / 8) (by omega); omega
      obtain ⟨_, _, e, G, _, _⟩ := own_row_len ho hs.byt hgl2
      cases e
      have cz := G.at (2 + (k0 + i) / 8) (by omega)
      rw [Nat.zero_add, hz] at cz
      have fz := own_frozen ho (2 + (k0 + i) / 8)
      clear G
      cases hbit : B.testBit i with
      | false =>
        have hq := bit32 B i hB hc1
        rw [hbit] at hq
        have hs2 := hs.skip hc2 hbit
        clear hs hz cz fz
        go_wp2
        go_roundg (gk - 1)
        case measure => omega
        case rel => exact ⟨i + 1, gs, tb, by first | rfl | go_num, rfl, by omega, by omega, ho, hs2, hB1⟩
      | true =>
        have hq := bit32 B i hB hc1
        rw [hbit] at hq
        have hs2 := hs.turn (by omega) (by omega) hc2 hbit
        have hgd : (gs.drop 2).getD ((k0 + i) / 8) 0 = (z : Int) := by
          rw [← hz, List.getD_eq_getElem?_getD, List.getElem?_drop, ← List.getD_eq_getElem?_getD]
        rw [hgd, Int.toNat_natCast] at hs2
        have ho2 := own_set ho (by rw [hs.len, hfl]) (2 + (k0 + i) / 8) (((z ^^^ 2 ^ ((k0 + i) % 8) : Nat) : Int))
        have hx := xor8 z ((k0 + i) % 8) hzb (by omega)
        clear hs hz hgd
        go_wp2
        go_roundg (gk - 1)
        case measure => omega
        case rel => exact ⟨i + 1, _, true, by first | rfl | go_num, rfl, by omega, by omega, ho2, hs2, hB1.setCell (p := ⟨g, 2 + (k0 + i) / 8, none⟩) hgb _⟩
    · have hi32 : i ≤ 32 := by omega
      have hT := ht.below hB1
      obtain ⟨_, _, e, G, _, _⟩ := own_row_len ho hs.byt hgl2
      cases e
      have KA := fun X (hX : Below wr.heap.size wr X) => awake_any X (hT.below hX)
      rcases (show ¬ ((i : Int) < 32) ∨ ((i : Int) < 32 ∧ ¬ ((k0 : Int) + (i : Int) < 8 * ((len : Int) + 8 - 2))) by omega) with j1 | ⟨j1, j2⟩
      all_goals
        cases tb with
        | false =>
          obtain rfl := hs.not rfl
          have hopn := opn_frm zs [] (by omega)
          rw [List.append_nil, hsz] at hopn
          have KO := open_ok _ _ _ _ wr G hT (by omega) (by omega) _ _ hopn
          clear hs hopn G
          go_wp2_with (first
            | (go_at_call 16; refine KO.mono ?_; rintro e w2 ⟨v2, rfl, o2, b2⟩; have KA2 := KA _ b2; clear KO)
            | (go_at_call 14; refine KA2.mono ?_; rintro e w3 ⟨rfl, b3⟩))
          go_ret
          exact ⟨rfl, hB1.trans ((b2.trans (b3.mono b2.size)).mono hB1.size)⟩
        | true =>
          cases hopn : opn gs with
          | error c =>
            have hc0 : (c != 0) = true := by rcases opn_err hopn with rfl | rfl | rfl <;> rfl
            have KO := open_no _ _ _ _ wr G hT (by omega) (by omega) _ hopn
            clear hs hopn G
            go_wp2_with (first
              | (go_at_call 16; refine KO.mono ?_; rintro e w2 ⟨rfl, b2⟩; have KA2 := KA _ b2; clear KO)
              | (go_at_call 14; refine KA2.mono ?_; rintro e w3 ⟨rfl, b3⟩))
            go_ret
            exact ⟨rfl, hB1.trans ((b2.trans (b3.mono b2.size)).mono hB1.size)⟩
          | ok q =>
            obtain ⟨b, n'⟩ := q
            have hne := hs.told (by omega) hi32 b n' hopn
            rw [hgl2] at hne
            have hq : ((n' : Int) != (len : Int) + 8) = true := by simp; omega
            have KO := open_ok _ _ _ _ wr G hT (by omega) (by omega) _ _ hopn
            clear hs hopn G hne
            go_wp2_with (first
              | (go_at_call 16; refine KO.mono ?_; rintro e w2 ⟨v2, rfl, o2, b2⟩; have KA2 := KA _ b2; clear KO)
              | (go_at_call 14; refine KA2.mono ?_; rintro e w3 ⟨rfl, b3⟩))
            go_ret
            exact ⟨rfl, hB1.trans ((b2.trans (b3.mono b2.size)).mono hB1.size)⟩

set_option maxRecDepth 100000 in
set_option maxHeartbeats 4000000 in
theorem spoilt_walk (a : Option Addr) (len cap : Nat) (zs : List Int) (at0 : Int) (b : Int) (w : World) (R : Row .u8 w a len cap zs) (ht : Tab w) (hl : len ≤ 9223372036854775807) (hb : 0 ≤ b ∧ b < 4294967296) :
    Calls Tryd.prog 7 #[.slice a len cap, .int .i64 at0, .int .u32 b] w fun e w' => e = .returned (.bool true) ∧ Below w.heap.size w w' := by
  by_cases hL : len ≤ 65535
  · obtain ⟨B, rfl⟩ := Int.eq_ofNat_of_zero_le hb.1
    exact spoilt_short a len cap zs at0 B w R ht hL (by omega)
  · have KA := awake_any w ht
    have : 65535 < len := by omega
    go_enter Tryd.func7, Tryd.ntmps7
    go_wp2_with (go_at_call 14; refine KA.mono ?_; rintro e w3 ⟨rfl, b3⟩)
    go_ret
    exact ⟨rfl, b3⟩

end Go.Proofs.YteadkfcbgphgnaaDoor
