/-
  The law SealFinds, walked.
-/
import Derived.Test.YteadkfcbgphgnaaDoorAllWalk
namespace Go.Proofs.YteadkfcbgphgnaaDoor
open Go.ChangeShapes Go.WideShapes Go.ChangeAt Go.RowKit
set_option linter.unusedVariables false

/-- A body that is not too long; a byte that is no mark's first. -/
def okb (b : List Int) : Bool := decide (b.length ≤ 65535)
def nom (z : Int) : Bool := decide (z ≠ 237)
theorem frm0_ok {b : List Int} (h : okb b = true) : frm0 b = frm b := by
  unfold frm0
  rw [if_neg (by have := of_decide_eq_true h; omega)]
theorem frm0_no {b : List Int} (h : okb b = false) : frm0 b = [] := by
  unfold frm0
  rw [if_pos (by have := of_decide_eq_false h; omega)]
theorem frames_ok (bs : List (List Int)) : bs.flatMap frm0 = (bs.filter okb).flatMap frm := by
  induction bs with
  | nil => rfl
  | cons x r ih =>
    rw [List.flatMap_cons, ih]
    cases h : okb x with
    | true => rw [List.filter_cons_of_pos h, List.flatMap_cons, frm0_ok h]
    | false => rw [List.filter_cons_of_neg (by rw [h]; decide), frm0_no h, List.nil_append]
theorem finds_sal (fl : List Int) (bs : List (List Int)) (N : Nat) (hN : (fl ++ bs.flatMap frm0).length = N) (hf : ∀ z ∈ fl, z ≠ 237) : salF N 0 (fl ++ bs.flatMap frm0) = placed fl.length (bs.filter okb) := by
  rw [frames_ok] at hN ⊢
  rw [sal_ahead fl _ N 0 hf (by rw [← hN, List.length_append]; exact Nat.le_refl _), Nat.zero_add]
  exact sal_frames _ _ _ (fun b hb => of_decide_eq_true (List.mem_filter.1 hb).2) (Nat.le_refl _)
theorem filter_at {α : Type} (p : List Int → Bool) (bs : List (List Int)) (j : Nat) (hj : j < bs.length) (h : p (bs.getD j []) = true) : (bs.filter p).getD ((bs.take j).filter p).length [] = bs.getD j [] := by
  have e : bs = bs.take j ++ bs.getD j [] :: bs.drop (j + 1) := by
    rw [List.getD_eq_getElem?_getD, List.getElem?_eq_getElem hj]
    simp
  have e2 : bs.filter p = (bs.take j).filter p ++ bs.getD j [] :: (bs.drop (j + 1)).filter p := by
    conv => lhs; rw [e]
    rw [List.filter_append, List.filter_cons_of_pos h]
  rw [e2, List.getD_eq_getElem?_getD, List.getElem?_append_right (Nat.le_refl _), Nat.sub_self]
  rfl
theorem filter_lt (p : List Int → Bool) (bs : List (List Int)) (j : Nat) (hj : j < bs.length) (h : p (bs.getD j []) = true) : ((bs.take j).filter p).length < (bs.filter p).length := by
  have e : bs = bs.take j ++ bs.getD j [] :: bs.drop (j + 1) := by
    rw [List.getD_eq_getElem?_getD, List.getElem?_eq_getElem hj]
    simp
  have e2 : bs.filter p = (bs.take j).filter p ++ bs.getD j [] :: (bs.drop (j + 1)).filter p := by
    conv => lhs; rw [e]
    rw [List.filter_append, List.filter_cons_of_pos h]
  rw [e2, List.length_append, List.length_cons]
  omega
theorem filter_snoc (p : List Int → Bool) (bs : List (List Int)) (j : Nat) (hj : j < bs.length) : (bs.take (j + 1)).filter p = (bs.take j).filter p ++ (if p (bs.getD j []) then [bs.getD j []] else []) := by
  rw [take_snocB bs j hj, List.filter_append]
  congr 1
  cases h : p (bs.getD j []) with
  | true => rw [List.filter_cons_of_pos h]; rfl
  | false => rw [List.filter_cons_of_neg (by rw [h]; decide)]; rfl
theorem filterZ_snoc (zs : List Int) (j : Nat) (hj : j < zs.length) : (zs.take (j + 1)).filter nom = (zs.take j).filter nom ++ (if nom (zs.getD j 0) then [zs.getD j 0] else []) := by
  rw [take_snoc zs j hj, List.filter_append]
  congr 1
  cases h : nom (zs.getD j 0) with
  | true => rw [List.filter_cons_of_pos h]; rfl
  | false => rw [List.filter_cons_of_neg (by rw [h]; decide)]; rfl
theorem placed_len : ∀ (bs : List (List Int)) (at0 : Nat), (placed at0 bs).length = bs.length
  | [], _ => rfl
  | b :: r, at0 => by simp [placed, placed_len r]
theorem placed_first (bs : List (List Int)) (at0 : Nat) (h : 0 < bs.length) : ((placed at0 bs).map (·.2)).getD 0 0 = at0 := by
  cases bs with
  | nil => simp at h
  | cons b r => rfl

set_option maxRecDepth 100000 in
set_option maxHeartbeats 8000000 in
theorem finds_walk (a : Option Addr) (len cap : Nat) (bs : List (List Int)) (a2 : Option Addr) (len2 cap2 : Nat) (zs : List Int) (w : World) (RB : RowsB w a len cap bs) (R : Row .u8 w a2 len2 cap2 zs) (ht : Tab w)
    (hbb : ∀ b ∈ bs, Byt b) (hl : len ≤ 1099511627776) (hs : 8 * bsum bs + len2 ≤ 1099511627776) :
    Calls Tryd.prog 8 #[.slice a len cap, .slice a2 len2 cap2] w fun e w' => e = .returned (.bool true) ∧ Below w.heap.size w w' := by
  have hsz := RB.size
  have hsz2 := R.size
  go_enter Tryd.func8, Tryd.ntmps8
  go_wp2
  go_loopg [5, 6] len2 (fun f ot ix wr => ∃ j : Nat, ix = .int .i64 j ∧ j + f = len2 ∧ Own w.heap.size wr ot ((zs.take j).filter nom) ∧ Below w.heap.size w wr)
  case atStart => exact ⟨0, rfl, by omega, Own.nil _ _, Below.refl _ _⟩
  case round =>
    obtain ⟨j, rfl, hjg, ho, hB⟩ := hrel
    have hfl : ((zs.take j).filter nom).length ≤ j := Nat.le_trans (List.length_filter_le _ _) (by rw [List.length_take]; omega)
    by_cases hc : j < len2
    · obtain ⟨b, off, rfl, hb, hcc⟩ := R.mem.resolve_left (by omega)
      clear hcc
      have cz := (R.below hB).at j hc
      have hzb := byt_at R.byte j (by omega)
      have HT := filterZ_snoc zs j (by omega)
      obtain ⟨z, hz⟩ : ∃ z, zs.getD j 0 = z := ⟨_, rfl⟩
      rw [hz] at cz hzb HT
      obtain ⟨xs, hxs⟩ : ∃ xs, (zs.take j).filter nom = xs := ⟨_, rfl⟩
      rw [hxs] at ho hfl HT
      have hbs := hB.size
      by_cases h237 : z = 237
      · have hq : (z != 237) = false := by simp [h237]
        have HT2 : Hid ((zs.take (j + 1)).filter nom = xs) := by
          show _ = _
          rw [HT]
          simp [nom, h237]
        clear hz hxs HT h237
        go_wp2
        go_roundg (gk - 1)
        case measure => omega
        case rel => exact ⟨j + 1, by first | rfl | go_num, by omega, by rw [HT2.out]; exact ho, hB⟩
      · have hq : (z != 237) = true := by simp [h237]
        have HT2 : Hid ((zs.take (j + 1)).filter nom = xs ++ [z]) := by
          show _ = _
          rw [HT]
          simp [nom, h237]
        have L1 := row_mark (w := wr) (C := #[bv z]) (f := (0, 0)) (n := 1) (xs := [z]) rfl rfl (by intro c hc; simp at hc; omega)
        have ho2 := ho.alloc (.cells #[bv z] 5)
        have l1 : xs.length + 1 ≤ 140737488355328 := by omega
        have hb1 : w.heap.size ≤ (wr.alloc (.cells #[bv z] 5)).heap.size := by simp; omega
        clear hz hxs HT h237
        go_wp2_with (at_builtin; refine wpList_append_row _ rfl _ _ rfl w.heap.size _ _ rfl ho2 _ _ _ _ rfl L1 hb1 l1 ?_; intro v4 w4 o4 b4)
        go_roundg (gk - 1)
        case measure => omega
        case rel => exact ⟨j + 1, by first | rfl | go_num, by omega, by rw [HT2.out]; exact o4, (hB.alloc hbs _).trans b4⟩
    · have e : len2 = j := by omega
      obtain ⟨fl, hfl0⟩ : ∃ fl, zs.filter nom = fl := ⟨_, rfl⟩
      rw [List.take_of_length_le (by omega), hfl0] at ho hfl
      have hf237 : ∀ z ∈ fl, z ≠ 237 := fun z hz => by rw [← hfl0] at hz; exact of_decide_eq_true (List.mem_filter.1 hz).2
      have hfb : Byt fl := fun z hz => by rw [← hfl0] at hz; exact R.byte z (List.mem_filter.1 hz).1
      obtain ⟨ao, co, rfl, RO, hco, _⟩ := own_row_len ho hfb rfl
      obtain ⟨st, hst⟩ : ∃ st, fl.length = st := ⟨_, rfl⟩
      rw [hst] at hfl RO ho ⊢
      clear hfl0 hjg
      subst e
      rename World => w1
      have B1 : Below w.heap.size w w1 := hB
      clear hB RO
      go_wp2
      go_loopg [5, 8, 9] len (fun f ot nn ix wr => ∃ j : Nat, ix = .int .i64 j ∧ nn = .int .i64 (((bs.take j).filter okb).length : Nat) ∧ j + f = len ∧ Own w.heap.size wr ot (fl ++ (bs.take j).flatMap frm0) ∧ Below w.heap.size w wr)
      case atStart => exact ⟨0, rfl, rfl, by omega, by simpa using ho, B1⟩
      case round =>
        obtain ⟨j, rfl, rfl, hjg, hq, hB⟩ := hrel
        have hft := frames_take bs j
        have hbs := hB.size
        have hnl : ((bs.take j).filter okb).length ≤ j := Nat.le_trans (List.length_filter_le _ _) (by rw [List.length_take]; omega)
        by_cases hc : j < len
        · obtain ⟨b, off, rfl, hb, hcc⟩ := RB.mem.resolve_left (by omega)
          clear hcc
          obtain ⟨p, n, c, q1, q2, q3⟩ := (RB.below hB).at j hc
          have hn : n ≤ 9223372036854775807 := by have := q3.le; omega
          have hnz := q3.size
          have hmem := getD_mem (bs := bs) (j := j) (by omega)
          have hb1 := bsum_mem hmem
          have HF := filter_snoc okb bs j (by omega)
          have HT : (bs.take (j + 1)).flatMap frm0 = (bs.take j).flatMap frm0 ++ frm0 (bs.getD j []) := by
            rw [take_snocB bs j (by omega), List.flatMap_append]
            simp
          have hby := hbb _ hmem
          obtain ⟨bd, hbd⟩ : ∃ bd, bs.getD j [] = bd := ⟨_, rfl⟩
          rw [hbd] at q3 HF HT hnz hb1 hby
          obtain ⟨xs, hxs⟩ : ∃ xs, (bs.take j).flatMap frm0 = xs := ⟨_, rfl⟩
          rw [hxs] at hq hft HT
          obtain ⟨m, hm⟩ : ∃ m, ((bs.take j).filter okb).length = m := ⟨_, rfl⟩
          rw [hm] at hnl ⊢
          have Tr := ht.below hB
          by_cases h6 : n ≤ 65535
          · have hok : okb bd = true := decide_eq_true (by omega)
            rw [hok, if_pos rfl] at HF
            rw [frm0_ok hok] at HT
            have K1 := seal_ok _ _ _ _ wr q3 Tr h6
            have HF2 : Hid (((bs.take (j + 1)).filter okb).length = m + 1) := by show _ = _; rw [HF, List.length_append, hm]; rfl
            have HT2 : Hid (fl ++ (bs.take (j + 1)).flatMap frm0 = (fl ++ xs) ++ frm bd) := by show _ = _; rw [HT, List.append_assoc]
            have hfr := frm_len bd
            have l1 : (fl ++ xs).length + (n + 8) ≤ 140737488355328 := by rw [List.length_append]; omega
            have hfb2 := byt_frm hby (by omega)
            obtain ⟨ys, hys⟩ : ∃ ys, fl ++ xs = ys := ⟨_, rfl⟩
            rw [hys] at hq HT2 l1
            clear hbd hxs hm HF HT hys q3 hok
            go_wp2_with (first
              | (go_at_call 10; refine K1.mono ?_; rintro e w2 ⟨v2, rfl, o2, b2⟩; obtain ⟨a3, c3, rfl, R3, _, _⟩ := own_row_len o2 hfb2 (n := n + 8) (by omega); have hq2 := hq.below b2; have hb2 : w.heap.size ≤ w2.heap.size := Nat.le_trans hbs b2.size; have B2 : Below w.heap.size w w2 := hB.trans (b2.mono hbs); clear K1 o2)
              | (at_builtin; refine wpList_append_row _ rfl _ _ rfl w.heap.size _ _ rfl hq2 _ _ _ _ rfl R3 hb2 l1 ?_; intro v4 w4 o4 b4))
            go_roundg (gk - 1)
            case measure => omega
            case rel => exact ⟨j + 1, by first | rfl | go_num, by rw [HF2.out]; first | rfl | go_num, by omega, by rw [HT2.out]; exact o4, B2.trans b4⟩
          · have hno : okb bd = false := decide_eq_false (by omega)
            rw [hno, if_neg (by decide), List.append_nil] at HF
            rw [frm0_no hno, List.append_nil] at HT
            have K1 := seal_no _ _ _ _ wr q3 Tr (by omega) hn
            have HF2 : Hid (((bs.take (j + 1)).filter okb).length = m) := by show _ = _; rw [HF, hm]
            have HT2 : Hid ((bs.take (j + 1)).flatMap frm0 = xs) := HT
            clear hbd hxs hm HF HT q3 hno
            go_wp2_with (go_at_call 10; refine K1.mono ?_; rintro e w2 ⟨rfl, b2⟩)
            go_roundg (gk - 1)
            case measure => omega
            case rel => exact ⟨j + 1, by first | rfl | go_num, by rw [HF2.out], by omega, by rw [HT2.out]; exact hq.below b2, hB.trans (b2.mono hbs)⟩
        · have e : len = j := by omega
          rw [List.take_of_length_le (by omega)] at hq hft hnl ⊢
          obtain ⟨l, hl0⟩ : ∃ l, fl ++ bs.flatMap frm0 = l := ⟨_, rfl⟩
          obtain ⟨N, hN⟩ : ∃ N, l.length = N := ⟨_, rfl⟩
          have hX := finds_sal fl bs N (by rw [hl0]; exact hN) hf237
          have hNl : N ≤ 1099511627776 := by rw [← hN, ← hl0, List.length_append, hst]; omega
          have hlb : Byt l := by rw [← hl0]; exact byt_app hfb (byt_frames hbb)
          rw [hl0] at hq hX
          obtain ⟨a3, c3, rfl, R3, hc3, _⟩ := own_row_len hq hlb hN
          have K2 := salvage_any _ _ _ _ wr R3 (ht.below hB) hNl hc3
          rw [hX, placed_fst, hst] at K2
          obtain ⟨O, hO⟩ : ∃ O, bs.filter okb = O := ⟨_, rfl⟩
          obtain ⟨m, hm⟩ : ∃ m, O.length = m := ⟨_, rfl⟩
          have hP := placed_first O st
          have hPl : ((placed st O).map (·.2)).length = m := by rw [List.length_map, placed_len, hm]
          have hOb : ∀ b ∈ O, Byt b := fun b hb => hbb b (by rw [← hO] at hb; exact (List.mem_filter.1 hb).1)
          rw [hO] at K2 hnl ⊢
          rw [hm] at hP hnl ⊢
          obtain ⟨PL, hPL⟩ : ∃ PL, (placed st O).map (·.2) = PL := ⟨_, rfl⟩
          rw [hPL] at K2 hP hPl
          clear hX hl0 hq
          subst e
          rename World => w2
          go_wp2_with fail
          refine K2.mono ?_
          rintro e w3 ⟨⟨v3, u3, rfl, BO, PO⟩, b3⟩
          obtain ⟨al, cl, rfl, RL, hcl, hal⟩ := bods_rows BO hOb hm
          obtain ⟨ap, cp, rfl, hpc, hcp, hpl⟩ := pls_cells PO hPl
          have B3 : Below w.heap.size w w3 := hB.trans (b3.mono hB.size)
          clear K2 BO PO
          have q1 : ((m : Int) != (m : Int)) = false := by simp
          have q2 : ((st : Int) != (st : Int)) = false := by simp
          have hml : m ≤ 1099511627776 := by omega
          have HO : Hid (bs.filter okb = O) := hO
          have hp0 : 0 < m → ∃ g, ap = some ⟨g, 0, none⟩ ∧ w3.cell? ⟨g, 0, none⟩ = some (.int .i64 (st : Int)) := fun h => by
            obtain ⟨g, e, _, hcell⟩ := hpl h
            have := hcell 0 h
            rw [hP h] at this
            exact ⟨g, e, this⟩
          clear hO hpl hP hPl hPL
          rcases (show m = 0 ∨ 0 < m by omega) with hm0 | hm0
          · subst hm0
            go_wp2
            go_loopg [14, 15] len (fun f kk ix wr => ∃ j : Nat, ix = .int .i64 j ∧ kk = .int .i64 (((bs.take j).filter okb).length : Nat) ∧ j + f = len ∧ Below w3.heap.size w3 wr)
            case atStart => exact ⟨0, rfl, rfl, by omega, Below.refl _ _⟩
            case round =>
              obtain ⟨j, rfl, rfl, hjg, hB4⟩ := hrel
              have hbs4 := hB4.size
              have Bw : Below w.heap.size w wr := B3.trans (hB4.mono B3.size)
              by_cases hc : j < len
              · obtain ⟨b, off, rfl, hb, hcc⟩ := RB.mem.resolve_left (by omega)
                clear hcc
                obtain ⟨p, n, c, q3, q4, q5⟩ := (RB.below Bw).at j hc
                have hn : n ≤ 9223372036854775807 := by have := q5.le; omega
                have hnz := q5.size
                have HF := filter_snoc okb bs j (by omega)
                have hlt := filter_lt okb bs j (by omega)
                have hat := filter_at (α := Nat) okb bs j (by omega)
                rw [HO.out] at hlt hat
                obtain ⟨k, hk⟩ : ∃ k, ((bs.take j).filter okb).length = k := ⟨_, rfl⟩
                rw [hk] at hlt hat ⊢
                obtain ⟨bd, hbd⟩ : ∃ bd, bs.getD j [] = bd := ⟨_, rfl⟩
                rw [hbd] at q5 HF hnz hlt hat
                have hkj : k ≤ j := by rw [← hk]; exact Nat.le_trans (List.length_filter_le _ _) (by rw [List.length_take]; omega)
                by_cases h6 : n ≤ 65535
                · have hok : okb bd = true := decide_eq_true (by omega)
                  have hkm := hlt hok
                  rw [hm] at hkm
                  exact absurd hkm (by omega)
                · have hno : okb bd = false := decide_eq_false (by omega)
                  rw [hno, if_neg (by decide), List.append_nil] at HF
                  have HF2 : Hid (((bs.take (j + 1)).filter okb).length = k) := by show _ = _; rw [HF, hk]
                  clear hbd hk HF hlt hat hno q5
                  go_wp2
                  go_roundg (gk - 1)
                  case measure => omega
                  case rel => exact ⟨j + 1, by first | rfl | go_num, by rw [HF2.out], by omega, hB4⟩
              · have KA := awake_any wr (ht.below Bw)
                have e : len = j := by omega
                subst e
                go_wp2_with (go_at_call 14; refine KA.mono ?_; rintro e w9 ⟨rfl, b9⟩)
                go_ret
                exact ⟨rfl, Bw.trans (b9.mono Bw.size)⟩
          · obtain ⟨gp, rfl, hcp0⟩ := hp0 hm0
            go_wp2
            go_loopg [14, 15] len (fun f kk ix wr => ∃ j : Nat, ix = .int .i64 j ∧ kk = .int .i64 (((bs.take j).filter okb).length : Nat) ∧ j + f = len ∧ Below w3.heap.size w3 wr)
            case atStart => exact ⟨0, rfl, rfl, by omega, Below.refl _ _⟩
            case round =>
              obtain ⟨j, rfl, rfl, hjg, hB4⟩ := hrel
              have hbs4 := hB4.size
              have Bw : Below w.heap.size w wr := B3.trans (hB4.mono B3.size)
              by_cases hc : j < len
              · obtain ⟨b, off, rfl, hb, hcc⟩ := RB.mem.resolve_left (by omega)
                clear hcc
                obtain ⟨p, n, c, q3, q4, q5⟩ := (RB.below Bw).at j hc
                have hn : n ≤ 9223372036854775807 := by have := q5.le; omega
                have hnz := q5.size
                have HF := filter_snoc okb bs j (by omega)
                have hlt := filter_lt okb bs j (by omega)
                have hat := filter_at (α := Nat) okb bs j (by omega)
                rw [HO.out] at hlt hat
                obtain ⟨k, hk⟩ : ∃ k, ((bs.take j).filter okb).length = k := ⟨_, rfl⟩
                rw [hk] at hlt hat ⊢
                obtain ⟨bd, hbd⟩ : ∃ bd, bs.getD j [] = bd := ⟨_, rfl⟩
                rw [hbd] at q5 HF hnz hlt hat
                have hkj : k ≤ j := by rw [← hk]; exact Nat.le_trans (List.length_filter_le _ _) (by rw [List.length_take]; omega)
                by_cases h6 : n ≤ 65535
                · have hok : okb bd = true := decide_eq_true (by omega)
                  have hkm := hlt hok
                  rw [hm] at hkm
                  have hkO := hat hok
                  rw [hok, if_pos rfl] at HF
                  have HF2 : Hid (((bs.take (j + 1)).filter okb).length = k + 1) := by show _ = _; rw [HF, List.length_append, hk]; rfl
                  cases al with
                  | none => exact absurd rfl (hal (by omega))
                  | some ad =>
                    obtain ⟨bl, offl, e, hbl, hcc⟩ := RL.mem.resolve_left (by omega)
                    cases e
                    clear hcc
                    obtain ⟨p2, n2, c2, r3, r4, r5⟩ := (RL.below hB4).at k hkm
                    rw [hkO] at r5
                    have v1 : ∀ i, (convert 22 9 (.slice p n c)).run Tryd.prog (wr.drewN i) = .ok (.string (strOfNums bd)) (wr.drewN i) := fun i => conv_row (q5.drewN i)
                    have v2 : ∀ i, (convert 22 9 (.slice p2 n2 c2)).run Tryd.prog (wr.drewN i) = .ok (.string (strOfNums bd)) (wr.drewN i) := fun i => conv_row (r5.drewN i)
                    obtain ⟨s, hss⟩ : ∃ s, strOfNums bd = s := ⟨_, rfl⟩
                    rw [hss] at v1 v2
                    have q6 := beq_refl_bytes s
                    clear hbd hk HF hlt hat hkO hok hss q5 r5
                    go_wp2
                    go_quiet (fail)
                    go_wp2
                    go_roundg (gk - 1)
                    case measure => omega
                    case rel => exact ⟨j + 1, by first | rfl | go_num, by rw [HF2.out]; first | rfl | go_num, by omega, below_drewN hB4 _⟩
                · have hno : okb bd = false := decide_eq_false (by omega)
                  rw [hno, if_neg (by decide), List.append_nil] at HF
                  have HF2 : Hid (((bs.take (j + 1)).filter okb).length = k) := by show _ = _; rw [HF, hk]
                  clear hbd hk HF hlt hat hno q5
                  go_wp2
                  go_roundg (gk - 1)
                  case measure => omega
                  case rel => exact ⟨j + 1, by first | rfl | go_num, by rw [HF2.out], by omega, hB4⟩
              · have KA := awake_any wr (ht.below Bw)
                have e : len = j := by omega
                subst e
                go_wp2_with (go_at_call 14; refine KA.mono ?_; rintro e w9 ⟨rfl, b9⟩)
                go_ret
                exact ⟨rfl, Bw.trans (b9.mono Bw.size)⟩

end Go.Proofs.YteadkfcbgphgnaaDoor
