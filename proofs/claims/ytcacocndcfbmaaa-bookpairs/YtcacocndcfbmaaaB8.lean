/-
  The document's taken, Taken, Estimate, Rest and Back; lists of entries compared.
-/
import Derived.Test.YtcacocndcfbmaaaB7
import Derived.Test.YtcacocndcfbmaaaB1
import Derived.Test.YtcacocndcfbmaaaB4
import Derived.Laws.StructEq
namespace Go.Proofs.Ytcacocndcfbmaaa
open Go.ChangeShapes Go.WideShapes Go.ChangeAt Go.RowKit
set_option linter.unusedVariables false
set_option linter.unusedSimpArgs false

def cntN (peer : Int) (p : Int × Int) : Int := if p.1 = peer then 0 else p.2
/-- Entries of one's own: where they lie. -/
theorem ent_row {W : World} {base : Nat} {v : Value} {l : List (Int × Int)} (h : W.ownsRow base 58 2 v l.length (csP l)) (hl : l.length ≤ 1000) : ∃ a cap, v = .slice a l.length cap ∧ RdE W a l.length cap (l.map toEN) := by
  obtain ⟨a, cap, e, L, _⟩ := own_lstE (ds := l.map toEN) h (by simp)
  exact ⟨a, cap, e, L.rd (by omega)⟩
theorem ent_at {W : World} {a : Option Addr} {cap : Nat} {l : List (Int × Int)} (R : RdE W a l.length cap (l.map toEN)) (i : Nat) (hi : i < l.length) : ∃ g off, a = some ⟨g, off, none⟩ ∧ g < W.heap.size ∧ W.rangeAt g (off + i * 2) (toEN (l.getD i (0, 0))).cells := by
  obtain ⟨g, off, e, hg, _, hr⟩ := R.at i hi
  refine ⟨g, off, e, hg, ?_⟩
  have e2 : (l.map toEN).getD i EN.z = toEN (l.getD i (0, 0)) := by
    rw [List.getD_eq_getElem?_getD, List.getElem?_map, List.getElem?_eq_getElem hi, List.getD_eq_getElem?_getD, List.getElem?_eq_getElem hi]; rfl
  rw [e2] at hr
  exact hr
theorem EN.c0 {W : World} {g off : Nat} {p : Int × Int} (h : W.rangeAt g off (toEN p).cells) : W.cell? ⟨g, off, none⟩ = some (.int .i64 p.1) := h 0 _ rfl
theorem EN.c1 {W : World} {g off : Nat} {p : Int × Int} (h : W.rangeAt g off (toEN p).cells) : W.cell? ⟨g, off + 1, none⟩ = some (.int .i64 p.2) := h 1 _ rfl
theorem sum_map_next {f : Int × Int → Int} {l : List (Int × Int)} {k : Nat} (hk : k < l.length) : ((l.take (k + 1)).map f).sum = ((l.take k).map f).sum + f (l.getD k (0, 0)) := by
  rw [take_next (z := ((0, 0) : Int × Int)) hk, List.map_append, List.sum_append]
  simp
theorem sum_map_rng {f : Int × Int → Int} {l : List (Int × Int)} (hf : ∀ p ∈ l, -2147483647 ≤ f p ∧ f p ≤ 2147483647) : ∀ k, k ≤ l.length → -(2147483647 * (k : Int)) ≤ ((l.take k).map f).sum ∧ ((l.take k).map f).sum ≤ 2147483647 * (k : Int) := by
  intro k
  induction k with
  | zero => intro _; simp
  | succ k ih =>
    intro hk
    have h1 := ih (by omega)
    have h2 := hf (l.getD k (0, 0)) (by rw [List.getD_eq_getElem?_getD, List.getElem?_eq_getElem (by omega)]; exact List.getElem_mem _)
    rw [sum_map_next (by omega)]
    omega
theorem docE_rng {id : Int} {name : ByteArray} {hs : List HS} {p : Int × Int} (h : p ∈ docE id name hs) : -2147483647 ≤ p.2 ∧ p.2 ≤ 2147483647 := by
  obtain ⟨x, _, hx⟩ := List.mem_flatMap.1 h
  unfold doc1 at hx
  obtain ⟨l, _, rfl⟩ := List.mem_map.1 hx
  exact out_rng _ _ _ _ _
theorem docE_len {id : Int} {name : ByteArray} : ∀ {hs : List HS}, (∀ j, j < hs.length → (hs.getD j HS.z).ls.length ≤ 8) → (docE id name hs).length ≤ 8 * hs.length
  | [], _ => Nat.le_refl _
  | x :: r, h => by
    have ih := docE_len (id := id) (name := name) (hs := r) (fun j hj => by have := h (j + 1) (by simpa using hj); simpa using this)
    have h0 : x.ls.length ≤ 8 := h 0 (by simp)
    unfold docE at ih ⊢
    rw [List.flatMap_cons, List.length_append, List.length_cons]
    have : (doc1 id name x x.ls).length ≤ x.ls.length := by unfold doc1; rw [List.length_map]; exact List.length_filter_le _ _
    omega
set_option maxRecDepth 100000 in
set_option maxHeartbeats 4000000 in
theorem rtaken_any (id : Int) (A : Option Addr) (c : Nat) (hs : List HS) (name : ByteArray) (peer : Int) (w : World) (P : Hs w A hs.length c hs) (h16 : hs.length ≤ 16) (h8 : ∀ j, j < hs.length → (hs.getD j HS.z).ls.length ≤ 8) :
    Calls Try.prog 29 #[.int .i64 id, .slice A hs.length c, .string name, .int .i64 peer] w fun e w' => e = .returned (.int .i64 ((docE id name hs).map (cntN peer)).sum) ∧ Below w.heap.size w w' := by
  have K10 := rpage_any id A c hs name w P h16 h8
  have hl := docE_len (id := id) (name := name) h8
  have hrr : ∀ p ∈ docE id name hs, -2147483647 ≤ cntN peer p ∧ cntN peer p ≤ 2147483647 := fun p hp => by
    have := docE_rng hp
    unfold cntN
    split <;> omega
  have HRR : Hid (∀ k, k ≤ (docE id name hs).length → -(2147483647 * (k : Int)) ≤ (((docE id name hs).take k).map (cntN peer)).sum ∧ (((docE id name hs).take k).map (cntN peer)).sum ≤ 2147483647 * (k : Int)) := sum_map_rng hrr
  obtain ⟨l, el⟩ : ∃ l, docE id name hs = l := ⟨_, rfl⟩
  rw [el] at K10 hl HRR ⊢
  have HL : Hid (l.length ≤ 128) := by show _ ≤ _; omega
  clear el hrr hl h16 h8 P
  go_enter Try.func29, Try.ntmps29
  go_wp2_with (first | (go_at_call 10; refine K10.mono ?_; rintro e w1 ⟨v1, rfl, O1, b1⟩; clear K10; obtain ⟨a1, c1, rfl, R1⟩ := ent_row O1 (by have := HL.out; omega); clear O1) | fail)
  go_loopg [9, 11] l.length (fun gk v9 v11 wr => ∃ (k : Nat), v9 = .int .i64 ((l.take k).map (cntN peer)).sum ∧ v11 = .int .i64 (k : Int) ∧ k + gk = l.length ∧ wr = w1)
  case atStart => exact ⟨0, rfl, by first | rfl | go_num, by omega, rfl⟩
  case round =>
    obtain ⟨k, rfl, rfl, hgk, rfl⟩ := hrel
    by_cases hk : k < l.length
    case pos =>
      have hkI : (k : Int) < (l.length : Int) := by omega
      have hwk : IntKind.i64.wrap ((k : Int) + 1) = (k : Int) + 1 := by rw [IntKind.wrap_i64]; have := HL.out; omega
      obtain ⟨g, o, rfl, hg, hr⟩ := ent_at R1 k hk
      have hnx := sum_map_next (f := cntN peer) hk
      have hrn := HRR.out (k + 1) (by omega)
      obtain ⟨p, ep⟩ : ∃ p, l.getD k (0, 0) = p := ⟨_, rfl⟩
      rw [ep] at hr hnx
      rw [hnx] at hrn
      obtain ⟨t, et⟩ : ∃ t, ((l.take k).map (cntN peer)).sum = t := ⟨_, rfl⟩
      rw [et] at hnx hrn ⊢
      have HNX : Hid (((l.take (k + 1)).map (cntN peer)).sum = t + cntN peer p) := hnx
      have c0 := EN.c0 hr
      have c1' := EN.c1 hr
      clear ep et hnx hr
      by_cases hp : p.1 = peer
      case pos =>
        have hq : (p.1 != peer) = false := by simpa using hp
        have HT : Hid (((l.take (k + 1)).map (cntN peer)).sum = t) := by show _ = _; rw [HNX.out]; unfold cntN; rw [if_pos hp]; omega
        clear hp hrn
        go_wp2
        go_roundg (gk - 1)
        case measure => omega
        case rel => exact ⟨k + 1, by rw [HT.out], by first | rfl | go_num, by omega, rfl⟩
      case neg =>
        have hq : (p.1 != peer) = true := by simpa using hp
        have HT : Hid (((l.take (k + 1)).map (cntN peer)).sum = t + p.2) := by show _ = _; rw [HNX.out]; unfold cntN; rw [if_neg hp]
        have hwt : IntKind.i64.wrap (t + p.2) = t + p.2 := by
          have e : cntN peer p = p.2 := by unfold cntN; rw [if_neg hp]
          rw [e] at hrn
          rw [IntKind.wrap_i64]; have := HL.out; omega
        clear hp hrn
        go_wp2
        go_roundg (gk - 1)
        case measure => omega
        case rel => exact ⟨k + 1, by rw [HT.out], by first | rfl | go_num, by omega, rfl⟩
    case neg =>
      have hkI : ¬ (k : Int) < (l.length : Int) := by omega
      have e : k = l.length := by omega
      subst e
      rw [List.take_length]
      obtain ⟨t, et⟩ : ∃ t, (l.map (cntN peer)).sum = t := ⟨_, rfl⟩
      have HT : Hid ((l.map (cntN peer)).sum = t) := et
      rw [et]
      clear et
      go_wp2
      go_ret
      exact ⟨by rw [HT.out]; rfl, b1⟩
set_option maxHeartbeats 2000000 in
theorem rTaken_any (id : Int) (A : Option Addr) (c : Nat) (hs : List HS) (name : ByteArray) (w : World) (P : Hs w A hs.length c hs) (h16 : hs.length ≤ 16) (h8 : ∀ j, j < hs.length → (hs.getD j HS.z).ls.length ≤ 8) :
    Calls Try.prog 12 #[.int .i64 id, .slice A hs.length c, .string name] w fun e w' => e = .returned (.tuple #[.int .i64 (chkV (((docE id name hs).map (cntN (-1))).sum)), .int .i64 (chkE (((docE id name hs).map (cntN (-1))).sum))]) ∧ Below w.heap.size w w' := by
  have K29 := rtaken_any id A c hs name (-1) w P h16 h8
  have hl := docE_len (id := id) (name := name) h8
  have hr := sum_map_rng (f := cntN (-1)) (l := docE id name hs) (fun p hp => by
    have := docE_rng hp
    unfold cntN
    split <;> omega) _ (Nat.le_refl _)
  rw [List.take_length] at hr
  obtain ⟨t, et⟩ : ∃ t, ((docE id name hs).map (cntN (-1))).sum = t := ⟨_, rfl⟩
  rw [et] at K29 hr ⊢
  clear et hr hl
  have K28 := told_any (t)
  go_enter Try.func12, Try.ntmps12
  go_wp2_with (first
    | (go_at_call 29; refine K29.mono ?_; rintro e w1 ⟨rfl, b1⟩; clear K29)
    | (go_at_call 28; refine (K28 _).mono ?_; rintro e w2 ⟨rfl, hw2⟩; rw [hw2]; clear hw2))
  go_ret2
  exact ⟨rfl, b1⟩
set_option maxHeartbeats 2000000 in
theorem restimate_any (id : Int) (input : Int) (A : Option Addr) (c : Nat) (hs : List HS) (name : ByteArray) (w : World) (P : Hs w A hs.length c hs) (h16 : hs.length ≤ 16) (h8 : ∀ j, j < hs.length → (hs.getD j HS.z).ls.length ≤ 8) (hin : -2147483647 ≤ input ∧ input ≤ 2147483647) :
    Calls Try.prog 14 #[.int .i64 id, .int .i64 input, .slice A hs.length c, .string name] w fun e w' => e = .returned (.tuple #[.int .i64 (chkV (input - ((docE id name hs).map (cntN (-1))).sum)), .int .i64 (chkE (input - ((docE id name hs).map (cntN (-1))).sum))]) ∧ Below w.heap.size w w' := by
  have K29 := rtaken_any id A c hs name (-1) w P h16 h8
  have hl := docE_len (id := id) (name := name) h8
  have hr := sum_map_rng (f := cntN (-1)) (l := docE id name hs) (fun p hp => by
    have := docE_rng hp
    unfold cntN
    split <;> omega) _ (Nat.le_refl _)
  rw [List.take_length] at hr
  obtain ⟨t, et⟩ : ∃ t, ((docE id name hs).map (cntN (-1))).sum = t := ⟨_, rfl⟩
  rw [et] at K29 hr ⊢
  have hw : IntKind.i64.wrap (input - t) = input - t := by rw [IntKind.wrap_i64]; omega
  clear et hr hl
  have K28 := told_any (input - t)
  go_enter Try.func14, Try.ntmps14
  go_wp2_with (first
    | (go_at_call 29; refine K29.mono ?_; rintro e w1 ⟨rfl, b1⟩; clear K29)
    | (go_at_call 28; refine (K28 _).mono ?_; rintro e w2 ⟨rfl, hw2⟩; rw [hw2]; clear hw2))
  go_ret2
  exact ⟨rfl, b1⟩
set_option maxHeartbeats 2000000 in
theorem rrest_any (id : Int) (input peer : Int) (A : Option Addr) (c : Nat) (hs : List HS) (name : ByteArray) (w : World) (P : Hs w A hs.length c hs) (h16 : hs.length ≤ 16) (h8 : ∀ j, j < hs.length → (hs.getD j HS.z).ls.length ≤ 8) (hin : -2147483647 ≤ input ∧ input ≤ 2147483647) :
    Calls Try.prog 16 #[.int .i64 id, .int .i64 input, .slice A hs.length c, .string name, .int .i64 peer] w fun e w' => e = .returned (.tuple #[.int .i64 (chkV (input - ((docE id name hs).map (cntN (peer))).sum)), .int .i64 (chkE (input - ((docE id name hs).map (cntN (peer))).sum))]) ∧ Below w.heap.size w w' := by
  have K29 := rtaken_any id A c hs name (peer) w P h16 h8
  have hl := docE_len (id := id) (name := name) h8
  have hr := sum_map_rng (f := cntN (peer)) (l := docE id name hs) (fun p hp => by
    have := docE_rng hp
    unfold cntN
    split <;> omega) _ (Nat.le_refl _)
  rw [List.take_length] at hr
  obtain ⟨t, et⟩ : ∃ t, ((docE id name hs).map (cntN (peer))).sum = t := ⟨_, rfl⟩
  rw [et] at K29 hr ⊢
  have hw : IntKind.i64.wrap (input - t) = input - t := by rw [IntKind.wrap_i64]; omega
  clear et hr hl
  have K28 := told_any (input - t)
  go_enter Try.func16, Try.ntmps16
  go_wp2_with (first
    | (go_at_call 29; refine K29.mono ?_; rintro e w1 ⟨rfl, b1⟩; clear K29)
    | (go_at_call 28; refine (K28 _).mono ?_; rintro e w2 ⟨rfl, hw2⟩; rw [hw2]; clear hw2))
  go_ret2
  exact ⟨rfl, b1⟩
def backD (peer : Int) : List (Int × Int) → Int
  | [] => 0
  | p :: r => if p.1 = peer then p.2 else backD peer r
theorem backD_at {peer : Int} : ∀ {l : List (Int × Int)} {k : Nat}, (∀ j, j < k → (l.getD j (0, 0)).1 ≠ peer) → k < l.length → (l.getD k (0, 0)).1 = peer → backD peer l = (l.getD k (0, 0)).2
  | p :: r, 0, _, _, h => by
    have h' : p.1 = peer := h
    show (if p.1 = peer then p.2 else _) = p.2
    rw [if_pos h']
  | p :: r, k + 1, h0, hk, h => by
    have h1 : p.1 ≠ peer := h0 0 (by omega)
    have ih := backD_at (l := r) (k := k) (fun j hj => by have := h0 (j + 1) (by omega); simpa using this) (by simpa using hk) (by simpa using h)
    show (if p.1 = peer then p.2 else backD peer r) = _
    rw [if_neg h1, ih]
    simp
theorem backD_none {peer : Int} : ∀ {l : List (Int × Int)}, (∀ j, j < l.length → (l.getD j (0, 0)).1 ≠ peer) → backD peer l = 0
  | [], _ => rfl
  | p :: r, h0 => by
    have h1 : p.1 ≠ peer := h0 0 (by simp)
    have ih := backD_none (l := r) (fun j hj => by have := h0 (j + 1) (by simpa using hj); simpa using this)
    show (if p.1 = peer then p.2 else backD peer r) = 0
    rw [if_neg h1, ih]
set_option maxRecDepth 100000 in
set_option maxHeartbeats 4000000 in
theorem rback_any (id : Int) (A : Option Addr) (c : Nat) (hs : List HS) (name : ByteArray) (peer : Int) (w : World) (P : Hs w A hs.length c hs) (h16 : hs.length ≤ 16) (h8 : ∀ j, j < hs.length → (hs.getD j HS.z).ls.length ≤ 8) :
    Calls Try.prog 18 #[.int .i64 id, .slice A hs.length c, .string name, .int .i64 peer] w fun e w' => e = .returned (.tuple #[.int .i64 (backD peer (docE id name hs)), .int .i64 0]) ∧ Below w.heap.size w w' := by
  have K10 := rpage_any id A c hs name w P h16 h8
  have hl := docE_len (id := id) (name := name) h8
  obtain ⟨l, el⟩ : ∃ l, docE id name hs = l := ⟨_, rfl⟩
  rw [el] at K10 hl ⊢
  have HL : Hid (l.length ≤ 128) := by show _ ≤ _; omega
  clear el hl h16 h8 P
  go_enter Try.func18, Try.ntmps18
  go_wp2_with (first | (go_at_call 10; refine K10.mono ?_; rintro e w1 ⟨v1, rfl, O1, b1⟩; clear K10; obtain ⟨a1, c1, rfl, R1⟩ := ent_row O1 (by have := HL.out; omega); clear O1) | fail)
  go_loopg [11] l.length (fun gk v11 wr => ∃ (k : Nat), v11 = .int .i64 (k : Int) ∧ k + gk = l.length ∧ (∀ j, j < k → (l.getD j (0, 0)).1 ≠ peer) ∧ wr = w1)
  case atStart => exact ⟨0, by first | rfl | go_num, by omega, fun j hj => by omega, rfl⟩
  case round =>
    obtain ⟨k, rfl, hgk, hok, rfl⟩ := hrel
    have HOK : Hid (∀ j, j < k → (l.getD j (0, 0)).1 ≠ peer) := hok
    clear hok
    by_cases hk : k < l.length
    case pos =>
      have HK : Hid (k < l.length) := hk
      have hkI : (k : Int) < (l.length : Int) := by omega
      have hwk : IntKind.i64.wrap ((k : Int) + 1) = (k : Int) + 1 := by rw [IntKind.wrap_i64]; have := HL.out; omega
      obtain ⟨g, o, rfl, hg, hr⟩ := ent_at R1 k hk
      obtain ⟨p, ep⟩ : ∃ p, l.getD k (0, 0) = p := ⟨_, rfl⟩
      rw [ep] at hr
      have HP : Hid (l.getD k (0, 0) = p) := ep
      have c0 := EN.c0 hr
      have c1' := EN.c1 hr
      clear ep hr
      by_cases hp : p.1 = peer
      case pos =>
        have hq : (p.1 == peer) = true := by simpa using hp
        have HB : Hid (backD peer l = p.2) := by show _ = _; rw [backD_at HOK.out HK.out (by rw [HP.out]; exact hp), HP.out]
        clear hp
        go_wp2
        go_ret2
        exact ⟨by rw [HB.out]; rfl, b1⟩
      case neg =>
        have hq : (p.1 == peer) = false := by simpa using hp
        have HF : Hid ((l.getD k (0, 0)).1 ≠ peer) := by show _ ≠ _; rw [HP.out]; exact hp
        clear hp
        go_wp2
        go_roundg (gk - 1)
        case measure => omega
        case rel => exact ⟨k + 1, by first | rfl | go_num, by omega, fun j hj => (Nat.lt_succ_iff_lt_or_eq.1 hj).elim (HOK.out j) (fun e => by rw [e]; exact HF.out), rfl⟩
    case neg =>
      have hkI : ¬ (k : Int) < (l.length : Int) := by omega
      have HB : Hid (backD peer l = 0) := backD_none (fun j hj => HOK.out j (by omega))
      go_wp2
      go_ret2
      exact ⟨by rw [HB.out]; rfl, b1⟩
theorem eq58 (w : World) (d : Nat) (a0 a1 b0 b1 : Int) :
    (Op.equalIn (d + 2) 58 (.agg #[.int .i64 a0, .int .i64 a1]) (.agg #[.int .i64 b0, .int .i64 b1])).run Try.prog w = .ok ((a0 == b0) && ((a1 == b1) && true)) w := by
  have hS : Try.prog.underlying 58 = some (.struct (Try.prog.fieldsOf 58)) := by kernel_rfl
  have hp : Try.prog.stoodInHeld 58 = false := by kernel_rfl
  rw [run_equalIn_agg w (d + 1) 58 _ _ hS hp]
  simp only [Program.fieldsOf, Try.underlying58]
  refine eqFields_cons (a := .int .i64 a0) (b := .int .i64 b0) (r := (a0 == b0)) (by decide) (by go_simp) (by go_simp) (by go_simp) ?_
  refine eqFields_cons (a := .int .i64 a1) (b := .int .i64 b1) (r := (a1 == b1)) (by decide) (by go_simp) (by go_simp) (by go_simp) ?_
  exact eqFields_nil
theorem exec_neq58 {o : Oper} {ρ : Operand → Value} {x y : Operand} (ho : o.op = .binOp .neq 58 x y 58) (a0 a1 : Int) (hx : ρ x = .agg #[.int .i64 a0, .int .i64 a1]) (hy : ρ y = .agg #[.int .i64 a0, .int .i64 a1]) (X : World) : (execOp ρ o).run Try.prog X = .ok (.value (.bool false)) X := by
  have hm : Try.prog.eqGuardType Try.prog.depth 58 = false := by kernel_rfl
  have hr : (binOp .neq 58 (.agg #[.int .i64 a0, .int .i64 a1]) (.agg #[.int .i64 a0, .int .i64 a1])).run Try.prog X = .ok (.bool false) X := by
    rw [run_neq_struct, show (10000 : Nat) = 9998 + 2 from rfl, eq58]
    simp
  unfold execOp
  simp only [ho, hx, hy, Sem.run_bind, run_eqGuard_agg _ _ _ _ _ _ _ hm, hr, Result.andThen_ok, Sem.run_pure]
set_option maxRecDepth 100000 in
set_option maxHeartbeats 4000000 in
theorem same_self (A B : Option Addr) (c d : Nat) (l : List (Int × Int)) (w : World) (P : RdE w A l.length c (l.map toEN)) (Q : RdE w B l.length d (l.map toEN)) (hl : l.length ≤ 1000) :
    Calls Try.prog 8 #[.slice A l.length c, .slice B l.length d] w fun e w' => e = .returned (.bool true) ∧ Below w.heap.size w w' := by
  have HL : Hid (l.length ≤ 1000) := hl
  clear hl
  go_enter Try.func8, Try.ntmps8
  go_wp2
  go_loopg [5, 13] l.length (fun gk v5 v13 wr => ∃ (k : Nat), v13 = .int .i64 (k : Int) ∧ k + gk = l.length ∧ Below w.heap.size w wr)
  case atStart => exact ⟨0, by first | rfl | go_num, by omega, Below.refl _ _⟩
  case round =>
    obtain ⟨k, rfl, hgk, Br⟩ := hrel
    by_cases hk : k < l.length
    case pos =>
      have hkI : (k : Int) < (l.length : Int) := by omega
      have hwk : IntKind.i64.wrap ((k : Int) + 1) = (k : Int) + 1 := by rw [IntKind.wrap_i64]; have := HL.out; omega
      obtain ⟨g, o, rfl, hg, hr⟩ := ent_at P k hk
      obtain ⟨g2, o2, rfl, hg2, hr2⟩ := ent_at Q k hk
      obtain ⟨p, ep⟩ : ∃ p, l.getD k (0, 0) = p := ⟨_, rfl⟩
      rw [ep] at hr hr2
      have r1 : ∀ X, Below wr.heap.size wr X → X.rangeAt g (o + k * 2) (toEN p).cells := fun X b => range_later hr hg (Br.trans (b.mono Br.size))
      have r2 : ∀ X, Below wr.heap.size wr X → X.rangeAt g2 (o2 + k * 2) (toEN p).cells := fun X b => range_later hr2 hg2 (Br.trans (b.mono Br.size))
      clear ep hr hr2
      go_wp2_with (fail)
      refine wp_region_any (by kernel_rfl) ?_
      change wpAny _ _ _ _ _ _ _ (World.drew _)
      refine wpAny_narrow (fun W' => Below wr.heap.size wr W') _ _ _ _ ?_
      refine anyH_take 0 16 (.slice (some ⟨g, o, none⟩) l.length c) rfl rfl (by kernel_rfl) (by kernel_rfl) (by kernel_rfl) (fun _ _ _ h => h) (Or.inl ⟨by rfl, by intro w hSw; go_simp⟩) ((Below.refl _ _).drew) ?_
      try simp only [Act.put, List.setIfInBounds_toArray, List.set_cons_zero, List.set_cons_succ]
      refine anyH_take 1 17 (.int .i64 (k : Int)) rfl rfl (by kernel_rfl) (by kernel_rfl) (by kernel_rfl) (fun _ _ _ h => h) (Or.inl ⟨by rfl, by intro w hSw; go_simp⟩) ((Below.refl _ _).drew) ?_
      try simp only [Act.put, List.setIfInBounds_toArray, List.set_cons_zero, List.set_cons_succ]
      refine anyH_take 2 18 (.pointer (some ⟨g, o + k * 2, none⟩)) rfl rfl (by kernel_rfl) (by kernel_rfl) (by kernel_rfl) (fun _ _ _ h => h) (Or.inl ⟨by rfl, by intro w hSw; go_simp⟩) ((Below.refl _ _).drew) ?_
      try simp only [Act.put, List.setIfInBounds_toArray, List.set_cons_zero, List.set_cons_succ]
      refine anyH_take 3 19 (.agg #[.int .i64 p.1, .int .i64 p.2]) rfl rfl (by kernel_rfl) (by kernel_rfl) (by kernel_rfl) (fun _ _ _ h => h) (Or.inl ⟨by rfl, fun X hSw => exec_load58 rfl g (o + k * 2) (toEN p) rfl (r1 X hSw)⟩) ((Below.refl _ _).drew) ?_
      try simp only [Act.put, List.setIfInBounds_toArray, List.set_cons_zero, List.set_cons_succ]
      refine anyH_take 4 20 (.slice (some ⟨g2, o2, none⟩) l.length d) rfl rfl (by kernel_rfl) (by kernel_rfl) (by kernel_rfl) (fun _ _ _ h => h) (Or.inl ⟨by rfl, by intro w hSw; go_simp⟩) ((Below.refl _ _).drew) ?_
      try simp only [Act.put, List.setIfInBounds_toArray, List.set_cons_zero, List.set_cons_succ]
      refine anyH_take 5 21 (.int .i64 (k : Int)) rfl rfl (by kernel_rfl) (by kernel_rfl) (by kernel_rfl) (fun _ _ _ h => h) (Or.inl ⟨by rfl, by intro w hSw; go_simp⟩) ((Below.refl _ _).drew) ?_
      try simp only [Act.put, List.setIfInBounds_toArray, List.set_cons_zero, List.set_cons_succ]
      refine anyH_take 6 22 (.pointer (some ⟨g2, o2 + k * 2, none⟩)) rfl rfl (by kernel_rfl) (by kernel_rfl) (by kernel_rfl) (fun _ _ _ h => h) (Or.inl ⟨by rfl, by intro w hSw; go_simp⟩) ((Below.refl _ _).drew) ?_
      try simp only [Act.put, List.setIfInBounds_toArray, List.set_cons_zero, List.set_cons_succ]
      refine anyH_take 7 23 (.agg #[.int .i64 p.1, .int .i64 p.2]) rfl rfl (by kernel_rfl) (by kernel_rfl) (by kernel_rfl) (fun _ _ _ h => h) (Or.inl ⟨by rfl, fun X hSw => exec_load58 rfl g2 (o2 + k * 2) (toEN p) rfl (r2 X hSw)⟩) ((Below.refl _ _).drew) ?_
      try simp only [Act.put, List.setIfInBounds_toArray, List.set_cons_zero, List.set_cons_succ]
      refine anyH_take 8 24 (.bool false) rfl rfl (by kernel_rfl) (by kernel_rfl) (by kernel_rfl) (fun _ _ _ h => h) (Or.inl ⟨by rfl, fun X hSw => exec_neq58 rfl p.1 p.2 rfl rfl X⟩) ((Below.refl _ _).drew) ?_
      try simp only [Act.put, List.setIfInBounds_toArray, List.set_cons_zero, List.set_cons_succ]
      refine wpAnyH_done (by kernel_rfl) ?_ _
      go_wp2
      go_roundg (gk - 1)
      case measure => omega
      case rel => exact ⟨k + 1, by first | rfl | go_num, by omega, Br.drew⟩
    case neg =>
      have hkI : ¬ (k : Int) < (l.length : Int) := by omega
      go_wp2
      go_ret
      exact ⟨rfl, Br⟩
end Go.Proofs.Ytcacocndcfbmaaa
