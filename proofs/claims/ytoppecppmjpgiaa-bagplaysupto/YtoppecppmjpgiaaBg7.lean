/-
  Package bag: slices.IndexFunc over packets.
-/
import Derived.Test.YtoppecppmjpgiaaBg6
import Derived.Test.YtoppecppmjpgiaaBgO
namespace Go.Proofs.Ytoppecppmjpgiaa
open Go.ChangeShapes Go.WideShapes Go.ChangeAt Go.RowKit Go.Maps
set_option linter.unusedVariables false
set_option linter.unusedSimpArgs false

def DG.z : DG := ⟨0, 0, 0, { data := #[] }⟩
theorem wpList_load33 {ops : Array Oper} {rest : List Oper} {o : Oper} {a : Act} {W : World} {Q : Exit → Act → World → Prop} (hgd : o.guard = none) (x : Operand) (ho : o.op = .load 33 x) (g off : Nat) (d : DG) (hx : a.eval x = .pointer (some ⟨g, off, none⟩)) (hc : W.rangeAt g off d.cells)
    (h : wpList Try.prog ops Q rest (a.put o.dst (dgv d)) W) : wpList Try.prog ops Q (o :: rest) a W :=
  wpList_load_mid hgd 33 x ho g off hx d.cells _ hc Try.underlying33 rfl (by kernel_rfl) h
theorem dcs_get (ds : List DG) (i j : Nat) (d : DG) (hi : ds[i]? = some d) (hj : j < 4) : (dcs ds)[4 * i + j]? = d.cells[j]? := by
  induction ds generalizing i with
  | nil => cases hi
  | cons e ds ih =>
    have hl : e.cells.length = 4 := rfl
    cases i with
    | zero =>
      cases hi
      show (d.cells ++ dcs ds)[4 * 0 + j]? = _
      rw [List.getElem?_append_left (by omega)]
      congr 1
      omega
    | succ i =>
      show (e.cells ++ dcs ds)[4 * (i + 1) + j]? = _
      rw [List.getElem?_append_right (by omega), hl, show 4 * (i + 1) + j - 4 = 4 * i + j by omega]
      exact ih i (by simpa using hi)
/-- The packet at a place. -/
theorem Lst.at {W : World} {a : Option Addr} {n cap : Nat} {ds : List DG} (L : Lst W a n cap ds) (i : Nat) (hi : i < n) : ∃ g off, a = some ⟨g, off, none⟩ ∧ ds[i]? = some (ds.getD i DG.z) ∧ W.rangeAt g (off + i * 4) (ds.getD i DG.z).cells := by
  have hs := L.size
  have hd : ds[i]? = some (ds.getD i DG.z) := by rw [List.getD_eq_getElem?_getD, List.getElem?_eq_getElem (by omega)]; rfl
  rcases L.mem with ⟨_, h0⟩ | ⟨g, off, cur, rfl, hh, hc, ht⟩
  · have := L.le; omega
  · refine ⟨g, off, rfl, hd, fun j v hv => ?_⟩
    have hj : j < 4 := (List.getElem?_eq_some_iff.1 hv).1
    refine row_cell hh _ _ ?_
    have e := dcs_get ds i j _ hd hj
    rw [← ht, List.getElem?_take, if_pos (by omega), List.getElem?_drop] at e
    rw [← hv, ← e, Array.getElem?_toList]
    congr 1
    omega
def onTo (x : Int) (d : DG) : Bool := d.dst == x
/-- Where the first one is. -/
def idx (p : DG → Bool) (ds : List DG) : Int := match ds.findIdx? p with | some i => (i : Int) | none => -1
theorem idx_some {p : DG → Bool} {ds : List DG} {i : Nat} {d : DG} (h : ∀ e ∈ ds.take i, p e = false) (hd : ds[i]? = some d) (hp : p d = true) : idx p ds = (i : Int) := by
  have : ds.findIdx? p = some i := by
    rw [List.findIdx?_eq_some_iff_getElem]
    obtain ⟨hl, e⟩ := List.getElem?_eq_some_iff.1 hd
    refine ⟨hl, by rw [e]; exact hp, fun j hj => ?_⟩
    have := h ds[j] (List.mem_iff_getElem.2 ⟨j, by rw [List.length_take]; omega, by simp⟩)
    simp [this]
  unfold idx
  rw [this]
theorem idx_none {p : DG → Bool} {ds : List DG} (h : ∀ e ∈ ds, p e = false) : idx p ds = -1 := by
  have : ds.findIdx? p = none := by rw [List.findIdx?_eq_none_iff]; exact h
  unfold idx
  rw [this]
theorem take_more {p : DG → Bool} {ds : List DG} {i : Nat} {d : DG} (h : ∀ e ∈ ds.take i, p e = false) (hd : ds[i]? = some d) (hp : p d = false) : ∀ e ∈ ds.take (i + 1), p e = false := by
  intro e he
  rw [List.take_add_one, hd] at he
  rcases List.mem_append.1 he with he | he
  · exact h e he
  · simp at he; subst he; exact hp
set_option maxHeartbeats 2000000 in
theorem index_way (a : Option Addr) (n cap : Nat) (ds : List DG) (l : Nat) (x y : Int) (w : World) (L : Lst w a n cap ds) (H : w.heap[l]? = some (.cells #[.int .i64 x, .int .i64 y] 65 (0, 0))) : Calls Try.prog 62 #[.slice a n cap, .func (.func 42) #[] #[.pointer (some ⟨l, 0, none⟩)]] w fun e w' => e = .returned (.int .i64 (idx (onWay x y) ds)) ∧ Below w.heap.size w w' := by
  have hsz : Hid (ds.length = n) := ⟨L.size⟩
  have hmx : n ≤ 9223372036854775807 := Nat.le_trans L.le L.max
  go_enter Try.func62, Try.ntmps62
  go_wp2
  go_loopg [8] n (fun g v8 wr => ∃ i : Nat, v8 = .int .i64 (i : Int) ∧ i + g = n ∧ Hid (∀ e ∈ ds.take i, (onWay x y) e = false) ∧ Hid (Below w.heap.size w wr))
  case atStart => exact ⟨0, rfl, by omega, ⟨fun e he => by simp at he⟩, ⟨Below.refl _ _⟩⟩
  case round =>
    obtain ⟨i, rfl, hg, HA, HB⟩ := hrel
    by_cases hi : i < n
    · have hiI : (i : Int) < (n : Int) := by omega
      have Lr : Lst wr a n cap ds := L.of_block fun g off e => HB.out.block g (by rw [e] at L; exact L.lt)
      obtain ⟨g, off, rfl, hd, hr⟩ := Lr.at i hi
      have Hr := (HB.out.block l (row_lt H)).trans H
      have HD : Hid (ds[i]? = some (ds.getD i DG.z)) := ⟨hd⟩
      clear hd
      obtain ⟨d, hdd⟩ : ∃ d, ds.getD i DG.z = d := ⟨_, rfl⟩
      rw [hdd] at HD hr
      clear hdd
      have K := way_any d l x y _ Hr
      obtain ⟨r, hrr⟩ : ∃ r, (onWay x y) d = r := ⟨_, rfl⟩
      rw [hrr] at K
      cases r with
      | true =>
        go_wp2_with (first
          | ((with_reducible show wpList _ _ _ (Oper.mk _ (Op.load 33 _) _ _ _ _ :: _) _ _); refine wpList_load33 rfl _ rfl g (off + i * 4) d rfl hr ?_)
          | (go_at_call 42; refine K.mono ?_; rintro e w1 ⟨rfl, b1⟩))
        go_ret
        exact ⟨by rw [idx_some HA.out HD.out hrr]; rfl, HB.out.trans (b1.mono HB.out.size)⟩
      | false =>
        go_wp2_with (first
          | ((with_reducible show wpList _ _ _ (Oper.mk _ (Op.load 33 _) _ _ _ _ :: _) _ _); refine wpList_load33 rfl _ rfl g (off + i * 4) d rfl hr ?_)
          | (go_at_call 42; refine K.mono ?_; rintro e w1 ⟨rfl, b1⟩))
        go_roundg (gk - 1)
        case measure => omega
        case rel => exact ⟨i + 1, by go_num, by omega, ⟨take_more HA.out HD.out hrr⟩, ⟨HB.out.trans (b1.mono HB.out.size)⟩⟩
    · obtain rfl : i = n := by omega
      go_wp2
      go_ret
      exact ⟨by rw [idx_none (fun e he => HA.out e (by rw [List.take_of_length_le (by rw [hsz.out]; exact Nat.le_refl _)]; exact he))]; rfl, HB.out⟩
set_option maxHeartbeats 2000000 in
theorem index_onto (a : Option Addr) (n cap : Nat) (ds : List DG) (l : Nat) (x : Int) (w : World) (L : Lst w a n cap ds) (H : w.heap[l]? = some (.cells #[.int .i64 x] 3 (0, 0))) : Calls Try.prog 62 #[.slice a n cap, .func (.func 43) #[] #[.pointer (some ⟨l, 0, none⟩)]] w fun e w' => e = .returned (.int .i64 (idx (onTo x) ds)) ∧ Below w.heap.size w w' := by
  have hsz : Hid (ds.length = n) := ⟨L.size⟩
  have hmx : n ≤ 9223372036854775807 := Nat.le_trans L.le L.max
  go_enter Try.func62, Try.ntmps62
  go_wp2
  go_loopg [8] n (fun g v8 wr => ∃ i : Nat, v8 = .int .i64 (i : Int) ∧ i + g = n ∧ Hid (∀ e ∈ ds.take i, (onTo x) e = false) ∧ Hid (Below w.heap.size w wr))
  case atStart => exact ⟨0, rfl, by omega, ⟨fun e he => by simp at he⟩, ⟨Below.refl _ _⟩⟩
  case round =>
    obtain ⟨i, rfl, hg, HA, HB⟩ := hrel
    by_cases hi : i < n
    · have hiI : (i : Int) < (n : Int) := by omega
      have Lr : Lst wr a n cap ds := L.of_block fun g off e => HB.out.block g (by rw [e] at L; exact L.lt)
      obtain ⟨g, off, rfl, hd, hr⟩ := Lr.at i hi
      have Hr := (HB.out.block l (row_lt H)).trans H
      have HD : Hid (ds[i]? = some (ds.getD i DG.z)) := ⟨hd⟩
      clear hd
      obtain ⟨d, hdd⟩ : ∃ d, ds.getD i DG.z = d := ⟨_, rfl⟩
      rw [hdd] at HD hr
      clear hdd
      have K := onto_any d l x _ Hr
      obtain ⟨r, hrr⟩ : ∃ r, (onTo x) d = r := ⟨_, rfl⟩
      rw [show (d.dst == x) = r from hrr] at K
      cases r with
      | true =>
        go_wp2_with (first
          | ((with_reducible show wpList _ _ _ (Oper.mk _ (Op.load 33 _) _ _ _ _ :: _) _ _); refine wpList_load33 rfl _ rfl g (off + i * 4) d rfl hr ?_)
          | (go_at_call 43; refine K.mono ?_; rintro e w1 ⟨rfl, b1⟩))
        go_ret
        exact ⟨by rw [idx_some HA.out HD.out hrr]; rfl, HB.out.trans (b1.mono HB.out.size)⟩
      | false =>
        go_wp2_with (first
          | ((with_reducible show wpList _ _ _ (Oper.mk _ (Op.load 33 _) _ _ _ _ :: _) _ _); refine wpList_load33 rfl _ rfl g (off + i * 4) d rfl hr ?_)
          | (go_at_call 43; refine K.mono ?_; rintro e w1 ⟨rfl, b1⟩))
        go_roundg (gk - 1)
        case measure => omega
        case rel => exact ⟨i + 1, by go_num, by omega, ⟨take_more HA.out HD.out hrr⟩, ⟨HB.out.trans (b1.mono HB.out.size)⟩⟩
    · obtain rfl : i = n := by omega
      go_wp2
      go_ret
      exact ⟨by rw [idx_none (fun e he => HA.out e (by rw [List.take_of_length_le (by rw [hsz.out]; exact Nat.le_refl _)]; exact he))]; rfl, HB.out⟩
end Go.Proofs.Ytoppecppmjpgiaa
