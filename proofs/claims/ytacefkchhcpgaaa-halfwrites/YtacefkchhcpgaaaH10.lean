/-
  Drop.
-/
import Derived.Test.YtacefkchhcpgaaaH8
import Derived.Test.YtacefkchhcpgaaaH9
import Derived.Test.YtacefkchhcpgaaaEH
namespace Go.Proofs.Ytacefkchhcpgaaa
open Go.ChangeShapes Go.WideShapes Go.ChangeAt Go.RowKit Go.Maps Go.Shelf
set_option linter.unusedVariables false
set_option linter.unusedSimpArgs false
attribute [local go_sem] Oper.semAt_some

/-- Half-edges' cells and what they stand for, each with lines of its own. -/
def Ech (base : Nat) (W : World) (es : List HR) (hs : List HS) : Prop := ∀ i, i < hs.length → ∃ a c, es.getD i HR.z = (hs.getD i HS.z).on a c ∧ Own base W (hs.getD i HS.z) a c
theorem Ech.only {base n cap : Nat} {W W' : World} {es ds : List HR} {hs : List HS} {a : Option Addr} (h : Ech base W es hs) (L : LstH W a n cap ds) (o : Only (atL a) W W') : Ech base W' es hs := fun i hi => by
  obtain ⟨a', c', e, O⟩ := h i hi
  refine ⟨a', c', e, O.lst.of_block fun g off e' => o.block g (O.lst.lt' e') ?_, O.new⟩
  rintro ⟨off2, e2⟩
  subst e2
  rcases O.lst.mem with ⟨e3, _⟩ | ⟨g', off', cur, e3, hh, _⟩
  · rw [e3] at e'; cases e'
  · rw [e3] at e'; cases e'
    exact L.ne_cells hh (by decide) rfl
theorem Ech.hs {base n cap : Nat} {W : World} {es : List HR} {hs : List HS} {a : Option Addr} (h : Ech base W es hs) (L : LstH W a n cap es) (hl : es.length = hs.length) (hn : hs.length * 64 ≤ 140737488355328) (hf : ∀ j, j < hs.length → (hs.getD j HS.z).ls.length * 40 ≤ 140737488355328) : n = hs.length ∧ Hs W a hs.length cap hs := by
  have e : n = hs.length := L.size.symm.trans hl
  subst e
  refine ⟨rfl, rfl, es, L.rd hn, fun i hi => ?_⟩
  obtain ⟨a', c', e', O⟩ := h i hi
  exact ⟨a', c', e', O.rd (hf i hi)⟩
theorem getD_erase {α : Type} (l : List α) (p i : Nat) (z : α) : (l.eraseIdx p).getD i z = if i < p then l.getD i z else l.getD (i + 1) z := by
  rw [List.getD_eq_getElem?_getD, List.getElem?_eraseIdx]
  split <;> rw [List.getD_eq_getElem?_getD]
theorem Ech.erase {base : Nat} {W : World} {es : List HR} {hs : List HS} (h : Ech base W es hs) (p : Nat) (hp : p < hs.length) : Ech base W (es.eraseIdx p) (hs.eraseIdx p) := fun i hi => by
  rw [List.length_eraseIdx, if_pos hp] at hi
  rw [getD_erase, getD_erase]
  split
  · exact h i (by omega)
  · exact h (i + 1) (by omega)
def dropH (k : Int) (l : List HS) : List HS := if hitH k l = true then l.eraseIdx (posH k l) else l
theorem erase_few {hs : List HS} (p : Nat) (hp : p < hs.length) (h : ∀ j, j < hs.length → (hs.getD j HS.z).ls.length * 40 ≤ 140737488355328) : ∀ j, j < (hs.eraseIdx p).length → ((hs.eraseIdx p).getD j HS.z).ls.length * 40 ≤ 140737488355328 := fun j hj => by
  rw [List.length_eraseIdx, if_pos hp] at hj
  rw [getD_erase]
  split
  · exact h j (by omega)
  · exact h (j + 1) (by omega)
set_option maxRecDepth 100000 in
set_option maxHeartbeats 8000000 in
theorem drop_any (key : Int) (A : Option Addr) (c : Nat) (hs : List HS) (w : World) (P : Hs w A hs.length c hs) : Calls Try.prog 18 #[.slice A hs.length c, .int .i64 key] w fun e w' => ∃ a' c', e = .returned (.tuple #[.slice a' (dropH key hs).length c', .bool (hitH key hs)]) ∧ Hs w' a' (dropH key hs).length c' (dropH key hs) ∧ Below w.heap.size w w' := by
  obtain ⟨rs, R, PK⟩ := P.mem
  have ee := peers_same R.size (fun i hi => by obtain ⟨a, c, e, _⟩ := PK i hi; rw [e]; rfl)
  have KT := fun W => toward_any A hs.length c W
  have KP := fun W (b : Below w.heap.size w W) (o : One W w.heap.size (.slice A hs.length c)) => placeI_any w.heap.size A hs.length c rs key W (R.below b) o
  rw [pos_hs ee, hit_hs ee] at KP
  have HSM : Hid (hs.length * 64 ≤ 140737488355328) := P.small
  have HFW : Hid (∀ j, j < hs.length → (hs.getD j HS.z).ls.length * 40 ≤ 140737488355328) := P.few
  have hle : posH key hs ≤ hs.length := pos_le _ _
  have hit' : hitH key hs = true → posH key hs < hs.length := hit_lt
  have KC := fun W (b : Below w.heap.size w W) => hcopy_any A c hs W (P.below b)
  obtain ⟨D, hD⟩ : ∃ D, dropH key hs = D := ⟨_, rfl⟩
  obtain ⟨p, hp⟩ : ∃ p : Nat, posH key hs = p := ⟨_, rfl⟩
  obtain ⟨b, hb⟩ : ∃ b : Bool, hitH key hs = b := ⟨_, rfl⟩
  rw [hD]
  unfold dropH at hD
  rw [hb, hp] at hD
  rw [hp, hb] at hit' KP
  rw [hp] at hle
  rw [hb]
  have HD : Hid ((if b = true then hs.eraseIdx p else hs) = D) := hD
  have HIT : Hid (b = true → p < hs.length) := hit'
  have HLE : Hid (p ≤ hs.length) := hle
  have hcmp : decide ((p : Int) < toN p b) = b := by
    cases b with
    | false => exact decide_eq_false (by show ¬ (p : Int) < (p : Int); omega)
    | true => exact decide_eq_true (by show (p : Int) < (p : Int) + 1; omega)
  clear ee PK R hD hit' hle hp hb P
  go_enter Try.func18, Try.ntmps18
  go_wp2_with (first
    | (go_at_call 46; refine (KT _).mono ?_; rintro e w2 ⟨rfl, hw2⟩; have B2 : Below w.heap.size w w2 := (by rw [hw2]; exact (Below.refl _ _).alloc (Nat.le_refl _) _); have One2 : One w2 w.heap.size (.slice A hs.length c) := (by rw [hw2]; exact One.new _ _ _); clear hw2)
    | (go_at_call 49; refine (KP _ B2 One2).mono ?_; rintro e w3 ⟨rfl, b3⟩; have B3 := B2.trans (b3.mono B2.size); clear b3 One2 KP)
    | (go_at_call 23; refine (KC _ B3).mono ?_; rintro e w5 ⟨v5, es, rfl, C5⟩; obtain ⟨a5, c5, rfl, L5, N5⟩ := own_lstH C5.row C5.len)
    | (go_at_call 51; refine (delete_anyH a5 hs.length c5 es p b _ L5 HLE.out HIT.out).mono ?_; rintro e w6 ⟨n6, rfl, L6, o6⟩))
  have E5 : Ech w3.heap.size w5 es hs := C5.each
  have E6 := E5.only L5 o6
  have B6 : Below w.heap.size w w6 := (B3.trans (C5.below.mono B3.size)).trans (o6.below (by have := B3.size; have := C5.below.size; omega) (fun q ⟨off, e⟩ => by have := N5 q off e; have := B3.size; omega))
  have fin : n6 = D.length ∧ Hs w6 a5 D.length c5 D := by
    rw [← HD.out]
    have hs1 := HSM.out
    cases b with
    | false =>
      rw [if_neg (by decide)] at L6 ⊢
      exact E6.hs L6 C5.len HSM.out HFW.out
    | true =>
      rw [if_pos rfl] at L6 ⊢
      have hpl := HIT.out rfl
      have hl1 : (hs.eraseIdx p).length = hs.length - 1 := by rw [List.length_eraseIdx, if_pos hpl]
      have hl2 : (es.eraseIdx p).length = hs.length - 1 := by rw [List.length_eraseIdx, C5.len, if_pos hpl]
      exact (E6.erase p hpl).hs L6 (by rw [hl1, hl2]) (by rw [hl1]; omega) (erase_few p hpl HFW.out)
  obtain ⟨e6, H6⟩ := fin
  subst e6
  refine bodyPost_ret (results_tmp2 rfl _ _ _) rfl ⟨a5, c5, ?_, H6, B6⟩
  first | rfl | (simp [hcmp]; done)
end Go.Proofs.Ytacefkchhcpgaaa
