/-
  Find.
-/
import Derived.Test.YteoiogjaecpddaaH1
import Derived.Test.YteoiogjaecpddaaC9
namespace Go.Proofs.Yteoiogjaecpddaa
open Go.ChangeShapes Go.WideShapes Go.ChangeAt Go.RowKit Go.Maps Go.Shelf
set_option linter.unusedVariables false
set_option linter.unusedSimpArgs false
attribute [local go_sem] Oper.semAt_some

abbrev posH (k : Int) (l : List HS) : Nat := pos (fun x : HS => ltI x.peer k) l
abbrev hitH (k : Int) (l : List HS) : Bool := hit (fun x : HS => ltI x.peer k) (fun x => eqI x.peer k) l
theorem pos_map {α β : Type} (f : α → β) (lt : β → Bool) : ∀ l : List α, pos lt (l.map f) = pos (fun x => lt (f x)) l
  | [] => rfl
  | x :: r => by
    have ih := pos_map f lt r
    simp only [List.map_cons, pos, ih]
theorem hit_map {α β : Type} (f : α → β) (lt eq : β → Bool) (l : List α) : hit lt eq (l.map f) = hit (fun x => lt (f x)) (fun x => eq (f x)) l := by
  unfold hit
  rw [pos_map, List.getElem?_map]
  cases l[pos (fun x => lt (f x)) l]? <;> rfl
theorem peers_same {rs : List HR} {hs : List HS} (hl : rs.length = hs.length) (h : ∀ i, i < hs.length → (rs.getD i HR.z).peer = (hs.getD i HS.z).peer) : rs.map HR.peer = hs.map HS.peer := by
  refine List.ext_getElem (by simp [hl]) fun i h1 h2 => ?_
  have hi : i < hs.length := by simpa using h2
  have hr : i < rs.length := by omega
  have := h i hi
  rw [List.getD_eq_getElem?_getD, List.getD_eq_getElem?_getD, List.getElem?_eq_getElem hr, List.getElem?_eq_getElem hi] at this
  simpa using this
theorem pos_hs {rs : List HR} {hs : List HS} (e : rs.map HR.peer = hs.map HS.peer) (k : Int) : posI k rs = posH k hs := by
  have h1 := pos_map HR.peer (fun p => ltI p k) rs
  have h2 := pos_map HS.peer (fun p => ltI p k) hs
  rw [e, h2] at h1
  exact h1.symm
theorem hit_hs {rs : List HR} {hs : List HS} (e : rs.map HR.peer = hs.map HS.peer) (k : Int) : hitI k rs = hitH k hs := by
  have h1 := hit_map HR.peer (fun p => ltI p k) (fun p => eqI p k) rs
  have h2 := hit_map HS.peer (fun p => ltI p k) (fun p => eqI p k) hs
  rw [e, h2] at h1
  exact h1.symm
def findH (k : Int) (l : List HS) : HS := if hitH k l = true then l.getD (posH k l) HS.z else HS.z
theorem below_row {w W : World} {g : Nat} (b : Below w.heap.size w W) (hg : w.heap.size ≤ g) (cs : Array Value) : Below w.heap.size w (W.setRow g cs) := (Only.setRow (C := none_) (Only.of_below b) (fun k => absurd k (by omega)) _).calm
set_option maxRecDepth 100000 in
set_option maxHeartbeats 8000000 in
theorem find_any (key : Int) (A : Option Addr) (c : Nat) (hs : List HS) (w : World) (P : Hs w A hs.length c hs) : Calls Try.prog 53 #[.slice A hs.length c, .int .i64 key] w fun e w' => ∃ a' c', e = .returned (.tuple #[((findH key hs).on a' c').val, .bool (hitH key hs)]) ∧ Own w.heap.size w' (findH key hs) a' c' ∧ Below w.heap.size w w' := by
  obtain ⟨rs, R, PK⟩ := P.mem
  have ee := peers_same R.size (fun i hi => by obtain ⟨a, c, e, _⟩ := PK i hi; rw [e]; rfl)
  have KT := fun W => toward_any A hs.length c W
  have KP := fun W (b : Below w.heap.size w W) (o : One W (w.heap.size + 1) (.slice A hs.length c)) => placeI_any (w.heap.size + 1) A hs.length c rs key W (R.below b) o
  rw [pos_hs ee, hit_hs ee] at KP
  have T1 : (w.alloc (.cells z6 70)).heap[w.heap.size]? = some (.cells z6 70 (0, 0)) := heap_new rfl
  have B1 : Below w.heap.size w (w.alloc (.cells z6 70)) := (Below.refl _ _).alloc (Nat.le_refl _) _
  clear ee PK R
  cases hh : hitH key hs with
  | false =>
    rw [hh, toN_false] at KP
    rw [show findH key hs = HS.z from by unfold findH; rw [hh]; rfl]
    obtain ⟨p, hp⟩ : ∃ p : Nat, posH key hs = p := ⟨_, rfl⟩
    rw [hp] at KP
    clear hp hh P
    go_enter Try.func53, Try.ntmps53
    go_wp2_with (first
      | (go_at_call 64; refine (KT _).mono ?_; rintro e w2 ⟨rfl, hw2⟩; have b2 : Below (w.alloc (.cells z6 70)).heap.size (w.alloc (.cells z6 70)) w2 := (by rw [hw2]; exact (Below.refl _ _).alloc (Nat.le_refl _) _); have One2 : One w2 (w.heap.size + 1) (.slice A hs.length c) := (by rw [hw2]; exact (One.new _ _ _).at (by simp)); clear hw2)
      | (go_at_call 63; refine (KP _ (B1.trans (b2.mono B1.size)) One2).mono ?_; rintro e w3 ⟨rfl, b3⟩; have b13 := b2.trans (b3.mono b2.size); have X3 := (b13.block _ (row_lt T1)).trans T1; have B3 := B1.trans (b13.mono B1.size); clear b2 b3 One2)
      | ((with_reducible show wpList _ _ _ (Oper.mk _ (Op.store 70 _ _) _ _ _ _ :: _) _ _); refine wpList_store24row rfl _ _ rfl HR.z X3 rfl rfl rfl ?_))
    refine bodyPost_ret (results_ct rfl _ _ w.heap.size _ rfl (load_24 (d := HR.z) (setRow_heap _ _ _ _ _ _ X3))) rfl ⟨none, 0, rfl, ⟨lstL_nil _, fun g off e => by cases e⟩, below_row B3 (Nat.le_refl _) _⟩
  | true =>
    have hlt : posH key hs < hs.length := hit_lt hh
    rw [hh, toN_true] at KP
    rw [show findH key hs = hs.getD (posH key hs) HS.z from by unfold findH; rw [hh]; rfl]
    obtain ⟨p, hp⟩ : ∃ p : Nat, posH key hs = p := ⟨_, rfl⟩
    rw [hp] at KP hlt ⊢
    obtain ⟨g, o, a1, c1, rfl, k10, r10, R10⟩ := P.at p hlt
    obtain ⟨x, e1⟩ : ∃ x, hs.getD p HS.z = x := ⟨_, rfl⟩
    rw [e1] at r10 R10 ⊢
    have hpI : (p : Int) < (hs.length : Int) := by omega
    have hne : ¬ ((p : Int) = (p : Int) + 1) := by omega
    clear hp hh P e1 hlt
    go_enter Try.func53, Try.ntmps53
    go_wp2_with (first
      | (go_at_call 64; refine (KT _).mono ?_; rintro e w2 ⟨rfl, hw2⟩; have b2 : Below (w.alloc (.cells z6 70)).heap.size (w.alloc (.cells z6 70)) w2 := (by rw [hw2]; exact (Below.refl _ _).alloc (Nat.le_refl _) _); have One2 : One w2 (w.heap.size + 1) (.slice (some ⟨g, o, none⟩) hs.length c) := (by rw [hw2]; exact (One.new _ _ _).at (by simp)); clear hw2)
      | (go_at_call 63; refine (KP _ (B1.trans (b2.mono B1.size)) One2).mono ?_; rintro e w3 ⟨rfl, b3⟩; have b13 := b2.trans (b3.mono b2.size); have X3 := (b13.block _ (row_lt T1)).trans T1; have B3 := B1.trans (b13.mono B1.size); clear b2 b3 One2)
      | ((with_reducible show wpList _ _ _ (Oper.mk _ (Op.load 70 _) _ _ _ _ :: _) _ _); refine wpList_load24 rfl _ rfl g (o + p * 6) (x.on a1 c1) rfl (range_later r10 k10 B3) ?_)
      | (go_at_call 65; refine (own_any x a1 c1 _ (RdL.below R10 B3)).mono ?_; rintro e w5 ⟨a2, c2, rfl, O5, b5⟩; have X5 := (b5.block _ (row_lt X3)).trans X3; have hz3 := row_lt X3; have B5 := B3.trans (b5.mono B3.size))
      | ((with_reducible show wpList _ _ _ (Oper.mk _ (Op.store 70 _ _) _ _ _ _ :: _) _ _); refine wpList_store24row rfl _ _ rfl (x.on a2 c2) X5 rfl rfl rfl ?_))
    refine bodyPost_ret (results_ct rfl _ _ w.heap.size _ rfl (load_24 (d := x.on a2 c2) (setRow_heap _ _ _ _ _ _ X5))) rfl ⟨a2, c2, rfl, ⟨O5.lst.of_block fun g off e => setRow_other _ _ _ _ (by have := O5.new g off e; omega), fun g off e => by have := O5.new g off e; omega⟩, below_row B5 (Nat.le_refl _) _⟩
end Go.Proofs.Yteoiogjaecpddaa
