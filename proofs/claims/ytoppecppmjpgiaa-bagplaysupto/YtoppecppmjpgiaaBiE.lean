/-
  slices.SortFunc over a list of pairs of one's own, by byNodes: there is one order.
-/
import Derived.Test.YtoppecppmjpgiaaBiD
import Derived.Test.YtoppecppmjpgiaaShelf
import Derived.Laws.OwnMore
namespace Go.Proofs.Ytoppecppmjpgiaa
open Go.ChangeShapes Go.WideShapes Go.ChangeAt Go.RowKit Go.Maps Go.Shelf Go.Sort
set_option linter.unusedVariables false
set_option linter.unusedSimpArgs false

/-- One pair stands ahead of another one. -/
abbrev ltP (x y : Int × Int) : Prop := x.1 < y.1 ∨ (x.1 = y.1 ∧ x.2 < y.2)
theorem lt_lkz (x y : Int × Int) : ltOf lkz x y = decide (ltP x y) := by
  obtain ⟨x0, x1⟩ := x
  obtain ⟨y0, y1⟩ := y
  unfold ltOf lkz orz cz ltP
  rcases Int.lt_trichotomy x0 y0 with h | h | h
  · simp [h]
  · subst h
    rcases Int.lt_trichotomy x1 y1 with k | k | k
    · simp [k]
    · subst k; simp
    · simp [k, Int.not_lt.2 (Int.le_of_lt k)]
  · have h1 : ¬ x0 < y0 := by omega
    have h2 : ¬ x0 = y0 := by omega
    simp [h, h1, h2]
theorem swoL : SWO (ltOf lkz) where
  irrefl x := by rw [lt_lkz]; simp [ltP]
  trans x y z h1 h2 := by rw [lt_lkz, decide_eq_true_eq] at *; unfold ltP at *; omega
  ntrans x y z h1 h2 := by rw [lt_lkz, decide_eq_false_iff_not] at *; unfold ltP at *; omega
def encL (x : Int × Int) : List Value := [.int .i64 x.1, .int .i64 x.2]
theorem cmpLays37 (blk off size : Nat) (w : World) : CmpLays Try.prog 37 #[] encL 2 lkz blk off size w :=
  fun _ _ _ _ x y => byNodes_any x.1 x.2 y.1 y.2 _
theorem below_sort {α : Type} [Inhabited α] (enc : α → List Value) (k : Nat) (w : World) (blk off n base : Nat) (d : Array α) (os : Array Obj) (hb : base ≤ blk) (hw : base ≤ w.heap.size) : Below base w (sortWorldK enc k w blk off n d os) := by
  refine ⟨rfl, rfl, rfl, by unfold sortWorldK putRowK putRow mapBlock Sort.ahead grow; simp; try omega, fun q hq => ?_⟩
  have hne : q ≠ blk := by omega
  have hq' : q < w.heap.size := by omega
  unfold sortWorldK putRowK putRow mapBlock Sort.ahead grow
  simp only
  rw [Array.getElem?_append_left (by simp; omega)]
  rw [Array.getElem?_modify]
  rw [if_neg (by omega)]
theorem pcs_at (ss : List (Int × Int)) (j : Nat) (hj : j < ss.length * 2) : (pcs ss)[j]? = some ((encL ss.toArray[j / 2]!)[j % 2]!) := by
  have hd : j / 2 < ss.length := by omega
  have hg : (ss.map toLK)[j / 2]? = some (toLK ss[j / 2]) := by simp [hd]
  have e := lcs_get (ss.map toLK) (j / 2) (j % 2) _ hg (by omega)
  rw [show 2 * (j / 2) + j % 2 = j by omega] at e
  show (lcs (ss.map toLK))[j]? = _
  rw [e]
  have h2 : ss.toArray[j / 2]! = ss[j / 2] := by simp [hd]
  rw [h2]
  have h3 : j % 2 = 0 ∨ j % 2 = 1 := by omega
  rcases h3 with h | h <;> rw [h] <;> rfl
theorem holds_own {W : World} {base g m cap : Nat} {ss : List (Int × Int)} (h : W.ownsRow base 65 2 (.slice (some ⟨g, 0, none⟩) m cap) m (pcs ss)) (hm : ss.length = m) : HoldsK encL 2 W g 0 ss.toArray := by
  intro j hj
  rw [size_flatK] at hj
  have hj' : j < m * 2 := by simpa [hm] using hj
  rw [get_flatK _ _ _ _ hj, Nat.zero_add]
  refine ⟨?_, h.frozenAt j⟩
  rw [h.cellAt j hj', pcs_at ss j (by omega)]
  rfl
theorem lks_of {W : World} {g cap : Nat} {d : Array (Int × Int)} (h : HoldsK encL 2 W g 0 d) (hc : d.size ≤ cap) (hm : cap ≤ 9223372036854775807) (hg : g < W.heap.size) : Lks W (some ⟨g, 0, none⟩) d.size cap (d.toList.map toLK) := by
  refine ⟨by simp, hc, hm, .inr ⟨g, 0, rfl, hg, fun i hi j u hu => ?_⟩⟩
  have hj : j < 2 := (List.getElem?_eq_some_iff.1 hu).1
  have hx := (h (i * 2 + j) (by rw [size_flatK]; omega)).1
  rw [get_flatK _ _ _ _ (by omega), show (i * 2 + j) / 2 = i by omega, show (i * 2 + j) % 2 = j by omega] at hx
  rw [show (0 + i * 2 + j) = 0 + (i * 2 + j) by omega, hx]
  have e : (d.toList.map toLK).getD i LK.z = toLK d[i]! := by simp [List.getD, hi]
  rw [e] at hu
  rw [← hu]
  have h3 : j = 0 ∨ j = 1 := by omega
  rcases h3 with rfl | rfl <;> rfl
/-- The pairs rise. -/
def Rise (ts : List (Int × Int)) : Prop := ts.Pairwise ltP
theorem rise_of {ts : List (Int × Int)} (hn : ts.Nodup) (hs : ts.Pairwise fun a b => ¬ ltP b a) : Rise ts := by
  refine (List.Pairwise.and hn hs).imp ?_
  rintro a b ⟨h1, h2⟩
  unfold ltP at *
  have : ¬ (a.1 = b.1 ∧ a.2 = b.2) := fun h => h1 (Prod.ext h.1 h.2)
  omega
theorem rise_one {ts us : List (Int × Int)} (h1 : Rise ts) (h2 : Rise us) (hp : ts.Perm us) : ts = us :=
  List.Perm.eq_of_pairwise (le := ltP) (fun a b _ _ h k => by unfold ltP at *; omega) h1 h2 hp
theorem rise_nodup {ts : List (Int × Int)} (h : Rise ts) : ts.Nodup := h.imp fun {a b} h e => by subst e; unfold ltP at h; omega
theorem sorted_list {d : Array (Int × Int)} (h : SortedIn (ltOf lkz) 0 d.size d) : d.toList.Pairwise fun a b => ¬ ltP b a := by
  rw [List.pairwise_iff_getElem]
  intro i j hi hj hij
  have hi' : i < d.size := by simpa using hi
  have hj' : j < d.size := by simpa using hj
  have := h i j (Nat.zero_le _) hij hj'
  rw [lt_lkz] at this
  rw [getElem!_pos d i hi', getElem!_pos d j hj'] at this
  simpa using this
set_option maxHeartbeats 1000000 in
/-- SortFunc over a row of one's own. -/
theorem sort_some (base g cap : Nat) (ss : List (Int × Int)) (w : World) (hown : w.ownsRow base 65 2 (.slice (some ⟨g, 0, none⟩) ss.length cap) ss.length (pcs ss)) (hn : ss.Nodup) (hbase : base ≤ w.heap.size) (hsz : ss.length < 4611686018427387904) :
    Calls Try.prog 51 #[.slice (some ⟨g, 0, none⟩) ss.length cap, .func (.func 37) #[] #[]] w fun e w' => e = .returned (.tuple #[]) ∧ Below base w w' ∧ ∃ ts, ts.Perm ss ∧ Rise ts ∧ Lks w' (some ⟨g, 0, none⟩) ss.length cap (ts.map toLK) := by
  have eg : ∀ args w, (callFunc 37 args).run Try.prog w = .ok (.enter 37 args) w := enters_of Try.func37 (by kernel_rfl) rfl
  have hH := holds_own hown rfl
  have hlt := hown.lt g rfl
  have hcap : ss.length ≤ cap ∧ cap ≤ 9223372036854775807 := by
    rcases hown.2 with ⟨e, _⟩ | ⟨g', cap', cur, e, _, _, h1, h2, _⟩
    · cases e
    · cases e; unfold maxLen at h2; omega
  have hcon := AnyQ.slices_SortFunc Try.sortLnk 2 Try.isAgg65 Try.sizeOf65 encL (fun _ => rfl) (fun x v hv => by simp [encL] at hv; rcases hv with rfl | rfl <;> rfl) lkz swoL 37 #[] g 0 cap ss.toArray w eg (cmpLays37 g 0 ss.toArray.size w) hH hlt.2 (by simpa using hsz)
  have hcon' : Calls Try.prog 51 #[.slice (some ⟨g, 0, none⟩) ss.length cap, .func (.func 37) #[] #[]] w _ := hcon
  refine hcon'.mono ?_
  rintro e w' ⟨rfl, d', n, os, hp, hs, rfl⟩
  have hsize : d'.size = ss.length := by simpa using hp.1
  have hperm : d'.toList.Perm ss := by
    have h := hp.2.2
    rw [show ss.toArray.size = d'.size by simp [hsize]] at h
    have e1 : (d'.extract 0 d'.size).toList = d'.toList := by simp
    have e2 : (ss.toArray.extract 0 d'.size).toList = ss := by simp [hsize]
    rwa [e1, e2] at h
  have hH' := holdsK_sortWorldK encL 2 w g 0 n ss.toArray d' os hlt.2 hH (by simpa using hp.1)
  have hs' : SortedIn (ltOf lkz) 0 d'.size d' := by rw [show d'.size = ss.toArray.size by simp [hsize]]; exact hs
  refine ⟨rfl, below_sort encL 2 w g 0 n base d' os hlt.1 hbase, d'.toList, hperm, rise_of (hperm.nodup_iff.2 hn) (sorted_list hs'), ?_⟩
  have L := lks_of hH' (cap := cap) (by omega) hcap.2 (lt_sortWorldK encL 2 w g 0 n d' os hlt.2)
  rwa [hsize] at L
end Go.Proofs.Ytoppecppmjpgiaa
