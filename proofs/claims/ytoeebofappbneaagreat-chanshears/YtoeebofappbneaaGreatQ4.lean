/-
  The mathematics of states: fit ones, begun anew, found, set, grown older.
-/
import Derived.Test.YtoeebofappbneaaGreatT0
import Derived.Test.YtoeebofappbneaaGreatQ2
import Derived.Test.YtoeebofappbneaaGreatEX6
namespace Go.Proofs.YtoeebofappbneaaGreat
open Go.ChangeShapes Go.WideShapes Go.ChangeAt Go.RowKit Go.Maps Go.Shelf
set_option linter.unusedVariables false
set_option linter.unusedSimpArgs false

/-- Is a state one that may be said under its record? -/
def okS (s : ST) : Bool := if s.c.al = true then ((s.h || (s.i == 0)) && (E.flowB s.i && (if s.c.kd = 4 then E.fitB s.mn && E.fitB s.mx else E.sameX s.mn E.EX.z && E.sameX s.mx E.EX.z))) else (!s.h && ((s.i == 0) && (E.sameX s.mn E.EX.z && E.sameX s.mx E.EX.z)))
def recs (l : List ST) : List CH := l.map ST.c
def fitL (l : List ST) : Bool := fitsB (recs l) && l.all okS
def fitS (id : Int) (l : List ST) : Bool := nodeB id && fitL l
def begs (c : CH) : ST := ⟨c, false, 0, E.EX.z, E.EX.z⟩
def anw : List ST → CH → List ST
  | [], c => [begs c]
  | s :: t, c => if ltN s.c.nm c.nm = true then s :: anw t c else if ltN c.nm s.c.nm = true then begs c :: s :: t else begs c :: t
def pickA (a : ST) (L : List ST) (r : CH) : ST := L.foldl (fun s k => if eqC k.c r = true then k else s) a
def bgn (L : List ST) (rs : List CH) : List ST := rs.map (fun r => pickA (begs r) L r)
theorem recs_len (l : List ST) : (recs l).length = l.length := List.length_map _
theorem recs_mem {l : List ST} {s : ST} (h : s ∈ l) : s.c ∈ recs l := List.mem_map_of_mem h
theorem mem_recs {l : List ST} {c : CH} (h : c ∈ recs l) : ∃ s, s ∈ l ∧ s.c = c := List.mem_map.1 h
theorem fitL_iff {l : List ST} : fitL l = true ↔ fitsB (recs l) = true ∧ ∀ s, s ∈ l → okS s = true := by
  unfold fitL
  rw [Bool.and_eq_true, List.all_eq_true]
theorem fitS_iff {id : Int} {l : List ST} : fitS id l = true ↔ nodeB id = true ∧ fitL l = true := by
  unfold fitS
  rw [Bool.and_eq_true]
theorem fitL_len {l : List ST} (h : fitL l = true) : l.length ≤ 8 := by
  have := (fitsB_iff.1 (fitL_iff.1 h).1).1
  rwa [recs_len] at this
theorem fitL_rise {l : List ST} (h : fitL l = true) : Rise (recs l) := fitsB_rise (fitL_iff.1 h).1
theorem begs_ok (c : CH) : okS (begs c) = true := by
  unfold okS begs
  dsimp only
  cases c.al with
  | true => rw [if_pos rfl]; split <;> decide
  | false => rw [if_neg (by decide)]; decide
theorem anw_recs (l : List ST) (c : CH) : recs (anw l c) = ins (recs l) c := by
  induction l with
  | nil => rfl
  | cons s t ih =>
    show recs (if ltN s.c.nm c.nm = true then s :: anw t c else if ltN c.nm s.c.nm = true then begs c :: s :: t else begs c :: t) = (if ltN s.c.nm c.nm = true then s.c :: ins (recs t) c else if ltN c.nm s.c.nm = true then c :: s.c :: recs t else c :: recs t)
    split
    · rw [← ih]; rfl
    · split <;> rfl
theorem anw_mem {l : List ST} {c : CH} {s : ST} (h : s ∈ anw l c) : s = begs c ∨ s ∈ l := by
  induction l with
  | nil => exact .inl (by simpa [anw] using h)
  | cons a t ih =>
    rw [anw] at h
    split at h
    · rcases List.mem_cons.1 h with rfl | h
      · exact .inr (.head _)
      · exact (ih h).imp id (.tail _)
    · split at h
      · rcases List.mem_cons.1 h with rfl | h
        · exact .inl rfl
        · exact .inr h
      · rcases List.mem_cons.1 h with rfl | h
        · exact .inl rfl
        · exact .inr (.tail _ h)
theorem anw_other {l : List ST} {c : CH} {s : ST} (h : s ∈ l) (hn : s.c.nm ≠ c.nm) : s ∈ anw l c := by
  induction l with
  | nil => cases h
  | cons a t ih =>
    rw [anw]
    rcases three a.c.nm c.nm with ⟨h1, h2, h3⟩ | ⟨h1, h2, h3⟩ | ⟨h1, h2, h3⟩
    · rw [if_pos h1]
      rcases List.mem_cons.1 h with rfl | h
      · exact .head _
      · exact .tail _ (ih h)
    · rw [if_neg (by rw [h2]; decide), if_pos h1]
      exact .tail _ h
    · rw [if_neg (by rw [h2]; decide), if_neg (by rw [h3]; decide)]
      rcases List.mem_cons.1 h with rfl | h
      · exact absurd h1 hn
      · exact .tail _ h
theorem anw_len (l : List ST) (c : CH) : (anw l c).length ≤ l.length + 1 := by
  rw [← recs_len, anw_recs, ← recs_len l]
  exact ins_len _ _
theorem anw_fit {l : List ST} {c : CH} (h : fitL l = true) (hi : fitsB (ins (recs l) c) = true) : fitL (anw l c) = true := by
  rw [fitL_iff, anw_recs]
  refine ⟨hi, fun s hs => ?_⟩
  rcases anw_mem hs with rfl | hs
  · exact begs_ok c
  · exact (fitL_iff.1 h).2 s hs
theorem pickA_none {L : List ST} {r : CH} (h : ∀ k, k ∈ L → k.c ≠ r) (a : ST) : pickA a L r = a := by
  induction L generalizing a with
  | nil => rfl
  | cons k t ih =>
    show pickA (if eqC k.c r = true then k else a) t r = a
    rw [if_neg (fun e => h k (.head _) ((eqC_iff _ _).1 e))]
    exact ih (fun x hx => h x (.tail _ hx)) a
theorem pickA_self {L : List ST} (hl : Rise (recs L)) {s : ST} (hs : s ∈ L) (a : ST) : pickA a L s.c = s := by
  induction L generalizing a with
  | nil => cases hs
  | cons k t ih =>
    have hp := List.pairwise_cons.1 hl
    show pickA (if eqC k.c s.c = true then k else a) t s.c = s
    rcases List.mem_cons.1 hs with rfl | hs
    · rw [if_pos (eqC_self _)]
      exact pickA_none (fun x hx e => by
        have := hp.1 x.c (recs_mem hx)
        rw [e, lt_irr] at this
        cases this) _
    · rw [if_neg (fun e => by
        have := hp.1 s.c (recs_mem hs)
        rw [(eqC_iff _ _).1 e, lt_irr] at this
        cases this)]
      exact ih hp.2 hs a
theorem bgn_same {L : List ST} (hl : Rise (recs L)) (l : List ST) (h : ∀ s, s ∈ l → s ∈ L) : bgn L (recs l) = l := by
  induction l with
  | nil => rfl
  | cons s t ih =>
    show pickA (begs s.c) L s.c :: bgn L (recs t) = s :: t
    rw [pickA_self hl (h s (.head _)), ih (fun x hx => h x (.tail _ hx))]
theorem bgn_ins {L : List ST} {c : CH} (hl : Rise (recs L)) (hc : ∀ k, k ∈ L → k.c ≠ c) (l : List ST) (h : ∀ s, s ∈ l → s ∈ L) : bgn L (ins (recs l) c) = anw l c := by
  induction l with
  | nil =>
    show [pickA (begs c) L c] = [begs c]
    rw [pickA_none hc]
  | cons s t ih =>
    have hh := ih (fun x hx => h x (.tail _ hx))
    show bgn L (if ltN s.c.nm c.nm = true then s.c :: ins (recs t) c else if ltN c.nm s.c.nm = true then c :: s.c :: recs t else c :: recs t) = (if ltN s.c.nm c.nm = true then s :: anw t c else if ltN c.nm s.c.nm = true then begs c :: s :: t else begs c :: t)
    have e1 := bgn_same hl (s :: t) h
    have e2 := bgn_same hl t (fun x hx => h x (.tail _ hx))
    split
    · show pickA (begs s.c) L s.c :: bgn L (ins (recs t) c) = _
      rw [pickA_self hl (h s (.head _)), hh]
    · split
      · show pickA (begs c) L c :: bgn L (recs (s :: t)) = _
        rw [pickA_none hc, e1]
      · show pickA (begs c) L c :: bgn L (recs t) = _
        rw [pickA_none hc, e2]
theorem bgn_anw {l : List ST} {c : CH} (h : fitL l = true) (hc : ∀ k, k ∈ l → k.c ≠ c) : bgn l (ins (recs l) c) = anw l c := bgn_ins (fitL_rise h) hc l (fun _ h => h)
/-- Learn. -/
def isNew (x : Int) : Bool := decide (x = 4) || decide (x = 3)
def lrnB (l : List ST) (c : CH) : Bool := isNew (lrnW (recs l) c)
def lrnS (l : List ST) (c : CH) : List ST := if lrnB l c = true then anw l c else l
theorem lrnB_ins {l : List ST} {c : CH} (h : lrnB l c = true) : lrnL (recs l) c = ins (recs l) c ∧ (∀ o, lk c.nm (recs l) = some o → c.nw o = true) := by
  unfold lrnB lrnW at h
  unfold lrnL
  cases hk : lk c.nm (recs l) with
  | none =>
    rw [hk] at h
    dsimp only at h ⊢
    by_cases h8 : 8 ≤ (recs l).length
    · rw [if_pos h8] at h; cases h
    · exact ⟨if_neg h8, fun o ho => by cases ho⟩
  | some o =>
    rw [hk] at h
    dsimp only at h ⊢
    by_cases hw : c.nw o = true
    · exact ⟨if_pos hw, fun o2 ho => by cases ho; exact hw⟩
    · rw [if_neg hw] at h
      exfalso
      split at h <;> cases h
theorem nw_ne {c o : CH} (h : c.nw o = true) : o ≠ c := by
  rintro rfl
  rw [show CH.nw o o = nwZ o.ep o.mr o.ep o.mr from rfl, nw_irr] at h
  cases h
theorem new_ne {l : List ST} {c : CH} (hl : Rise (recs l)) (h : ∀ o, lk c.nm (recs l) = some o → c.nw o = true) : ∀ k, k ∈ l → k.c ≠ c := by
  intro k hk e
  have := lk_self hl (recs_mem hk)
  rw [e] at this
  exact nw_ne (h c this) rfl
theorem lrnS_bgn {l : List ST} {c : CH} (hf : fitL l = true) (h : lrnB l c = true) : bgn l (lrnL (recs l) c) = anw l c := by
  have := lrnB_ins h
  rw [this.1]
  exact bgn_anw hf (new_ne (fitL_rise hf) this.2)
theorem lrnS_fit {l : List ST} {c : CH} (hf : fitL l = true) (hc : c.fit = true) : fitL (lrnS l c) = true := by
  unfold lrnS
  split
  · rename_i h
    refine anw_fit hf ?_
    rw [← (lrnB_ins h).1]
    exact (up_lrn (fitL_iff.1 hf).1 hc).1
  · exact hf
theorem lrnB_again {l : List ST} {c : CH} (hf : fitL l = true) : lrnB (lrnS l c) c = false := by
  by_cases h : lrnB l c = true
  · unfold lrnS
    rw [if_pos h]
    unfold lrnB lrnW
    rw [anw_recs, lk_ins (fitL_rise hf), if_pos rfl]
    dsimp only
    rw [show CH.nw c c = false from nw_irr _ _, if_neg (by decide), if_neg (by decide)]
    rfl
  · unfold lrnS
    rw [if_neg h]
    simpa using h
theorem lrnS_again {l : List ST} {c : CH} (hf : fitL l = true) : lrnS (lrnS l c) c = lrnS l c := by
  conv => lhs; unfold lrnS
  rw [if_neg (by rw [show (if lrnB l c = true then anw l c else l) = lrnS l c from rfl, lrnB_again hf]; decide)]
  rfl
/-- Create, Delete. -/
def crS (l : List ST) (id : Int) (name : ByteArray) (kind scale : Int) : List ST := if crE (recs l) name kind scale = 0 then anw l (crM (recs l) id name kind scale) else l
def dlS (l : List ST) (id : Int) (name : ByteArray) : List ST := if dlE (recs l) name = 0 then anw l (dlM (recs l) id name) else l
theorem dlM_nm {l : List CH} {id : Int} {name : ByteArray} (h : dlE l name = 0) : (dlM l id name).nm = name := by
  obtain ⟨o, hk, _⟩ := dl_ok h
  unfold dlM
  rw [hk]
  exact (lk_nm hk).1
theorem crM_new (l : List CH) (id : Int) (name : ByteArray) (kind scale : Int) : ∀ o, lk (crM l id name kind scale).nm l = some o → (crM l id name kind scale).nw o = true := by
  intro o ho
  have ho' : lk name l = some o := ho
  unfold crM CH.nw
  rw [ho']
  exact nw_next _ _ _
theorem dlM_new {l : List CH} {id : Int} {name : ByteArray} (h : dlE l name = 0) : ∀ o, lk (dlM l id name).nm l = some o → (dlM l id name).nw o = true := by
  intro o ho
  rw [dlM_nm h] at ho
  unfold dlM CH.nw
  rw [ho]
  exact nw_next _ _ _
theorem crF {l : List ST} (hf : fitL l = true) (id : Int) (name : ByteArray) (kind scale : Int) : lk name (ins (recs l) (crM (recs l) id name kind scale)) = some (crM (recs l) id name kind scale) := by
  rw [lk_ins (fitL_rise hf)]
  exact if_pos rfl
theorem dlF {l : List ST} (hf : fitL l = true) (id : Int) {name : ByteArray} (h : dlE (recs l) name = 0) : lk name (ins (recs l) (dlM (recs l) id name)) = some (dlM (recs l) id name) := by
  rw [lk_ins (fitL_rise hf), if_pos (dlM_nm h)]
theorem cr_bgn {l : List ST} (hf : fitL l = true) (id : Int) (name : ByteArray) (kind scale : Int) : bgn l (ins (recs l) (crM (recs l) id name kind scale)) = anw l (crM (recs l) id name kind scale) := bgn_anw hf (new_ne (fitL_rise hf) (crM_new _ _ _ _ _))
theorem dl_bgn {l : List ST} (hf : fitL l = true) (id : Int) {name : ByteArray} (h : dlE (recs l) name = 0) : bgn l (ins (recs l) (dlM (recs l) id name)) = anw l (dlM (recs l) id name) := bgn_anw hf (new_ne (fitL_rise hf) (dlM_new h))
theorem node_rng {id : Int} (h : nodeB id = true) : 0 ≤ id ∧ id < 16 := of_decide_eq_true h
theorem crS_fit {l : List ST} (hf : fitL l = true) {id : Int} (hi : nodeB id = true) (name : ByteArray) (kind scale : Int) : fitL (crS l id name kind scale) = true := by
  unfold crS
  split
  · rename_i h
    refine anw_fit hf ?_
    rw [← crX_ok (fitL_rise hf) h]
    exact (up_cr (fitL_iff.1 hf).1 (node_rng hi)).1
  · exact hf
theorem dlS_fit {l : List ST} (hf : fitL l = true) {id : Int} (hi : nodeB id = true) (name : ByteArray) : fitL (dlS l id name) = true := by
  unfold dlS
  split
  · rename_i h
    refine anw_fit hf ?_
    rw [← dlX_ok (fitL_rise hf) h]
    exact (up_dl (fitL_iff.1 hf).1 (node_rng hi)).1
  · exact hf
/-- Where a channel that is alive stands. -/
def isP (name : ByteArray) (s : ST) : Bool := eqN s.c.nm name && s.c.al
def plc (name : ByteArray) (l : List ST) : Option Nat := l.findIdx? (isP name)
def plI (name : ByteArray) (l : List ST) : Int := match plc name l with | some i => (i : Int) | none => -1
def fdT (name : ByteArray) (l : List ST) : ST := match plc name l with | some i => l.getD i ST.z | none => ST.z
theorem plc_some {name : ByteArray} {l : List ST} {i : Nat} (hi : i < l.length) (h : ∀ j, j < i → isP name (l.getD j ST.z) = false) (hp : isP name (l.getD i ST.z) = true) : plc name l = some i := by
  unfold plc
  rw [List.findIdx?_eq_some_iff_getElem]
  have e : ∀ j (h : j < l.length), l.getD j ST.z = l[j] := fun j h => by rw [List.getD_eq_getElem?_getD, List.getElem?_eq_getElem h]; rfl
  refine ⟨hi, by rw [← e i hi]; exact hp, fun j hj => ?_⟩
  rw [← e j (by omega), h j hj]
  decide
theorem plc_none {name : ByteArray} {l : List ST} (h : ∀ j, j < l.length → isP name (l.getD j ST.z) = false) : plc name l = none := by
  unfold plc
  rw [List.findIdx?_eq_none_iff]
  intro s hs
  obtain ⟨j, hj, rfl⟩ := List.getElem_of_mem hs
  have := h j hj
  rwa [List.getD_eq_getElem?_getD, List.getElem?_eq_getElem hj] at this
theorem plc_at {name : ByteArray} {l : List ST} {i : Nat} (h : plc name l = some i) : i < l.length ∧ isP name (l.getD i ST.z) = true ∧ ∀ j, j < i → isP name (l.getD j ST.z) = false := by
  unfold plc at h
  rw [List.findIdx?_eq_some_iff_getElem] at h
  obtain ⟨hi, hp, hn⟩ := h
  have e : ∀ j (h : j < l.length), l.getD j ST.z = l[j] := fun j h => by rw [List.getD_eq_getElem?_getD, List.getElem?_eq_getElem h]; rfl
  refine ⟨hi, by rw [e i hi]; exact hp, fun j hj => ?_⟩
  rw [e j (by omega)]
  simpa using hn j hj
theorem isP_nm {name : ByteArray} {s : ST} (h : isP name s = true) : s.c.nm = name ∧ s.c.al = true := by
  unfold isP at h
  rw [Bool.and_eq_true] at h
  exact ⟨eqN_iff.1 h.1, h.2⟩
theorem plc_map {name : ByteArray} {l : List ST} (f : ST → ST) (hf : ∀ s, (f s).c = s.c) : plc name (l.map f) = plc name l := by
  unfold plc
  rw [List.findIdx?_map]
  congr 1
  funext s
  show isP name (f s) = isP name s
  unfold isP
  rw [hf]
theorem recs_map (l : List ST) (f : ST → ST) (hf : ∀ s, (f s).c = s.c) : recs (l.map f) = recs l := by
  unfold recs
  rw [List.map_map]
  exact List.map_congr_left fun s _ => hf s
theorem recs_set {l : List ST} {i : Nat} {s : ST} (h : (l.getD i ST.z).c = s.c) : recs (l.set i s) = recs l := by
  unfold recs
  rw [List.map_set]
  refine List.ext_getElem? fun j => ?_
  rw [List.getElem?_set]
  split
  · rename_i e
    subst e
    split
    · rename_i hi
      rw [List.length_map] at hi
      rw [List.getElem?_map, List.getElem?_eq_getElem hi, ← h, List.getD_eq_getElem?_getD, List.getElem?_eq_getElem hi]
      rfl
    · rename_i hi
      rw [List.getElem?_eq_none (by omega)]
  · rfl
theorem set_fit {l : List ST} (hf : fitL l = true) {i : Nat} {s : ST} (hc : (l.getD i ST.z).c = s.c) (hs : okS s = true) : fitL (l.set i s) = true := by
  rw [fitL_iff, recs_set hc]
  refine ⟨(fitL_iff.1 hf).1, fun x hx => ?_⟩
  rcases List.mem_or_eq_of_mem_set hx with h | rfl
  · exact (fitL_iff.1 hf).2 x h
  · exact hs
theorem map_fit {l : List ST} (hf : fitL l = true) (f : ST → ST) (hc : ∀ s, (f s).c = s.c) (hs : ∀ s, s ∈ l → okS (f s) = true) : fitL (l.map f) = true := by
  rw [fitL_iff, recs_map l f hc]
  refine ⟨(fitL_iff.1 hf).1, fun x hx => ?_⟩
  obtain ⟨y, hy, rfl⟩ := List.mem_map.1 hx
  exact hs y hy
/-- What an input is told as. -/
def mulE (a b : Int) : Int := if E.flowB a = true ∧ E.flowB b = true ∧ E.flowB (a * b) = true then 0 else 10
def mulV (a b : Int) : Int := if mulE a b = 0 then a * b else 0
def tldE (k x s : Int) : Int := if k = 1 then mulE x s else if k = 2 then (if x ≠ 0 ∧ x ≠ 1 then 49 else mulE x s) else if k = 3 then (if mulE x x = 0 then mulE (x * x) s else 10) else (if E.flowB x = true then 0 else 10)
def tldV (k x s : Int) : Int := if tldE k x s = 0 then (if k = 1 then x * s else if k = 2 then x * s else if k = 3 then x * x * s else x) else 0
theorem mulE_or (a b : Int) : mulE a b = 0 ∨ mulE a b = 10 := by unfold mulE; split <;> simp
theorem mulE_fits {a b : Int} (h : mulE a b = 0) : E.flowB a = true ∧ E.flowB b = true ∧ E.flowB (a * b) = true := by
  unfold mulE at h
  split at h
  · assumption
  · cases h
theorem tld_flow {k x s : Int} (h : tldE k x s = 0) : E.flowB (tldV k x s) = true := by
  unfold tldV
  rw [if_pos h]
  unfold tldE at h
  split at h
  · rename_i h1
    rw [if_pos h1]
    exact (mulE_fits h).2.2
  · rename_i h1
    rw [if_neg h1]
    split at h
    · rename_i h2
      rw [if_pos h2]
      split at h
      · cases h
      · exact (mulE_fits h).2.2
    · rename_i h2
      rw [if_neg h2]
      split at h
      · rename_i h3
        rw [if_pos h3]
        split at h
        · exact (mulE_fits h).2.2
        · cases h
      · rename_i h3
        rw [if_neg h3]
        split at h
        · assumption
        · cases h
def setT (id y : Int) (s : ST) : ST := if s.c.kd = 4 then ⟨s.c, true, y, (E.setX id y s.mn s.mx).1, (E.setX id y s.mn s.mx).2⟩ else ⟨s.c, true, y, s.mn, s.mx⟩
def tickT (id : Int) (s : ST) : ST := if s.c.al = true ∧ s.c.kd = 4 then ⟨s.c, s.h, s.i, (E.tickX id s.h s.i s.mn s.mx).1, (E.tickX id s.h s.i s.mn s.mx).2⟩ else s
def hearT (id : Int) (x y : E.EX) (s : ST) : ST := if s.c.kd = 4 then ⟨s.c, s.h, s.i, (E.hearX id s.mn s.mx x y).1, (E.hearX id s.mn s.mx x y).2⟩ else s
theorem setT_c (id y : Int) (s : ST) : (setT id y s).c = s.c := by unfold setT; split <;> rfl
theorem tickT_c (id : Int) (s : ST) : (tickT id s).c = s.c := by unfold tickT; split <;> rfl
theorem hearT_c (id : Int) (x y : E.EX) (s : ST) : (hearT id x y s).c = s.c := by unfold hearT; split <;> rfl
theorem ok_fits {s : ST} (h : okS s = true) : E.fitB s.mn = true ∧ E.fitB s.mx = true ∧ E.flowB s.i = true := by
  unfold okS at h
  split at h
  · simp only [Bool.and_eq_true] at h
    obtain ⟨_, h2, h3⟩ := h
    split at h3
    · rw [Bool.and_eq_true] at h3
      exact ⟨h3.1, h3.2, h2⟩
    · rw [Bool.and_eq_true, E.sameX_eq, E.sameX_eq] at h3
      rw [h3.1, h3.2]
      exact ⟨E.fit_z, E.fit_z, h2⟩
  · simp only [Bool.and_eq_true] at h
    obtain ⟨_, h2, h3⟩ := h
    rw [E.sameX_eq, E.sameX_eq] at h3
    rw [h3.1, h3.2, show s.i = 0 by simpa using h2]
    exact ⟨E.fit_z, E.fit_z, by decide⟩
theorem ok_live {s : ST} (ha : s.c.al = true) : okS s = ((s.h || (s.i == 0)) && (E.flowB s.i && (if s.c.kd = 4 then E.fitB s.mn && E.fitB s.mx else E.sameX s.mn E.EX.z && E.sameX s.mx E.EX.z))) := by unfold okS; rw [if_pos ha]
theorem setX_fit {id y : Int} (hi : E.nodeB id = true) (hy : E.flowB y = true) {a b : E.EX} (ha : E.fitB a = true) (hb : E.fitB b = true) : E.fitB (E.setX id y a b).1 = true ∧ E.fitB (E.setX id y a b).2 = true :=
  ⟨E.hold_fit _ (E.for_fit _ ha) (E.own_fit hi hy), E.hold_fit _ (E.for_fit _ hb) (E.own_fit hi hy)⟩
theorem setT_ok {id y : Int} (hi : E.nodeB id = true) (hy : E.flowB y = true) {s : ST} (ha : s.c.al = true) (h : okS s = true) : okS (setT id y s) = true := by
  rw [ok_live (by rw [setT_c]; exact ha)]
  obtain ⟨f1, f2, f3⟩ := ok_fits h
  rw [ok_live ha] at h
  simp only [Bool.and_eq_true] at h
  obtain ⟨_, _, h3⟩ := h
  by_cases h4 : s.c.kd = 4
  · have := setX_fit hi hy f1 f2
    simp only [setT, if_pos h4, hy, this.1, this.2]
    rfl
  · rw [if_neg h4] at h3
    simp only [setT, if_neg h4, hy, h3]
    rfl
theorem tickX_fit {id y : Int} {hs : Bool} (hi : E.nodeB id = true) (hy : E.flowB y = true) {a b : E.EX} (ha : E.fitB a = true) (hb : E.fitB b = true) : E.fitB (E.tickX id hs y a b).1 = true ∧ E.fitB (E.tickX id hs y a b).2 = true := by
  unfold E.tickX
  split
  · exact setX_fit hi hy (E.old_fit ha) (E.old_fit hb)
  · exact ⟨E.for_fit _ (E.old_fit ha), E.for_fit _ (E.old_fit hb)⟩
theorem tickT_ok {id : Int} (hi : E.nodeB id = true) {s : ST} (h : okS s = true) : okS (tickT id s) = true := by
  unfold tickT
  split
  · rename_i hk
    obtain ⟨f1, f2, f3⟩ := ok_fits h
    have := tickX_fit (hs := s.h) hi f3 f1 f2
    rw [ok_live hk.1] at h
    refine (ok_live (s := ⟨s.c, s.h, s.i, (E.tickX id s.h s.i s.mn s.mx).1, (E.tickX id s.h s.i s.mn s.mx).2⟩) hk.1).trans ?_
    simp only [Bool.and_eq_true] at h ⊢
    refine ⟨h.1, h.2.1, ?_⟩
    rw [if_pos hk.2, this.1, this.2]
    rfl
  · exact h
theorem hearT_ok {id : Int} {x y : E.EX} (hx : E.fitB x = true) (hy : E.fitB y = true) {s : ST} (ha : s.c.al = true) (h : okS s = true) : okS (hearT id x y s) = true := by
  unfold hearT
  split
  · rename_i hk
    obtain ⟨f1, f2, f3⟩ := ok_fits h
    have h1 : E.fitB (E.hearX id s.mn s.mx x y).1 = true := E.hold_fit _ f1 (E.for_fit _ hx)
    have h2 : E.fitB (E.hearX id s.mn s.mx x y).2 = true := E.hold_fit _ f2 (E.for_fit _ hy)
    rw [ok_live ha] at h
    refine (ok_live (s := ⟨s.c, s.h, s.i, (E.hearX id s.mn s.mx x y).1, (E.hearX id s.mn s.mx x y).2⟩) ha).trans ?_
    simp only [Bool.and_eq_true] at h ⊢
    refine ⟨h.1, h.2.1, ?_⟩
    rw [if_pos hk, h1, h2]
    rfl
  · exact h
/-- Set, Tick, Hear. -/
def stE (l : List ST) (name : ByteArray) (x : Int) : Int := match plc name l with | none => 44 | some i => tldE (l.getD i ST.z).c.kd x (l.getD i ST.z).c.sc
def stS (l : List ST) (id : Int) (name : ByteArray) (x : Int) : List ST := match plc name l with | none => l | some i => if tldE (l.getD i ST.z).c.kd x (l.getD i ST.z).c.sc = 0 then l.set i (setT id (tldV (l.getD i ST.z).c.kd x (l.getD i ST.z).c.sc) (l.getD i ST.z)) else l
def tkS (l : List ST) (id : Int) : List ST := l.map (tickT id)
def hrS (l : List ST) (id : Int) (name : ByteArray) (x y : E.EX) : List ST := match plc name l with | none => l | some i => l.set i (hearT id x y (l.getD i ST.z))
theorem ok_at {l : List ST} (hf : fitL l = true) {i : Nat} (hi : i < l.length) : okS (l.getD i ST.z) = true := by
  rw [List.getD_eq_getElem?_getD, List.getElem?_eq_getElem hi]
  exact (fitL_iff.1 hf).2 _ (List.getElem_mem hi)
theorem stS_fit {l : List ST} (hf : fitL l = true) {id : Int} (hi : nodeB id = true) (name : ByteArray) (x : Int) : fitL (stS l id name x) = true := by
  unfold stS
  cases hp : plc name l with
  | none => exact hf
  | some i =>
    dsimp only
    split
    · rename_i h0
      obtain ⟨h1, h2, _⟩ := plc_at hp
      exact set_fit hf (setT_c _ _ _).symm (setT_ok hi (tld_flow h0) (isP_nm h2).2 (ok_at hf h1))
    · exact hf
theorem tkS_fit {l : List ST} (hf : fitL l = true) {id : Int} (hi : nodeB id = true) : fitL (tkS l id) = true := map_fit hf _ (tickT_c id) fun s hs => tickT_ok hi ((fitL_iff.1 hf).2 s hs)
theorem hrS_fit {l : List ST} (hf : fitL l = true) {id : Int} (name : ByteArray) {x y : E.EX} (hx : E.fitB x = true) (hy : E.fitB y = true) : fitL (hrS l id name x y) = true := by
  unfold hrS
  cases hp : plc name l with
  | none => exact hf
  | some i =>
    obtain ⟨h1, h2, _⟩ := plc_at hp
    exact set_fit hf (hearT_c _ _ _ _).symm (hearT_ok hx hy (isP_nm h2).2 (ok_at hf h1))
end Go.Proofs.YtoeebofappbneaaGreat
