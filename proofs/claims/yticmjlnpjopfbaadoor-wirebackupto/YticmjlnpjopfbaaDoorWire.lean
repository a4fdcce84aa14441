/-
  Packets sealed: Encode, Decode and All, there and back, cut off; plain mathematics.
-/
import Derived.Test.YticmjlnpjopfbaaDoorPack
namespace Go.Proofs.YticmjlnpjopfbaaDoor
open Go.RowKit C S
set_option linter.unusedVariables false
set_option linter.unusedSimpArgs false

/-! ### What a fit packet holds -/
theorem exZB_iff {e : Ex} : exZB e = true ↔ e = exZ := by
  obtain ⟨a, b, c, d⟩ := e
  simp [exZB, exZ, and_assoc]
theorem exB_ok {e : Ex} (h : exB e = true) : exOk e ∧ e.origin < 16 := by
  unfold exB at h
  split at h
  · simp only [Bool.and_eq_true, flowB, inB_iff, nodeB_iff] at h
    obtain ⟨⟨⟨h1, h2⟩, h3, h4⟩, h5, h6⟩ := h
    exact ⟨⟨⟨by omega, by omega⟩, ⟨by omega, by omega⟩, ⟨by omega, by omega⟩⟩, h4⟩
  · rw [exZB_iff] at h
    subst h
    exact ⟨⟨⟨by decide, by decide⟩, ⟨by decide, by decide⟩, ⟨by decide, by decide⟩⟩, by decide⟩
theorem exZB_ok {e : Ex} (h : exZB e = true) : exOk e ∧ e.origin < 16 := by
  rw [exZB_iff] at h
  subst h
  exact ⟨⟨⟨by decide, by decide⟩, ⟨by decide, by decide⟩, ⟨by decide, by decide⟩⟩, by decide⟩
theorem regZB_ok {x : Itm} (h : regZB x = true) : nOk x.ver ∧ (nOk x.writer ∧ x.writer < 16) ∧ iOk x.flow := by
  simp [regZB, and_assoc] at h
  obtain ⟨h1, h2, h3⟩ := h
  rw [h1, h2, h3]
  exact ⟨⟨by decide, by decide⟩, ⟨⟨by decide, by decide⟩, by decide⟩, ⟨by decide, by decide⟩⟩
theorem regB_ok {x : Itm} (h : regB x = true) : nOk x.ver ∧ (nOk x.writer ∧ x.writer < 16) ∧ iOk x.flow := by
  unfold regB at h
  rw [Bool.or_eq_true] at h
  rcases h with h | h
  · exact regZB_ok h
  · simp only [Bool.and_eq_true, flowB, inB_iff, nodeB_iff] at h
    obtain ⟨⟨⟨h1, h2⟩, h3, h4⟩, h5, h6⟩ := h
    exact ⟨⟨by omega, by omega⟩, ⟨⟨by omega, by omega⟩, h4⟩, ⟨by omega, by omega⟩⟩
/-- What is small in an item that is fit. -/
structure itLow (x : Itm) : Prop where
  name : x.name.size ≤ 16
  maker : x.maker < 16
  kind : x.kind ≤ 4
  writer : x.writer < 16
  mn : x.mn.origin < 16
  mx : x.mx.origin < 16
theorem itemB_ok {x : Itm} (h : itemB x = true) : itOk x ∧ itLow x := by
  unfold itemB at h
  rw [Bool.and_eq_true, Bool.and_eq_true] at h
  obtain ⟨⟨hc, hp⟩, he⟩ := h
  simp only [chanB, nameB, Bool.and_eq_true, inB_iff, nodeB_iff] at hc
  obtain ⟨⟨⟨⟨⟨⟨⟨s1, s2⟩, _⟩, e1, e2⟩, m1, m2⟩, k1, k2⟩, c1, c2⟩, _⟩ := hc
  have hr : nOk x.ver ∧ (nOk x.writer ∧ x.writer < 16) ∧ iOk x.flow := by
    unfold partB at hp
    split at hp
    · rw [Bool.and_eq_true, Bool.and_eq_true] at hp; exact regB_ok hp.1.1
    · rw [Bool.and_eq_true, Bool.and_eq_true] at hp; exact regZB_ok hp.1.1
  have hrest : iOk x.rest := by
    unfold partB at hp
    split at hp
    · simp only [Bool.and_eq_true, flowB, inB_iff] at hp
      obtain ⟨⟨_, h1, h2⟩, _⟩ := hp
      exact ⟨by omega, by omega⟩
    · simp only [Bool.and_eq_true, beq_iff_eq] at hp
      rw [hp.2]
      exact ⟨by decide, by decide⟩
  have hx : (exOk x.mn ∧ x.mn.origin < 16) ∧ (exOk x.mx ∧ x.mx.origin < 16) := by
    unfold extsB at he
    split at he
    · rw [Bool.and_eq_true] at he; exact ⟨exB_ok he.1, exB_ok he.2⟩
    · rw [Bool.and_eq_true] at he; exact ⟨exZB_ok he.1, exZB_ok he.2⟩
  exact ⟨⟨by omega, ⟨by omega, by omega⟩, ⟨by omega, by omega⟩, ⟨by omega, by omega⟩, ⟨by omega, by omega⟩, hr.1, hr.2.1.1, hr.2.2, hrest, hx.1.1, hx.2.1⟩, ⟨by omega, m2, k2, hr.2.1.2, hx.1.2, hx.2.2⟩⟩
theorem itemsB_all {l : List Itm} (h : itemsB l = true) : ∀ x ∈ l, itemB x = true := by
  intro x hx
  obtain ⟨i, hi, rfl⟩ := List.getElem_of_mem hx
  have := (List.all_eq_true.1 h) i (by simpa using hi)
  rw [placeB, Bool.and_eq_true] at this
  have e : l.getD i itZ = l[i] := by simp [List.getD, List.getElem?_eq_getElem hi]
  rw [e] at this
  exact this.1
structure pkLow (p : Pkt) : Prop where
  kind : p.kind ≤ 5
  src : p.src < 16
  dst : p.dst < 16
  len : p.items.length ≤ 8
  items : ∀ x ∈ p.items, itLow x
theorem fitP_ok {p : Pkt} (h : fitP p = true) : pkOk p ∧ pkLow p := by
  rw [fitP, Bool.and_eq_true] at h
  obtain ⟨hh, hl⟩ := h
  simp only [headB, Bool.and_eq_true, inB_iff, nodeB_iff] at hh
  obtain ⟨⟨⟨⟨⟨⟨⟨k1, k2⟩, s1, s2⟩, d1, d2⟩, _⟩, b1, b2⟩, l1, l2⟩, he⟩ := hh
  have hE : nOk p.echo ∧ nOk p.echoLife := by
    split at he
    · simp only [Bool.and_eq_true, beq_iff_eq] at he
      rw [he.1, he.2]
      exact ⟨⟨by decide, by decide⟩, ⟨by decide, by decide⟩⟩
    · simp only [Bool.and_eq_true, inB_iff] at he
      obtain ⟨⟨a1, a2⟩, a3, a4⟩ := he
      exact ⟨⟨by omega, by omega⟩, ⟨by omega, by omega⟩⟩
  have hL : p.items.length ≤ 8 ∧ ∀ x ∈ p.items, itemB x = true := by
    unfold listB at hl
    split at hl
    · simp only [beq_iff_eq] at hl
      refine ⟨by omega, fun x hx => ?_⟩
      rw [List.length_eq_zero_iff.1 hl] at hx
      simp at hx
    · simp only [Bool.and_eq_true, decide_eq_true_eq] at hl
      exact ⟨hl.1, itemsB_all hl.2⟩
  exact ⟨⟨⟨by omega, by omega⟩, ⟨by omega, by omega⟩, ⟨by omega, by omega⟩, ⟨by omega, by omega⟩, ⟨by omega, by omega⟩, hE.1, hE.2, by omega, fun x hx => (itemB_ok (hL.2 x hx)).1⟩, ⟨k2, s2, d2, hL.1, fun x hx => (itemB_ok (hL.2 x hx)).2⟩⟩

/-! ### The body's length -/
theorem enc1_le (f : Fld) : (encF1 f).length ≤ 10 + f.text.size := by
  obtain ⟨k, n, s, b⟩ := f
  have h1 := (enc_length n).2
  have h2 := (enc_length (sg n)).2
  have h3 := (enc_length (s.size : Int)).2
  have h4 := bytesL_length s
  show (encFld k n s b).length ≤ 10 + s.size
  unfold encFld
  split
  · omega
  · split
    · omega
    · split
      · simp only [txt, List.length_append]; omega
      · simp [flg]; omega
theorem nF_len (x : Int) : (encF1 (nF x)).length ≤ 10 := by simpa [nF, ByteArray.size] using enc1_le (nF x)
theorem sF_len (x : Int) : (encF1 (sF x)).length ≤ 10 := by simpa [sF, ByteArray.size] using enc1_le (sF x)
theorem bF_len (x : Bool) : (encF1 (bF x)).length ≤ 10 := by simpa [bF, ByteArray.size] using enc1_le (bF x)
theorem flds_le (fs : List Fld) (h : ∀ f ∈ fs, (encF1 f).length ≤ 10) : (flds fs).length ≤ 10 * fs.length := by
  induction fs with
  | nil => simp [flds]
  | cons f fs ih =>
    have h1 := h f (by simp)
    have h2 := ih (fun g hg => h g (by simp [hg]))
    have e : flds (f :: fs) = encF1 f ++ flds fs := by simp [flds]
    rw [e, List.length_append, List.length_cons]
    omega
theorem itF_len (x : Itm) : (flds (itF x)).length ≤ 190 + x.name.size := by
  have h0 : (encF1 (tF x.name)).length ≤ 10 + x.name.size := enc1_le (tF x.name)
  have h1 := flds_le (itF x).tail (by simp [itF, nF_len, sF_len, bF_len])
  have e : itF x = tF x.name :: (itF x).tail := rfl
  have e2 : (itF x).tail.length = 18 := rfl
  have e3 : flds (itF x) = encF1 (tF x.name) ++ flds (itF x).tail := by rw [e]; simp [flds]
  rw [e3, List.length_append]
  rw [e2] at h1
  omega
theorem hdF_len (p : Pkt) : (flds (hdF p)).length ≤ 80 := by
  have h1 := flds_le (hdF p) (by simp [hdF, nF_len])
  have e2 : (hdF p).length = 8 := rfl
  rw [e2] at h1
  omega
theorem itsF_len (l : List Itm) (n : Nat) (h : ∀ x ∈ l, x.name.size ≤ n) : (flds (itsF l)).length ≤ (190 + n) * l.length := by
  induction l with
  | nil => simp [itsF, flds]
  | cons x l ih =>
    have h1 := itF_len x
    have h2 := h x (by simp)
    have h3 := ih (fun y hy => h y (by simp [hy]))
    rw [itsF_cons, flds_append, List.length_append, List.length_cons, Nat.mul_succ]
    omega
theorem bodyP_len {p : Pkt} (h : fitP p = true) : (bodyP p).length ≤ 1728 := by
  obtain ⟨_, hl⟩ := fitP_ok h
  have h1 := hdF_len p
  have h2 := itsF_len p.items 16 (fun x hx => (hl.items x hx).name)
  have h3 := hl.len
  rw [bodyP, List.length_append]
  have : (190 + 16) * p.items.length ≤ 206 * 8 := Nat.mul_le_mul_left _ h3
  omega

/-! ### Bytes are bytes -/
theorem encF1_byte (f : Fld) (h : fitF f = true) (hn : f.num < 18446744073709551616) (hs : -9223372036854775808 ≤ f.num) (hi : f.kind = 2 → f.num ≤ 9223372036854775807) (ht : f.text.size ≤ 1048576) : ∀ c ∈ encF1 f, 0 ≤ c ∧ c < 256 := by
  rcases fit_shape h with ⟨n, h0, rfl⟩ | ⟨n, rfl⟩ | ⟨s, rfl⟩ | ⟨b, rfl⟩
  · have hn' : n < 18446744073709551616 := hn
    exact enc_byte h0 (by omega)
  · obtain ⟨a, b⟩ := sg_bd (x := n) hs (hi rfl)
    exact enc_byte a b
  · simp only at ht
    intro c hc
    have hc' : c ∈ enc (s.size : Int) ++ bytesL s := hc
    rcases List.mem_append.1 hc' with hc | hc
    · exact enc_byte (by omega) (by omega) c hc
    · exact bytesL_byte s c hc
  · intro c hc
    have hc' : c ∈ flg b := hc
    cases b <;> simp [flg] at hc' <;> omega
theorem okF_byte {f : Fld} (h : fitF f = true) (ho : okF f) : ∀ c ∈ encF1 f, 0 ≤ c ∧ c < 256 :=
  encF1_byte f h (by have := ho.2.1.2; omega) ho.2.1.1 (fun _ => ho.2.1.2) ho.2.2
theorem flds_byte {fs : List Fld} (h : ∀ f ∈ fs, fitF f = true) (ho : ∀ f ∈ fs, okF f) : ∀ c ∈ flds fs, 0 ≤ c ∧ c < 256 := by
  intro c hc
  obtain ⟨f, hf, hc⟩ := List.mem_flatMap.1 hc
  exact okF_byte (h f hf) (ho f hf) c hc
theorem bodyP_byte {p : Pkt} (h : pkOk p) : ∀ c ∈ bodyP p, 0 ≤ c ∧ c < 256 := by
  intro c hc
  rcases List.mem_append.1 hc with hc | hc
  · exact flds_byte (hdF_fit p) (hdF_ok h) c hc
  · refine flds_byte ?_ ?_ c hc
    · intro f hf; obtain ⟨x, hx, hf⟩ := List.mem_flatMap.1 hf; exact itF_fit x f hf
    · intro f hf; obtain ⟨x, hx, hf⟩ := List.mem_flatMap.1 hf; exact itF_ok (h.items x hx) f hf

/-! ### Encode, Decode -/
def encP (p : Pkt) : List Int := if fitP p then frm (bodyP p) else []
def decP (l : List Int) : Except Int Pkt :=
  match opn l with
  | .error e => .error e
  | .ok (b, n) => if n ≠ l.length then .error 20 else openP b
theorem encP_fit {p : Pkt} (h : fitP p = true) : encP p = frm (bodyP p) := by simp [encP, h]
theorem encP_len {p : Pkt} (h : fitP p = true) : (encP p).length = (bodyP p).length + 8 := by rw [encP_fit h, frm_len]
theorem openP_back {p : Pkt} (h : fitP p = true) : openP (bodyP p) = .ok p := by
  have k := openR_back p [] (fitP_ok h).1
  rw [List.append_nil] at k
  simp [openP, k, h]
theorem openP_form {zs : List Int} {p : Pkt} (hb : ∀ c ∈ zs, 0 ≤ c ∧ c < 256) (hl : zs.length ≤ 1048576) (h : openP zs = .ok p) : fitP p = true ∧ bodyP p = zs := by
  unfold openP at h
  split at h
  · cases h
  · rename_i q n hr
    split at h
    · cases h
    · rename_i hn
      split at h
      · rename_i hf
        cases h
        obtain ⟨_, h2, _⟩ := openR_form hb hl hr
        have : n = zs.length := by omega
        rw [this, List.take_length] at h2
        exact ⟨hf, h2⟩
      · cases h
theorem openP_err {zs : List Int} {e : Int} (h : openP zs = .error e) : e = 20 ∨ e = 54 := by
  unfold openP at h
  split at h
  · cases h; omega
  · split at h
    · cases h; omega
    · split at h
      · cases h
      · cases h; omega
/-- P5.6: there and back. -/
theorem decP_encP {p : Pkt} (h : fitP p = true) : decP (encP p) = .ok p := by
  have hl := bodyP_len h
  have k := opn_frm (bodyP p) [] (by omega)
  rw [List.append_nil] at k
  have hf := frm_len (bodyP p)
  simp [decP, encP_fit h, k, hf, openP_back h]
/-- P5.7: in one form. -/
theorem encP_decP {l : List Int} {p : Pkt} (hb : Byt l) (h : decP l = .ok p) : encP p = l := by
  unfold decP at h
  split at h
  · cases h
  · rename_i b n ho
    split at h
    · cases h
    · rename_i hn
      obtain ⟨o1, o2, o3, o4⟩ := opn_ok hb ho
      have hn : n = l.length := by omega
      rw [hn, List.take_length] at o1
      have hbb : ∀ c ∈ b, 0 ≤ c ∧ c < 256 := by
        intro c hc
        refine hb c ?_
        rw [o1]
        simp only [frm, summed, inner, List.mem_cons, List.mem_append]
        simp [hc]
      obtain ⟨f1, f2⟩ := openP_form hbb (by omega) h
      rw [encP_fit f1, f2, o1]
/-- P5.9: unlike packets have unlike bytes. -/
theorem encP_inj {p q : Pkt} (hp : fitP p = true) (hq : fitP q = true) (h : encP p = encP q) : p = q := by
  have a := decP_encP hp
  rw [h, decP_encP hq] at a
  exact (Except.ok.inj a).symm
theorem encP_cut {p : Pkt} {k : Nat} (h : fitP p = true) (hk : k < (encP p).length) : opn ((encP p).take k) = .error 21 := by
  have hl := bodyP_len h
  rw [encP_fit h] at hk ⊢
  exact opn_cut (bodyP p) k (by omega) hk

/-! ### Rows of packets -/
/-- What All tells: packets, how many bytes they were, and the error of what stands behind. -/
def allPF : Nat → List Int → List Pkt × Nat × Int
  | 0, _ => ([], 0, 0)
  | f + 1, l => if l = [] then ([], 0, 0) else
    match opn l with
    | .error e => ([], 0, e)
    | .ok (b, n) => match openP b with
      | .error e => ([], 0, e)
      | .ok p => (p :: (allPF f (l.drop n)).1, n + (allPF f (l.drop n)).2.1, (allPF f (l.drop n)).2.2)
theorem allPF_nil (f : Nat) : allPF f [] = ([], 0, 0) := by cases f <;> rfl
theorem allPF_err {f : Nat} {l : List Int} {e : Int} (hl : l ≠ []) (h : opn l = .error e) : allPF (f + 1) l = ([], 0, e) := by
  rw [allPF, if_neg hl, h]
theorem allPF_no {f : Nat} {l b : List Int} {n : Nat} {e : Int} (h : opn l = .ok (b, n)) (ho : openP b = .error e) : allPF (f + 1) l = ([], 0, e) := by
  have hp := opn_pos h
  rw [allPF, if_neg (by rintro rfl; simp at hp; omega), h]
  simp only [ho]
theorem allPF_ok {f : Nat} {l b : List Int} {n : Nat} {p : Pkt} (h : opn l = .ok (b, n)) (ho : openP b = .ok p) : allPF (f + 1) l = (p :: (allPF f (l.drop n)).1, n + (allPF f (l.drop n)).2.1, (allPF f (l.drop n)).2.2) := by
  have hp := opn_pos h
  rw [allPF, if_neg (by rintro rfl; simp at hp; omega), h]
  simp only [ho]
/-- Enough steps are enough. -/
theorem allPF_fuel : ∀ (f g : Nat) (l : List Int), l.length ≤ f → l.length ≤ g → allPF f l = allPF g l
  | 0, g, l, hf, hg => by
    obtain rfl : l = [] := List.length_eq_zero_iff.1 (by omega)
    rw [allPF_nil, allPF_nil]
  | f + 1, 0, l, hf, hg => by
    obtain rfl : l = [] := List.length_eq_zero_iff.1 (by omega)
    rw [allPF_nil, allPF_nil]
  | f + 1, g + 1, l, hf, hg => by
    by_cases hl : l = []
    · subst hl; rw [allPF_nil, allPF_nil]
    · cases h : opn l with
      | error e => rw [allPF_err hl h, allPF_err hl h]
      | ok q =>
        obtain ⟨b, n⟩ := q
        have hp := opn_pos h
        have hd : (l.drop n).length = l.length - n := List.length_drop
        cases ho : openP b with
        | error e => rw [allPF_no h ho, allPF_no h ho]
        | ok p => rw [allPF_ok h ho, allPF_ok h ho, allPF_fuel f g (l.drop n) (by omega) (by omega)]
/-- How many of the packets stand whole within the first k bytes, and how many bytes these take. -/
def cutJ : List Pkt → Nat → Nat
  | [], _ => 0
  | p :: ps, k => if (encP p).length ≤ k then cutJ ps (k - (encP p).length) + 1 else 0
def cutA : List Pkt → Nat → Nat
  | [], _ => 0
  | p :: ps, k => if (encP p).length ≤ k then (encP p).length + cutA ps (k - (encP p).length) else 0
theorem cutA_le (ps : List Pkt) (k : Nat) : cutA ps k ≤ k := by
  induction ps generalizing k with
  | nil => simp [cutA]
  | cons p ps ih =>
    simp only [cutA]
    split
    · have := ih (k - (encP p).length); omega
    · omega
/-- P5.8: packets one behind the other, cut off anywhere (or not at all). -/
theorem allPF_cut (ps : List Pkt) (k f : Nat) (hf : ∀ p ∈ ps, fitP p = true) (hk : k ≤ (ps.flatMap encP).length) (hF : k ≤ f) :
    allPF f ((ps.flatMap encP).take k) = (ps.take (cutJ ps k), cutA ps k, if cutA ps k = k then 0 else 21) := by
  induction ps generalizing k f with
  | nil =>
    have : k = 0 := by simpa using hk
    subst this
    simp [allPF_nil, cutJ, cutA]
  | cons p ps ih =>
    have hp := hf p (by simp)
    have hl := bodyP_len hp
    have hn := encP_len hp
    rw [List.flatMap_cons] at hk ⊢
    rw [List.length_append] at hk
    by_cases h : (encP p).length ≤ k
    · obtain ⟨g, rfl⟩ : ∃ g, f = g + 1 := ⟨f - 1, by omega⟩
      have e : (encP p ++ ps.flatMap encP).take k = frm (bodyP p) ++ (ps.flatMap encP).take (k - (encP p).length) := by
        rw [List.take_append, List.take_of_length_le h, encP_fit hp]
      have ho := opn_frm (bodyP p) ((ps.flatMap encP).take (k - (encP p).length)) (by omega)
      rw [e, allPF_ok ho (openP_back hp)]
      have hd : (frm (bodyP p) ++ (ps.flatMap encP).take (k - (encP p).length)).drop ((bodyP p).length + 8) = (ps.flatMap encP).take (k - (encP p).length) := List.drop_left' (frm_len _)
      rw [hd, ih (k - (encP p).length) g (fun q hq => hf q (by simp [hq])) (by omega) (by omega)]
      have hc := cutA_le ps (k - (encP p).length)
      simp only [cutJ, cutA, if_pos h, List.take_succ_cons]
      rw [hn]
      congr 2
      by_cases hq : cutA ps (k - ((bodyP p).length + 8)) = k - ((bodyP p).length + 8)
      · rw [if_pos hq, if_pos (by omega)]
      · rw [if_neg hq, if_neg (by rw [hn] at hc; omega)]
    · have e : (encP p ++ ps.flatMap encP).take k = (encP p).take k := by rw [List.take_append_of_le_length (by omega)]
      rw [e]
      simp only [cutJ, cutA, if_neg h, List.take_zero]
      by_cases h0 : k = 0
      · subst h0; simp [allPF_nil]
      · obtain ⟨g, rfl⟩ : ∃ g, f = g + 1 := ⟨f - 1, by omega⟩
        rw [allPF_err (by intro hh; have := congrArg List.length hh; rw [List.length_take, List.length_nil] at this; omega) (encP_cut hp (by omega)), if_neg (by omega)]
theorem cutJ_all (ps : List Pkt) : cutJ ps (ps.flatMap encP).length = ps.length ∧ cutA ps (ps.flatMap encP).length = (ps.flatMap encP).length := by
  induction ps with
  | nil => simp [cutJ, cutA]
  | cons p ps ih =>
    rw [List.flatMap_cons, List.length_append]
    simp only [cutJ, cutA]
    rw [if_pos (by omega), if_pos (by omega), show (encP p).length + (ps.flatMap encP).length - (encP p).length = (ps.flatMap encP).length by omega, ih.1, ih.2]
    simp
theorem allPF_whole (ps : List Pkt) (f : Nat) (hf : ∀ p ∈ ps, fitP p = true) (hF : (ps.flatMap encP).length ≤ f) :
    allPF f (ps.flatMap encP) = (ps, (ps.flatMap encP).length, 0) := by
  have k := allPF_cut ps (ps.flatMap encP).length f hf (Nat.le_refl _) hF
  rw [List.take_length, (cutJ_all ps).1, (cutJ_all ps).2, List.take_length] at k
  simpa using k
/-- Where each packet's bytes end. -/
def endsF : Nat → List Pkt → List Nat
  | _, [] => []
  | a, p :: ps => (a + (encP p).length) :: endsF (a + (encP p).length) ps
theorem endsF_snoc (a : Nat) (ps : List Pkt) (p : Pkt) : endsF a (ps ++ [p]) = endsF a ps ++ [a + (ps.flatMap encP).length + (encP p).length] := by
  induction ps generalizing a with
  | nil => simp [endsF]
  | cons q ps ih => simp [endsF, ih, Nat.add_assoc]
/-- The law's own loop over the ends: the last one within k, and how many there are. -/
def endStep (k : Nat) (s : Nat × Nat) (x : Nat) : Nat × Nat := if x ≤ k then (x, s.2 + 1) else s
theorem ends_over {k : Nat} (ps : List Pkt) (a : Nat) (s : Nat × Nat) (h : k < a) : (endsF a ps).foldl (endStep k) s = s := by
  induction ps generalizing a with
  | nil => rfl
  | cons p ps ih =>
    rw [endsF, List.foldl_cons, endStep, if_neg (by omega)]
    exact ih _ (by omega)
theorem ends_cut (ps : List Pkt) (a k j : Nat) (h : a ≤ k) : (endsF a ps).foldl (endStep k) (a, j) = (a + cutA ps (k - a), j + cutJ ps (k - a)) := by
  induction ps generalizing a j with
  | nil => simp [endsF, cutA, cutJ]
  | cons p ps ih =>
    rw [endsF, List.foldl_cons]
    simp only [cutA, cutJ]
    by_cases hh : a + (encP p).length ≤ k
    · rw [endStep, if_pos hh, ih _ _ hh, if_pos (by omega), if_pos (by omega), show k - (a + (encP p).length) = k - a - (encP p).length by omega]
      congr 1 <;> omega
    · rw [endStep, if_neg hh, ends_over _ _ _ (by omega), if_neg (by omega), if_neg (by omega)]
      simp

/-! ### Numbers that are too great to be an int of a packet -/
/-- The document's own reader tells -1 for a number that is too great. -/
def sm (x : Int) : Int := if 1073741824 < x then -1 else x
def smE (e : Ex) : Ex := ⟨e.has, e.value, sm e.origin, e.age⟩
def smI (x : Itm) : Itm := ⟨x.name, x.epoch, sm x.maker, x.alive, sm x.kind, x.scale, x.ver, sm x.writer, x.flow, x.hasRest, x.rest, smE x.mn, smE x.mx⟩
def smP (p : Pkt) : Pkt := ⟨sm p.kind, sm p.src, sm p.dst, p.boot, p.life, p.echo, p.echoLife, p.items.map smI⟩
theorem sm_low {x : Int} (h : x < 1073741825) : sm x = x := by unfold sm; rw [if_neg (by omega)]
theorem sm_back {x : Int} (h0 : 0 ≤ sm x) : sm x = x := by
  unfold sm at *
  split at h0
  · omega
  · rename_i h; rw [if_neg h]
theorem smI_low {x : Itm} (h : itLow x) : smI x = x := by
  obtain ⟨a, b, c, d, e, f, g, i, j, k, l, ⟨m1, m2, m3, m4⟩, ⟨n1, n2, n3, n4⟩⟩ := x
  have h1 := h.maker; have h2 := h.kind; have h3 := h.writer; have h4 := h.mn; have h5 := h.mx
  simp only at h1 h2 h3 h4 h5
  simp only [smI, smE]
  rw [sm_low (x := c) (by omega), sm_low (x := e) (by omega), sm_low (x := i) (by omega), sm_low (x := m3) (by omega), sm_low (x := n3) (by omega)]
theorem smI_back {x : Itm} (h : itOk (smI x)) : smI x = x := by
  obtain ⟨a, b, c, d, e, f, g, i, j, k, l, ⟨m1, m2, m3, m4⟩, ⟨n1, n2, n3, n4⟩⟩ := x
  have h1 := h.maker.1; have h2 := h.kind.1; have h3 := h.writer.1; have h4 := h.mn.origin.1; have h5 := h.mx.origin.1
  simp only [smI, smE] at h1 h2 h3 h4 h5 ⊢
  rw [sm_back h1, sm_back h2, sm_back h3, sm_back h4, sm_back h5]
theorem map_same (l : List Itm) (h : ∀ x ∈ l, smI x = x) : l.map smI = l := by
  conv => rhs; rw [← List.map_id l]
  exact List.map_congr_left h
theorem smP_low {p : Pkt} (h : fitP p = true) : smP p = p := by
  obtain ⟨_, hl⟩ := fitP_ok h
  obtain ⟨a, b, c, d, e, f, g, l⟩ := p
  have h1 := hl.kind; have h2 := hl.src; have h3 := hl.dst; have h4 := hl.items
  simp only at h1 h2 h3 h4
  simp only [smP]
  rw [sm_low (x := a) (by omega), sm_low (x := b) (by omega), sm_low (x := c) (by omega), map_same l (fun x hx => smI_low (h4 x hx))]
theorem smP_back {p : Pkt} (h : fitP (smP p) = true) : smP p = p := by
  obtain ⟨hl, _⟩ := fitP_ok h
  obtain ⟨a, b, c, d, e, f, g, l⟩ := p
  have h1 := hl.kind.1; have h2 := hl.src.1; have h3 := hl.dst.1; have h4 := hl.items
  simp only [smP] at h1 h2 h3 h4 ⊢
  rw [sm_back h1, sm_back h2, sm_back h3, map_same l (fun x hx => smI_back (h4 (smI x) (List.mem_map_of_mem hx)))]
theorem fit_smP (p : Pkt) : fitP (smP p) = fitP p := by
  cases h : fitP p with
  | true => rw [smP_low h, h]
  | false =>
    cases h' : fitP (smP p) with
    | false => rfl
    | true => rw [smP_back h', h] at h'; cases h'

end Go.Proofs.YticmjlnpjopfbaaDoor
