/-
  There and back, in one form: what is written is read, what is read is written the same way, and a beginning of it is too short; plain mathematics.
-/
import Derived.Test.YticmjlnpjopfbaaDoorCFields
import Derived.Test.YticmjlnpjopfbaaDoorCRead
import Derived.Laws.Closers25b
namespace Go.Proofs.YticmjlnpjopfbaaDoor.C
open Go.RowKit
set_option linter.unusedVariables false

/-! ### Numbers -/
theorem numF_form {bs : List Int} {i : Nat} {x v : Int} {n : Nat} (hb : ∀ c ∈ bs, 0 ≤ c ∧ c < 256) (hi : i ≤ 9) (h : numF bs i x = .ok (v, n)) :
    ∃ u, v = x + u * 128 ^ i ∧ 0 ≤ u ∧ (0 < i → u ≠ 0) ∧ i < n ∧ bs.take (n - i) = encF (9 - i) u := by
  induction bs generalizing i x with
  | nil => cases h
  | cons c r ih =>
    have hc := hb c (by simp)
    by_cases hbad : (c = 0 ∧ 0 < i) ∨ (1 < c ∧ i = 9)
    · rw [numF_bad hbad] at h; cases h
    · by_cases hl : c < 128
      · rw [numF_last hbad hl] at h
        cases h
        exact ⟨c, rfl, hc.1, by omega, by omega, by rw [show i + 1 - i = 1 by omega, encF_last (by omega)]; rfl⟩
      · rw [numF_more hbad hl] at h
        obtain ⟨u, h1, h2, h3, h4, h5⟩ := ih (fun c hc => hb c (by simp [hc])) (by omega) h
        have h6 := h3 (by omega)
        refine ⟨c - 128 + 128 * u, ?_, by omega, by omega, by omega, ?_⟩
        · rw [h1, pw_succ]; grind
        · rw [show n - i = (n - (i + 1)) + 1 by omega, List.take_succ_cons, h5, show 9 - i = (9 - (i + 1)) + 1 by omega, encF_more (by omega)]
          rw [show (c - 128 + 128 * u) % 128 + 128 = c by omega, show (c - 128 + 128 * u) / 128 = u by omega]
theorem num_form {bs : List Int} {v : Int} {n : Nat} (hb : ∀ c ∈ bs, 0 ≤ c ∧ c < 256) (h : num bs = .ok (v, n)) : bs.take n = enc v := by
  obtain ⟨u, h1, _, _, _, h5⟩ := numF_form hb (by omega) h
  have : v = u := by simp at h1; omega
  subst this
  exact h5

theorem numF_back (k : Nat) (r : List Int) (u x : Int) (i : Nat) (hk : k + i = 9) (h0 : 0 ≤ u) (hu : u < 2 * 128 ^ k) (hz : 0 < i → u ≠ 0) :
    numF (encF k u ++ r) i x = .ok (x + u * 128 ^ i, i + (encF k u).length) := by
  induction k generalizing u x i with
  | zero =>
    simp at hu
    have : i = 9 := by omega
    subst this
    have := hz (by omega)
    simp only [encF, List.cons_append, List.nil_append]
    rw [numF_last (by omega) (by omega)]
    rfl
  | succ k ih =>
    by_cases hm : 127 < u
    · rw [encF_more hm, List.cons_append, numF_more (by omega) (by omega), ih (u / 128) _ (i + 1) (by omega) (by omega) (left_step h0 hu) (by omega)]
      rw [List.length_cons, pw_succ]
      congr 2
      · have : u = 128 * (u / 128) + u % 128 := by omega
        generalize u / 128 = a at *
        generalize u % 128 = b at *
        subst this
        grind
      · omega
    · rw [encF_last hm]
      simp only [List.cons_append, List.nil_append]
      rw [numF_last (by omega) (by omega)]
      rfl
theorem num_back {u : Int} (r : List Int) (h0 : 0 ≤ u) (hu : u ≤ 18446744073709551615) : num (enc u ++ r) = .ok (u, (enc u).length) := by
  have := numF_back 9 r u 0 0 (by omega) h0 (by rw [top_eq]; omega) (by omega)
  simpa [num, enc] using this

theorem numF_short (k : Nat) (u x : Int) (i m : Nat) (hk : k + i = 9) (h0 : 0 ≤ u) (hu : u < 2 * 128 ^ k) (hm : m < (encF k u).length) :
    numF ((encF k u).take m) i x = .error 21 := by
  induction k generalizing u x i m with
  | zero =>
    have : m = 0 := by simp [encF] at hm; omega
    subst this
    rfl
  | succ k ih =>
    by_cases hb : 127 < u
    · rw [encF_more hb] at hm ⊢
      cases m with
      | zero => rfl
      | succ m =>
        rw [List.take_succ_cons, numF_more (by omega) (by omega)]
        exact ih _ _ _ _ (by omega) (by omega) (left_step h0 hu) (by simpa using hm)
    · rw [encF_last hb] at hm ⊢
      have : m = 0 := by simp at hm; omega
      subst this
      rfl
theorem num_short {u : Int} {m : Nat} (h0 : 0 ≤ u) (hu : u ≤ 18446744073709551615) (hm : m < (enc u).length) : num ((enc u).take m) = .error 21 :=
  numF_short 9 u 0 0 m (by omega) h0 (by rw [top_eq]; omega) hm

theorem unsg_sg (n : Int) : unsg (sg n) = n := by unfold unsg sg; split <;> split <;> omega
theorem sg_unsg {x : Int} (h : 0 ≤ x) : sg (unsg x) = x := by unfold unsg sg; split <;> split <;> omega
theorem unsg_bd {x : Int} (h : 0 ≤ x) (h' : x ≤ 18446744073709551615) : -9223372036854775808 ≤ unsg x ∧ unsg x ≤ 9223372036854775807 := by unfold unsg; split <;> omega

/-! ### Texts -/
theorem str_bytes (s : ByteArray) : strOfNums (bytesL s) = s := by
  apply ByteArray.ext
  apply Array.ext'
  rw [strOfNums_data]
  simp [bytesL, List.map_map, Function.comp_def]
theorem bytes_str {zs : List Int} (hb : ∀ c ∈ zs, 0 ≤ c ∧ c < 256) : bytesL (strOfNums zs) = zs := by
  unfold bytesL
  rw [strOfNums_data, List.map_map]
  conv => rhs; rw [← List.map_id zs]
  apply List.map_congr_left
  intro c hc
  have := hb c hc
  simp only [Function.comp_apply, id_eq, UInt8.toNat_ofNat']
  omega
theorem str_size (zs : List Int) : (strOfNums zs).size = zs.length := strOfNums_size zs

theorem txt_back (s : ByteArray) (r : List Int) (hs : s.size ≤ 1048576) : txtR (txt s ++ r) = .ok (s, (txt s).length) := by
  unfold txtR txt
  rw [List.append_assoc, num_back _ (by omega) (by omega)]
  simp only
  have hl := bytesL_length s
  rw [if_neg (by simp only [List.length_append]; omega)]
  rw [List.drop_left, Int.toNat_natCast, List.take_append_of_le_length (by omega), List.take_of_length_le (by omega), str_bytes]
  simp [hl]
theorem txt_short (s : ByteArray) (m : Nat) (hs : s.size ≤ 1048576) (hm : m < (txt s).length) : txtR ((txt s).take m) = .error 21 := by
  have hl := bytesL_length s
  unfold txtR txt at *
  by_cases h : m < (enc s.size).length
  · rw [List.take_append_of_le_length (by omega), num_short (by omega) (by omega) h]
  · have e : (enc (s.size : Int) ++ bytesL s).take m = enc (s.size : Int) ++ (bytesL s).take (m - (enc (s.size : Int)).length) := by
      rw [List.take_append, List.take_of_length_le (by omega)]
    rw [e, num_back _ (by omega) (by omega)]
    simp only
    rw [List.length_append] at hm
    rw [if_pos (by simp only [List.length_append, List.length_take]; omega)]
theorem txt_form {bs : List Int} {s : ByteArray} {n : Nat} (hb : ∀ c ∈ bs, 0 ≤ c ∧ c < 256) (h : txtR bs = .ok (s, n)) : txt s = bs.take n ∧ n ≤ bs.length ∧ 0 < n ∧ s.size ≤ bs.length := by
  unfold txtR at h
  cases hn : num bs with
  | error c => rw [hn] at h; cases h
  | ok q =>
    obtain ⟨x, m⟩ := q
    obtain ⟨x0, x1, m0, m1, _⟩ := num_ok hb hn
    have hf := num_form hb hn
    rw [hn] at h
    simp only at h
    split at h
    · cases h
    · rename_i hlt
      cases h
      have hx : x.toNat ≤ bs.length - m := by omega
      have hsz : (strOfNums ((bs.drop m).take x.toNat)).size = x.toNat := by rw [str_size]; simp; omega
      refine ⟨?_, by omega, by omega, by omega⟩
      unfold txt
      rw [hsz, bytes_str (fun c hc => hb c (List.mem_of_mem_drop (List.mem_of_mem_take hc))), Int.toNat_of_nonneg x0, ← hf, List.take_add]

/-! ### Fields -/
/-- The bounds of a field. -/
def okF (f : Fld) : Prop := (-9223372036854775808 ≤ f.kind ∧ f.kind ≤ 9223372036854775807) ∧ (-9223372036854775808 ≤ f.num ∧ f.num ≤ 9223372036854775807) ∧ f.text.size ≤ 1048576

theorem empty_of {s : ByteArray} (h : s.toList.isEmpty = true) : s = ⟨#[]⟩ := by
  have : s.toList = [] := by simpa using h
  exact (toList_nil_iff_emptyBytes s).1 this
theorem okF_mk {k n : Int} {s : ByteArray} {b : Bool} (k0 : -9223372036854775808 ≤ k) (k1 : k ≤ 9223372036854775807) (n0 : -9223372036854775808 ≤ n) (n1 : n ≤ 9223372036854775807) (hs : s.size ≤ 1048576) : okF ⟨k, n, s, b⟩ := ⟨⟨k0, k1⟩, ⟨n0, n1⟩, hs⟩
theorem size0 : (⟨#[]⟩ : ByteArray).size ≤ 1048576 := by simp [ByteArray.size]

/-- A field that is as its kind has it has nothing else. -/
theorem fit_shape {f : Fld} (h : fitF f = true) : (∃ n, 0 ≤ n ∧ f = ⟨1, n, ⟨#[]⟩, false⟩) ∨ (∃ n, f = ⟨2, n, ⟨#[]⟩, false⟩) ∨ (∃ s, f = ⟨3, 0, s, false⟩) ∨ (∃ b, f = ⟨4, 0, ⟨#[]⟩, b⟩) := by
  obtain ⟨k, n, s, b⟩ := f
  unfold fitF at h
  simp only at h
  rcases fit_kind h with rfl | rfl | rfl | rfl
  · simp [fitB] at h
    obtain ⟨⟨h1, h2⟩, h3⟩ := h
    exact .inl ⟨n, h1, by rw [empty_of (s := s) (by simpa using h2), h3]⟩
  · simp [fitB] at h
    obtain ⟨h2, h3⟩ := h
    exact .inr (.inl ⟨n, by rw [empty_of (s := s) (by simpa using h2), h3]⟩)
  · simp [fitB] at h
    obtain ⟨h2, h3⟩ := h
    exact .inr (.inr (.inl ⟨s, by rw [h2, h3]⟩))
  · simp [fitB] at h
    obtain ⟨h2, h3⟩ := h
    exact .inr (.inr (.inr ⟨b, by rw [h2, empty_of (s := s) (by simpa using h3)]⟩))

theorem fld_back {f : Fld} (r : List Int) (h : fitF f = true) (hw : okF f) : fld f.kind (encF1 f ++ r) = .ok (f, (encF1 f).length) := by
  obtain ⟨hk, hn, hs⟩ := hw
  rcases fit_shape h with ⟨n, h0, rfl⟩ | ⟨n, rfl⟩ | ⟨s, rfl⟩ | ⟨b, rfl⟩
  · simp only at hn
    simp [fld, encF1, encFld, num_back r h0 (by omega), natR, show ¬ 9223372036854775807 < n by omega, fld1]
  · simp only at hn
    obtain ⟨s0, s1⟩ := sg_bd hn.1 hn.2
    simp [fld, encF1, encFld, num_back r s0 s1, fld2, unsg_sg]
  · simp [fld, encF1, encFld, txt_back s r hs, fld3]
  · cases b <;> simp [fld, encF1, encFld, flg, flgR, fld4]
theorem fld_short {f : Fld} {m : Nat} (h : fitF f = true) (hw : okF f) (hm : m < (encF1 f).length) : fld f.kind ((encF1 f).take m) = .error 21 := by
  obtain ⟨hk, hn, hs⟩ := hw
  rcases fit_shape h with ⟨n, h0, rfl⟩ | ⟨n, rfl⟩ | ⟨s, rfl⟩ | ⟨b, rfl⟩
  · simp only at hn
    simp [encF1, encFld] at hm
    simp [fld, encF1, encFld, num_short h0 (by omega) hm, natR, fld1]
  · simp only at hn
    obtain ⟨s0, s1⟩ := sg_bd hn.1 hn.2
    simp [encF1, encFld] at hm
    simp [fld, encF1, encFld, num_short s0 s1 hm, fld2]
  · simp [encF1, encFld] at hm
    simp [fld, encF1, encFld, txt_short s m hs hm, fld3]
  · simp [encF1, encFld, flg] at hm
    subst hm
    simp [fld, flgR, fld4]
theorem enc1_pos {f : Fld} (h : fitF f = true) : 0 < (encF1 f).length := by
  rcases fit_shape h with ⟨n, h0, rfl⟩ | ⟨n, rfl⟩ | ⟨s, rfl⟩ | ⟨b, rfl⟩
  · have := (enc_length n).1; simp [encF1, encFld]; omega
  · have := (enc_length (sg n)).1; simp [encF1, encFld]; omega
  · have := (enc_length (s.size : Int)).1; simp [encF1, encFld, txt]; omega
  · simp [encF1, encFld, flg]

theorem fld_form {k : Int} {bs : List Int} {f : Fld} {n : Nat} (hb : ∀ c ∈ bs, 0 ≤ c ∧ c < 256) (hl : bs.length ≤ 1048576) (h : fld k bs = .ok (f, n)) : fitF f = true ∧ okF f ∧ encF1 f = bs.take n ∧ n ≤ bs.length := by
  unfold fld at h
  split at h
  · cases hn : num bs with
    | error c => rw [hn] at h; cases h
    | ok q =>
      obtain ⟨x, m⟩ := q
      obtain ⟨x0, x1, m0, m1, _⟩ := num_ok hb hn
      have hf := num_form hb hn
      rw [hn] at h
      simp only [natR] at h
      split at h
      · cases h
      · rename_i hlt
        cases h
        refine ⟨?_, okF_mk (by omega) (by omega) (by omega) (by omega) size0, ?_, m1⟩
        · simp [fitF, fitB, x0]
        · simp [encF1, encFld, hf]
  · split at h
    · cases hn : num bs with
      | error c => rw [hn] at h; cases h
      | ok q =>
        obtain ⟨x, m⟩ := q
        obtain ⟨x0, x1, m0, m1, _⟩ := num_ok hb hn
        have hf := num_form hb hn
        rw [hn] at h
        cases h
        refine ⟨?_, okF_mk (by omega) (by omega) (unsg_bd x0 x1).1 (unsg_bd x0 x1).2 size0, ?_, m1⟩
        · simp [fitF, fitB]
        · simp [encF1, encFld, hf, sg_unsg x0]
    · split at h
      · cases hn : txtR bs with
        | error c => rw [hn] at h; cases h
        | ok q =>
          obtain ⟨s, m⟩ := q
          obtain ⟨t0, t1, t2, t3⟩ := txt_form hb hn
          rw [hn] at h
          cases h
          refine ⟨?_, okF_mk (by omega) (by omega) (by omega) (by omega) (by omega), ?_, t1⟩
          · simp [fitF, fitB]
          · simp [encF1, encFld, t0]
      · split at h
        · cases bs with
          | nil => cases h
          | cons c r =>
            have hc := hb c (by simp)
            simp only [flgR] at h
            split at h
            · cases h
            · cases h
              refine ⟨?_, okF_mk (by omega) (by omega) (by omega) (by omega) size0, ?_, by simp⟩
              · simp [fitF, fitB]
              · have : c = 0 ∨ c = 1 := by omega
                rcases this with rfl | rfl <;> simp [encF1, encFld, flg]
        · cases h

/-! ### Rows of fields -/
theorem rdF_back (fs : List Fld) (pre r : List Int) (acc : List Fld) (hf : ∀ f ∈ fs, fitF f = true) (hw : ∀ f ∈ fs, okF f) :
    rdF (fs.map Fld.kind) (pre ++ (flds fs ++ r)) acc pre.length = .ok (acc ++ fs, pre.length + (flds fs).length) := by
  induction fs generalizing pre acc with
  | nil => simp [rdF, flds]
  | cons f fs ih =>
    have e : flds (f :: fs) = encF1 f ++ flds fs := by simp [flds]
    rw [List.map_cons, e, List.append_assoc, rdF_ok (f := f) (n := (encF1 f).length) (by rw [List.drop_left]; exact fld_back _ (hf f (by simp)) (hw f (by simp)))]
    have := ih (pre ++ encF1 f) (acc ++ [f]) (fun g hg => hf g (by simp [hg])) (fun g hg => hw g (by simp [hg]))
    rw [List.append_assoc, List.length_append] at this
    rw [this]
    simp [Nat.add_assoc]
theorem rd_back (fs : List Fld) (r : List Int) (hf : ∀ f ∈ fs, fitF f = true) (hw : ∀ f ∈ fs, okF f) : rd (fs.map Fld.kind) (flds fs ++ r) = .ok (fs, (flds fs).length) := by
  have := rdF_back fs [] r [] hf hw
  simpa [rd] using this

theorem rdF_short (fs : List Fld) (pre : List Int) (acc : List Fld) (m : Nat) (hf : ∀ f ∈ fs, fitF f = true) (hw : ∀ f ∈ fs, okF f) (hm : m < (flds fs).length) :
    rdF (fs.map Fld.kind) (pre ++ (flds fs).take m) acc pre.length = .error 21 := by
  induction fs generalizing pre acc m with
  | nil => simp [flds] at hm
  | cons f fs ih =>
    have e : flds (f :: fs) = encF1 f ++ flds fs := by simp [flds]
    rw [e] at hm ⊢
    by_cases h : m < (encF1 f).length
    · rw [List.map_cons, List.take_append_of_le_length (by omega)]
      exact rdF_err (by rw [List.drop_left]; exact fld_short (hf f (by simp)) (hw f (by simp)) h)
    · have e2 : (encF1 f ++ flds fs).take m = encF1 f ++ (flds fs).take (m - (encF1 f).length) := by
        rw [List.take_append, List.take_of_length_le (by omega)]
      rw [List.map_cons, e2, rdF_ok (f := f) (n := (encF1 f).length) (by rw [List.drop_left]; exact fld_back _ (hf f (by simp)) (hw f (by simp)))]
      rw [List.length_append] at hm
      have := ih (pre ++ encF1 f) (acc ++ [f]) (m - (encF1 f).length) (fun g hg => hf g (by simp [hg])) (fun g hg => hw g (by simp [hg])) (by omega)
      rw [List.append_assoc, List.length_append] at this
      exact this
theorem rd_short (fs : List Fld) (m : Nat) (hf : ∀ f ∈ fs, fitF f = true) (hw : ∀ f ∈ fs, okF f) (hm : m < (flds fs).length) : rd (fs.map Fld.kind) ((flds fs).take m) = .error 21 := by
  have := rdF_short fs [] [] m hf hw hm
  simpa [rd] using this

theorem rdF_form {ks zs : List Int} {acc fs : List Fld} {i n : Nat} (hb : ∀ c ∈ zs, 0 ≤ c ∧ c < 256) (hl : zs.length ≤ 1048576) (hi : i ≤ zs.length) (h : rdF ks zs acc i = .ok (fs, n)) :
    ∃ gs, fs = acc ++ gs ∧ (∀ g ∈ gs, fitF g = true) ∧ (∀ g ∈ gs, okF g) ∧ i ≤ n ∧ n ≤ zs.length ∧ flds gs = (zs.drop i).take (n - i) := by
  induction ks generalizing acc i with
  | nil =>
    simp [rdF] at h
    obtain ⟨rfl, rfl⟩ := h
    exact ⟨[], by simp, by simp, by simp, Nat.le_refl _, hi, by simp [flds]⟩
  | cons k ks ih =>
    simp only [rdF] at h
    split at h
    · rename_i f m hfld
      obtain ⟨f1, f2, f3, f4⟩ := fld_form (fun c hc => hb c (List.mem_of_mem_drop hc)) (by simp; omega) hfld
      rw [List.length_drop] at f4
      obtain ⟨gs, g1, g2, g3, g4, g5, g6⟩ := ih (by omega) h
      refine ⟨f :: gs, by simp [g1], ?_, ?_, by omega, g5, ?_⟩
      · intro g hg; rcases List.mem_cons.1 hg with rfl | hg; exact f1; exact g2 g hg
      · intro g hg; rcases List.mem_cons.1 hg with rfl | hg; exact f2; exact g3 g hg
      · have e : flds (f :: gs) = encF1 f ++ flds gs := by simp [flds]
        rw [e, f3, g6, show n - i = m + (n - (i + m)) by omega, List.take_add, List.drop_drop]
    · cases h
theorem rd_form {ks zs : List Int} {fs : List Fld} {n : Nat} (hb : ∀ c ∈ zs, 0 ≤ c ∧ c < 256) (hl : zs.length ≤ 1048576) (h : rd ks zs = .ok (fs, n)) : (∀ g ∈ fs, fitF g = true) ∧ (∀ g ∈ fs, okF g) ∧ n ≤ zs.length ∧ flds fs = zs.take n := by
  obtain ⟨gs, g1, g2, g3, g4, g5, g6⟩ := rdF_form hb hl (Nat.zero_le _) h
  simp at g1
  subst g1
  exact ⟨g2, g3, g5, by simpa using g6⟩
theorem rdF_err' {ks zs : List Int} {acc : List Fld} {i : Nat} {c : Int} (h : rdF ks zs acc i = .error c) : ∃ k j, fld k (zs.drop j) = .error c := by
  induction ks generalizing acc i with
  | nil => cases h
  | cons k ks ih =>
    simp only [rdF] at h
    split at h
    · exact ih h
    · rename_i d hd; cases h; exact ⟨k, i, hd⟩

end Go.Proofs.YticmjlnpjopfbaaDoor.C
