/-
  Frames and what Open tells of bytes: there and back, cut off, and turned bits.
-/
import Derived.Test.YtaacggbfoejjhaaDoorSBits
namespace Go.Proofs.YtaacggbfoejjhaaDoor.S
set_option linter.unusedVariables false
set_option linter.unusedSimpArgs false

/-- Bytes. -/
def Byt (l : List Int) : Prop := ∀ z ∈ l, 0 ≤ z ∧ z < 256
/-- What the sum is of. -/
def inner (body : List Int) : List Int := ((body.length % 256 : Nat) : Int) :: ((body.length / 256 : Nat) : Int) :: body
def frm (body : List Int) : List Int := 237 :: 91 :: summed (inner body)
theorem frm_len (body : List Int) : (frm body).length = body.length + 8 := by
  simp [frm, summed, inner, le4]
/-- How many bytes the body has, by the two bytes behind the mark. -/
def lenAt (l : List Int) : Nat := (l.getD 2 0).toNat + 256 * (l.getD 3 0).toNat
/-- What Open tells: an error's number, or the body and how many bytes the frame has. -/
def opn (l : List Int) : Except Int (List Int × Nat) :=
  if (0 < l.length ∧ l.getD 0 0 ≠ 237) ∨ (1 < l.length ∧ l.getD 1 0 ≠ 91) then .error 20
  else if l.length < 4 then .error 21
  else if l.length < lenAt l + 8 then .error 21
  else if (l.drop (4 + lenAt l)).take 4 ≠ le4 (sumB ((l.drop 2).take (2 + lenAt l))) then .error 22
  else .ok ((l.drop 4).take (lenAt l), lenAt l + 8)
theorem frm_at (body more : List Int) (h : body.length ≤ 65535) : lenAt (frm body ++ more) = body.length := by
  simp only [lenAt, frm, summed, inner, List.cons_append, List.getD_cons_succ, List.getD_cons_zero, Int.toNat_natCast]
  omega
theorem opn_frm (body more : List Int) (h : body.length ≤ 65535) : opn (frm body ++ more) = .ok (body, body.length + 8) := by
  have hl := frm_len body
  have ha := frm_at body more h
  unfold opn
  rw [ha, List.length_append, hl]
  have e2 : (frm body ++ more).drop 2 = summed (inner body) ++ more := rfl
  have il : (inner body).length = 2 + body.length := by simp [inner]; omega
  have e3 : ((frm body ++ more).drop 2).take (2 + body.length) = inner body := by
    rw [e2, summed, List.append_assoc, List.take_left' il]
  have e4 : ((frm body ++ more).drop (4 + body.length)).take 4 = le4 (sumB (inner body)) := by
    rw [show 4 + body.length = 2 + (2 + body.length) by omega, ← List.drop_drop, e2, summed, List.append_assoc, List.drop_left' il, List.take_left' (by simp [le4])]
  have e5 : ((frm body ++ more).drop 4).take body.length = body := by
    show ((body ++ le4 (sumB (inner body))) ++ more).take body.length = body
    rw [List.append_assoc, List.take_left' rfl]
  rw [if_neg (by simp [frm]), if_neg (by omega), if_neg (by omega), if_neg (by rw [e3, e4]; simp), e5]
theorem getD_take (l : List Int) (k i : Nat) (h : i < k) : (l.take k).getD i 0 = l.getD i 0 := by
  rw [List.getD_eq_getElem?_getD, List.getElem?_take, if_pos h, ← List.getD_eq_getElem?_getD]
theorem opn_cut (body : List Int) (k : Nat) (h : body.length ≤ 65535) (hk : k < (frm body).length) : opn ((frm body).take k) = .error 21 := by
  have hl := frm_len body
  have tl : ((frm body).take k).length = k := by rw [List.length_take]; omega
  have g0 : (frm body).getD 0 0 = 237 := rfl
  have g1 : (frm body).getD 1 0 = 91 := rfl
  unfold opn
  rw [tl, if_neg (by
    rintro (⟨a, b⟩ | ⟨a, b⟩)
    · rw [getD_take _ _ _ a, g0] at b; exact b rfl
    · rw [getD_take _ _ _ a, g1] at b; exact b rfl)]
  by_cases h4 : k < 4
  · rw [if_pos h4]
  · rw [if_neg h4, if_pos]
    have ha := frm_at body [] h
    rw [List.append_nil] at ha
    have : lenAt ((frm body).take k) = lenAt (frm body) := by
      unfold lenAt
      rw [getD_take _ _ _ (by omega), getD_take _ _ _ (by omega)]
    rw [this, ha]
    omega
theorem four {l : List Int} (h : ¬ l.length < 4) : ∃ a c x y r, l = a :: c :: x :: y :: r := by
  rcases l with _ | ⟨a, _ | ⟨c, _ | ⟨x, _ | ⟨y, r⟩⟩⟩⟩
  · simp at h
  · simp at h
  · simp at h
  · simp at h
  · exact ⟨a, c, x, y, r, rfl⟩
/-- Where Open takes a frame, that frame stands there. -/
theorem opn_ok {l b : List Int} {n : Nat} (hb : Byt l) (h : opn l = .ok (b, n)) : l.take n = frm b ∧ n = b.length + 8 ∧ n ≤ l.length ∧ b.length ≤ 65535 := by
  unfold opn at h
  split at h
  · cases h
  rename_i h1
  split at h
  · cases h
  rename_i h2
  split at h
  · cases h
  rename_i h3
  split at h
  · cases h
  rename_i h4
  obtain ⟨N, hN⟩ : ∃ N, lenAt l = N := ⟨_, rfl⟩
  rw [hN] at h h3 h4
  simp only [Except.ok.injEq, Prod.mk.injEq] at h
  obtain ⟨rfl, rfl⟩ := h
  simp only [ne_eq, Decidable.not_not] at h4
  obtain ⟨a, c, x, y, r, rfl⟩ := four h2
  simp only [List.length_cons] at h3
  have hx := hb x (by simp)
  have hy := hb y (by simp)
  have hN' : x.toNat + 256 * y.toNat = N := hN
  have ha : a = 237 := by
    apply Classical.byContradiction
    intro ne
    exact h1 (.inl ⟨by simp, by simpa using ne⟩)
  have hc : c = 91 := by
    apply Classical.byContradiction
    intro ne
    exact h1 (.inr ⟨by simp, by simpa using ne⟩)
  subst ha hc
  have tl : (r.take N).length = N := by rw [List.length_take]; omega
  have e : (((237 : Int) :: 91 :: x :: y :: r).drop 4).take N = r.take N := rfl
  rw [e, tl]
  refine ⟨?_, rfl, by simp only [List.length_cons]; omega, by omega⟩
  have k1 : (((237 : Int) :: 91 :: x :: y :: r).drop (4 + N)).take 4 = (r.drop N).take 4 := by
    rw [← List.drop_drop]; rfl
  have k2 : (((237 : Int) :: 91 :: x :: y :: r).drop 2).take (2 + N) = x :: y :: r.take N := by
    rw [show 2 + N = N + 2 by omega]; rfl
  rw [k1, k2] at h4
  have ei : inner (r.take N) = x :: y :: r.take N := by
    unfold inner
    rw [tl]
    have q1 : ((N % 256 : Nat) : Int) = x := by omega
    have q2 : ((N / 256 : Nat) : Int) = y := by omega
    rw [q1, q2]
  rw [show N + 8 = (N + 4) + 4 by omega]
  show (237 : Int) :: 91 :: x :: y :: r.take (N + 4) = frm (r.take N)
  unfold frm summed
  rw [ei, ← h4, List.take_add]
  rfl
/-- A frame with at most 32 bits in a row turned is not taken as one of the same length, if one bit at least was turned. -/
theorem opn_spoilt (body g : List Int) (h : body.length ≤ 65535) (hg : Byt g) (hlen : g.length = (frm body).length) (a z : Nat) (B : List Bool) (hB : B.length ≤ 32)
    (h2 : g.take 2 = (frm body).take 2)
    (hd : List.zipWith (· != ·) (bitsL ((frm body).drop 2)) (bitsL (g.drop 2)) = zer a ++ (B ++ zer z)) (b : List Int) (n : Nat) (ho : opn g = .ok (b, n)) (hn : n = g.length) : B = zer B.length := by
  obtain ⟨o1, o2, o3, o4⟩ := opn_ok hg ho
  rw [hn, List.take_length] at o1
  have hl := frm_len body
  have hbl : b.length = body.length := by omega
  have e1 : (frm body).drop 2 = summed (inner body) := rfl
  have e2 : g.drop 2 = summed (inner b) := by rw [o1]; rfl
  rw [e1, e2] at hd
  exact summed_told (inner body) (inner b) (by simp [inner, hbl]) a z B hB hd

end Go.Proofs.YtaacggbfoejjhaaDoor.S
