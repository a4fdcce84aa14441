/-
  CRC-32, bit after bit: it is linear, a register that reads its own bits is 0, and a stretch of at most 32 changed bits is told.
-/
namespace Go.Proofs.YtaacggbfoejjhaaDoor.S
set_option linter.unusedVariables false
set_option linter.unusedSimpArgs false

theorem xor_mod (a b : Nat) : (a ^^^ b) % 2 = (a % 2 + b % 2) % 2 := by
  have h := Nat.testBit_xor a b 0
  rw [Nat.testBit_zero, Nat.testBit_zero, Nat.testBit_zero] at h
  have hx := Nat.mod_two_eq_zero_or_one (a ^^^ b)
  rcases Nat.mod_two_eq_zero_or_one a with ha | ha <;> rcases Nat.mod_two_eq_zero_or_one b with hb | hb <;> rw [ha, hb] at h ⊢ <;> rcases hx with hx | hx <;> rw [hx] at h ⊢ <;> simp at h ⊢
theorem xor_zero_eq {a b : Nat} (h : a ^^^ b = 0) : a = b := by
  have e : (a ^^^ b) ^^^ b = b := by rw [h, Nat.zero_xor]
  rw [Nat.xor_assoc, Nat.xor_self, Nat.xor_zero] at e
  exact e

/-- One bit is read. -/
def crcS (s : Nat) (b : Bool) : Nat := if (s % 2 == 1) != b then s / 2 ^^^ 3988292384 else s / 2
def crcR (s : Nat) (l : List Bool) : Nat := l.foldl crcS s
theorem crcR_cons (s : Nat) (b : Bool) (l : List Bool) : crcR s (b :: l) = crcR (crcS s b) l := rfl
theorem crcR_app (s : Nat) (l m : List Bool) : crcR s (l ++ m) = crcR (crcR s l) m := List.foldl_append
theorem crcS_lt {s : Nat} (h : s < 2 ^ 32) (b : Bool) : crcS s b < 2 ^ 32 := by
  unfold crcS
  split
  · exact Nat.xor_lt_two_pow (by omega) (by decide)
  · omega
theorem crcR_lt : ∀ (l : List Bool) {s : Nat}, s < 2 ^ 32 → crcR s l < 2 ^ 32
  | [], s, h => h
  | b :: l, s, h => crcR_lt l (crcS_lt h b)
theorem xor_swap (a b c d : Nat) : (a ^^^ b) ^^^ (c ^^^ d) = (a ^^^ c) ^^^ (b ^^^ d) := by
  rw [Nat.xor_assoc, Nat.xor_assoc, ← Nat.xor_assoc b c d, Nat.xor_comm b c, Nat.xor_assoc c b d]
theorem crcS_xor (s t : Nat) (b c : Bool) : crcS (s ^^^ t) (b != c) = crcS s b ^^^ crcS t c := by
  unfold crcS
  have hm := xor_mod s t
  have hd : (s ^^^ t) / 2 = s / 2 ^^^ t / 2 := Nat.xor_div_two
  rw [hm, hd]
  have e1 : ∀ x y : Nat, (x ^^^ 3988292384) ^^^ y = (x ^^^ y) ^^^ 3988292384 := fun x y => by rw [Nat.xor_assoc, Nat.xor_comm 3988292384 y, ← Nat.xor_assoc]
  have e2 : ∀ x y : Nat, x ^^^ (y ^^^ 3988292384) = (x ^^^ y) ^^^ 3988292384 := fun x y => by rw [Nat.xor_assoc]
  have e4 : ∀ x : Nat, x ^^^ 3988292384 ^^^ 3988292384 = x := fun x => by rw [Nat.xor_assoc, Nat.xor_self, Nat.xor_zero]
  rcases Nat.mod_two_eq_zero_or_one s with hs | hs <;> rcases Nat.mod_two_eq_zero_or_one t with ht | ht <;>
    rw [hs, ht] <;> cases b <;> cases c <;> simp [e1, e2, e4]
theorem crcR_xor : ∀ (l m : List Bool) (s t : Nat), l.length = m.length → crcR (s ^^^ t) (List.zipWith (· != ·) l m) = crcR s l ^^^ crcR t m
  | [], [], s, t, _ => rfl
  | b :: l, c :: m, s, t, h => by
    rw [List.zipWith_cons_cons, crcR_cons, crcR_cons, crcR_cons, crcS_xor]
    exact crcR_xor l m _ _ (by simpa using h)
def zer (n : Nat) : List Bool := List.replicate n false
theorem crcR_zer : ∀ n : Nat, crcR 0 (zer n) = 0
  | 0 => rfl
  | n + 1 => crcR_zer n
theorem crcS_inj {s : Nat} (h : s < 2 ^ 32) (h0 : crcS s false = 0) : s = 0 := by
  unfold crcS at h0
  split at h0
  · exfalso
    have : s / 2 = 3988292384 := xor_zero_eq h0
    omega
  · rename_i hc
    have : ¬ s % 2 = 1 := by simpa using hc
    omega
theorem crcR_inj : ∀ (n : Nat) {s : Nat}, s < 2 ^ 32 → crcR s (zer n) = 0 → s = 0
  | 0, s, _, h0 => h0
  | n + 1, s, h, h0 => crcS_inj h (crcR_inj n (crcS_lt h false) h0)
/-- The number of a row of bits, the lowest first. -/
def numB : List Bool → Nat
  | [] => 0
  | b :: l => b.toNat + 2 * numB l
theorem numB_lt : ∀ l : List Bool, numB l < 2 ^ l.length
  | [] => by simp [numB]
  | b :: l => by
    have := numB_lt l
    have hb : b.toNat ≤ 1 := by cases b <;> simp
    simp only [numB, List.length_cons, Nat.pow_succ]
    omega
theorem numB_zero : ∀ l : List Bool, numB l = 0 → l = zer l.length
  | [], _ => rfl
  | b :: l, h => by
    simp only [numB] at h
    have hb : b = false := by cases b <;> simp at h ⊢
    subst hb
    rw [List.length_cons]
    show _ = false :: zer l.length
    rw [← numB_zero l (by simp at h; omega)]
theorem low_xor (b : Bool) (x : Nat) : b.toNat + 2 * x = b.toNat ^^^ 2 * x := by
  apply Nat.eq_of_testBit_eq
  intro i
  cases i with
  | zero => cases b <;> simp [Nat.testBit_zero, xor_mod]
  | succ i =>
    rw [Nat.testBit_succ, Nat.testBit_succ, Nat.xor_div_two]
    cases b <;> simp <;> congr 1 <;> omega
theorem crcS_low (s : Nat) (b : Bool) : crcS s b = crcS (s ^^^ b.toNat) false := by
  have h := crcS_xor s b.toNat b b
  have h2 : crcS b.toNat b = 0 := by cases b <;> rfl
  rw [h2, Nat.xor_zero] at h
  rw [← h]
  cases b <;> rfl
theorem crcS_even (x : Nat) : crcS (2 * x) false = x := by
  unfold crcS
  rw [if_neg (by simp)]
  omega
/-- Bits that are read are bits that stood in the register. -/
theorem crcR_num : ∀ (l : List Bool) (s : Nat), crcR s l = crcR (s ^^^ numB l) (zer l.length)
  | [], s => by simp [numB, zer, crcR]
  | b :: l, s => by
    rw [crcR_cons, crcR_num l, List.length_cons]
    show _ = crcR (crcS (s ^^^ numB (b :: l)) false) (zer l.length)
    congr 1
    rw [crcS_low s b]
    have e : s ^^^ numB (b :: l) = (s ^^^ b.toNat) ^^^ 2 * numB l := by
      show s ^^^ (b.toNat + 2 * numB l) = _
      rw [low_xor, Nat.xor_assoc]
    have h := crcS_xor (s ^^^ b.toNat) (2 * numB l) false false
    rw [crcS_even] at h
    rw [e]
    exact h.symm
/-- A register that reads its own bits is 0. -/
theorem crcR_self (l : List Bool) : crcR (numB l) l = 0 := by
  rw [crcR_num, Nat.xor_self, crcR_zer]
/-- At most 32 bits, not all of them 0, leave a register that is not 0, whatever zeros stand around. -/
theorem crc_burst (a z : Nat) (l : List Bool) (hl : l.length ≤ 32) (h : crcR 0 (zer a ++ (l ++ zer z)) = 0) : l = zer l.length := by
  rw [crcR_app, crcR_zer, crcR_app, crcR_num l, Nat.zero_xor] at h
  have hn : numB l < 2 ^ 32 := Nat.lt_of_lt_of_le (numB_lt l) (Nat.pow_le_pow_right (by omega) hl)
  exact numB_zero l (crcR_inj _ hn (crcR_inj z (crcR_lt _ hn) h))
/-- The bits of a number, n of them, the lowest first. -/
def bitsN : Nat → Nat → List Bool
  | 0, _ => []
  | n + 1, x => (x % 2 == 1) :: bitsN n (x / 2)
theorem bitsN_len : ∀ n x : Nat, (bitsN n x).length = n
  | 0, _ => rfl
  | n + 1, x => by simp [bitsN, bitsN_len n]
theorem bitsN_num : ∀ (n x : Nat), x < 2 ^ n → numB (bitsN n x) = x
  | 0, x, h => by simp at h; simp [bitsN, numB, h]
  | n + 1, x, h => by
    rw [bitsN, numB, bitsN_num n (x / 2) (by rw [Nat.pow_succ] at h; omega)]
    rcases Nat.mod_two_eq_zero_or_one x with hx | hx <;> rw [hx] <;> simp <;> omega
theorem bitsN_xor : ∀ (n x y : Nat), List.zipWith (· != ·) (bitsN n x) (bitsN n y) = bitsN n (x ^^^ y)
  | 0, _, _ => rfl
  | n + 1, x, y => by
    rw [bitsN, bitsN, bitsN, List.zipWith_cons_cons, bitsN_xor n, Nat.xor_div_two]
    congr 1
    rw [xor_mod]
    rcases Nat.mod_two_eq_zero_or_one x with hx | hx <;> rcases Nat.mod_two_eq_zero_or_one y with hy | hy <;> rw [hx, hy] <;> rfl
/-- Two rows with their sums behind them: what they differ by leaves 0. -/
theorem crc_two (I : Nat) (l m : List Bool) (hl : l.length = m.length) (hI : I < 2 ^ 32) (o : Nat) (ho : o < 2 ^ 32) :
    crcR 0 (List.zipWith (· != ·) (l ++ bitsN 32 (crcR I l ^^^ o)) (m ++ bitsN 32 (crcR I m ^^^ o))) = 0 := by
  rw [List.zipWith_append hl, crcR_app, bitsN_xor]
  have e : crcR 0 (List.zipWith (· != ·) l m) = crcR I l ^^^ crcR I m := by
    rw [← crcR_xor l m I I hl, Nat.xor_self]
  have e2 : (crcR I l ^^^ o) ^^^ (crcR I m ^^^ o) = crcR I l ^^^ crcR I m := by rw [xor_swap, Nat.xor_self, Nat.xor_zero]
  rw [e, e2]
  have hx : crcR I l ^^^ crcR I m < 2 ^ 32 := Nat.xor_lt_two_pow (crcR_lt l hI) (crcR_lt m hI)
  have := crcR_self (bitsN 32 (crcR I l ^^^ crcR I m))
  rw [bitsN_num 32 _ hx] at this
  exact this

end Go.Proofs.YtaacggbfoejjhaaDoor.S
