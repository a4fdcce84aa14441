/-
  The law SealOpens, walked.
-/
import Derived.Test.YteadkfcbgphgnaaDoorSealed
namespace Go.Proofs.YteadkfcbgphgnaaDoor
open Go.ChangeShapes Go.WideShapes Go.ChangeAt Go.RowKit
set_option linter.unusedVariables false

def oB : Except Int (List Int × Nat) → List Int
  | .ok (b, _) => b
  | .error _ => []
def oN : Except Int (List Int × Nat) → Nat
  | .ok (_, n) => n
  | .error _ => 0
def oE : Except Int (List Int × Nat) → Int
  | .ok _ => 0
  | .error c => c
theorem byt_body {l b : List Int} {n : Nat} (hb : Byt l) (h : opn l = .ok (b, n)) : Byt b := by
  intro c hc
  rw [← frame_body h] at hc
  exact hb c (List.mem_of_mem_take (List.mem_of_mem_drop (List.mem_of_mem_take hc)))
theorem byt_oB {l : List Int} (hb : Byt l) : Byt (oB (opn l)) := by
  cases h : opn l with
  | error c => intro z hz; cases hz
  | ok q => obtain ⟨b, n⟩ := q; exact byt_body hb h
/-- What Open hands back, whatever it tells. -/
theorem out_row {base : Nat} {w' : World} {l : List Int} {e : Ending} (hb : Byt l) (h : OpenOut base w' (opn l) e) :
    ∃ a1 n1 c1, e = .returned (.tuple #[.slice a1 n1 c1, .int .i64 (oN (opn l) : Nat), .int .i64 (oE (opn l))]) ∧ Row .u8 w' a1 n1 c1 (oB (opn l)) ∧ (∀ b off, a1 = some ⟨b, off, none⟩ → 0 < n1 → base ≤ b) := by
  have hby := byt_oB hb
  cases ho : opn l with
  | error c =>
    rw [ho] at h
    exact ⟨none, 0, 0, h, row_nil _ _, fun b off e => by cases e⟩
  | ok q =>
    obtain ⟨b, n⟩ := q
    rw [ho] at h hby
    obtain ⟨v, h1, h2⟩ := h
    obtain ⟨a1, c1, rfl, R1, _, hg⟩ := own_row_len h2 hby rfl
    refine ⟨a1, _, c1, h1, R1, fun b' off e hp => ?_⟩
    obtain ⟨g, e', hg'⟩ := hg hp
    rw [e] at e'
    cases e'
    exact hg'

set_option maxRecDepth 100000 in
set_option maxHeartbeats 4000000 in
theorem opens_walk (a : Option Addr) (len cap : Nat) (bs : List (List Int)) (a2 : Option Addr) (len2 cap2 : Nat) (zs : List Int) (w : World) (RB : RowsB w a len cap bs) (R : Row .u8 w a2 len2 cap2 zs) (ht : Tab w)
    (hbb : ∀ b ∈ bs, Byt b) (hl : len ≤ 9223372036854775807) (hs : 8 * bsum bs + len2 ≤ 1099511627776) :
    Calls Tryd.prog 4 #[.slice a len cap, .slice a2 len2 cap2] w fun e w' => e = .returned (.bool true) ∧ Below w.heap.size w w' := by
  have hL : (sealL bs zs).length ≤ 1099511627776 := by
    have := frames_len bs
    have := R.size
    unfold sealL
    rw [List.length_append]
    omega
  have hLb : Byt (sealL bs zs) := byt_app (byt_frames hbb) R.byte
  have K1 := sealed_any _ _ _ _ _ _ _ _ w RB R hl hs
  obtain ⟨l, hl0⟩ : ∃ l, sealL bs zs = l := ⟨_, rfl⟩
  have KS := fun X (hX : Below w.heap.size w X) => sealed_any _ _ _ _ _ _ _ _ X (RB.below hX) (R.below hX) hl hs
  rw [hl0] at K1 hL hLb KS
  clear hl0
  obtain ⟨N, hN⟩ : ∃ N, l.length = N := ⟨_, rfl⟩
  rw [hN] at hL
  go_enter Tryd.func4, Tryd.ntmps4
  go_wp2_with fail
  refine K1.mono ?_
  rintro e w1 ⟨v1, rfl, o1, b1⟩
  obtain ⟨a1, c1, rfl, F1, hc1, hg1⟩ := own_row_len o1 hLb hN
  have hw1 : ∀ g, a1 = some ⟨g, 0, none⟩ → g < w1.heap.size := fun g e => by subst e; exact (World.ownsRow.lt o1 g rfl).2
  have K2 := open_any _ _ _ _ w1 F1 (ht.below b1) (by omega) hc1
  clear K1
  go_wp2_with fail
  refine K2.mono ?_
  rintro e w2 ⟨so, b2⟩
  obtain ⟨a4, n4, c4, rfl, S4, g4⟩ := out_row hLb so
  have bw2 : Below w.heap.size w w2 := b1.trans (b2.mono b1.size)
  have K3 := KS w2 bw2
  clear K2 so
  obtain ⟨ys, hys⟩ : ∃ ys, oB (opn l) = ys := ⟨_, rfl⟩
  obtain ⟨m, hm⟩ : ∃ m, oN (opn l) = m := ⟨_, rfl⟩
  obtain ⟨k, hk⟩ : ∃ k, oE (opn l) = k := ⟨_, rfl⟩
  rw [hm, hk]
  rw [hys] at S4
  go_wp2_with fail
  refine K3.mono ?_
  rintro e w3 ⟨v3, rfl, o3, b3⟩
  obtain ⟨a3, c3, rfl, F3, hc3, _⟩ := own_row_len o3 hLb hN
  have bw3 : Below w.heap.size w w3 := bw2.trans (b3.mono bw2.size)
  have K4 := ropen_any _ _ _ _ w3 F3 (by omega) hc3
  clear K3
  go_wp2_with fail
  refine K4.mono ?_
  rintro e w4 ⟨so, b4⟩
  obtain ⟨a5, n5, c5, rfl, S5, g5⟩ := out_row hLb so
  rw [hm, hk]
  rw [hys] at S5
  have b14 : Below w1.heap.size w1 w4 := b2.trans ((b3.trans (b4.mono b3.size)).mono b2.size)
  have bw4 : Below w.heap.size w w4 := bw3.trans (b4.mono bw3.size)
  have S44 := S4.below (b3.trans (b4.mono b3.size))
  have b12 := b2.size
  have b13 := b3.size
  obtain ⟨g, hag, hgb, hgs2⟩ : ∃ g, (0 < N → a1 = some ⟨g, 0, none⟩ ∧ g < w1.heap.size) ∧ w.heap.size ≤ g ∧ (∀ b off, (a4 = some ⟨b, off, none⟩ ∧ 0 < n4) ∨ (a5 = some ⟨b, off, none⟩ ∧ 0 < n5) → b ≠ g) := by
    by_cases hp : 0 < N
    · obtain ⟨g, e, hg⟩ := hg1 hp
      have := hw1 g e
      refine ⟨g, fun _ => ⟨e, this⟩, hg, fun b off h => ?_⟩
      rcases h with ⟨h, hp⟩ | ⟨h, hp⟩
      · have := g4 b off h hp; omega
      · have := g5 b off h hp; omega
    · refine ⟨w4.heap.size, fun h => absurd h hp, bw4.size, fun b off h => ?_⟩
      rcases h with ⟨h, hp⟩ | ⟨h, hp⟩
      · obtain ⟨b', off', e, hb, _⟩ := S44.mem.resolve_left (by omega)
        rw [h] at e
        cases e
        omega
      · obtain ⟨b', off', e, hb, _⟩ := S5.mem.resolve_left (by omega)
        rw [h] at e
        cases e
        omega
  have hO : Over g N w4 w4 := ⟨rfl, rfl, rfl, rfl, fun _ _ => rfl, fun k hk => by
      obtain ⟨rfl, _⟩ := hag (by omega)
      have := (F1.below b14).at k hk
      rw [Nat.zero_add] at this
      exact ⟨_, this⟩, fun k hk => by
      obtain ⟨rfl, hgl⟩ := hag (by omega)
      exact (b14.frozen (p := ⟨g, k, none⟩) hgl).trans (own_frozen o1 k)⟩
  have q1 : ((m : Int) != (m : Int)) = false := by simp
  have q2 : (k != k) = false := by simp
  clear K4 so KS hys hm hk g4 g5 hg1 hw1 F3 o3 S4
  go_wp2
  go_loopg [12] N (fun f ix wr => ∃ j : Nat, ix = .int .i64 j ∧ j + f = N ∧ Over g N w4 wr)
  case atStart => exact ⟨0, rfl, by omega, hO⟩
  case round =>
    obtain ⟨j, rfl, hjg, hov⟩ := hrel
    by_cases hc : j < N
    · obtain ⟨rfl, hgl⟩ := hag (by omega)
      obtain ⟨u, hu⟩ := hov.cell j hc
      have hf := hov.free j hc
      go_wp2
      go_roundg (gk - 1)
      case measure => omega
      case rel => exact ⟨j + 1, by first | rfl | go_num, by omega, hov.set _ _⟩
    · have e : N = j := by omega
      have bwr := hov.below bw4 hgb
      have vf := conv_row (hov.row S44 (fun b off e h => hgs2 b off (.inl ⟨e, h⟩)))
      have vg := conv_row (hov.row S5 (fun b off e h => hgs2 b off (.inr ⟨e, h⟩)))
      obtain ⟨s, hss⟩ : ∃ s, strOfNums ys = s := ⟨_, rfl⟩
      rw [hss] at vf vg
      have q1 := beq_refl_bytes s
      have KA := awake_any wr (ht.below bwr)
      subst e
      go_wp2_with (go_at_call 14; refine KA.mono ?_; rintro e w6 ⟨rfl, b6⟩)
      go_ret
      exact ⟨rfl, bwr.trans (b6.mono bwr.size)⟩

end Go.Proofs.YteadkfcbgphgnaaDoor
