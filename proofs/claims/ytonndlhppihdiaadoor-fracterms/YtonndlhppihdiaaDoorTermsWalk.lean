/-
  The law FracTerms, walked at every input.
-/
import Derived.Test.YtonndlhppihdiaaDoorRefFrom
import Derived.Test.YtonndlhppihdiaaDoorRefTerms
import Derived.Test.YtonndlhppihdiaaDoorEnv
namespace Go.Proofs.YtonndlhppihdiaaDoor
open Go.ChangeShapes Go.WideShapes Go.ChangeAt Go.RowKit
set_option linter.unusedVariables false
set_option linter.unusedSimpArgs false

theorem row_owns {w : World} {base len : Nat} {v : Value} {zs : List Int} (h : w.ownsRow base 2 1 v len (zs.map (Value.int .i64))) (hm : len ≤ maxLen)
    (hbd : ∀ k : Nat, -9223372036854775808 ≤ zs.getD k 0 ∧ zs.getD k 0 ≤ 9223372036854775807) : ∃ a c, v = .slice a len c ∧ Row w a len zs ∧ len ≤ c ∧ c ≤ 9223372036854775807 := by
  obtain ⟨a, c, rfl, R⟩ := row_own h hm hbd
  refine ⟨a, c, rfl, R, ?_⟩
  rcases h.2 with ⟨e, rfl⟩ | ⟨g, cap, cur, e, hg, hh, hn, hc, hcs, ht⟩
  · cases e; omega
  · cases e; unfold maxLen at hc; omega
theorem Row.alloc {w : World} {a : Option Addr} {len : Nat} {zs : List Int} (R : Row w a len zs) (o : Obj) : Row (w.alloc o) a len zs := R.below ((Below.refl _ w).alloc (Nat.le_refl _) o)
theorem Row.drewN {w : World} {a : Option Addr} {len : Nat} {zs : List Int} (R : Row w a len zs) (n : Nat) : Row (w.drewN n) a len zs := R.below (Below.drewn (Below.refl _ w) n)
theorem Row.drew {w : World} {a : Option Addr} {len : Nat} {zs : List Int} (R : Row w a len zs) : Row w.drew a len zs := R.below (Below.refl _ w).drew

set_option maxRecDepth 100000 in
set_option maxHeartbeats 2000000 in
theorem terms_no (n d : Int) (a : Option Addr) (len cap : Nat) (zs : List Int) (w : World) (h1 : I64 n) (h2 : I64 d) (R : Row w a len zs) (hcap : len ≤ cap) (hcap' : cap ≤ 9223372036854775807) (ht : Tab w) (va : validB n d = false) :
    Calls Tryd.prog 6 #[fr n d, .slice a len cap] w fun e w' => e = .returned (.bool true) ∧ Below w.heap.size w w' := by
  have F := fun W (Q : Row W a len zs) => from_any a len cap zs W Q hcap hcap'
  have G := fun W (Q : Row W a len zs) => rfrom_any a len cap zs W Q
  have V := fun W => rvalid_any n d W h1.1 h1.2 h2.1 h2.2
  rw [va] at V
  obtain ⟨⟨P, Q, E⟩, hp⟩ : ∃ p, fromA zs = p := ⟨_, rfl⟩
  rw [hp] at F G
  clear hp va
  have HR : Hid _ := R
  go_enter Tryd.func6, Tryd.ntmps6
  go_wp2_with (first
    | (go_at_call 30; refine (F _ (R.alloc _)).mono ?_; rintro e w1 ⟨rfl, hb⟩; have E1 := ((Env.start ht).push n d).below hb; have R1 : Row w1 a len zs := (R.alloc _).below hb; clear hb)
    | (go_at_call 31; refine (G _ (R1.alloc _)).mono ?_; rintro e w2 ⟨rfl, hb⟩; have E2 := (E1.push P Q).below hb; have Z2 := E2.push P Q; obtain ⟨a0, a1, _, _, a2⟩ := Z2.two (w2.heap.size, P, Q) (by simp); obtain ⟨b0, b1, _, _, b2⟩ := Z2.two (w1.heap.size, P, Q) (by simp); obtain ⟨c0, c1, _, _, c2⟩ := Z2.two (w.heap.size, n, d) (by simp); clear hb)
    | (go_at_call 12; refine (V _).mono ?_; rintro e w3 ⟨rfl, hb⟩; have E3 := Z2.below hb; clear hb)
    | (go_at_call 13; refine (awake_any _ E3.tab).mono ?_; rintro e w4 ⟨rfl, hb⟩; have E4 := E3.below hb; clear hb))
  go_ret
  exact ⟨rfl, E4.old⟩

/-- What the loop over both lists keeps. -/
structure Held2 (w : World) (n d : Int) (a a' : Option Addr) (ts : List Int) (W : World) : Prop where
  env : Env w [(w.heap.size, n, d)] W
  one : Row W a ts.length ts
  two : Row W a' ts.length ts
theorem Held2.drew {w W : World} {n d : Int} {a a' : Option Addr} {ts : List Int} (h : Held2 w n d a a' ts W) : Held2 w n d a a' ts W.drew := ⟨h.env.drew, h.one.drew, h.two.drew⟩
theorem Held2.drewN {w W : World} {n d : Int} {a a' : Option Addr} {ts : List Int} (h : Held2 w n d a a' ts W) (k : Nat) : Held2 w n d a a' ts (W.drewN k) := ⟨h.env.drewN k, h.one.drewN k, h.two.drewN k⟩
theorem Env.only {w W : World} {k : Nat} {a b : Int} {l : List (Nat × Int × Int)} (h : Env w l W) (hm : (k, a, b) ∈ l) : Env w [(k, a, b)] W :=
  ⟨fun p hp => by rw [List.mem_singleton] at hp; subst hp; exact h.two _ hm, h.old, h.tab0, fun p hp => by rw [List.mem_singleton] at hp; subst hp; exact h.own _ hm⟩

set_option maxRecDepth 100000 in
set_option maxHeartbeats 2000000 in
theorem terms_yes (n d : Int) (a : Option Addr) (len cap : Nat) (zs : List Int) (w : World) (h1 : I64 n) (h2 : I64 d) (R : Row w a len zs) (hcap : len ≤ cap) (hcap' : cap ≤ 9223372036854775807) (ht : Tab w) (va : validB n d = true) :
    Calls Tryd.prog 6 #[fr n d, .slice a len cap] w fun e w' => e = .returned (.bool true) ∧ Below w.heap.size w w' := by
  have F := fun W (Q : Row W a len zs) => from_any a len cap zs W Q hcap hcap'
  have G := fun W (Q : Row W a len zs) => rfrom_any a len cap zs W Q
  have V := fun W => rvalid_any n d W h1.1 h1.2 h2.1 h2.2
  have HF : Hid _ := from_tms va
  obtain ⟨s1, p, s3, s4⟩ := valid_parts va
  rw [va] at V
  have T := fun W => terms_list n d W h1 (by omega) s3
  have U := fun W => rterms_list n d W s1 (by omega) s3
  have LL := tms_length n d (by omega)
  have hbd := tms_bdk n d s1 (by omega) s3
  obtain ⟨⟨P, Q, E⟩, hp⟩ : ∃ p, fromA zs = p := ⟨_, rfl⟩
  rw [hp] at F G
  clear hp va s4
  have hmap : (tms n d).map (fun s => iv s.1) = ((tms n d).map Prod.fst).map (Value.int .i64) := by simp [Function.comp_def]
  have hlen : (tms n d).length = ((tms n d).map Prod.fst).length := by simp
  have hpos : 0 < ((tms n d).map Prod.fst).length := by rw [tms_pos n p]; simp
  rw [hmap] at T
  rw [hlen] at T U LL
  clear hmap hlen
  generalize (tms n d).map Prod.fst = ts at *
  have hL2 : ts.length ≤ 2147483647 := by omega
  clear LL
  go_enter Tryd.func6, Tryd.ntmps6
  go_wp2_with (first
    | (go_at_call 30; refine (F _ (R.alloc _)).mono ?_; rintro e w1 ⟨rfl, hb⟩; have E1 := ((Env.start ht).push n d).below hb; have R1 : Row w1 a len zs := (R.alloc _).below hb; clear hb)
    | (go_at_call 31; refine (G _ (R1.alloc _)).mono ?_; rintro e w2 ⟨rfl, hb⟩; have E2 := (E1.push P Q).below hb; have Z2 := E2.push P Q; obtain ⟨a0, a1, _, _, a2⟩ := Z2.two (w2.heap.size, P, Q) (by simp); obtain ⟨b0, b1, _, _, b2⟩ := Z2.two (w1.heap.size, P, Q) (by simp); obtain ⟨c0, c1, _, _, c2⟩ := Z2.two (w.heap.size, n, d) (by simp); clear hb)
    | (go_at_call 12; refine (V _).mono ?_; rintro e w3 ⟨rfl, hb⟩; have E3 := (Z2.below hb).only (k := w.heap.size) (a := n) (b := d) (by simp); obtain ⟨e0, e1, _, _, e2⟩ := E3.two (w.heap.size, n, d) (by simp); clear hb)
    | (go_at_call 32; refine (T _).mono ?_; rintro e w4 ⟨v4, rfl, O4, hb⟩; have E4 := E3.below hb; obtain ⟨f0, f1, _, _, f2⟩ := E4.two (w.heap.size, n, d) (by simp); clear hb; obtain ⟨a4, c4, rfl, R4, l4, l5⟩ := row_owns O4 (by unfold maxLen; omega) hbd; clear O4)
    | (go_at_call 33; refine (U _).mono ?_; rintro e w5 ⟨v5, rfl, O5, hb⟩; have E5 := E4.below hb; have R45 := R4.below hb; clear hb; obtain ⟨a5, c5, rfl, R5, _, _⟩ := row_owns O5 (by unfold maxLen; omega) hbd; clear O5))
  have H5 : Held2 w n d a4 a5 ts w5 := ⟨E5, R45, R5⟩
  obtain ⟨x4, o4, hx4, hy4, _⟩ := R45.mem.resolve_left (by omega)
  obtain ⟨x5, o5, hx5, hy5, _⟩ := R5.mem.resolve_left (by omega)
  subst hx4 hx5
  clear E5 E4 R4 R45 R5 E3 E2 E1 R1 Z2 F G V T U R hy4 hy5
  go_loopg [11] ts.length (fun g i wr => ∃ k : Nat, k + g = ts.length ∧ i = .int .i64 k ∧ Held2 w n d (some ⟨x4, o4, none⟩) (some ⟨x5, o5, none⟩) ts wr)
  case atStart => exact ⟨0, by omega, rfl, H5⟩
  case round =>
    clear H5
    obtain ⟨k, hk, rfl, H⟩ := hrel
    by_cases hlt : k < ts.length
    · have c4 : wr.cell? ⟨x4, o4 + k, none⟩ = some (.int .i64 (ts.getD k 0)) := by
        obtain ⟨b, off, e, _, hc⟩ := H.one.mem.resolve_left (by omega)
        injection e with e; injection e with e1 e2; subst e1 e2
        exact hc k hlt
      have c5 : wr.cell? ⟨x5, o5 + k, none⟩ = some (.int .i64 (ts.getD k 0)) := by
        obtain ⟨b, off, e, _, hc⟩ := H.two.mem.resolve_left (by omega)
        injection e with e; injection e with e1 e2; subst e1 e2
        exact hc k hlt
      generalize ts.getD k 0 = x at c4 c5
      have hI : (k : Int) < (ts.length : Int) := by omega
      have hK : Hid (k + gk = ts.length) := hk
      clear hk
      go_wp2
      go_region
      all_goals go_wp2
      all_goals go_roundg (gk - 1)
      all_goals first
        | (have := hK.out; omega)
        | exact ⟨k + 1, by have := hK.out; omega, rfl, by first | exact H.drew | exact H.drewN _⟩
    · have hkI : ¬ ((k : Int) < (ts.length : Int)) := by omega
      have FF := from_any _ _ _ ts wr H.one l4 l5
      rw [HF.out] at FF
      clear hk hlt
      go_wp2_with (first
        | (go_at_call 30; refine FF.mono ?_; rintro e w6 ⟨rfl, hb⟩; have E6 := (H.env.below hb).push n d; obtain ⟨a0, a1, _, _, a2⟩ := E6.two (w6.heap.size, n, d) (by simp); obtain ⟨b0, b1, _, _, b2⟩ := E6.two (w.heap.size, n, d) (by simp); clear hb)
        | (go_at_call 13; refine (awake_any _ E6.tab).mono ?_; rintro e w7 ⟨rfl, hb⟩; have E7 := E6.below hb; clear hb))
      go_ret
      exact ⟨rfl, E7.old⟩

theorem terms_walk (n d : Int) (a : Option Addr) (len cap : Nat) (zs : List Int) (w : World) (h1 : I64 n) (h2 : I64 d) (R : Row w a len zs) (hr : len * 8 ≤ 140737488351232) (hnone : a = none → cap = 0) (hcap : len ≤ cap ∧ cap ≤ 9223372036854775807) (ht : Tab w) :
    Calls Tryd.prog 6 #[fr n d, .slice a len cap] w fun e w' => e = .returned (.bool true) ∧ Below w.heap.size w w' := by
  cases va : validB n d with
  | false => exact terms_no n d a len cap zs w h1 h2 R hcap.1 hcap.2 ht va
  | true => exact terms_yes n d a len cap zs w h1 h2 R hcap.1 hcap.2 ht va

end Go.Proofs.YtonndlhppihdiaaDoor
