/-
  The law CodeWrites, walked.
-/
import Derived.Test.YtfgniilihdimgaaAwake
import Derived.Test.YtfgniilihdimgaaRefWrite
import Derived.Deep.DeepCutAuto
import Derived.Test.YtfgniilihdimgaaHeld
namespace Go.Proofs.Ytfgniilihdimgaa
open Go.ChangeShapes Go.WideShapes Go.ChangeAt Go.RowKit
set_option linter.unusedVariables false
set_option linter.unusedSimpArgs false

theorem Row.pre {kd : IntKind} {w : World} {a : Option Addr} {len cap : Nat} {zs : List Int} (R : Row kd w a len cap zs) {k : Nat} (hk : k ≤ len) (hs : a ≠ none) : Row kd w a k cap (zs.take k) where
  size := by have := R.size; simp; omega
  le := by have := R.le; omega
  nil := fun h => absurd h hs
  wf := fun z hz => R.wf z (List.mem_of_mem_take hz)
  mem := by
    by_cases h0 : k = 0
    · exact .inl h0
    · obtain ⟨b, off, e, hb, hc⟩ := R.mem.resolve_left (by omega)
      refine .inr ⟨b, off, e, hb, fun i hi => ?_⟩
      rw [hc i (by omega), List.getD_eq_getElem?_getD, List.getD_eq_getElem?_getD, List.getElem?_take, if_pos hi]

theorem Own.row' {base : Nat} {w : World} {v : Value} {zs : List Int} (h : Own base w v zs) (hb : ∀ c ∈ zs, 0 ≤ c ∧ c < 256) : ∃ a n cap, v = .slice a n cap ∧ Row .u8 w a n cap zs :=
  let ⟨a, c, h1, h2⟩ := h.row hb
  ⟨a, _, c, h1, h2⟩
theorem app_byte {zs ys : List Int} (h : ∀ c ∈ zs, 0 ≤ c ∧ c < 256) (h' : ∀ c ∈ ys, 0 ≤ c ∧ c < 256) : ∀ c ∈ zs ++ ys, 0 ≤ c ∧ c < 256 := by
  intro c hc
  rcases List.mem_append.1 hc with hc | hc
  · exact h c hc
  · exact h' c hc

theorem flg_byte (b : Bool) : ∀ c ∈ flg b, 0 ≤ c ∧ c < 256 := by
  intro c hc
  cases b <;> simp [flg] at hc <;> omega

/-- What stays while the law goes on: the bytes that came in, and its own copy with 77 behind. -/
structure Env (w : World) (a : Option Addr) (len cap : Nat) (zs : List Int) (g c0 : Nat) (W : World) : Prop where
  row : Row .u8 W a len cap zs
  own : Row .u8 W (some ⟨g, 0, none⟩) len c0 zs
  last : W.cell? ⟨g, len, none⟩ = some (.int .u8 77)
  gl : g < W.heap.size
  cl : len < c0
  old : Below w.heap.size w W
theorem Env.below {w : World} {a : Option Addr} {len cap : Nat} {zs : List Int} {g c0 : Nat} {W W' : World} (h : Env w a len cap zs g c0 W) (hb : Below W.heap.size W W') : Env w a len cap zs g c0 W' :=
  ⟨h.row.below hb, h.own.below hb, (hb.cell (p := ⟨g, len, none⟩) h.gl).trans h.last, Nat.lt_of_lt_of_le h.gl hb.size, h.cl, h.old.trans (hb.mono h.old.size)⟩
theorem Env.drew {w : World} {a : Option Addr} {len cap : Nat} {zs : List Int} {g c0 : Nat} {W : World} (h : Env w a len cap zs g c0 W) : Env w a len cap zs g c0 W.drew :=
  h.below (Below.refl _ _).drew

set_option maxRecDepth 100000 in
set_option maxHeartbeats 4000000 in
theorem writes_walk (a : Option Addr) (len cap : Nat) (zs : List Int) (x y : Int) (s : ByteArray) (is : Bool) (w : World) (R : Row .u8 w a len cap zs) (hl : len ≤ 1048576) (hs : s.size ≤ 1048576) (hcap : cap ≤ 9223372036854775807)
    (x0 : 0 ≤ x) (x1 : x ≤ 18446744073709551615) (y0 : -9223372036854775808 ≤ y) (y1 : y ≤ 9223372036854775807) :
    Calls Try.prog 3 #[.slice a len cap, .int .u64 x, .int .i64 y, .string s, .bool is] w fun e w' => e = .returned (.bool true) ∧ Below w.heap.size w w' := by
  obtain ⟨i0, hi, hz0, hz1, hz2⟩ := info_parts info5
  have hlz := R.size
  subst hlz
  have HB : Hid (∀ c ∈ zs, 0 ≤ c ∧ c < 256) := R.byte
  go_enter Try.func3, Try.ntmps3
  go_wp2_with (at_builtin; refine wpList_append_row _ rfl _ _ rfl w.heap.size _ [] rfl (Own.nil _ _) _ _ _ zs rfl R (Nat.le_refl _) (by simp; omega) ?_)
  intro v0 w0 hown0 hB0
  replace hown0 : w0.ownsRow w.heap.size 5 1 v0 zs.length (zs.map bv) := hown0
  have hbs := hB0.size
  go_wp2_with (at_builtin; refine wpList_append_own _ rfl _ _ 22 rfl w.heap.size 5 i0 (.int .u8 0) 1 1 Try.underlying22 hi hz0 hz1 hz2 rfl (by decide) _ _ _ rfl (hown0.alloc _) ⟨w0.heap.size, 0, none⟩ 1 1 [.int .u8 77] rfl rfl (cell_one_new _ _ _) (by simp [Value.oneCell']) (by unfold maxLen; omega) (by omega) (by simp; omega) ?_)
  intro v1 w1 hown1 hg1 _
  have hB1 : Below w.heap.size w w1 := (hB0.alloc hbs _).grown hg1 (by simp; omega) (fun k hk => (World.ownsRow.lt hown0 k hk).1)
  have own1 : Own w.heap.size w1 v1 (zs ++ [77]) := by simpa [Own] using hown1
  obtain ⟨g, c0, hv1, E⟩ : ∃ g c0, v1 = .slice (some ⟨g, 0, none⟩) (zs.length + 1) c0 ∧ Env w a zs.length cap zs g c0 w1 := by
    rcases hown1.2 with ⟨_, hn⟩ | ⟨g, cp, cur, rfl, hbg, hh, hn, hc, hcs, ht⟩
    · simp at hn
    · obtain ⟨a', c', e', R1⟩ := own1.row (by intro c hc; simp at hc; rcases hc with h | h; exact HB.out c h; omega)
      simp at e'
      obtain ⟨rfl, rfl⟩ := e'
      have hlen : (zs ++ [77]).length = zs.length + 1 := by simp
      refine ⟨g, cp, rfl, ⟨R.below hB1, ?_, ?_, (Array.getElem?_eq_some_iff.1 hh).1, by omega, hB1⟩⟩
      · have := R1.pre (k := zs.length) (by simp) (by simp)
        simpa using this
      · obtain ⟨b, off, e, hb, hcell⟩ := R1.mem.resolve_left (by simp)
        simp at e
        obtain ⟨rfl, rfl⟩ := e
        have := hcell zs.length (by simp)
        simpa [List.getD] using this
  subst hv1
  clear hown1 own1 hg1 hown0 hB0 hB1 R
  have hcl := E.cl
  have hz1' : ((zs.length : Int) + 1) ≤ 9223372036854775807 := by omega
  have hcl' : (zs.length : Int) ≤ (c0 : Int) := by omega
  have hc00 : ¬ c0 = 0 := by omega
  have hidx : (zs.length : Int) < (zs.length : Int) + 1 := by omega
  go_wp2
  go_cut [43] (fun c wx => c = .bool false ∧ Env w a zs.length cap zs g c0 wx)
  case first =>
    refine wp_region_any (by kernel_rfl) ?_
    change wpAny _ _ _ _ _ _ _ (World.drew _)
    refine any_take 0 18 (.slice (some ⟨g, 0, none⟩) (zs.length + 1) c0) rfl rfl (by kernel_rfl) (by kernel_rfl) (by kernel_rfl) (fun _ _ _ h => h) (Or.inl ⟨by rfl, by intro w; go_simp⟩) ?_
    try simp only [Act.put, List.setIfInBounds_toArray, List.set_cons_zero, List.set_cons_succ]
    refine any_take 1 19 (.slice a zs.length cap) rfl rfl (by kernel_rfl) (by kernel_rfl) (by kernel_rfl) (fun _ _ _ h => h) (Or.inl ⟨by rfl, by intro w; go_simp⟩) ?_
    try simp only [Act.put, List.setIfInBounds_toArray, List.set_cons_zero, List.set_cons_succ]
    refine any_take 2 20 (.int .i64 zs.length) rfl rfl (by kernel_rfl) (by kernel_rfl) (by kernel_rfl) (fun _ _ _ h => h) (Or.inl ⟨by rfl, by intro w; go_simp⟩) ?_
    try simp only [Act.put, List.setIfInBounds_toArray, List.set_cons_zero, List.set_cons_succ]
    refine any_take 3 21 (.slice (some ⟨g, 0, none⟩) zs.length c0) rfl rfl (by kernel_rfl) (by kernel_rfl) (by kernel_rfl) (fun _ _ _ h => h) (Or.inl ⟨by rfl, by intro w; go_simp⟩) ?_
    try simp only [Act.put, List.setIfInBounds_toArray, List.set_cons_zero, List.set_cons_succ]
    refine any_take 4 22 (.int .u64 x) rfl rfl (by kernel_rfl) (by kernel_rfl) (by kernel_rfl) (fun _ _ _ h => h) (Or.inl ⟨by rfl, by intro w; go_simp⟩) ?_
    try simp only [Act.put, List.setIfInBounds_toArray, List.set_cons_zero, List.set_cons_succ]
    refine any_take 7 25 (.slice a zs.length cap) rfl rfl (by kernel_rfl) (by kernel_rfl) (by kernel_rfl) (fun _ _ _ h => h) (Or.inl ⟨by rfl, by intro w; go_simp⟩) ?_
    try simp only [Act.put, List.setIfInBounds_toArray, List.set_cons_zero, List.set_cons_succ]
    refine any_take 8 26 (.int .u64 x) rfl rfl (by kernel_rfl) (by kernel_rfl) (by kernel_rfl) (fun _ _ _ h => h) (Or.inl ⟨by rfl, by intro w; go_simp⟩) ?_
    try simp only [Act.put, List.setIfInBounds_toArray, List.set_cons_zero, List.set_cons_succ]
    refine wpAny_ready (rs := [5]) (by kernel_rfl) (by simp) ?_
    refine AllReady.cons rfl (fun K hK => ?_) AllReady.nil
    go_simp
    go_wp2_with (go_at_call 9; refine (number_any _ _ _ zs x _ (E.drew).own (by omega) x0 x1).mono ?_; rintro e w2 ⟨v2, rfl, o2, b2⟩; obtain ⟨a2, n2, c2, hv2, r2⟩ := o2.row' (app_byte HB.out (enc_byte x0 x1)); subst hv2)
    have E2 := (E.drew).below b2
    refine wpAny_narrow (fun W' => Below w2.heap.size w2 W') _ _ _ _ ?_
    refine anyH_take 6 24 (.string (strOfNums (zs ++ enc x))) rfl rfl (by kernel_rfl) (by kernel_rfl) (by kernel_rfl) (fun _ _ _ h => h) (Or.inl ⟨by rfl, by intro w hSw; have kk := conv_row (r2.below hSw); go_simp⟩) (Below.refl _ _) ?_
    try simp only [Act.put, List.setIfInBounds_toArray, List.set_cons_zero, List.set_cons_succ]
    refine wpAnyH_ready (rs := [9]) (by kernel_rfl) (by simp) ?_
    refine AllReadyH.cons rfl (fun K hK => ?_) AllReadyH.nil
    go_simp
    go_wp2_with (go_at_call 10; refine (rnumber_any _ _ _ zs x _ (E2).row (by omega) x0 x1).mono ?_; rintro e w3 ⟨v3, rfl, o3, b3⟩; obtain ⟨a3, n3, c3, hv3, r3⟩ := o3.row' (app_byte HB.out (enc_byte x0 x1)); subst hv3)
    refine hK.out _ _ (b3) (fun hS => ?_)
    clear hK
    have E3 := E2.below b3
    refine wpAnyH_narrow (fun W' => Below w3.heap.size w3 W') (fun _ h => b3.trans (h.mono b3.size)) _ _ _ _ ?_
    refine anyH_take 10 28 (.string (strOfNums (zs ++ enc x))) rfl rfl (by kernel_rfl) (by kernel_rfl) (by kernel_rfl) (fun _ _ _ h => h) (Or.inl ⟨by rfl, by intro w hSw; have kk := conv_row (r3.below hSw); go_simp⟩) (Below.refl _ _) ?_
    try simp only [Act.put, List.setIfInBounds_toArray, List.set_cons_zero, List.set_cons_succ]
    refine anyH_take 11 29 (.bool false) rfl rfl (by kernel_rfl) (by kernel_rfl) (by kernel_rfl) (fun _ _ _ h => h) (Or.inl ⟨by rfl, by intro w hSw; go_simp⟩) (Below.refl _ _) ?_
    try simp only [Act.put, List.setIfInBounds_toArray, List.set_cons_zero, List.set_cons_succ]
    refine anyH_take 12 30 (.bool false) rfl rfl (by kernel_rfl) (by kernel_rfl) (by kernel_rfl) (fun _ _ _ h => h) (Or.inl ⟨by rfl, by intro w hSw; go_simp⟩) (Below.refl _ _) ?_
    try simp only [Act.put, List.setIfInBounds_toArray, List.set_cons_zero, List.set_cons_succ]
    have b3x : Below w3.heap.size w3 w3 := Below.refl _ _
    have hS3 : Below w3.heap.size w3 w3 := Below.refl _ _
    refine anyH_take 13 31 (.slice (some ⟨g, 0, none⟩) (zs.length + 1) c0) rfl rfl (by kernel_rfl) (by kernel_rfl) (by kernel_rfl) (fun _ _ _ h => h) (Or.inl ⟨by rfl, by intro w hSw; go_simp⟩) (Below.refl _ _) ?_
    try simp only [Act.put, List.setIfInBounds_toArray, List.set_cons_zero, List.set_cons_succ]
    refine anyH_take 14 32 (.slice a zs.length cap) rfl rfl (by kernel_rfl) (by kernel_rfl) (by kernel_rfl) (fun _ _ _ h => h) (Or.inl ⟨by rfl, by intro w hSw; go_simp⟩) (Below.refl _ _) ?_
    try simp only [Act.put, List.setIfInBounds_toArray, List.set_cons_zero, List.set_cons_succ]
    refine anyH_take 15 33 (.int .i64 zs.length) rfl rfl (by kernel_rfl) (by kernel_rfl) (by kernel_rfl) (fun _ _ _ h => h) (Or.inl ⟨by rfl, by intro w hSw; go_simp⟩) (Below.refl _ _) ?_
    try simp only [Act.put, List.setIfInBounds_toArray, List.set_cons_zero, List.set_cons_succ]
    refine anyH_take 16 34 (.slice (some ⟨g, 0, none⟩) zs.length c0) rfl rfl (by kernel_rfl) (by kernel_rfl) (by kernel_rfl) (fun _ _ _ h => h) (Or.inl ⟨by rfl, by intro w hSw; go_simp⟩) (Below.refl _ _) ?_
    try simp only [Act.put, List.setIfInBounds_toArray, List.set_cons_zero, List.set_cons_succ]
    refine anyH_take 17 35 (.int .i64 y) rfl rfl (by kernel_rfl) (by kernel_rfl) (by kernel_rfl) (fun _ _ _ h => h) (Or.inl ⟨by rfl, by intro w hSw; go_simp⟩) (Below.refl _ _) ?_
    try simp only [Act.put, List.setIfInBounds_toArray, List.set_cons_zero, List.set_cons_succ]
    refine anyH_take 20 38 (.slice a zs.length cap) rfl rfl (by kernel_rfl) (by kernel_rfl) (by kernel_rfl) (fun _ _ _ h => h) (Or.inl ⟨by rfl, by intro w hSw; go_simp⟩) (Below.refl _ _) ?_
    try simp only [Act.put, List.setIfInBounds_toArray, List.set_cons_zero, List.set_cons_succ]
    refine anyH_take 21 39 (.int .i64 y) rfl rfl (by kernel_rfl) (by kernel_rfl) (by kernel_rfl) (fun _ _ _ h => h) (Or.inl ⟨by rfl, by intro w hSw; go_simp⟩) (Below.refl _ _) ?_
    try simp only [Act.put, List.setIfInBounds_toArray, List.set_cons_zero, List.set_cons_succ]
    refine wpAnyH_ready (rs := [18]) (by kernel_rfl) (by simp) ?_
    refine AllReadyH.cons rfl (fun K hK => ?_) AllReadyH.nil
    go_simp
    go_wp2_with (go_at_call 11; refine (signed_any _ _ _ zs y _ (E3).own (by omega) y0 y1).mono ?_; rintro e w4 ⟨v4, rfl, o4, b4⟩; obtain ⟨a4, n4, c4, hv4, r4⟩ := o4.row' (app_byte HB.out (enc_byte (sg_bd y0 y1).1 (sg_bd y0 y1).2)); subst hv4)
    refine hK.out _ _ (hS3.trans (b4.mono hS3.size)) (fun hS => ?_)
    clear hK
    have E4 := (E3).below b4
    refine wpAnyH_narrow (fun W' => Below w4.heap.size w4 W') (fun _ h => (b3x.trans (b4.mono b3x.size)).trans (h.mono (by have := b4.size; have := b3x.size; omega))) _ _ _ _ ?_
    refine anyH_take 19 37 (.string (strOfNums (zs ++ enc (sg y)))) rfl rfl (by kernel_rfl) (by kernel_rfl) (by kernel_rfl) (fun _ _ _ h => h) (Or.inl ⟨by rfl, by intro w hSw; have kk := conv_row (r4.below hSw); go_simp⟩) (Below.refl _ _) ?_
    try simp only [Act.put, List.setIfInBounds_toArray, List.set_cons_zero, List.set_cons_succ]
    refine wpAnyH_ready (rs := [22]) (by kernel_rfl) (by simp) ?_
    refine AllReadyH.cons rfl (fun K hK => ?_) AllReadyH.nil
    go_simp
    go_wp2_with (go_at_call 12; refine (rsigned_any _ _ _ zs y _ (E4).row (by omega) y0 y1).mono ?_; rintro e w5 ⟨v5, rfl, o5, b5⟩; obtain ⟨a5, n5, c5, hv5, r5⟩ := o5.row' (app_byte HB.out (enc_byte (sg_bd y0 y1).1 (sg_bd y0 y1).2)); subst hv5)
    refine hK.out _ _ (b5) (fun hS => ?_)
    clear hK
    have E5 := E4.below b5
    refine wpAnyH_narrow (fun W' => Below w5.heap.size w5 W') (fun _ h => b5.trans (h.mono b5.size)) _ _ _ _ ?_
    refine anyH_take 23 41 (.string (strOfNums (zs ++ enc (sg y)))) rfl rfl (by kernel_rfl) (by kernel_rfl) (by kernel_rfl) (fun _ _ _ h => h) (Or.inl ⟨by rfl, by intro w hSw; have kk := conv_row (r5.below hSw); go_simp⟩) (Below.refl _ _) ?_
    try simp only [Act.put, List.setIfInBounds_toArray, List.set_cons_zero, List.set_cons_succ]
    refine anyH_take 24 42 (.bool false) rfl rfl (by kernel_rfl) (by kernel_rfl) (by kernel_rfl) (fun _ _ _ h => h) (Or.inl ⟨by rfl, by intro w hSw; go_simp⟩) (Below.refl _ _) ?_
    try simp only [Act.put, List.setIfInBounds_toArray, List.set_cons_zero, List.set_cons_succ]
    have b5x : Below w5.heap.size w5 w5 := Below.refl _ _
    have hS5 : Below w5.heap.size w5 w5 := Below.refl _ _
    refine anyH_take 25 43 (.bool false) rfl rfl (by kernel_rfl) (by kernel_rfl) (by kernel_rfl) (fun _ _ _ h => h) (Or.inl ⟨by rfl, by intro w hSw; go_simp⟩) (Below.refl _ _) ?_
    try simp only [Act.put, List.setIfInBounds_toArray, List.set_cons_zero, List.set_cons_succ]
    refine wpAnyH_done (by kernel_rfl) ?_ _
    go_wp2_with fail
    go_meet
    exact ⟨rfl, E5⟩
  case rest =>
    obtain ⟨rfl, E⟩ := hcut
    go_wp2
    go_cut [69] (fun c wx => c = .bool false ∧ Env w a zs.length cap zs g c0 wx)
    case first =>
      refine wp_region_any (by kernel_rfl) ?_
      change wpAny _ _ _ _ _ _ _ (World.drew _)
      refine any_take 0 44 (.slice (some ⟨g, 0, none⟩) (zs.length + 1) c0) rfl rfl (by kernel_rfl) (by kernel_rfl) (by kernel_rfl) (fun _ _ _ h => h) (Or.inl ⟨by rfl, by intro w; go_simp⟩) ?_
      try simp only [Act.put, List.setIfInBounds_toArray, List.set_cons_zero, List.set_cons_succ]
      refine any_take 1 45 (.slice a zs.length cap) rfl rfl (by kernel_rfl) (by kernel_rfl) (by kernel_rfl) (fun _ _ _ h => h) (Or.inl ⟨by rfl, by intro w; go_simp⟩) ?_
      try simp only [Act.put, List.setIfInBounds_toArray, List.set_cons_zero, List.set_cons_succ]
      refine any_take 2 46 (.int .i64 zs.length) rfl rfl (by kernel_rfl) (by kernel_rfl) (by kernel_rfl) (fun _ _ _ h => h) (Or.inl ⟨by rfl, by intro w; go_simp⟩) ?_
      try simp only [Act.put, List.setIfInBounds_toArray, List.set_cons_zero, List.set_cons_succ]
      refine any_take 3 47 (.slice (some ⟨g, 0, none⟩) zs.length c0) rfl rfl (by kernel_rfl) (by kernel_rfl) (by kernel_rfl) (fun _ _ _ h => h) (Or.inl ⟨by rfl, by intro w; go_simp⟩) ?_
      try simp only [Act.put, List.setIfInBounds_toArray, List.set_cons_zero, List.set_cons_succ]
      refine any_take 4 48 (.string s) rfl rfl (by kernel_rfl) (by kernel_rfl) (by kernel_rfl) (fun _ _ _ h => h) (Or.inl ⟨by rfl, by intro w; go_simp⟩) ?_
      try simp only [Act.put, List.setIfInBounds_toArray, List.set_cons_zero, List.set_cons_succ]
      refine any_take 7 51 (.slice a zs.length cap) rfl rfl (by kernel_rfl) (by kernel_rfl) (by kernel_rfl) (fun _ _ _ h => h) (Or.inl ⟨by rfl, by intro w; go_simp⟩) ?_
      try simp only [Act.put, List.setIfInBounds_toArray, List.set_cons_zero, List.set_cons_succ]
      refine any_take 8 52 (.string s) rfl rfl (by kernel_rfl) (by kernel_rfl) (by kernel_rfl) (fun _ _ _ h => h) (Or.inl ⟨by rfl, by intro w; go_simp⟩) ?_
      try simp only [Act.put, List.setIfInBounds_toArray, List.set_cons_zero, List.set_cons_succ]
      refine wpAny_ready (rs := [5]) (by kernel_rfl) (by simp) ?_
      refine AllReady.cons rfl (fun K hK => ?_) AllReady.nil
      go_simp
      go_wp2_with (go_at_call 13; refine (text_any _ _ _ zs s _ (E.drew).own (by omega)).mono ?_; rintro e w2 ⟨v2, rfl, o2, b2⟩; obtain ⟨a2, n2, c2, hv2, r2⟩ := o2.row' (app_byte HB.out (app_byte (enc_byte (by omega) (by omega)) (bytesL_byte s))); subst hv2)
      have E2 := (E.drew).below b2
      refine wpAny_narrow (fun W' => Below w2.heap.size w2 W') _ _ _ _ ?_
      refine anyH_take 6 50 (.string (strOfNums (zs ++ txt s))) rfl rfl (by kernel_rfl) (by kernel_rfl) (by kernel_rfl) (fun _ _ _ h => h) (Or.inl ⟨by rfl, by intro w hSw; have kk := conv_row (r2.below hSw); go_simp⟩) (Below.refl _ _) ?_
      try simp only [Act.put, List.setIfInBounds_toArray, List.set_cons_zero, List.set_cons_succ]
      refine wpAnyH_ready (rs := [9]) (by kernel_rfl) (by simp) ?_
      refine AllReadyH.cons rfl (fun K hK => ?_) AllReadyH.nil
      go_simp
      go_wp2_with (go_at_call 14; refine (rtext_any _ _ _ zs s _ (E2).row (by omega)).mono ?_; rintro e w3 ⟨v3, rfl, o3, b3⟩; obtain ⟨a3, n3, c3, hv3, r3⟩ := o3.row' (app_byte HB.out (app_byte (enc_byte (by omega) (by omega)) (bytesL_byte s))); subst hv3)
      refine hK.out _ _ (b3) (fun hS => ?_)
      clear hK
      have E3 := E2.below b3
      refine wpAnyH_narrow (fun W' => Below w3.heap.size w3 W') (fun _ h => b3.trans (h.mono b3.size)) _ _ _ _ ?_
      refine anyH_take 10 54 (.string (strOfNums (zs ++ txt s))) rfl rfl (by kernel_rfl) (by kernel_rfl) (by kernel_rfl) (fun _ _ _ h => h) (Or.inl ⟨by rfl, by intro w hSw; have kk := conv_row (r3.below hSw); go_simp⟩) (Below.refl _ _) ?_
      try simp only [Act.put, List.setIfInBounds_toArray, List.set_cons_zero, List.set_cons_succ]
      refine anyH_take 11 55 (.bool false) rfl rfl (by kernel_rfl) (by kernel_rfl) (by kernel_rfl) (fun _ _ _ h => h) (Or.inl ⟨by rfl, by intro w hSw; go_simp⟩) (Below.refl _ _) ?_
      try simp only [Act.put, List.setIfInBounds_toArray, List.set_cons_zero, List.set_cons_succ]
      refine anyH_take 12 56 (.bool false) rfl rfl (by kernel_rfl) (by kernel_rfl) (by kernel_rfl) (fun _ _ _ h => h) (Or.inl ⟨by rfl, by intro w hSw; go_simp⟩) (Below.refl _ _) ?_
      try simp only [Act.put, List.setIfInBounds_toArray, List.set_cons_zero, List.set_cons_succ]
      have b3x : Below w3.heap.size w3 w3 := Below.refl _ _
      have hS3 : Below w3.heap.size w3 w3 := Below.refl _ _
      refine anyH_take 13 57 (.slice (some ⟨g, 0, none⟩) (zs.length + 1) c0) rfl rfl (by kernel_rfl) (by kernel_rfl) (by kernel_rfl) (fun _ _ _ h => h) (Or.inl ⟨by rfl, by intro w hSw; go_simp⟩) (Below.refl _ _) ?_
      try simp only [Act.put, List.setIfInBounds_toArray, List.set_cons_zero, List.set_cons_succ]
      refine anyH_take 14 58 (.slice a zs.length cap) rfl rfl (by kernel_rfl) (by kernel_rfl) (by kernel_rfl) (fun _ _ _ h => h) (Or.inl ⟨by rfl, by intro w hSw; go_simp⟩) (Below.refl _ _) ?_
      try simp only [Act.put, List.setIfInBounds_toArray, List.set_cons_zero, List.set_cons_succ]
      refine anyH_take 15 59 (.int .i64 zs.length) rfl rfl (by kernel_rfl) (by kernel_rfl) (by kernel_rfl) (fun _ _ _ h => h) (Or.inl ⟨by rfl, by intro w hSw; go_simp⟩) (Below.refl _ _) ?_
      try simp only [Act.put, List.setIfInBounds_toArray, List.set_cons_zero, List.set_cons_succ]
      refine anyH_take 16 60 (.slice (some ⟨g, 0, none⟩) zs.length c0) rfl rfl (by kernel_rfl) (by kernel_rfl) (by kernel_rfl) (fun _ _ _ h => h) (Or.inl ⟨by rfl, by intro w hSw; go_simp⟩) (Below.refl _ _) ?_
      try simp only [Act.put, List.setIfInBounds_toArray, List.set_cons_zero, List.set_cons_succ]
      refine anyH_take 17 61 (.bool is) rfl rfl (by kernel_rfl) (by kernel_rfl) (by kernel_rfl) (fun _ _ _ h => h) (Or.inl ⟨by rfl, by intro w hSw; go_simp⟩) (Below.refl _ _) ?_
      try simp only [Act.put, List.setIfInBounds_toArray, List.set_cons_zero, List.set_cons_succ]
      refine anyH_take 20 64 (.slice a zs.length cap) rfl rfl (by kernel_rfl) (by kernel_rfl) (by kernel_rfl) (fun _ _ _ h => h) (Or.inl ⟨by rfl, by intro w hSw; go_simp⟩) (Below.refl _ _) ?_
      try simp only [Act.put, List.setIfInBounds_toArray, List.set_cons_zero, List.set_cons_succ]
      refine anyH_take 21 65 (.bool is) rfl rfl (by kernel_rfl) (by kernel_rfl) (by kernel_rfl) (fun _ _ _ h => h) (Or.inl ⟨by rfl, by intro w hSw; go_simp⟩) (Below.refl _ _) ?_
      try simp only [Act.put, List.setIfInBounds_toArray, List.set_cons_zero, List.set_cons_succ]
      refine wpAnyH_ready (rs := [18]) (by kernel_rfl) (by simp) ?_
      refine AllReadyH.cons rfl (fun K hK => ?_) AllReadyH.nil
      go_simp
      go_wp2_with (go_at_call 15; refine (flag_any _ _ _ zs is _ (E3).own (by omega)).mono ?_; rintro e w4 ⟨v4, rfl, o4, b4⟩; obtain ⟨a4, n4, c4, hv4, r4⟩ := o4.row' (app_byte HB.out (flg_byte is)); subst hv4)
      refine hK.out _ _ (hS3.trans (b4.mono hS3.size)) (fun hS => ?_)
      clear hK
      have E4 := (E3).below b4
      refine wpAnyH_narrow (fun W' => Below w4.heap.size w4 W') (fun _ h => (b3x.trans (b4.mono b3x.size)).trans (h.mono (by have := b4.size; have := b3x.size; omega))) _ _ _ _ ?_
      refine anyH_take 19 63 (.string (strOfNums (zs ++ flg is))) rfl rfl (by kernel_rfl) (by kernel_rfl) (by kernel_rfl) (fun _ _ _ h => h) (Or.inl ⟨by rfl, by intro w hSw; have kk := conv_row (r4.below hSw); go_simp⟩) (Below.refl _ _) ?_
      try simp only [Act.put, List.setIfInBounds_toArray, List.set_cons_zero, List.set_cons_succ]
      refine wpAnyH_ready (rs := [22]) (by kernel_rfl) (by simp) ?_
      refine AllReadyH.cons rfl (fun K hK => ?_) AllReadyH.nil
      go_simp
      go_wp2_with (go_at_call 16; refine (rflag_any _ _ _ zs is _ (E4).row (by omega)).mono ?_; rintro e w5 ⟨v5, rfl, o5, b5⟩; obtain ⟨a5, n5, c5, hv5, r5⟩ := o5.row' (app_byte HB.out (flg_byte is)); subst hv5)
      refine hK.out _ _ (b5) (fun hS => ?_)
      clear hK
      have E5 := E4.below b5
      refine wpAnyH_narrow (fun W' => Below w5.heap.size w5 W') (fun _ h => b5.trans (h.mono b5.size)) _ _ _ _ ?_
      refine anyH_take 23 67 (.string (strOfNums (zs ++ flg is))) rfl rfl (by kernel_rfl) (by kernel_rfl) (by kernel_rfl) (fun _ _ _ h => h) (Or.inl ⟨by rfl, by intro w hSw; have kk := conv_row (r5.below hSw); go_simp⟩) (Below.refl _ _) ?_
      try simp only [Act.put, List.setIfInBounds_toArray, List.set_cons_zero, List.set_cons_succ]
      refine anyH_take 24 68 (.bool false) rfl rfl (by kernel_rfl) (by kernel_rfl) (by kernel_rfl) (fun _ _ _ h => h) (Or.inl ⟨by rfl, by intro w hSw; go_simp⟩) (Below.refl _ _) ?_
      try simp only [Act.put, List.setIfInBounds_toArray, List.set_cons_zero, List.set_cons_succ]
      have b5x : Below w5.heap.size w5 w5 := Below.refl _ _
      have hS5 : Below w5.heap.size w5 w5 := Below.refl _ _
      refine anyH_take 25 69 (.bool false) rfl rfl (by kernel_rfl) (by kernel_rfl) (by kernel_rfl) (fun _ _ _ h => h) (Or.inl ⟨by rfl, by intro w hSw; go_simp⟩) (Below.refl _ _) ?_
      try simp only [Act.put, List.setIfInBounds_toArray, List.set_cons_zero, List.set_cons_succ]
      refine wpAnyH_done (by kernel_rfl) ?_ _
      go_wp2_with fail
      go_meet
      exact ⟨rfl, E5⟩
    case rest =>
      obtain ⟨rfl, E⟩ := hcut
      go_wp2
      refine wp_region_any (by kernel_rfl) ?_
      change wpAny _ _ _ _ _ _ _ (World.drew _)
      refine any_take 0 70 (.int .u64 x) rfl rfl (by kernel_rfl) (by kernel_rfl) (by kernel_rfl) (fun _ _ _ h => h) (Or.inl ⟨by rfl, by intro w; go_simp⟩) ?_
      try simp only [Act.put, List.setIfInBounds_toArray, List.set_cons_zero, List.set_cons_succ]
      refine any_take 2 72 (.int .u64 x) rfl rfl (by kernel_rfl) (by kernel_rfl) (by kernel_rfl) (fun _ _ _ h => h) (Or.inl ⟨by rfl, by intro w; go_simp⟩) ?_
      try simp only [Act.put, List.setIfInBounds_toArray, List.set_cons_zero, List.set_cons_succ]
      refine wpAny_ready (rs := [1]) (by kernel_rfl) (by simp) ?_
      refine AllReady.cons rfl (fun K hK => ?_) AllReady.nil
      go_simp
      go_wp2_with (go_at_call 17; refine (size_any _ _ x0 x1).mono ?_; rintro e w2 ⟨rfl, hw⟩; rw [hw]; clear hw)
      refine wpAny_ready (rs := [3]) (by kernel_rfl) (by simp) ?_
      refine AllReady.cons rfl (fun K hK => ?_) AllReady.nil
      go_simp
      go_wp2_with (go_at_call 18; refine (rsize_any _ _ x0 x1).mono ?_; rintro e w3 ⟨rfl, b3⟩)
      have E3 := E.drew.below b3
      obtain ⟨hl3, hg3⟩ := And.intro E3.last E3.gl
      refine any_take 4 74 (.bool true) rfl rfl (by kernel_rfl) (by kernel_rfl) (by kernel_rfl) (fun _ _ _ h => h) (Or.inl ⟨by rfl, by intro w; go_simp⟩) ?_
      try simp only [Act.put, List.setIfInBounds_toArray, List.set_cons_zero, List.set_cons_succ]
      refine any_take 5 75 (.bool true) rfl rfl (by kernel_rfl) (by kernel_rfl) (by kernel_rfl) (fun _ _ _ h => h) (Or.inl ⟨by rfl, by intro w; go_simp⟩) ?_
      try simp only [Act.put, List.setIfInBounds_toArray, List.set_cons_zero, List.set_cons_succ]
      refine wpAny_narrow (fun W' => Below w3.heap.size w3 W') _ _ _ _ ?_
      refine anyH_take 6 76 (.slice (some ⟨g, 0, none⟩) (zs.length + 1) c0) rfl rfl (by kernel_rfl) (by kernel_rfl) (by kernel_rfl) (fun _ _ _ h => h) (Or.inl ⟨by rfl, by intro w hSw; go_simp⟩) (Below.refl _ _) ?_
      try simp only [Act.put, List.setIfInBounds_toArray, List.set_cons_zero, List.set_cons_succ]
      refine anyH_take 7 77 (.slice a zs.length cap) rfl rfl (by kernel_rfl) (by kernel_rfl) (by kernel_rfl) (fun _ _ _ h => h) (Or.inl ⟨by rfl, by intro w hSw; go_simp⟩) (Below.refl _ _) ?_
      try simp only [Act.put, List.setIfInBounds_toArray, List.set_cons_zero, List.set_cons_succ]
      refine anyH_take 8 78 (.int .i64 zs.length) rfl rfl (by kernel_rfl) (by kernel_rfl) (by kernel_rfl) (fun _ _ _ h => h) (Or.inl ⟨by rfl, by intro w hSw; go_simp⟩) (Below.refl _ _) ?_
      try simp only [Act.put, List.setIfInBounds_toArray, List.set_cons_zero, List.set_cons_succ]
      refine anyH_take 9 79 (.pointer (some ⟨g, zs.length, none⟩)) rfl rfl (by kernel_rfl) (by kernel_rfl) (by kernel_rfl) (fun _ _ _ h => h) (Or.inl ⟨by rfl, by intro w hSw; go_simp⟩) (Below.refl _ _) ?_
      try simp only [Act.put, List.setIfInBounds_toArray, List.set_cons_zero, List.set_cons_succ]
      refine anyH_take 10 80 (.int .u8 77) rfl rfl (by kernel_rfl) (by kernel_rfl) (by kernel_rfl) (fun _ _ _ h => h) (Or.inl ⟨by rfl, by intro w hSw; have kk := (hSw.cell (p := ⟨g, zs.length, none⟩) hg3).trans hl3; go_simp⟩) (Below.refl _ _) ?_
      try simp only [Act.put, List.setIfInBounds_toArray, List.set_cons_zero, List.set_cons_succ]
      refine anyH_take 11 81 (.bool true) rfl rfl (by kernel_rfl) (by kernel_rfl) (by kernel_rfl) (fun _ _ _ h => h) (Or.inl ⟨by rfl, by intro w hSw; go_simp⟩) (Below.refl _ _) ?_
      try simp only [Act.put, List.setIfInBounds_toArray, List.set_cons_zero, List.set_cons_succ]
      refine anyH_take 12 82 (.bool true) rfl rfl (by kernel_rfl) (by kernel_rfl) (by kernel_rfl) (fun _ _ _ h => h) (Or.inl ⟨by rfl, by intro w hSw; go_simp⟩) (Below.refl _ _) ?_
      try simp only [Act.put, List.setIfInBounds_toArray, List.set_cons_zero, List.set_cons_succ]
      refine anyH_take 13 83 (.bool true) rfl rfl (by kernel_rfl) (by kernel_rfl) (by kernel_rfl) (fun _ _ _ h => h) (Or.inl ⟨by rfl, by intro w hSw; go_simp⟩) (Below.refl _ _) ?_
      try simp only [Act.put, List.setIfInBounds_toArray, List.set_cons_zero, List.set_cons_succ]
      refine anyH_take 14 84 (.slice (some ⟨g, 0, none⟩) (zs.length + 1) c0) rfl rfl (by kernel_rfl) (by kernel_rfl) (by kernel_rfl) (fun _ _ _ h => h) (Or.inl ⟨by rfl, by intro w hSw; go_simp⟩) (Below.refl _ _) ?_
      try simp only [Act.put, List.setIfInBounds_toArray, List.set_cons_zero, List.set_cons_succ]
      refine anyH_take 15 85 (.slice a zs.length cap) rfl rfl (by kernel_rfl) (by kernel_rfl) (by kernel_rfl) (fun _ _ _ h => h) (Or.inl ⟨by rfl, by intro w hSw; go_simp⟩) (Below.refl _ _) ?_
      try simp only [Act.put, List.setIfInBounds_toArray, List.set_cons_zero, List.set_cons_succ]
      refine anyH_take 16 86 (.int .i64 zs.length) rfl rfl (by kernel_rfl) (by kernel_rfl) (by kernel_rfl) (fun _ _ _ h => h) (Or.inl ⟨by rfl, by intro w hSw; go_simp⟩) (Below.refl _ _) ?_
      try simp only [Act.put, List.setIfInBounds_toArray, List.set_cons_zero, List.set_cons_succ]
      refine anyH_take 17 87 (.slice (some ⟨g, 0, none⟩) zs.length c0) rfl rfl (by kernel_rfl) (by kernel_rfl) (by kernel_rfl) (fun _ _ _ h => h) (Or.inl ⟨by rfl, by intro w hSw; go_simp⟩) (Below.refl _ _) ?_
      try simp only [Act.put, List.setIfInBounds_toArray, List.set_cons_zero, List.set_cons_succ]
      refine anyH_take 18 88 (.string (strOfNums zs)) rfl rfl (by kernel_rfl) (by kernel_rfl) (by kernel_rfl) (fun _ _ _ h => h) (Or.inl ⟨by rfl, by intro w hSw; have kk := conv_row (E3.own.below hSw); go_simp⟩) (Below.refl _ _) ?_
      try simp only [Act.put, List.setIfInBounds_toArray, List.set_cons_zero, List.set_cons_succ]
      refine anyH_take 19 89 (.slice a zs.length cap) rfl rfl (by kernel_rfl) (by kernel_rfl) (by kernel_rfl) (fun _ _ _ h => h) (Or.inl ⟨by rfl, by intro w hSw; go_simp⟩) (Below.refl _ _) ?_
      try simp only [Act.put, List.setIfInBounds_toArray, List.set_cons_zero, List.set_cons_succ]
      refine anyH_take 20 90 (.string (strOfNums zs)) rfl rfl (by kernel_rfl) (by kernel_rfl) (by kernel_rfl) (fun _ _ _ h => h) (Or.inl ⟨by rfl, by intro w hSw; have kk := conv_row (E3.row.below hSw); go_simp⟩) (Below.refl _ _) ?_
      try simp only [Act.put, List.setIfInBounds_toArray, List.set_cons_zero, List.set_cons_succ]
      refine anyH_take 21 91 (.bool true) rfl rfl (by kernel_rfl) (by kernel_rfl) (by kernel_rfl) (fun _ _ _ h => h) (Or.inl ⟨by rfl, by intro w hSw; go_simp⟩) (Below.refl _ _) ?_
      try simp only [Act.put, List.setIfInBounds_toArray, List.set_cons_zero, List.set_cons_succ]
      refine anyH_take 22 92 (.bool true) rfl rfl (by kernel_rfl) (by kernel_rfl) (by kernel_rfl) (fun _ _ _ h => h) (Or.inl ⟨by rfl, by intro w hSw; go_simp⟩) (Below.refl _ _) ?_
      try simp only [Act.put, List.setIfInBounds_toArray, List.set_cons_zero, List.set_cons_succ]
      refine anyH_take 23 93 (.bool true) rfl rfl (by kernel_rfl) (by kernel_rfl) (by kernel_rfl) (fun _ _ _ h => h) (Or.inl ⟨by rfl, by intro w hSw; go_simp⟩) (Below.refl _ _) ?_
      try simp only [Act.put, List.setIfInBounds_toArray, List.set_cons_zero, List.set_cons_succ]
      refine wpAnyH_ready (rs := [24]) (by kernel_rfl) (by simp) ?_
      refine AllReadyH.cons rfl (fun K hK => ?_) AllReadyH.nil
      go_simp
      go_wp2_with (go_at_call 19; refine (awake_any _).mono ?_; rintro e w4 ⟨rfl, b4⟩)
      refine hK.out _ _ (b4) (fun hS => ?_)
      clear hK
      refine anyH_take 25 95 (.bool true) rfl rfl (by kernel_rfl) (by kernel_rfl) (by kernel_rfl) (fun _ _ _ h => h) (Or.inl ⟨by rfl, by intro w hSw; go_simp⟩) (b4) ?_
      try simp only [Act.put, List.setIfInBounds_toArray, List.set_cons_zero, List.set_cons_succ]
      refine anyH_take 26 10 (.bool true) rfl rfl (by kernel_rfl) (by kernel_rfl) (by kernel_rfl) (fun _ _ _ h => h) (Or.inl ⟨by rfl, by intro w hSw; go_simp⟩) (b4) ?_
      try simp only [Act.put, List.setIfInBounds_toArray, List.set_cons_zero, List.set_cons_succ]
      refine wpAnyH_done (by kernel_rfl) ?_ _
      go_wp2
      go_ret
      exact ⟨rfl, E3.old.trans (b4.mono E3.old.size)⟩

end Go.Proofs.Ytfgniilihdimgaa
