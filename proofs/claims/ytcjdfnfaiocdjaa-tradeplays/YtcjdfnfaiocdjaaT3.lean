/-
  Package trade: what Gain returns.
-/
import Derived.Test.YtcjdfnfaiocdjaaT2
import Derived.Test.YtcjdfnfaiocdjaaHeld
import Derived.Deep.DeepCutAuto
import Derived.Deep.RegionHeld
namespace Go.Proofs.Ytcjdfnfaiocdjaa
open Go.ChangeShapes Go.WideShapes Go.ChangeAt Go.RowKit
set_option linter.unusedVariables false
set_option linter.unusedSimpArgs false
set_option maxRecDepth 100000 in
set_option maxHeartbeats 2000000 in
theorem gain_any (v p f me pe rest told : Int) (w : World) : Calls Try.prog 10 #[.int .i64 me, .int .i64 pe, rg v p f, .int .i64 rest, .int .i64 told] w fun e w' => e = .returned (gvV (gain v p f me pe rest told)) ∧ Below w.heap.size w w' := by
  have KB := fun w => bal_any v p f me pe rest told w
  rcases bal_cases v p f me pe rest told with h | h | h
  · rw [h] at KB
    rw [show gain v p f me pe rest told = ⟨0, 0, 31⟩ from by unfold gain; rw [h]; rfl]
    clear h
    go_enter Try.func10, Try.ntmps10
    go_wp2_with (first | (go_at_call 13; refine (KB _).mono ?_; clear KB; rintro e w1 ⟨rfl, hb⟩; have T1 := ((Tri.new w (.int .i64 v) (.int .i64 p) (.int .i64 f) 23).alloc (.cells #[.int .u64 0, .int .u64 0] 31)).below hb; have T2 := ((Two.new (w.alloc (.cells #[.int .i64 v, .int .i64 p, .int .i64 f] 23)) (.int .u64 0) (.int .u64 0) 31).below hb).at (k' := w.heap.size + 1) (by simp); have hB : Below w.heap.size w w1 := Below.trans (by go_grown) (hb.mono (by simp; omega)); clear hb; obtain ⟨a0, a1, a2, b0, b1, b2, z0⟩ := _root_.id T1; obtain ⟨c0, c1, d0, d1, z1⟩ := _root_.id T2))
    exact bodyPost_ret (v := gvV ⟨0, 0, 31⟩) (by simp [results, Try.results10, go_sem, c0, c1, d0, d1, z1]) rfl ⟨rfl, by go_grown⟩
  · rw [h] at KB
    rw [show gain v p f me pe rest told = ⟨0, 0, 10⟩ from by unfold gain; rw [h]; rfl]
    clear h
    go_enter Try.func10, Try.ntmps10
    go_wp2_with (first | (go_at_call 13; refine (KB _).mono ?_; clear KB; rintro e w1 ⟨rfl, hb⟩; have T1 := ((Tri.new w (.int .i64 v) (.int .i64 p) (.int .i64 f) 23).alloc (.cells #[.int .u64 0, .int .u64 0] 31)).below hb; have T2 := ((Two.new (w.alloc (.cells #[.int .i64 v, .int .i64 p, .int .i64 f] 23)) (.int .u64 0) (.int .u64 0) 31).below hb).at (k' := w.heap.size + 1) (by simp); have hB : Below w.heap.size w w1 := Below.trans (by go_grown) (hb.mono (by simp; omega)); clear hb; obtain ⟨a0, a1, a2, b0, b1, b2, z0⟩ := _root_.id T1; obtain ⟨c0, c1, d0, d1, z1⟩ := _root_.id T2))
    exact bodyPost_ret (v := gvV ⟨0, 0, 10⟩) (by simp [results, Try.results10, go_sem, c0, c1, d0, d1, z1]) rfl ⟨rfl, by go_grown⟩
  · rw [show gain v p f me pe rest told = ⟨drH (sq2 v p f me pe rest told) (sq2 (bal v p f me pe rest told).v (bal v p f me pe rest told).p (bal v p f me pe rest told).f me pe rest told), drL (sq2 v p f me pe rest told) (sq2 (bal v p f me pe rest told).v (bal v p f me pe rest told).p (bal v p f me pe rest told).f me pe rest told), 0⟩ from by unfold gain; rw [if_neg (by simp [h])]]
    generalize bal v p f me pe rest told = B at *
    obtain ⟨u, q, g, n, e⟩ := B
    dsimp only at h ⊢
    subst h
    have D1 := sq2_bd v p f me pe rest told
    have D2 := sq2_bd u q g me pe rest told
    obtain ⟨-, -, V1⟩ := val_of D1.1 D1.2
    obtain ⟨-, -, V2⟩ := val_of D2.1 D2.2
    have KD := fun w => drop_any (hiW (sq2 v p f me pe rest told)) (lo64 (sq2 v p f me pe rest told)) (hiW (sq2 u q g me pe rest told)) (lo64 (sq2 u q g me pe rest told)) w (hiW_bd _).1 (hiW_bd _).2 (lo64_bd _).1 (lo64_bd _).2 (hiW_bd _).1 (hiW_bd _).2 (lo64_bd _).1 (lo64_bd _).2
    rw [V1, V2] at KD
    clear V1 V2 D1 D2
    have K1 := fun w => squares26_any v p f me pe rest told w
    have K2 := fun w => squares26_any u q g me pe rest told w
    generalize drH (sq2 v p f me pe rest told) (sq2 u q g me pe rest told) = H at *
    generalize drL (sq2 v p f me pe rest told) (sq2 u q g me pe rest told) = L at *
    generalize (!lessB (sq2 v p f me pe rest told) (sq2 u q g me pe rest told)) = bb at *
    generalize hiW (sq2 v p f me pe rest told) = X1 at *
    generalize lo64 (sq2 v p f me pe rest told) = X2 at *
    generalize hiW (sq2 u q g me pe rest told) = Y1 at *
    generalize lo64 (sq2 u q g me pe rest told) = Y2 at *
    go_enter Try.func10, Try.ntmps10
    go_wp2_with (first
      | (go_at_call 13; refine (KB _).mono ?_; clear KB; rintro e w1 ⟨rfl, hb⟩; have T1 := ((Tri.new w (.int .i64 v) (.int .i64 p) (.int .i64 f) 23).alloc (.cells #[.int .u64 0, .int .u64 0] 31)).below hb; have T2 := ((Two.new (w.alloc (.cells #[.int .i64 v, .int .i64 p, .int .i64 f] 23)) (.int .u64 0) (.int .u64 0) 31).below hb).at (k' := w.heap.size + 1) (by simp); have hB : Below w.heap.size w w1 := Below.trans (by go_grown) (hb.mono (by simp; omega)); clear hb; obtain ⟨a0, a1, a2, b0, b1, b2, z0⟩ := _root_.id T1; obtain ⟨c0, c1, d0, d1, z1⟩ := _root_.id T2)
      | fail)
    have J1 : GE w v p f w1.heap.size u q g (w1.alloc (.cells #[.int .i64 u, .int .i64 q, .int .i64 g] 23)) := ⟨T1.alloc _, T2.alloc _, Tri.new w1 _ _ _ 23, hB.alloc hB.size _⟩
    obtain ⟨W0, hW0⟩ : ∃ W0, w1.alloc (.cells #[.int .i64 u, .int .i64 q, .int .i64 g] 23) = W0 := ⟨_, rfl⟩
    obtain ⟨k1, hk1⟩ : ∃ k1, w1.heap.size = k1 := ⟨_, rfl⟩
    rw [hW0, hk1] at J1
    rw [hW0, hk1]
    clear hW0 hk1 a0 a1 a2 b0 b1 b2 z0 c0 c1 d0 d1 z1 T1 T2 hB
    have HJ : ∀ X, Below W0.heap.size W0 X → GE w v p f k1 u q g X := fun X hX => J1.below hX
    go_cut [15, 16] (fun p15 p16 wx => ∃ k, p15 = .pointer (some ⟨k, 0, none⟩) ∧ Two wx k (.int .u64 H) (.int .u64 L) ∧ Below W0.heap.size W0 wx ∧ W0.heap.size ≤ k)
    case first =>
      refine wp_region_any (by kernel_rfl) ?_
      change wpAny _ _ _ _ _ _ _ (World.drew _)
      refine wpAny_narrow (fun W' => Below W0.heap.size W0 W') _ _ _ _ ?_
      refine anyH_take 0 32 (.int .i64 me) rfl rfl (by kernel_rfl) (by kernel_rfl) (by kernel_rfl) (fun _ _ _ h => h) (Or.inl ⟨by rfl, by intro w hSw; go_simp⟩) ((Below.refl W0.heap.size W0).drew) ?_
      try simp only [Act.put, List.setIfInBounds_toArray, List.set_cons_zero, List.set_cons_succ]
      refine anyH_take 1 33 (.int .i64 pe) rfl rfl (by kernel_rfl) (by kernel_rfl) (by kernel_rfl) (fun _ _ _ h => h) (Or.inl ⟨by rfl, by intro w hSw; go_simp⟩) ((Below.refl W0.heap.size W0).drew) ?_
      try simp only [Act.put, List.setIfInBounds_toArray, List.set_cons_zero, List.set_cons_succ]
      refine anyH_take 2 34 (rg v p f) rfl rfl (by kernel_rfl) (by kernel_rfl) (by kernel_rfl) (fun _ _ _ h => h) (Or.inl ⟨by rfl, by intro w hSw; obtain ⟨k0, k1', k2, k3, k4, k5, k6⟩ := (HJ _ hSw).r; go_simp⟩) ((Below.refl W0.heap.size W0).drew) ?_
      try simp only [Act.put, List.setIfInBounds_toArray, List.set_cons_zero, List.set_cons_succ]
      refine anyH_take 3 35 (.int .i64 rest) rfl rfl (by kernel_rfl) (by kernel_rfl) (by kernel_rfl) (fun _ _ _ h => h) (Or.inl ⟨by rfl, by intro w hSw; go_simp⟩) ((Below.refl W0.heap.size W0).drew) ?_
      try simp only [Act.put, List.setIfInBounds_toArray, List.set_cons_zero, List.set_cons_succ]
      refine anyH_take 4 36 (.int .i64 told) rfl rfl (by kernel_rfl) (by kernel_rfl) (by kernel_rfl) (fun _ _ _ h => h) (Or.inl ⟨by rfl, by intro w hSw; go_simp⟩) ((Below.refl W0.heap.size W0).drew) ?_
      try simp only [Act.put, List.setIfInBounds_toArray, List.set_cons_zero, List.set_cons_succ]
      refine anyH_take 6 38 (.int .i64 me) rfl rfl (by kernel_rfl) (by kernel_rfl) (by kernel_rfl) (fun _ _ _ h => h) (Or.inl ⟨by rfl, by intro w hSw; go_simp⟩) ((Below.refl W0.heap.size W0).drew) ?_
      try simp only [Act.put, List.setIfInBounds_toArray, List.set_cons_zero, List.set_cons_succ]
      refine anyH_take 7 39 (.int .i64 pe) rfl rfl (by kernel_rfl) (by kernel_rfl) (by kernel_rfl) (fun _ _ _ h => h) (Or.inl ⟨by rfl, by intro w hSw; go_simp⟩) ((Below.refl W0.heap.size W0).drew) ?_
      try simp only [Act.put, List.setIfInBounds_toArray, List.set_cons_zero, List.set_cons_succ]
      refine anyH_take 8 40 (rg u q g) rfl rfl (by kernel_rfl) (by kernel_rfl) (by kernel_rfl) (fun _ _ _ h => h) (Or.inl ⟨by rfl, by intro w hSw; obtain ⟨k0, k1', k2, k3, k4, k5, k6⟩ := (HJ _ hSw).m; go_simp⟩) ((Below.refl W0.heap.size W0).drew) ?_
      try simp only [Act.put, List.setIfInBounds_toArray, List.set_cons_zero, List.set_cons_succ]
      refine anyH_take 9 41 (.int .i64 rest) rfl rfl (by kernel_rfl) (by kernel_rfl) (by kernel_rfl) (fun _ _ _ h => h) (Or.inl ⟨by rfl, by intro w hSw; go_simp⟩) ((Below.refl W0.heap.size W0).drew) ?_
      try simp only [Act.put, List.setIfInBounds_toArray, List.set_cons_zero, List.set_cons_succ]
      refine anyH_take 10 42 (.int .i64 told) rfl rfl (by kernel_rfl) (by kernel_rfl) (by kernel_rfl) (fun _ _ _ h => h) (Or.inl ⟨by rfl, by intro w hSw; go_simp⟩) ((Below.refl W0.heap.size W0).drew) ?_
      try simp only [Act.put, List.setIfInBounds_toArray, List.set_cons_zero, List.set_cons_succ]
      refine wpAnyH_ready (rs := [5, 16]) (by kernel_rfl) (by simp) ?_
      refine AllReadyH.cons rfl (fun K hK => ?_) (AllReadyH.cons rfl (fun K hK => ?_) AllReadyH.nil)
      · replace hK : Shut _ := hK
        go_simp
        go_wp2_with (go_at_call 26; refine (K1 _).mono ?_; rintro e wa ⟨rfl, hb1⟩)
        refine hK.out _ _ (Below.trans (Below.refl W0.heap.size W0).drew (hb1.mono ((Below.refl W0.heap.size W0).drew).size)) (fun hS1 => ?_)
        clear hK
        try simp only [Act.put, List.setIfInBounds_toArray, List.set_cons_zero, List.set_cons_succ]
        refine wpAnyH_ready (rs := [11, 16]) (by kernel_rfl) (by simp) ?_
        refine AllReadyH.cons rfl (fun K hK => ?_) (AllReadyH.cons rfl (fun K hK => ?_) AllReadyH.nil)
        · replace hK : Shut _ := hK
          go_simp
          go_wp2_with (go_at_call 26; refine (K2 _).mono ?_; rintro e wb ⟨rfl, hb2⟩)
          refine hK.out _ _ (Below.trans hS1 (hb2.mono (hS1).size)) (fun hS2 => ?_)
          clear hK
          try simp only [Act.put, List.setIfInBounds_toArray, List.set_cons_zero, List.set_cons_succ]
          refine wpAnyH_ready (rs := [12, 16]) (by kernel_rfl) (by simp) ?_
          refine AllReadyH.cons rfl (fun K hK => ?_) (AllReadyH.cons rfl (fun K hK => ?_) AllReadyH.nil)
          · replace hK : Shut _ := hK
            go_simp
            go_wp2_with (go_at_call 25; refine (KD _).mono ?_; rintro e wc ⟨rfl, hb3⟩)
            refine hK.out _ _ (Below.trans hS2 (hb3.mono (hS2).size)) (fun hS3 => ?_)
            clear hK
            try simp only [Act.put, List.setIfInBounds_toArray, List.set_cons_zero, List.set_cons_succ]
            refine anyH_take 13 31 (.tuple #[wide H L, .bool bb]) rfl rfl (by kernel_rfl) (by kernel_rfl) (by kernel_rfl) (fun _ _ _ h => h) (Or.inl ⟨by rfl, by intro w hSw; go_simp⟩) (hS3) ?_
            try simp only [Act.put, List.setIfInBounds_toArray, List.set_cons_zero, List.set_cons_succ]
            refine anyH_take 14 45 (wide H L) rfl rfl (by kernel_rfl) (by kernel_rfl) (by kernel_rfl) (fun _ _ _ h => h) (Or.inl ⟨by rfl, by intro w hSw; go_simp⟩) (hS3) ?_
            try simp only [Act.put, List.setIfInBounds_toArray, List.set_cons_zero, List.set_cons_succ]
            refine anyH_take 15 46 (.bool bb) rfl rfl (by kernel_rfl) (by kernel_rfl) (by kernel_rfl) (fun _ _ _ h => h) (Or.inl ⟨by rfl, by intro w hSw; go_simp⟩) (hS3) ?_
            try simp only [Act.put, List.setIfInBounds_toArray, List.set_cons_zero, List.set_cons_succ]
            refine wpAnyH_ready (rs := [16]) (by kernel_rfl) (by simp) ?_
            refine AllReadyH.cons rfl (fun K hK => ?_) AllReadyH.nil
            replace hK : Shut _ := hK
            go_simp
            go_wp2
            refine hK.out _ _ (Below.alloc hS3 (hS3).size _) (fun hS4 => ?_)
            clear hK
            try simp only [Act.put, List.setIfInBounds_toArray, List.set_cons_zero, List.set_cons_succ]
            have TT4 := Two.new wc (.int .u64 0) (.int .u64 0) 31
            have hz := (hS3).size
            obtain ⟨t0, t1, t2, t3, t4⟩ := _root_.id TT4
            refine wpAnyH_ready (rs := [17]) (by kernel_rfl) (by simp) ?_
            refine AllReadyH.cons rfl (fun K hK => ?_) AllReadyH.nil
            replace hK : Shut _ := hK
            go_simp
            go_wp2
            refine hK.out _ _ (by have hh := hS4; go_grown) (fun hS9 => ?_)
            clear hK
            try simp only [Act.put, List.setIfInBounds_toArray, List.set_cons_zero, List.set_cons_succ]
            refine anyH_take 18 16 (.bool bb) rfl rfl (by kernel_rfl) (by kernel_rfl) (by kernel_rfl) (fun _ _ _ h => h) (Or.inl ⟨by rfl, by intro w hSw; go_simp⟩) (hS9) ?_
            try simp only [Act.put, List.setIfInBounds_toArray, List.set_cons_zero, List.set_cons_succ]
            refine wpAnyH_done (by kernel_rfl) ?_ _
            go_wp2_with (fail)
            go_meet
            first | exact ⟨_, rfl, Two.set TT4 _ _, hS9, hz⟩ | exact ⟨_, rfl, Two.new _ _ _ _, hS9, hz⟩ | exact ⟨_, rfl, Two.set TT4 _ _, hS9, by first | exact hz | (simp at hz; simp; omega) | simp⟩
          · replace hK : Shut _ := hK
            go_simp
            go_wp2
            refine hK.out _ _ (Below.alloc hS2 (hS2).size _) (fun hS5 => ?_)
            clear hK
            try simp only [Act.put, List.setIfInBounds_toArray, List.set_cons_zero, List.set_cons_succ]
            have TT5 := Two.new wb (.int .u64 0) (.int .u64 0) 31
            have hz := (hS2).size
            refine wpAnyH_ready (rs := [12]) (by kernel_rfl) (by simp) ?_
            refine AllReadyH.cons rfl (fun K hK => ?_) AllReadyH.nil
            replace hK : Shut _ := hK
            go_simp
            go_wp2_with (go_at_call 25; refine (KD _).mono ?_; rintro e wc ⟨rfl, hb6⟩)
            refine hK.out _ _ (Below.trans hS5 (hb6.mono (hS5).size)) (fun hS6 => ?_)
            clear hK
            try simp only [Act.put, List.setIfInBounds_toArray, List.set_cons_zero, List.set_cons_succ]
            have U6 := Two.below TT5 hb6
            refine anyH_take 13 31 (.tuple #[wide H L, .bool bb]) rfl rfl (by kernel_rfl) (by kernel_rfl) (by kernel_rfl) (fun _ _ _ h => h) (Or.inl ⟨by rfl, by intro w hSw; go_simp⟩) (hS6) ?_
            try simp only [Act.put, List.setIfInBounds_toArray, List.set_cons_zero, List.set_cons_succ]
            refine anyH_take 14 45 (wide H L) rfl rfl (by kernel_rfl) (by kernel_rfl) (by kernel_rfl) (fun _ _ _ h => h) (Or.inl ⟨by rfl, by intro w hSw; go_simp⟩) (hS6) ?_
            try simp only [Act.put, List.setIfInBounds_toArray, List.set_cons_zero, List.set_cons_succ]
            refine anyH_take 15 46 (.bool bb) rfl rfl (by kernel_rfl) (by kernel_rfl) (by kernel_rfl) (fun _ _ _ h => h) (Or.inl ⟨by rfl, by intro w hSw; go_simp⟩) (hS6) ?_
            try simp only [Act.put, List.setIfInBounds_toArray, List.set_cons_zero, List.set_cons_succ]
            obtain ⟨t0, t1, t2, t3, t4⟩ := _root_.id U6
            refine wpAnyH_ready (rs := [17]) (by kernel_rfl) (by simp) ?_
            refine AllReadyH.cons rfl (fun K hK => ?_) AllReadyH.nil
            replace hK : Shut _ := hK
            go_simp
            go_wp2
            refine hK.out _ _ (by have hh := hS6; go_grown) (fun hS9 => ?_)
            clear hK
            try simp only [Act.put, List.setIfInBounds_toArray, List.set_cons_zero, List.set_cons_succ]
            refine anyH_take 18 16 (.bool bb) rfl rfl (by kernel_rfl) (by kernel_rfl) (by kernel_rfl) (fun _ _ _ h => h) (Or.inl ⟨by rfl, by intro w hSw; go_simp⟩) (hS9) ?_
            try simp only [Act.put, List.setIfInBounds_toArray, List.set_cons_zero, List.set_cons_succ]
            refine wpAnyH_done (by kernel_rfl) ?_ _
            go_wp2_with (fail)
            go_meet
            first | exact ⟨_, rfl, Two.set U6 _ _, hS9, hz⟩ | exact ⟨_, rfl, Two.new _ _ _ _, hS9, hz⟩ | exact ⟨_, rfl, Two.set U6 _ _, hS9, by first | exact hz | (simp at hz; simp; omega) | simp⟩
        · replace hK : Shut _ := hK
          go_simp
          go_wp2
          refine hK.out _ _ (Below.alloc hS1 (hS1).size _) (fun hS7 => ?_)
          clear hK
          try simp only [Act.put, List.setIfInBounds_toArray, List.set_cons_zero, List.set_cons_succ]
          have TT7 := Two.new wa (.int .u64 0) (.int .u64 0) 31
          have hz := (hS1).size
          refine wpAnyH_ready (rs := [11]) (by kernel_rfl) (by simp) ?_
          refine AllReadyH.cons rfl (fun K hK => ?_) AllReadyH.nil
          replace hK : Shut _ := hK
          go_simp
          go_wp2_with (go_at_call 26; refine (K2 _).mono ?_; rintro e wb ⟨rfl, hb8⟩)
          refine hK.out _ _ (Below.trans hS7 (hb8.mono (hS7).size)) (fun hS8 => ?_)
          clear hK
          try simp only [Act.put, List.setIfInBounds_toArray, List.set_cons_zero, List.set_cons_succ]
          have U8 := Two.below TT7 hb8
          refine wpAnyH_ready (rs := [12]) (by kernel_rfl) (by simp) ?_
          refine AllReadyH.cons rfl (fun K hK => ?_) AllReadyH.nil
          replace hK : Shut _ := hK
          go_simp
          go_wp2_with (go_at_call 25; refine (KD _).mono ?_; rintro e wc ⟨rfl, hb9⟩)
          refine hK.out _ _ (Below.trans hS8 (hb9.mono (hS8).size)) (fun hS9 => ?_)
          clear hK
          try simp only [Act.put, List.setIfInBounds_toArray, List.set_cons_zero, List.set_cons_succ]
          have U9 := Two.below U8 hb9
          refine anyH_take 13 31 (.tuple #[wide H L, .bool bb]) rfl rfl (by kernel_rfl) (by kernel_rfl) (by kernel_rfl) (fun _ _ _ h => h) (Or.inl ⟨by rfl, by intro w hSw; go_simp⟩) (hS9) ?_
          try simp only [Act.put, List.setIfInBounds_toArray, List.set_cons_zero, List.set_cons_succ]
          refine anyH_take 14 45 (wide H L) rfl rfl (by kernel_rfl) (by kernel_rfl) (by kernel_rfl) (fun _ _ _ h => h) (Or.inl ⟨by rfl, by intro w hSw; go_simp⟩) (hS9) ?_
          try simp only [Act.put, List.setIfInBounds_toArray, List.set_cons_zero, List.set_cons_succ]
          refine anyH_take 15 46 (.bool bb) rfl rfl (by kernel_rfl) (by kernel_rfl) (by kernel_rfl) (fun _ _ _ h => h) (Or.inl ⟨by rfl, by intro w hSw; go_simp⟩) (hS9) ?_
          try simp only [Act.put, List.setIfInBounds_toArray, List.set_cons_zero, List.set_cons_succ]
          obtain ⟨t0, t1, t2, t3, t4⟩ := _root_.id U9
          refine wpAnyH_ready (rs := [17]) (by kernel_rfl) (by simp) ?_
          refine AllReadyH.cons rfl (fun K hK => ?_) AllReadyH.nil
          replace hK : Shut _ := hK
          go_simp
          go_wp2
          refine hK.out _ _ (by have hh := hS9; go_grown) (fun hS9 => ?_)
          clear hK
          try simp only [Act.put, List.setIfInBounds_toArray, List.set_cons_zero, List.set_cons_succ]
          refine anyH_take 18 16 (.bool bb) rfl rfl (by kernel_rfl) (by kernel_rfl) (by kernel_rfl) (fun _ _ _ h => h) (Or.inl ⟨by rfl, by intro w hSw; go_simp⟩) (hS9) ?_
          try simp only [Act.put, List.setIfInBounds_toArray, List.set_cons_zero, List.set_cons_succ]
          refine wpAnyH_done (by kernel_rfl) ?_ _
          go_wp2_with (fail)
          go_meet
          first | exact ⟨_, rfl, Two.set U9 _ _, hS9, hz⟩ | exact ⟨_, rfl, Two.new _ _ _ _, hS9, hz⟩ | exact ⟨_, rfl, Two.set U9 _ _, hS9, by first | exact hz | (simp at hz; simp; omega) | simp⟩
      · replace hK : Shut _ := hK
        go_simp
        go_wp2
        refine hK.out _ _ (Below.alloc (Below.refl W0.heap.size W0).drew ((Below.refl W0.heap.size W0).drew).size _) (fun hS10 => ?_)
        clear hK
        try simp only [Act.put, List.setIfInBounds_toArray, List.set_cons_zero, List.set_cons_succ]
        have TT10 := (Two.new W0.drew (.int .u64 0) (.int .u64 0) 31).at (k' := W0.heap.size) rfl
        have hz := ((Below.refl W0.heap.size W0).drew).size
        refine wpAnyH_ready (rs := [5]) (by kernel_rfl) (by simp) ?_
        refine AllReadyH.cons rfl (fun K hK => ?_) AllReadyH.nil
        replace hK : Shut _ := hK
        go_simp
        go_wp2_with (go_at_call 26; refine (K1 _).mono ?_; rintro e wa ⟨rfl, hb11⟩)
        refine hK.out _ _ (Below.trans hS10 (hb11.mono (hS10).size)) (fun hS11 => ?_)
        clear hK
        try simp only [Act.put, List.setIfInBounds_toArray, List.set_cons_zero, List.set_cons_succ]
        have U11 := Two.below TT10 hb11
        refine wpAnyH_ready (rs := [11]) (by kernel_rfl) (by simp) ?_
        refine AllReadyH.cons rfl (fun K hK => ?_) AllReadyH.nil
        replace hK : Shut _ := hK
        go_simp
        go_wp2_with (go_at_call 26; refine (K2 _).mono ?_; rintro e wb ⟨rfl, hb12⟩)
        refine hK.out _ _ (Below.trans hS11 (hb12.mono (hS11).size)) (fun hS12 => ?_)
        clear hK
        try simp only [Act.put, List.setIfInBounds_toArray, List.set_cons_zero, List.set_cons_succ]
        have U12 := Two.below U11 hb12
        refine wpAnyH_ready (rs := [12]) (by kernel_rfl) (by simp) ?_
        refine AllReadyH.cons rfl (fun K hK => ?_) AllReadyH.nil
        replace hK : Shut _ := hK
        go_simp
        go_wp2_with (go_at_call 25; refine (KD _).mono ?_; rintro e wc ⟨rfl, hb13⟩)
        refine hK.out _ _ (Below.trans hS12 (hb13.mono (hS12).size)) (fun hS13 => ?_)
        clear hK
        try simp only [Act.put, List.setIfInBounds_toArray, List.set_cons_zero, List.set_cons_succ]
        have U13 := Two.below U12 hb13
        refine anyH_take 13 31 (.tuple #[wide H L, .bool bb]) rfl rfl (by kernel_rfl) (by kernel_rfl) (by kernel_rfl) (fun _ _ _ h => h) (Or.inl ⟨by rfl, by intro w hSw; go_simp⟩) (hS13) ?_
        try simp only [Act.put, List.setIfInBounds_toArray, List.set_cons_zero, List.set_cons_succ]
        refine anyH_take 14 45 (wide H L) rfl rfl (by kernel_rfl) (by kernel_rfl) (by kernel_rfl) (fun _ _ _ h => h) (Or.inl ⟨by rfl, by intro w hSw; go_simp⟩) (hS13) ?_
        try simp only [Act.put, List.setIfInBounds_toArray, List.set_cons_zero, List.set_cons_succ]
        refine anyH_take 15 46 (.bool bb) rfl rfl (by kernel_rfl) (by kernel_rfl) (by kernel_rfl) (fun _ _ _ h => h) (Or.inl ⟨by rfl, by intro w hSw; go_simp⟩) (hS13) ?_
        try simp only [Act.put, List.setIfInBounds_toArray, List.set_cons_zero, List.set_cons_succ]
        obtain ⟨t0, t1, t2, t3, t4⟩ := _root_.id U13
        refine wpAnyH_ready (rs := [17]) (by kernel_rfl) (by simp) ?_
        refine AllReadyH.cons rfl (fun K hK => ?_) AllReadyH.nil
        replace hK : Shut _ := hK
        go_simp
        go_wp2
        refine hK.out _ _ (by have hh := hS13; go_grown) (fun hS9 => ?_)
        clear hK
        try simp only [Act.put, List.setIfInBounds_toArray, List.set_cons_zero, List.set_cons_succ]
        refine anyH_take 18 16 (.bool bb) rfl rfl (by kernel_rfl) (by kernel_rfl) (by kernel_rfl) (fun _ _ _ h => h) (Or.inl ⟨by rfl, by intro w hSw; go_simp⟩) (hS9) ?_
        try simp only [Act.put, List.setIfInBounds_toArray, List.set_cons_zero, List.set_cons_succ]
        refine wpAnyH_done (by kernel_rfl) ?_ _
        go_wp2_with (fail)
        go_meet
        first | exact ⟨_, rfl, Two.set U13 _ _, hS9, hz⟩ | exact ⟨_, rfl, Two.new _ _ _ _, hS9, hz⟩ | exact ⟨_, rfl, Two.set U13 _ _, hS9, by first | exact hz | (simp at hz; simp; omega) | simp⟩
    case rest =>
      obtain ⟨k, rfl, T15, hBx, hk⟩ := hcut
      have J9 := HJ _ hBx
      have hB9 := J9.b
      have kk : k ≠ w.heap.size + 1 := by have := J1.o.2.2.2.2; omega
      obtain ⟨c0, c1, d0, d1, z1⟩ := J9.o
      obtain ⟨e0, e1, f0, f1, z2⟩ := T15
      go_wp2
      exact bodyPost_ret (v := gvV ⟨H, L, 0⟩) (by simp [results, Try.results10, go_sem, c0, c1, d0, d1, z1]) rfl ⟨rfl, by go_grown⟩
end Go.Proofs.Ytcjdfnfaiocdjaa
