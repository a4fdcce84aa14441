/-
  Put.
-/
import Derived.Test.YtacefkchhcpgaaaH10
namespace Go.Proofs.Ytacefkchhcpgaaa
open Go.ChangeShapes Go.WideShapes Go.ChangeAt Go.RowKit
set_option linter.unusedVariables false
set_option linter.unusedSimpArgs false

theorem getD_set {α : Type} (l : List α) (p i : Nat) (x z : α) (hp : p < l.length) : (l.set p x).getD i z = if i = p then x else l.getD i z := by
  rw [List.getD_eq_getElem?_getD, List.getElem?_set]
  by_cases h : p = i
  · subst h; simp [hp]
  · rw [if_neg h, if_neg (fun e => h e.symm), List.getD_eq_getElem?_getD]
theorem getD_ins {α : Type} (l : List α) (p i : Nat) (x z : α) (hp : p ≤ l.length) : (l.take p ++ x :: l.drop p).getD i z = if i < p then l.getD i z else if i = p then x else l.getD (i - 1) z := by
  rw [List.getD_eq_getElem?_getD]
  have hl : (l.take p).length = p := by rw [List.length_take]; omega
  by_cases h : i < p
  · rw [if_pos h, List.getElem?_append_left (by omega), List.getElem?_take, if_pos h, List.getD_eq_getElem?_getD]
  · rw [if_neg h, List.getElem?_append_right (by omega), hl]
    by_cases e : i = p
    · subst e; simp
    · rw [if_neg e, show i - p = (i - p - 1) + 1 by omega, List.getElem?_cons_succ, List.getElem?_drop, List.getD_eq_getElem?_getD, show p + (i - p - 1) = i - 1 by omega]
theorem Ech.mono {base base' : Nat} {W : World} {es : List HR} {hs : List HS} (h : Ech base W es hs) (hb : base' ≤ base) : Ech base' W es hs := fun i hi => by
  obtain ⟨a, c, e, O⟩ := h i hi
  exact ⟨a, c, e, O.mono hb⟩
theorem Ech.below {base : Nat} {W W' : World} {es : List HR} {hs : List HS} (h : Ech base W es hs) (b : Below W.heap.size W W') : Ech base W' es hs := fun i hi => by
  obtain ⟨a, c, e, O⟩ := h i hi
  exact ⟨a, c, e, O.below b⟩
theorem Ech.set {base : Nat} {W : World} {es : List HR} {hs : List HS} {x : HS} {a : Option Addr} {c : Nat} (h : Ech base W es hs) (hl : es.length = hs.length) (O : Own base W x a c) (p : Nat) (hp : p < hs.length) : Ech base W (es.set p (x.on a c)) (hs.set p x) := fun i hi => by
  rw [List.length_set] at hi
  rw [getD_set _ _ _ _ _ (by omega), getD_set _ _ _ _ _ hp]
  split
  · exact ⟨a, c, rfl, O⟩
  · exact h i hi
theorem Ech.ins {base : Nat} {W : World} {es : List HR} {hs : List HS} {x : HS} {a : Option Addr} {c : Nat} (h : Ech base W es hs) (hl : es.length = hs.length) (O : Own base W x a c) (p : Nat) (hp : p ≤ hs.length) : Ech base W (es.take p ++ x.on a c :: es.drop p) (hs.take p ++ x :: hs.drop p) := fun i hi => by
  have hi' : i < hs.length + 1 := by
    rw [List.length_append, List.length_cons, List.length_take, List.length_drop] at hi
    omega
  rw [getD_ins _ _ _ _ _ (by omega), getD_ins _ _ _ _ _ hp]
  split
  · exact h i (by omega)
  · split
    · exact ⟨a, c, rfl, O⟩
    · exact h (i - 1) (by omega)
def putH (x : HS) (l : List HS) : List HS := if hitH x.peer l = true then l.set (posH x.peer l) x else l.take (posH x.peer l) ++ x :: l.drop (posH x.peer l)
set_option maxRecDepth 100000 in
set_option maxHeartbeats 8000000 in
theorem put_any (h : HS) (a : Option Addr) (c1 : Nat) (A : Option Addr) (c : Nat) (hs : List HS) (w : World) (R0 : RdO w h a c1) (P0 : Hs w A hs.length c hs) (hn : hs.length + 1 ≤ 65536) : Calls Try.prog 21 #[.slice A hs.length c, (h.on a c1).val] w fun e w' => ∃ a' c' es, e = .returned (.slice a' (putH h hs).length c') ∧ LstH w' a' (putH h hs).length c' es ∧ Ech w.heap.size w' es (putH h hs) ∧ (∀ g off, a' = some ⟨g, off, none⟩ → w.heap.size ≤ g) ∧ Below w.heap.size w w' := by
  obtain ⟨W0, hW0⟩ : ∃ X, w.alloc (.cells #[.int .i64 h.peer, .int .i64 h.boot, .int .i64 h.life, .slice a h.ls.length c1, .bool h.pend, .int .i64 h.miss] 24) = X := ⟨_, rfl⟩
  have BW : Below w.heap.size w W0 := by rw [← hW0]; exact (Below.refl _ _).alloc (Nat.le_refl _) _
  have T : W0.heap[w.heap.size]? = some (.cells (h.on a c1).cells.toArray 24 (0, 0)) := by rw [← hW0]; exact heap_new rfl
  have R : RdO W0 h a c1 := RdL.below R0 BW
  have P := P0.below BW
  obtain ⟨rs, RR, PK⟩ := P.mem
  have ee := peers_same RR.size (fun i hi => by obtain ⟨a, c, e, _⟩ := PK i hi; rw [e]; rfl)
  have KT := fun W => toward_any A hs.length c W
  have KP := fun W (b : Below W0.heap.size W0 W) (o : One W W0.heap.size (.slice A hs.length c)) => placeI_any W0.heap.size A hs.length c rs h.peer W (RR.below b) o
  rw [pos_hs ee, hit_hs ee] at KP
  have KC := fun W (b : Below W0.heap.size W0 W) => hcopy_any A c hs W (P.below b)
  have hle : posH h.peer hs ≤ hs.length := pos_le _ _
  have hit' : hitH h.peer hs = true → posH h.peer hs < hs.length := hit_lt
  obtain ⟨D, hD⟩ : ∃ D, putH h hs = D := ⟨_, rfl⟩
  obtain ⟨p, hp⟩ : ∃ p : Nat, posH h.peer hs = p := ⟨_, rfl⟩
  obtain ⟨b, hb⟩ : ∃ b : Bool, hitH h.peer hs = b := ⟨_, rfl⟩
  rw [hD]
  unfold putH at hD
  rw [hb, hp] at hD
  rw [hp, hb] at hit' KP
  rw [hp] at hle
  have HD : Hid ((if b = true then hs.set p h else hs.take p ++ h :: hs.drop p) = D) := hD
  have HIT : Hid (b = true → p < hs.length) := hit'
  have HLE : Hid (p ≤ hs.length) := hle
  have HN : Hid (hs.length + 1 ≤ 65536) := hn
  have kp : ∀ X, Below W0.heap.size W0 X → X.cell? ⟨w.heap.size, 0, none⟩ = some (.int .i64 h.peer) := fun X b => (b.cell (p := ⟨w.heap.size, 0, none⟩) (row_lt T)).trans (row_cell T 0 _ rfl)
  have HW : Hid (w.alloc (.cells #[.int .i64 h.peer, .int .i64 h.boot, .int .i64 h.life, .slice a h.ls.length c1, .bool h.pend, .int .i64 h.miss] 24) = W0) := hW0
  clear ee PK RR hD hit' hle hp hb hn hW0 R0 P0
  rw [show (h.on a c1).val = .agg #[.int .i64 h.peer, .int .i64 h.boot, .int .i64 h.life, .slice a h.ls.length c1, .bool h.pend, .int .i64 h.miss] from rfl]
  go_enter Try.func21, Try.ntmps21
  go_wp2
  rw [HW.out]
  clear HW
  refine wp_region_any (by kernel_rfl) ?_
  change wpAny _ _ _ _ _ _ _ (World.drew _)
  refine wpAny_narrow (fun W' => Below W0.heap.size W0 W') _ _ _ _ ?_
  refine anyH_take 0 8 (.slice A hs.length c) rfl rfl (by kernel_rfl) (by kernel_rfl) (by kernel_rfl) (fun _ _ _ h => h) (Or.inl ⟨by rfl, by intro w hSw; go_simp⟩) ((Below.refl _ _).drew) ?_
  try simp only [Act.put, List.setIfInBounds_toArray, List.set_cons_zero, List.set_cons_succ]
  refine anyH_take 2 10 (.pointer (some ⟨w.heap.size, 0, none⟩)) rfl rfl (by kernel_rfl) (by kernel_rfl) (by kernel_rfl) (fun _ _ _ h => h) (Or.inl ⟨by rfl, by intro w hSw; go_simp⟩) ((Below.refl _ _).drew) ?_
  try simp only [Act.put, List.setIfInBounds_toArray, List.set_cons_zero, List.set_cons_succ]
  refine anyH_take 3 11 (.int .i64 h.peer) rfl rfl (by kernel_rfl) (by kernel_rfl) (by kernel_rfl) (fun _ _ _ h => h) (Or.inl ⟨by rfl, by intro w hSw; have s1 := kp _ hSw; go_simp⟩) ((Below.refl _ _).drew) ?_
  try simp only [Act.put, List.setIfInBounds_toArray, List.set_cons_zero, List.set_cons_succ]
  refine wpAnyH_ready (rs := [1]) (by kernel_rfl) (by simp) ?_
  refine AllReadyH.cons rfl (fun K hK => ?_) AllReadyH.nil
  go_simp
  go_wp2_with (go_at_call 46; refine (KT _).mono ?_; rintro e w2 ⟨rfl, hw2⟩; have b2 : Below W0.heap.size W0 w2 := (by rw [hw2]; exact (Below.refl _ _).drew.alloc (Nat.le_refl _) _); have One2 : One w2 W0.heap.size (.slice A hs.length c) := (by rw [hw2]; exact One.new _ _ _); clear hw2)
  refine hK.out _ _ (b2) (fun hS => ?_)
  clear hK
  refine wpAnyH_ready (rs := [4]) (by kernel_rfl) (by simp) ?_
  refine AllReadyH.cons rfl (fun K hK => ?_) AllReadyH.nil
  go_simp
  go_wp2_with (go_at_call 49; refine (KP _ b2 One2).mono ?_; rintro e w3 ⟨rfl, b3⟩)
  refine hK.out _ _ (hS.trans (b3.mono hS.size)) (fun hS => ?_)
  clear hK
  clear b2 b3 One2 KP KT
  refine anyH_take 5 7 (.tuple #[.int .i64 (p : Int), .int .i64 (toN p b)]) rfl rfl (by kernel_rfl) (by kernel_rfl) (by kernel_rfl) (fun _ _ _ h => h) (Or.inl ⟨by rfl, by intro w hSw; go_simp⟩) (hS) ?_
  try simp only [Act.put, List.setIfInBounds_toArray, List.set_cons_zero, List.set_cons_succ]
  refine anyH_take 6 13 (.int .i64 (p : Int)) rfl rfl (by kernel_rfl) (by kernel_rfl) (by kernel_rfl) (fun _ _ _ h => h) (Or.inl ⟨by rfl, by intro w hSw; go_simp⟩) (hS) ?_
  try simp only [Act.put, List.setIfInBounds_toArray, List.set_cons_zero, List.set_cons_succ]
  refine anyH_take 7 14 (.int .i64 (toN p b)) rfl rfl (by kernel_rfl) (by kernel_rfl) (by kernel_rfl) (fun _ _ _ h => h) (Or.inl ⟨by rfl, by intro w hSw; go_simp⟩) (hS) ?_
  try simp only [Act.put, List.setIfInBounds_toArray, List.set_cons_zero, List.set_cons_succ]
  refine anyH_take 8 5 (.int .i64 (p : Int)) rfl rfl (by kernel_rfl) (by kernel_rfl) (by kernel_rfl) (fun _ _ _ h => h) (Or.inl ⟨by rfl, by intro w hSw; go_simp⟩) (hS) ?_
  try simp only [Act.put, List.setIfInBounds_toArray, List.set_cons_zero, List.set_cons_succ]
  refine anyH_take 9 6 (.int .i64 (toN p b)) rfl rfl (by kernel_rfl) (by kernel_rfl) (by kernel_rfl) (fun _ _ _ h => h) (Or.inl ⟨by rfl, by intro w hSw; go_simp⟩) (hS) ?_
  try simp only [Act.put, List.setIfInBounds_toArray, List.set_cons_zero, List.set_cons_succ]
  refine wpAnyH_done (by kernel_rfl) ?_ _
  go_wp2_with (fail)
  have B3 := hS
  have T3 := (B3.block _ (row_lt T)).trans T
  refine wp_region_any (by kernel_rfl) ?_
  change wpAny _ _ _ _ _ _ _ (World.drew _)
  refine wpAny_narrow (fun W' => Below w3.heap.size w3 W') _ _ _ _ ?_
  refine anyH_take 0 15 (.slice A hs.length c) rfl rfl (by kernel_rfl) (by kernel_rfl) (by kernel_rfl) (fun _ _ _ h => h) (Or.inl ⟨by rfl, by intro w hSw; go_simp⟩) ((Below.refl _ _).drew) ?_
  try simp only [Act.put, List.setIfInBounds_toArray, List.set_cons_zero, List.set_cons_succ]
  refine anyH_take 2 17 (.int .i64 (p : Int)) rfl rfl (by kernel_rfl) (by kernel_rfl) (by kernel_rfl) (fun _ _ _ h => h) (Or.inl ⟨by rfl, by intro w hSw; go_simp⟩) ((Below.refl _ _).drew) ?_
  try simp only [Act.put, List.setIfInBounds_toArray, List.set_cons_zero, List.set_cons_succ]
  refine anyH_take 3 18 (.int .i64 (toN p b)) rfl rfl (by kernel_rfl) (by kernel_rfl) (by kernel_rfl) (fun _ _ _ h => h) (Or.inl ⟨by rfl, by intro w hSw; go_simp⟩) ((Below.refl _ _).drew) ?_
  try simp only [Act.put, List.setIfInBounds_toArray, List.set_cons_zero, List.set_cons_succ]
  refine anyH_take 4 19 ((h.on a c1).val) rfl rfl (by kernel_rfl) (by kernel_rfl) (by kernel_rfl) (fun _ _ _ h => h) (Or.inl ⟨by rfl, fun X hSw => exec_load24 rfl w.heap.size 0 (h.on a c1) rfl (range_rowH ((hSw.block _ (row_lt T3)).trans T3))⟩) ((Below.refl _ _).drew) ?_
  try simp only [Act.put, List.setIfInBounds_toArray, List.set_cons_zero, List.set_cons_succ]
  refine wpAnyH_ready (rs := [1]) (by kernel_rfl) (by simp) ?_
  refine AllReadyH.cons rfl (fun K hK => ?_) AllReadyH.nil
  go_simp
  go_wp2_with (go_at_call 23; refine (KC _ (B3.trans (((Below.refl _ _).drew).mono B3.size))).mono ?_; rintro e w5 ⟨v5, es, rfl, C5⟩; obtain ⟨a5, c5, rfl, L5, N5⟩ := own_lstH C5.row C5.len)
  refine hK.out _ _ ((Below.refl _ _).drew.trans C5.below) (fun hS => ?_)
  clear hK
  refine wpAnyH_ready (rs := [5]) (by kernel_rfl) (by simp) ?_
  refine AllReadyH.cons rfl (fun K hK => ?_) AllReadyH.nil
  go_simp
  go_wp2_with (go_at_call 50; refine (own_any h a c1 _ (RdL.below R (B3.trans (hS.mono B3.size)))).mono ?_; rintro e w6 ⟨a2, c2, rfl, O6, b6⟩)
  refine hK.out _ _ (hS.trans (b6.mono hS.size)) (fun hS => ?_)
  clear hK
  dsimp only [HS.on, HR.val]
  refine wpAnyH_ready (rs := [6]) (by kernel_rfl) (by simp) ?_
  refine AllReadyH.cons rfl (fun K hK => ?_) AllReadyH.nil
  go_simp
  go_wp2_with (fail)
  refine hK.out _ _ (hS.alloc hS.size _) (fun hS => ?_)
  clear hK
  refine wpAnyH_ready (rs := [7]) (by kernel_rfl) (by simp) ?_
  refine AllReadyH.cons rfl (fun K hK => ?_) AllReadyH.nil
  go_simp
  go_wp2_with (go_at_call 52; refine (replace_anyH a5 hs.length c5 w6.heap.size es (h.on a2 c2) p b _ ((L5.below b6).below ((Below.refl _ _).alloc (Nat.le_refl _) _)) (heap_new rfl) (fun off e => by have := L5.lt' e; have := b6.size; omega) HN.out HLE.out HIT.out).mono ?_; rintro e w8 ⟨a8, c8, n8, rfl, L8, N8, o8⟩)
  refine hK.out _ _ (hS.trans (o8.below hS.size (fun q ⟨off, e⟩ => by have := N5 q off e; simpa using this))) (fun hS => ?_)
  clear hK
  refine anyH_take 8 4 (.slice a8 n8 c8) rfl rfl (by kernel_rfl) (by kernel_rfl) (by kernel_rfl) (fun _ _ _ h => h) (Or.inl ⟨by rfl, by intro w hSw; go_simp⟩) (hS) ?_
  try simp only [Act.put, List.setIfInBounds_toArray, List.set_cons_zero, List.set_cons_succ]
  refine wpAnyH_done (by kernel_rfl) ?_ _
  have E5 : Ech w3.heap.size w5 es hs := C5.each
  have b67 : Below w5.heap.size w5 (w6.alloc (.cells #[.int .i64 h.peer, .int .i64 h.boot, .int .i64 h.life, .slice a2 h.ls.length c2, .bool h.pend, .int .i64 h.miss] 24)) := b6.trans (((Below.refl _ _).alloc (Nat.le_refl _) _).mono b6.size)
  have z3 : w.heap.size ≤ w3.heap.size := by have := BW.size; have := B3.size; omega
  have E7 := (E5.mono z3).below b67
  have O7 : Own w.heap.size (w6.alloc (.cells #[.int .i64 h.peer, .int .i64 h.boot, .int .i64 h.life, .slice a2 h.ls.length c2, .bool h.pend, .int .i64 h.miss] 24)) h a2 c2 := (O6.mono (by have := C5.below.size; simp at this; omega)).below ((Below.refl _ _).alloc (Nat.le_refl _) _)
  have L7 := L5.below b67
  have fin : n8 = D.length ∧ ∃ es', LstH w8 a8 D.length c8 es' ∧ Ech w.heap.size w8 es' D := by
    rw [← HD.out]
    cases b with
    | false =>
      rw [if_neg (by decide)] at L8 ⊢
      have e8 : n8 = (hs.take p ++ h :: hs.drop p).length := by rw [← L8.size]; simp [C5.len]
      subst e8
      exact ⟨rfl, _, L8, (E7.ins C5.len O7 p HLE.out).only L7 o8⟩
    | true =>
      rw [if_pos rfl] at L8 ⊢
      have e8 : n8 = (hs.set p h).length := by rw [← L8.size]; simp [C5.len]
      subst e8
      exact ⟨rfl, _, L8, (E7.set C5.len O7 p (HIT.out rfl)).only L7 o8⟩
  obtain ⟨e8, es', F8, G8⟩ := fin
  subst e8
  go_wp2
  go_ret
  refine ⟨a8, c8, es', rfl, F8, G8, ?_, ?_⟩
  · intro g off e
    rcases N8 g off e with ⟨o, e'⟩ | e'
    · have := N5 g o e'; simp at this; omega
    · have := b67.size; have := C5.below.size; simp at *; omega
  · exact (BW.trans (B3.mono BW.size)).trans (hS.mono z3)
end Go.Proofs.Ytacefkchhcpgaaa
