/-
  Chapter 7's examples (the law's 'awake').
-/
import Derived.Test.YtoecgldpmmclgaaWr
import Derived.Lib.SlBytesConst
namespace Go.Proofs.Ytoecgldpmmclgaa
open Go.ChangeShapes Go.WideShapes Go.ChangeAt Go.RowKit
set_option linter.unusedVariables false
set_option linter.unusedSimpArgs false

def zz : List Int := [48, 49, 50, 51, 52, 53, 54, 55, 56, 57, 97, 98, 99, 100, 101, 102]
theorem zz_byt : Byt zz := by intro c hc; simp [zz] at hc; omega
abbrev zzO : Obj := .cells #[.int .u8 48, .int .u8 49, .int .u8 50, .int .u8 51, .int .u8 52, .int .u8 53, .int .u8 54, .int .u8 55, .int .u8 56, .int .u8 57, .int .u8 97, .int .u8 98, .int .u8 99, .int .u8 100, .int .u8 101, .int .u8 102] 5
abbrev zzM : Obj := .cells #[.int .u8 48, .int .u8 49, .int .u8 50, .int .u8 51, .int .u8 52, .int .u8 53, .int .u8 54, .int .u8 55, .int .u8 56, .int .u8 57, .int .u8 97, .int .u8 98, .int .u8 99, .int .u8 100, .int .u8 101, .int .u8 102] 5 (16, 17)
theorem zz_row (w : World) : Row .u8 (w.alloc zzM) (some ⟨w.heap.size, 0, none⟩) 16 16 zz where
  size := rfl
  le := Nat.le_refl _
  nil := fun e => by cases e
  wf := fun z hz => u8_wf (zz_byt z hz).1 (zz_byt z hz).2
  mem := .inr ⟨w.heap.size, 0, rfl, by simp, fun k hk => by
    have h : (w.alloc zzM).heap[w.heap.size]? = some zzM := World.alloc_heap_new w zzM
    have e := bv_at zz k (by show k < 16; exact hk)
    rw [Nat.zero_add]
    simp only [World.cell?, h]
    exact e⟩
theorem conv28 (W : World) : (convert 28 28 (.slice (some ⟨W.heap.size, 0, none⟩) 16 16)).run Try.prog (W.alloc zzO) = .ok (.slice (some ⟨W.heap.size, 0, none⟩) 16 16) (W.alloc zzM) := Lib.run_convert_bytes_const W 28 5 _ 16 16 Try.underlying28 Try.underlying5
def A1 : DS := (newS 4).cut 1
def A2 : DS := wrS A1 0 16 zz
def A3 : DS := wrS A2 1 16 zz
def A4 : DS := A3.on
theorem a1 : wrC A1 0 16 = 0 := by decide +kernel
theorem a2 : wrC A2 1 16 = 32 := by decide +kernel
theorem a3 : A3.gone = true := by decide +kernel
theorem a4 : A4.gone = false := rfl
theorem a5 : A4.done = 1 := by decide +kernel
theorem a6 : A4.bs.length = 64 := by decide +kernel
theorem a7 : sec A4.bs 0 = zz := by decide +kernel
theorem a8 : A4.n = 4 := by decide +kernel
theorem a9 : strOfNums zz = { data := #[48, 49, 50, 51, 52, 53, 54, 55, 56, 57, 97, 98, 99, 100, 101, 102] } := by rfl
set_option maxRecDepth 100000 in
set_option maxHeartbeats 8000000 in
theorem awake_any (w : World) : Calls Try.prog 9 #[] w fun e w' => e = .returned (.bool true) ∧ Below w.heap.size w w' := by
  have K1 := new_ok 4 w (by omega) (by omega)
  have K0 := fun W => new_no 0 W (by omega)
  have KL := fun a c W => load_no a 15 c W (by decide) (by omega)
  have hcv := conv28
  have h40 : 0 < A4.n := by rw [a8]; omega
  have hmk : ∀ W : World, (Instr.makeSlice 28 (.int .i64 15) (.int .i64 15)).run Try.prog W = .ok (.slice (some ⟨W.heap.size, 0, none⟩) 15 15) (W.alloc (.cells ((List.replicate 15 (0 : Int)).map bv).toArray 5)) := fun W => make28 15 (by omega) W
  obtain ⟨Z, hZ⟩ : ∃ Z, ((List.replicate 15 (0 : Int)).map bv).toArray = Z := ⟨_, rfl⟩
  rw [hZ] at hmk
  clear hZ
  go_enter Try.func9, Try.ntmps9
  go_wp2_with (first
    | (go_at_call 7; refine K1.mono ?_; rintro e w1 ⟨d, rfl, hd, l, hl, D1, b1⟩; clear K1)
    | (go_at_call 7; refine (K0 _).mono ?_; rintro e w2 ⟨rfl, hw⟩; rw [hw]; clear hw)
    | (go_at_call 11; refine (KL _ _ _).mono ?_; rintro e w2 ⟨rfl, hw⟩; rw [hw]; clear hw)
    | (go_at_call 17; refine (cut_any d l (newS 4) 1 _ (D1.below ((Below.refl _ _).alloc (Nat.le_refl _) _)) (by omega)).mono ?_; rintro e w3 ⟨rfl, D3, o3⟩; have B3 := (b1.alloc b1.size (.cells Z 5)).trans (o3.below (by have := b1.size; simp; omega) (fun q hq => (by have e' : q = d := hq; omega))); replace D3 : DkP w3 d l A1 := D3; have hd3 := row_lt D3.obj; have hl3 := row_lt D3.lst)
    | (go_at_call 18; refine (write_all d l A1 0 _ 16 16 zz _ (D3.below ((Below.refl _ _).alloc (Nat.le_refl _) _)) (zz_row w3) (fun b o e => (by cases e; omega))).mono ?_; rw [a1]; rintro e w4 ⟨rfl, D4, o4⟩; have B4 := (B3.alloc B3.size zzM).trans (o4.below (by have := B3.size; simp; omega) (fun q hq => (by rcases hq with e' | e' <;> omega))); replace D4 : DkP w4 d l A2 := D4; have hd4 := row_lt D4.obj; have hl4 := row_lt D4.lst; clear D3)
    | (go_at_call 18; refine (write_all d l A2 1 _ 16 16 zz _ (D4.below ((Below.refl _ _).alloc (Nat.le_refl _) _)) (zz_row w4) (fun b o e => (by cases e; omega))).mono ?_; rw [a2]; rintro e w5 ⟨rfl, D5, o5⟩; have B5 := (B4.alloc B4.size zzM).trans (o5.below (by have := B4.size; simp; omega) (fun q hq => (by rcases hq with e' | e' <;> omega))); replace D5 : DkP w5 d l A3 := D5)
    | (go_at_call 15; refine (dead_any d l A3 _ D5).mono ?_; rw [a3]; rintro e w6 ⟨rfl, hw⟩; rw [hw]; clear hw)
    | (go_at_call 19; refine (on_any d l A3 _ D5).mono ?_; rintro e w6 ⟨rfl, D6, o6⟩; have B6 := B5.trans (o6.below B5.size (fun q hq => (by have e' : q = d := hq; omega))); replace D6 : DkP w6 d l A4 := D6)
    | (go_at_call 20; refine (read_ok d l A4 0 _ D6 a4 h40).mono ?_; rintro e w7 ⟨g, rfl, hg7, hh7, b7⟩; rw [a7] at hh7; have cv := conv_row (row_of hh7 zz_byt 16 16 rfl (Nat.le_refl _)); rw [a9] at cv; have D7 := D6.below b7; have B7 := B6.trans (b7.mono B6.size))
    | (go_at_call 16; refine (writes_any d l A4 _ D7).mono ?_; rw [a5]; rintro e w8 ⟨rfl, hw⟩; rw [hw]; clear hw)
    | (go_at_call 13; refine (image_any d l A4 _ D7).mono ?_; rintro e w8 ⟨v8, rfl, O8, b8⟩; obtain ⟨a8', n8, c8, rfl, R8, hn8, _, _⟩ := O8.row D7.ok.byt; rw [a6] at hn8; subst hn8; have B8 := B7.trans (b8.mono B7.size)))
  go_ret
  exact ⟨rfl, B8⟩
end Go.Proofs.Ytoecgldpmmclgaa
