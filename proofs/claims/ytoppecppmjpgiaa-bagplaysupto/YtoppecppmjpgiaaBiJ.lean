/-
  Package bag: the severed pairs as a map and as a list that rises: what each call makes of both.
-/
import Derived.Test.YtoppecppmjpgiaaBiE
import Derived.Test.YtoppecppmjpgiaaBhK
import Derived.Test.YtoppecppmjpgiaaBgL
namespace Go.Proofs.Ytoppecppmjpgiaa
open Go.ChangeShapes Go.WideShapes Go.ChangeAt Go.RowKit Go.Maps
set_option linter.unusedVariables false
set_option linter.unusedSimpArgs false

def pr (d : LK) : Int × Int := (d.fst, d.snd)
theorem to_pr (d : LK) : toLK (pr d) = d := rfl
theorem pr_to (x : Int × Int) : pr (toLK x) = x := rfl
theorem map_to_pr (ls : List LK) : (ls.map pr).map toLK = ls := by rw [List.map_map, show toLK ∘ pr = id from rfl, List.map_id]
theorem map_pr_to (ts : List (Int × Int)) : (ts.map toLK).map pr = ts := by rw [List.map_map, show pr ∘ toLK = id from rfl, List.map_id]
/-- The map has the pairs of the list, which rises. -/
structure Lnk (D : DataW Unit) (ls : List LK) : Prop where
  keys : Keys D (ls.map pr)
  rise : Rise (ls.map pr)
theorem wf_of {x : Int} (h : I64 x) : Wf x := wf_i64 h
theorem eqK_iff (p q : LK) : eqK p q = true ↔ q = p := by
  obtain ⟨a, b⟩ := p
  obtain ⟨c, d⟩ := q
  simp [eqK]
theorem idxK_mem (p : LK) (ls : List LK) : 0 ≤ idxK (eqK p) ls ↔ p ∈ ls := by
  unfold idxK
  cases h : ls.findIdx? (eqK p) with
  | none =>
    rw [List.findIdx?_eq_none_iff] at h
    simp
    intro hp
    have := h p hp
    rw [(eqK_iff p p).2 rfl] at this
    cases this
  | some i =>
    simp
    rw [List.findIdx?_eq_some_iff_getElem] at h
    obtain ⟨hi, h1, _⟩ := h
    rw [eqK_iff] at h1
    rw [← h1]
    exact List.getElem_mem hi
theorem min64 {x y : Int} (hx : I64 x) (hy : I64 y) : I64 (min x y) := by unfold I64 at *; omega
theorem max64 {x y : Int} (hx : I64 x) (hy : I64 y) : I64 (max x y) := by unfold I64 at *; omega
theorem Lnk.has {D : DataW Unit} {ls : List LK} (h : Lnk D ls) {p : LK} (h1 : I64 p.fst) (h2 : I64 p.snd) : Maps.has D (klOf p.fst p.snd) = true ↔ p ∈ ls := by
  have k := h.keys.2 (pr p)
  have e : pr p ∈ ls.map pr ↔ p ∈ ls := by
    rw [List.mem_map]
    constructor
    · rintro ⟨q, hq, e⟩
      have : q = p := by have := congrArg toLK e; simpa [to_pr] using this
      rw [← this]; exact hq
    · exact fun hp => ⟨p, hp, rfl⟩
  rw [e] at k
  rw [k]
  exact ⟨fun h => ⟨⟨wf_of h1, wf_of h2⟩, h⟩, fun h => h.2⟩
theorem Lnk.cut {D : DataW Unit} {ls : List LK} (h : Lnk D ls) {x y : Int} (hx : I64 x) (hy : I64 y) : cut D x y = decide (0 ≤ idxK (eqK ⟨min x y, max x y⟩) ls) := by
  unfold Go.Proofs.Ytoppecppmjpgiaa.cut
  have k := h.has (p := ⟨min x y, max x y⟩) (min64 hx hy) (max64 hx hy)
  rw [← idxK_mem] at k
  cases hc : Maps.has D (klOf (min x y) (max x y)) with
  | true => exact (decide_eq_true (k.1 hc)).symm
  | false => exact (decide_eq_false (fun hk => by rw [k.2 hk] at hc; cases hc)).symm
theorem put_same {D : DataW Unit} {ls : List LK} (h : Lnk D ls) {x y : Int} (hx : I64 x) (hy : I64 y) (next : Int) (ds : List DG) (s : ByteArray) (hn : next ≤ 4611686018427387904) : putS D next ds x y s = rputS next ds ls x y s := by
  unfold putS rputS
  rw [h.cut hx hy]
  by_cases c : 0 ≤ idxK (eqK ⟨min x y, max x y⟩) ls
  · rw [if_pos c, if_pos (decide_eq_true c)]
  · rw [if_neg c, if_neg (by simp [c])]
    by_cases f : 65536 ≤ ds.length ∨ 4611686018427387904 ≤ next
    · rw [if_pos f, if_pos (f.imp id (fun h => by omega))]
    · rw [if_neg f, if_neg (fun g => f (g.imp id (fun h => by omega)))]
theorem ltP_pr (p q : LK) : ltP (pr p) (pr q) ↔ lessK p q = true := by unfold ltP lessK pr; simp
theorem rise_iff (ls : List LK) : Rise (ls.map pr) ↔ ls.Pairwise fun p q => lessK p q = true := by
  unfold Rise
  rw [List.pairwise_map]
  constructor <;> exact fun h => h.imp fun {p q} => by first | exact (ltP_pr p q).1 | exact (ltP_pr p q).2
end Go.Proofs.Ytoppecppmjpgiaa
