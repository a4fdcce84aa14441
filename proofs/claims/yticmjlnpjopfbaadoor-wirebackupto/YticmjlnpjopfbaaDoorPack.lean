/-
  Packets and their bytes: what is fit, the body's fields, there and back, in one form; plain mathematics.
-/
import Derived.Test.YticmjlnpjopfbaaDoorCBackMath
import Derived.Test.YticmjlnpjopfbaaDoorSStream
namespace Go.Proofs.YticmjlnpjopfbaaDoor
open Go.RowKit C S
set_option linter.unusedVariables false
set_option linter.unusedSimpArgs false

/-! ### Packets -/
structure Ex where
  has : Bool
  value : Int
  origin : Int
  age : Int
structure Itm where
  name : ByteArray
  epoch : Int
  maker : Int
  alive : Bool
  kind : Int
  scale : Int
  ver : Int
  writer : Int
  flow : Int
  hasRest : Bool
  rest : Int
  mn : Ex
  mx : Ex
structure Pkt where
  kind : Int
  src : Int
  dst : Int
  boot : Int
  life : Int
  echo : Int
  echoLife : Int
  items : List Itm
def exZ : Ex := ⟨false, 0, 0, 0⟩
def itZ : Itm := ⟨⟨#[]⟩, 0, 0, false, 0, 0, 0, 0, 0, false, 0, exZ, exZ⟩
def pkZ : Pkt := ⟨0, 0, 0, 0, 0, 0, 0, []⟩

/-! ### What is fit -/
def inB (x lo hi : Int) : Bool := decide (lo ≤ x) && decide (x ≤ hi)
theorem inB_iff {x lo hi : Int} : inB x lo hi = true ↔ lo ≤ x ∧ x ≤ hi := by simp [inB]
def nodeB (n : Int) : Bool := decide (0 ≤ n) && decide (n < 16)
theorem nodeB_iff {n : Int} : nodeB n = true ↔ 0 ≤ n ∧ n < 16 := by simp [nodeB]
def flowB (x : Int) : Bool := inB x (-2147483647) 2147483647
def chrB (c : Int) : Bool := inB c 97 122 || inB c 48 57 || c == 95
def nameB (s : ByteArray) : Bool := inB s.size 1 16 && (bytesL s).all chrB
def exZB (e : Ex) : Bool := !e.has && e.value == 0 && e.origin == 0 && e.age == 0
def exB (e : Ex) : Bool := if e.has then flowB e.value && nodeB e.origin && inB e.age 0 63 else exZB e
def regZB (x : Itm) : Bool := x.ver == 0 && x.writer == 0 && x.flow == 0
def regB (x : Itm) : Bool := regZB x || (inB x.ver 1 1099511627776 && nodeB x.writer && flowB x.flow)
def chanB (x : Itm) : Bool := nameB x.name && inB x.epoch 1 1099511627776 && nodeB x.maker && inB x.kind 1 4 && inB x.scale 1 1048576 && (x.kind != 4 || x.scale == 1)
def partB (x : Itm) : Bool := if x.alive && x.kind != 4 then regB x && flowB x.rest && (x.hasRest || x.rest == 0) else regZB x && !x.hasRest && x.rest == 0
def extsB (x : Itm) : Bool := if x.alive && x.kind == 4 then exB x.mn && exB x.mx else exZB x.mn && exZB x.mx
def itemB (x : Itm) : Bool := chanB x && partB x && extsB x
/-- The item at the place i is fit, and its name is greater than the one ahead. -/
def placeB (l : List Itm) (i : Nat) : Bool := itemB (l.getD i itZ) && (i == 0 || Op.bytesLess (l.getD (i - 1) itZ).name.toList (l.getD i itZ).name.toList)
def itemsB (l : List Itm) : Bool := (List.range l.length).all (placeB l)
def headB (p : Pkt) : Bool := inB p.kind 1 5 && nodeB p.src && nodeB p.dst && p.src != p.dst && inB p.boot 1 1099511627776 && inB p.life 0 1099511627776 && (if p.kind == 1 then p.echo == 0 && p.echoLife == 0 else inB p.echo 1 1099511627776 && inB p.echoLife 0 1099511627776)
def listB (p : Pkt) : Bool := if p.kind != 3 && p.kind != 4 then p.items.length == 0 else decide (p.items.length ≤ 8) && itemsB p.items
def fitP (p : Pkt) : Bool := headB p && listB p

/-! ### Fields -/
def nF (x : Int) : Fld := ⟨1, x % 18446744073709551616, ⟨#[]⟩, false⟩
def sF (x : Int) : Fld := ⟨2, x, ⟨#[]⟩, false⟩
def tF (s : ByteArray) : Fld := ⟨3, 0, s, false⟩
def bF (b : Bool) : Fld := ⟨4, 0, ⟨#[]⟩, b⟩
def itF (x : Itm) : List Fld := [tF x.name, nF x.epoch, nF x.maker, bF x.alive, nF x.kind, nF x.scale, nF x.ver, nF x.writer, sF x.flow, bF x.hasRest, sF x.rest, bF x.mn.has, sF x.mn.value, nF x.mn.origin, nF x.mn.age, bF x.mx.has, sF x.mx.value, nF x.mx.origin, nF x.mx.age]
def hdF (p : Pkt) : List Fld := [nF p.kind, nF p.src, nF p.dst, nF p.boot, nF p.life, nF p.echo, nF p.echoLife, nF p.items.length]
def hdK : List Int := [1, 1, 1, 1, 1, 1, 1, 1]
def itK : List Int := [3, 1, 1, 4, 1, 1, 1, 1, 2, 4, 2, 4, 2, 1, 1, 4, 2, 1, 1]
def itsF (l : List Itm) : List Fld := l.flatMap itF
/-- The bytes ahead of sealing (numbers below 0 are written as great ones). -/
def bodyP (p : Pkt) : List Int := flds (hdF p) ++ flds (itsF p.items)
theorem itF_kinds (x : Itm) : (itF x).map Fld.kind = itK := rfl
theorem hdF_kinds (p : Pkt) : (hdF p).map Fld.kind = hdK := rfl
theorem flds_append (a b : List Fld) : flds (a ++ b) = flds a ++ flds b := by simp [flds]
theorem itsF_cons (x : Itm) (l : List Itm) : itsF (x :: l) = itF x ++ itsF l := by simp [itsF]
theorem itsF_append (l m : List Itm) : itsF (l ++ m) = itsF l ++ itsF m := by simp [itsF]

def fzz : Fld := ⟨0, 0, ⟨#[]⟩, false⟩
def itOf (fs : List Fld) : Itm :=
  ⟨(fs.getD 0 fzz).text, (fs.getD 1 fzz).num, (fs.getD 2 fzz).num, (fs.getD 3 fzz).is, (fs.getD 4 fzz).num, (fs.getD 5 fzz).num, (fs.getD 6 fzz).num, (fs.getD 7 fzz).num, (fs.getD 8 fzz).num, (fs.getD 9 fzz).is, (fs.getD 10 fzz).num,
    ⟨(fs.getD 11 fzz).is, (fs.getD 12 fzz).num, (fs.getD 13 fzz).num, (fs.getD 14 fzz).num⟩, ⟨(fs.getD 15 fzz).is, (fs.getD 16 fzz).num, (fs.getD 17 fzz).num, (fs.getD 18 fzz).num⟩⟩
def hdOf (fs : List Fld) (l : List Itm) : Pkt :=
  ⟨(fs.getD 0 fzz).num, (fs.getD 1 fzz).num, (fs.getD 2 fzz).num, (fs.getD 3 fzz).num, (fs.getD 4 fzz).num, (fs.getD 5 fzz).num, (fs.getD 6 fzz).num, l⟩

/-! ### Ranges -/
def nOk (x : Int) : Prop := 0 ≤ x ∧ x ≤ 9223372036854775807
def iOk (x : Int) : Prop := -9223372036854775808 ≤ x ∧ x ≤ 9223372036854775807
structure exOk (e : Ex) : Prop where
  value : iOk e.value
  origin : nOk e.origin
  age : nOk e.age
structure itOk (x : Itm) : Prop where
  name : x.name.size ≤ 1048576
  epoch : nOk x.epoch
  maker : nOk x.maker
  kind : nOk x.kind
  scale : nOk x.scale
  ver : nOk x.ver
  writer : nOk x.writer
  flow : iOk x.flow
  rest : iOk x.rest
  mn : exOk x.mn
  mx : exOk x.mx
structure pkOk (p : Pkt) : Prop where
  kind : nOk p.kind
  src : nOk p.src
  dst : nOk p.dst
  boot : nOk p.boot
  life : nOk p.life
  echo : nOk p.echo
  echoLife : nOk p.echoLife
  len : p.items.length ≤ 9223372036854775807
  items : ∀ x ∈ p.items, itOk x

theorem nF_eq {x : Int} (h : nOk x) : nF x = ⟨1, x, ⟨#[]⟩, false⟩ := by
  unfold nOk at h; unfold nF; rw [Int.emod_eq_of_lt h.1 (by omega)]
theorem nF_fit (x : Int) : fitF (nF x) = true := by
  have : 0 ≤ x % 18446744073709551616 := by omega
  simp [fitF, fitB, nF, this]
theorem sF_fit (x : Int) : fitF (sF x) = true := by simp [fitF, fitB, sF]
theorem tF_fit (s : ByteArray) : fitF (tF s) = true := by simp [fitF, fitB, tF]
theorem bF_fit (b : Bool) : fitF (bF b) = true := by simp [fitF, fitB, bF]
theorem nF_ok {x : Int} (h : nOk x) : okF (nF x) := by rw [nF_eq h]; unfold nOk at h; exact okF_mk (by omega) (by omega) (by omega) (by omega) size0
theorem sF_ok {x : Int} (h : iOk x) : okF (sF x) := by unfold iOk at h; exact okF_mk (by omega) (by omega) (by omega) (by omega) size0
theorem tF_ok {s : ByteArray} (h : s.size ≤ 1048576) : okF (tF s) := okF_mk (by omega) (by omega) (by omega) (by omega) h
theorem bF_ok (b : Bool) : okF (bF b) := okF_mk (by omega) (by omega) (by omega) (by omega) size0

theorem itF_fit (x : Itm) : ∀ f ∈ itF x, fitF f = true := by
  simp [itF, nF_fit, sF_fit, tF_fit, bF_fit]
theorem hdF_fit (p : Pkt) : ∀ f ∈ hdF p, fitF f = true := by
  simp [hdF, nF_fit]
theorem itF_ok {x : Itm} (h : itOk x) : ∀ f ∈ itF x, okF f := by
  simp [itF, nF_ok h.epoch, nF_ok h.maker, nF_ok h.kind, nF_ok h.scale, nF_ok h.ver, nF_ok h.writer, sF_ok h.flow, sF_ok h.rest, tF_ok h.name, bF_ok, sF_ok h.mn.value, nF_ok h.mn.origin, nF_ok h.mn.age, sF_ok h.mx.value, nF_ok h.mx.origin, nF_ok h.mx.age]
theorem hdF_ok {p : Pkt} (h : pkOk p) : ∀ f ∈ hdF p, okF f := by
  simp [hdF, nF_ok h.kind, nF_ok h.src, nF_ok h.dst, nF_ok h.boot, nF_ok h.life, nF_ok h.echo, nF_ok h.echoLife, nF_ok (x := p.items.length) ⟨by omega, by have := h.len; omega⟩]
theorem nF_num {x : Int} (h : nOk x) : (nF x).num = x := by rw [nF_eq h]
theorem itOf_itF {x : Itm} (h : itOk x) : itOf (itF x) = x := by
  obtain ⟨a, b, c, d, e, f, g, i, j, k, l, ⟨m1, m2, m3, m4⟩, ⟨n1, n2, n3, n4⟩⟩ := x
  show Itm.mk a (nF b).num (nF c).num d (nF e).num (nF f).num (nF g).num (nF i).num j k l ⟨m1, m2, (nF m3).num, (nF m4).num⟩ ⟨n1, n2, (nF n3).num, (nF n4).num⟩ = _
  rw [nF_num h.epoch, nF_num h.maker, nF_num h.kind, nF_num h.scale, nF_num h.ver, nF_num h.writer, nF_num h.mn.origin, nF_num h.mn.age, nF_num h.mx.origin, nF_num h.mx.age]
theorem hdOf_hdF {p : Pkt} (h : pkOk p) : hdOf (hdF p) p.items = p := by
  obtain ⟨a, b, c, d, e, f, g, l⟩ := p
  show Pkt.mk (nF a).num (nF b).num (nF c).num (nF d).num (nF e).num (nF f).num (nF g).num l = _
  rw [nF_num h.kind, nF_num h.src, nF_num h.dst, nF_num h.boot, nF_num h.life, nF_num h.echo, nF_num h.echoLife]

/-! ### Reading -/
def rdIts : Nat → List Int → List Itm → Nat → Except Int (List Itm × Nat)
  | 0, _, acc, i => .ok (acc, i)
  | k + 1, zs, acc, i => match rdF itK zs [] i with
    | .ok (fs, n) => rdIts k zs (acc ++ [itOf fs]) n
    | .error c => .error c
/-- What a body's bytes say: a packet, fit or not, and how many bytes it has. -/
def openR (zs : List Int) : Except Int (Pkt × Nat) :=
  match rd hdK zs with
  | .error c => .error c
  | .ok (fs, n) => match rdIts (fs.getD 7 fzz).num.toNat zs [] n with
    | .error c => .error c
    | .ok (l, m) => .ok (hdOf fs l, m)
def openP (zs : List Int) : Except Int Pkt :=
  match openR zs with
  | .error _ => .error 20
  | .ok (p, n) => if n ≠ zs.length then .error 20 else if fitP p then .ok p else .error 54

theorem rdIts_back (l : List Itm) (pre r : List Int) (acc : List Itm) (h : ∀ x ∈ l, itOk x) :
    rdIts l.length (pre ++ (flds (itsF l) ++ r)) acc pre.length = .ok (acc ++ l, pre.length + (flds (itsF l)).length) := by
  induction l generalizing pre acc with
  | nil => simp [rdIts, itsF, flds]
  | cons x l ih =>
    have hx := h x (by simp)
    have e : pre ++ (flds (itsF (x :: l)) ++ r) = pre ++ (flds (itF x) ++ (flds (itsF l) ++ r)) := by rw [itsF_cons, flds_append, List.append_assoc]
    have e2 : pre ++ (flds (itF x) ++ (flds (itsF l) ++ r)) = (pre ++ flds (itF x)) ++ (flds (itsF l) ++ r) := by rw [List.append_assoc]
    have k := rdF_back (itF x) pre (flds (itsF l) ++ r) [] (itF_fit x) (itF_ok hx)
    rw [itF_kinds, List.nil_append] at k
    have k2 := ih (pre ++ flds (itF x)) (acc ++ [x]) (fun y hy => h y (by simp [hy]))
    rw [List.length_append] at k2
    rw [e, List.length_cons]
    simp only [rdIts, k, itOf_itF hx]
    rw [e2, k2, itsF_cons, flds_append, List.length_append, List.append_assoc]
    simp [Nat.add_assoc]
/-- There and back, whatever stands behind. -/
theorem openR_back (p : Pkt) (r : List Int) (h : pkOk p) : openR (bodyP p ++ r) = .ok (p, (bodyP p).length) := by
  unfold openR bodyP
  have k := rd_back (hdF p) (flds (itsF p.items) ++ r) (hdF_fit p) (hdF_ok h)
  rw [hdF_kinds] at k
  rw [List.append_assoc, k]
  have e : ((hdF p).getD 7 fzz).num.toNat = p.items.length := by
    show (nF p.items.length).num.toNat = _
    rw [nF_num ⟨by omega, by have := h.len; omega⟩, Int.toNat_natCast]
  have k2 := rdIts_back p.items (flds (hdF p)) r [] h.items
  simp only [e, k2, List.nil_append, hdOf_hdF h, List.length_append]

theorem fld_kind {k : Int} {bs : List Int} {f : Fld} {n : Nat} (h : fld k bs = .ok (f, n)) : f.kind = k := by
  unfold fld at h
  split at h
  · rename_i hk; subst hk; cases e : natR (num bs) with
    | error c => rw [e] at h; cases h
    | ok q => rw [e] at h; cases h; rfl
  · split at h
    · rename_i hk; subst hk; cases e : num bs with
      | error c => rw [e] at h; cases h
      | ok q => rw [e] at h; cases h; rfl
    · split at h
      · rename_i hk; subst hk; cases e : txtR bs with
        | error c => rw [e] at h; cases h
        | ok q => rw [e] at h; cases h; rfl
      · split at h
        · rename_i hk; subst hk; cases e : flgR bs with
          | error c => rw [e] at h; cases h
          | ok q => rw [e] at h; cases h; rfl
        · cases h
theorem rdF_kinds {ks zs : List Int} {acc fs : List Fld} {i n : Nat} (h : rdF ks zs acc i = .ok (fs, n)) : fs.map Fld.kind = acc.map Fld.kind ++ ks := by
  induction ks generalizing acc i with
  | nil => simp [rdF] at h; rw [h.1]; simp
  | cons k ks ih =>
    simp only [rdF] at h
    split at h
    · rename_i f m hf
      rw [ih h]
      simp [fld_kind hf]
    · cases h

theorem nF_of {f : Fld} (h : fitF f = true) (ho : okF f) (hk : f.kind = 1) : nF f.num = f ∧ nOk f.num := by
  rcases fit_shape h with ⟨n, h0, rfl⟩ | ⟨n, rfl⟩ | ⟨s, rfl⟩ | ⟨b, rfl⟩
  · have h1 := ho.2.1.2
    exact ⟨nF_eq ⟨h0, h1⟩, h0, h1⟩
  · simp at hk
  · simp at hk
  · simp at hk
theorem sF_of {f : Fld} (h : fitF f = true) (ho : okF f) (hk : f.kind = 2) : sF f.num = f ∧ iOk f.num := by
  rcases fit_shape h with ⟨n, h0, rfl⟩ | ⟨n, rfl⟩ | ⟨s, rfl⟩ | ⟨b, rfl⟩
  · simp at hk
  · exact ⟨rfl, ho.2.1⟩
  · simp at hk
  · simp at hk
theorem tF_of {f : Fld} (h : fitF f = true) (ho : okF f) (hk : f.kind = 3) : tF f.text = f ∧ f.text.size ≤ 1048576 := by
  rcases fit_shape h with ⟨n, h0, rfl⟩ | ⟨n, rfl⟩ | ⟨s, rfl⟩ | ⟨b, rfl⟩
  · simp at hk
  · simp at hk
  · exact ⟨rfl, ho.2.2⟩
  · simp at hk
theorem bF_of {f : Fld} (h : fitF f = true) (hk : f.kind = 4) : bF f.is = f := by
  rcases fit_shape h with ⟨n, h0, rfl⟩ | ⟨n, rfl⟩ | ⟨s, rfl⟩ | ⟨b, rfl⟩
  · simp at hk
  · simp at hk
  · simp at hk
  · rfl

theorem itF_itOf {fs : List Fld} (hk : fs.map Fld.kind = itK) (hf : ∀ f ∈ fs, fitF f = true) (ho : ∀ f ∈ fs, okF f) : itF (itOf fs) = fs ∧ itOk (itOf fs) := by
  have hl : fs.length = 19 := by have := congrArg List.length hk; simpa [itK] using this
  obtain ⟨f0, f1, f2, f3, f4, f5, f6, f7, f8, f9, f10, f11, f12, f13, f14, f15, f16, f17, f18, rfl⟩ : ∃ f0 f1 f2 f3 f4 f5 f6 f7 f8 f9 f10 f11 f12 f13 f14 f15 f16 f17 f18, fs = [f0, f1, f2, f3, f4, f5, f6, f7, f8, f9, f10, f11, f12, f13, f14, f15, f16, f17, f18] := by
    rcases fs with _ | ⟨f0, _ | ⟨f1, _ | ⟨f2, _ | ⟨f3, _ | ⟨f4, _ | ⟨f5, _ | ⟨f6, _ | ⟨f7, _ | ⟨f8, _ | ⟨f9, _ | ⟨f10, _ | ⟨f11, _ | ⟨f12, _ | ⟨f13, _ | ⟨f14, _ | ⟨f15, _ | ⟨f16, _ | ⟨f17, _ | ⟨f18, _ | ⟨f19, r⟩⟩⟩⟩⟩⟩⟩⟩⟩⟩⟩⟩⟩⟩⟩⟩⟩⟩⟩⟩ <;> simp at hl
    exact ⟨_, _, _, _, _, _, _, _, _, _, _, _, _, _, _, _, _, _, _, rfl⟩
  simp only [List.map_cons, List.map_nil, itK, List.cons.injEq, and_true] at hk
  obtain ⟨k0, k1, k2, k3, k4, k5, k6, k7, k8, k9, k10, k11, k12, k13, k14, k15, k16, k17, k18⟩ := hk
  simp only [List.mem_cons, List.not_mem_nil, or_false, forall_eq_or_imp, forall_eq] at hf ho
  obtain ⟨a0, a1, a2, a3, a4, a5, a6, a7, a8, a9, a10, a11, a12, a13, a14, a15, a16, a17, a18⟩ := hf
  obtain ⟨o0, o1, o2, o3, o4, o5, o6, o7, o8, o9, o10, o11, o12, o13, o14, o15, o16, o17, o18⟩ := ho
  constructor
  · show [tF f0.text, nF f1.num, nF f2.num, bF f3.is, nF f4.num, nF f5.num, nF f6.num, nF f7.num, sF f8.num, bF f9.is, sF f10.num, bF f11.is, sF f12.num, nF f13.num, nF f14.num, bF f15.is, sF f16.num, nF f17.num, nF f18.num] = _
    rw [(tF_of a0 o0 k0).1, (nF_of a1 o1 k1).1, (nF_of a2 o2 k2).1, bF_of a3 k3, (nF_of a4 o4 k4).1, (nF_of a5 o5 k5).1, (nF_of a6 o6 k6).1, (nF_of a7 o7 k7).1, (sF_of a8 o8 k8).1, bF_of a9 k9, (sF_of a10 o10 k10).1, bF_of a11 k11, (sF_of a12 o12 k12).1, (nF_of a13 o13 k13).1, (nF_of a14 o14 k14).1, bF_of a15 k15, (sF_of a16 o16 k16).1, (nF_of a17 o17 k17).1, (nF_of a18 o18 k18).1]
  · exact ⟨(tF_of a0 o0 k0).2, (nF_of a1 o1 k1).2, (nF_of a2 o2 k2).2, (nF_of a4 o4 k4).2, (nF_of a5 o5 k5).2, (nF_of a6 o6 k6).2, (nF_of a7 o7 k7).2, (sF_of a8 o8 k8).2, (sF_of a10 o10 k10).2, ⟨(sF_of a12 o12 k12).2, (nF_of a13 o13 k13).2, (nF_of a14 o14 k14).2⟩, ⟨(sF_of a16 o16 k16).2, (nF_of a17 o17 k17).2, (nF_of a18 o18 k18).2⟩⟩

theorem rdIts_form {k : Nat} {zs : List Int} {acc l : List Itm} {i n : Nat} (hb : ∀ c ∈ zs, 0 ≤ c ∧ c < 256) (hl : zs.length ≤ 1048576) (hi : i ≤ zs.length) (h : rdIts k zs acc i = .ok (l, n)) :
    ∃ m, l = acc ++ m ∧ m.length = k ∧ (∀ x ∈ m, itOk x) ∧ i ≤ n ∧ n ≤ zs.length ∧ flds (itsF m) = (zs.drop i).take (n - i) := by
  induction k generalizing acc i with
  | zero =>
    simp [rdIts] at h
    obtain ⟨rfl, rfl⟩ := h
    exact ⟨[], by simp, rfl, by simp, Nat.le_refl _, hi, by simp [itsF, flds]⟩
  | succ k ih =>
    simp only [rdIts] at h
    split at h
    · rename_i fs m hr
      obtain ⟨gs, g1, g2, g3, g4, g5, g6⟩ := rdF_form hb hl hi hr
      have gk := rdF_kinds hr
      simp at g1 gk
      subst g1
      obtain ⟨q1, q2⟩ := itF_itOf gk g2 g3
      obtain ⟨m', m1, m2, m3, m4, m5, m6⟩ := ih g5 h
      refine ⟨itOf fs :: m', by simp [m1], by simp [m2], ?_, by omega, m5, ?_⟩
      · intro x hx; rcases List.mem_cons.1 hx with rfl | hx; exact q2; exact m3 x hx
      · rw [itsF_cons, flds_append, q1, g6, m6, show n - i = (m - i) + (n - m) by omega, List.take_add, List.drop_drop, show i + (m - i) = m by omega]
    · cases h
/-- What is read is written the same way. -/
theorem openR_form {zs : List Int} {p : Pkt} {n : Nat} (hb : ∀ c ∈ zs, 0 ≤ c ∧ c < 256) (hl : zs.length ≤ 1048576) (h : openR zs = .ok (p, n)) : pkOk p ∧ bodyP p = zs.take n ∧ n ≤ zs.length := by
  unfold openR at h
  split at h
  · cases h
  · rename_i fs k hr
    split at h
    · cases h
    · rename_i l m hi
      simp only [Except.ok.injEq, Prod.mk.injEq] at h
      obtain ⟨rfl, rfl⟩ := h
      obtain ⟨g2, g3, g5, g6⟩ := rd_form hb hl hr
      have gk := rdF_kinds (show rdF hdK zs [] 0 = _ from hr)
      rw [List.map_nil, List.nil_append] at gk
      obtain ⟨m', m1, m2, m3, m4, m5, m6⟩ := rdIts_form hb hl g5 hi
      rw [List.nil_append] at m1
      subst m1
      have hl8 : fs.length = 8 := by have := congrArg List.length gk; simpa [hdK] using this
      obtain ⟨f0, f1, f2, f3, f4, f5, f6, f7, rfl⟩ : ∃ f0 f1 f2 f3 f4 f5 f6 f7, fs = [f0, f1, f2, f3, f4, f5, f6, f7] := by
        rcases fs with _ | ⟨f0, _ | ⟨f1, _ | ⟨f2, _ | ⟨f3, _ | ⟨f4, _ | ⟨f5, _ | ⟨f6, _ | ⟨f7, _ | ⟨f8, r⟩⟩⟩⟩⟩⟩⟩⟩⟩ <;> simp at hl8
        exact ⟨_, _, _, _, _, _, _, _, rfl⟩
      simp only [List.map_cons, List.map_nil, hdK, List.cons.injEq, and_true] at gk
      obtain ⟨k0, k1, k2, k3, k4, k5, k6, k7⟩ := gk
      simp only [List.mem_cons, List.not_mem_nil, or_false, forall_eq_or_imp, forall_eq] at g2 g3
      obtain ⟨a0, a1, a2, a3, a4, a5, a6, a7⟩ := g2
      obtain ⟨o0, o1, o2, o3, o4, o5, o6, o7⟩ := g3
      have n7 := (nF_of a7 o7 k7).2
      have e7 : (l.length : Int) = f7.num := by
        have : l.length = f7.num.toNat := m2
        have := n7.1
        omega
      refine ⟨⟨(nF_of a0 o0 k0).2, (nF_of a1 o1 k1).2, (nF_of a2 o2 k2).2, (nF_of a3 o3 k3).2, (nF_of a4 o4 k4).2, (nF_of a5 o5 k5).2, (nF_of a6 o6 k6).2, ?_, m3⟩, ?_, m5⟩
      · show l.length ≤ _
        have := n7.2
        omega
      · have eh : hdF (hdOf [f0, f1, f2, f3, f4, f5, f6, f7] l) = [f0, f1, f2, f3, f4, f5, f6, f7] := by
          show [nF f0.num, nF f1.num, nF f2.num, nF f3.num, nF f4.num, nF f5.num, nF f6.num, nF l.length] = _
          rw [(nF_of a0 o0 k0).1, (nF_of a1 o1 k1).1, (nF_of a2 o2 k2).1, (nF_of a3 o3 k3).1, (nF_of a4 o4 k4).1, (nF_of a5 o5 k5).1, (nF_of a6 o6 k6).1, e7, (nF_of a7 o7 k7).1]
        unfold bodyP
        rw [eh, g6]
        show _ ++ flds (itsF l) = _
        rw [m6, show m = k + (m - k) by omega, List.take_add, show k + (m - k) - k = m - k by omega]

end Go.Proofs.YticmjlnpjopfbaaDoor
