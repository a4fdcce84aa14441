/-
  Package plan: Script.
-/
import Derived.Test.YtpdmpekkmblgmaaP5
import Derived.Test.YtpdmpekkmblgmaaMS
import Derived.Test.YtpdmpekkmblgmaaU1
import Derived.Test.YtpdmpekkmblgmaaD1
namespace Go.Proofs.Ytpdmpekkmblgmaa
open Go.ChangeShapes Go.WideShapes Go.ChangeAt Go.RowKit Go.Maps Go.Shelf
set_option linter.unusedVariables false
set_option linter.unusedSimpArgs false
attribute [local go_sem] Oper.semAt_some

abbrev sp0 : ByteArray := ⟨#[]⟩
/-- The steps that link a pair both ways. -/
def lks (p : LK) : List SP := [⟨1, p.1, p.2, sp0, 0, 0⟩, ⟨1, p.2, p.1, sp0, 0, 0⟩]
def rnd1 : SP := ⟨13, 0, 0, sp0, 0, 0⟩
def mkS (nm : ByteArray) (kd sc : Int) : List SP := [⟨3, 0, 0, nm, kd, sc⟩, ⟨12, 0, 0, sp0, 0, 0⟩]
def setS (nm : ByteArray) (zs : List Int) (i : Nat) : SP := ⟨5, (i : Int), 0, nm, 0, zs.getD i 0⟩
def aheadL (l : List LK) : List SP := l.flatMap lks ++ List.replicate 6 rnd1
def scriptL (m : Nat) (l : List LK) (nm : ByteArray) (kd sc : Int) (zs : List Int) : List SP := aheadL l ++ mkS nm kd sc ++ (List.range m).map (setS nm zs)
theorem lks_len (l : List LK) : (l.flatMap lks).length = 2 * l.length := by
  induction l with
  | nil => rfl
  | cons p l ih => rw [List.flatMap_cons, List.length_append, ih, List.length_cons]; show 2 + _ = _; omega
theorem lks_take {l : List LK} {i : Nat} {p : LK} (h : l[i]? = some p) : (l.take (i + 1)).flatMap lks = (l.take i).flatMap lks ++ lks p := by
  rw [List.take_add_one, h, List.flatMap_append]
  simp
theorem csS_app (a b : List SP) : csS (a ++ b) = csS a ++ csS b := by simp [csS]
theorem run_apps {W : World} (ty : TypeId) {base : Nat} {v : Value} {k : Nat} {xs : List Value} (hown : W.ownsRow base 74 6 v k xs) {ad : Addr} (m : Nat) {ds : List SP} (hm : ds.length = m)
    (hc : ∀ j u, (csS ds)[j]? = some u → W.cell? (ad.add j) = some u) (b2 : k + m ≤ 100000) (b3 : base ≤ W.heap.size) :
    ∃ v' w', (Builtin.append_ #[43, 43] ty #[v, .slice (some ad) m m]).run Try.prog W = .ok v' w' ∧ w'.ownsRow base 74 6 v' (k + m) (xs ++ csS ds) ∧ W.grownBy w' v.ownBlock := by
  obtain ⟨i0, hi, hz0, hz1, hz2⟩ := info_parts info74
  have h63 : k + m ≤ maxLen := by unfold maxLen; omega
  obtain ⟨v', w', hrun, r1, r2, r3⟩ := run_append_own (P := Try.prog) W base 43 ty 74 i0 _ 6 56 Try.underlying43 hi hz0 hz1 hz2 rfl (by decide) v k xs hown ad m m (csS ds) (by rw [csS_len, hm]; omega) hc (csS_one ds) h63 (by omega) b3
  exact ⟨v', w', hrun, r1, r2⟩
theorem wp_apps {w : World} {o : Oper} {a : Act} {K : Act → World → Prop} {Q : Exit → Act → World → Prop}
    (s x : Operand) (hop : o.op = Op.call { callee := Callee.builtin Builtin.append, args := #[s, x], argTypes := #[43, 43] })
    (base : Nat) (v : Value) (k : Nat) (xs : List Value) (hs : a.eval s = v) (hown : w.ownsRow base 74 6 v k xs) (ad : Addr) (m : Nat) (ds : List SP) (hm : ds.length = m) (hx : a.eval x = .slice (some ad) m m)
    (hc : ∀ j u, (csS ds)[j]? = some u → w.cell? (ad.add j) = some u) (b2 : k + m ≤ 100000) (b3 : base ≤ w.heap.size)
    (hK : ∀ v' w', w'.ownsRow base 74 6 v' (k + m) (xs ++ csS ds) → w.grownBy w' v.ownBlock → K (a.put o.dst v') w') : Oper.wp Try.prog o a w K Q := by
  obtain ⟨v', w', hrun, r1, r2⟩ := run_apps o.type hown m hm hc b2 b3
  unfold Oper.wp
  simp [execOp, hop, resolve, invoke, builtin, hs, hx, hrun, Result.andThen]
  exact hK v' w' r1 r2
theorem wpList_apps {w : World} {ops : Array Oper} {rest : List Oper} {o : Oper} {a : Act} {Q : Exit → Act → World → Prop}
    (hg : o.guard = none) (s x : Operand) (hop : o.op = Op.call { callee := Callee.builtin Builtin.append, args := #[s, x], argTypes := #[43, 43] })
    (base : Nat) (v : Value) (k : Nat) (xs : List Value) (hs : a.eval s = v) (hown : w.ownsRow base 74 6 v k xs) (ad : Addr) (m : Nat) (ds : List SP) (hm : ds.length = m) (hx : a.eval x = .slice (some ad) m m)
    (hc : ∀ j u, (csS ds)[j]? = some u → w.cell? (ad.add j) = some u) (b2 : k + m ≤ 100000) (b3 : base ≤ w.heap.size)
    (hK : ∀ v' w', w'.ownsRow base 74 6 v' (k + m) (xs ++ csS ds) → w.grownBy w' v.ownBlock → wpList Try.prog ops Q rest (a.put o.dst v') w') : wpList Try.prog ops Q (o :: rest) a w :=
  wpList_plain hg fun K hK' => wp_apps s x hop base v k xs hs hown ad m ds hm hx hc b2 b3 fun v' w' h1 h2 => hK' _ _ (hK v' w' h1 h2)
/-- What the growing list keeps. -/
structure OwS (w : World) (v : Value) (xs : List SP) (W : World) : Prop where
  own : W.ownsRow w.heap.size 74 6 v xs.length (csS xs)
  below : Below w.heap.size w W
theorem OwS.nil (w : World) : OwS w (.slice none 0 0) [] w := ⟨World.ownsRow_nil _ _ 74 6, Below.refl _ _⟩
theorem OwS.later {w : World} {v : Value} {xs : List SP} {W W' : World} (h : OwS w v xs W) (b : Below W.heap.size W W') : OwS w v xs W' := ⟨owns_of_block h.own (fun g hg => b.block g (h.own.lt g hg).2), h.below.trans (b.mono h.below.size)⟩
theorem OwS.more {w : World} {v v' : Value} {xs : List SP} {W w' : World} (h : OwS w v xs W) (ds : List SP) (h1 : w'.ownsRow w.heap.size 74 6 v' (xs.length + ds.length) (csS xs ++ csS ds)) (h2 : W.grownBy w' v.ownBlock) : OwS w v' (xs ++ ds) w' :=
  ⟨by rw [List.length_append, csS_app]; exact h1, h.below.grown h2 h.below.size (fun j e => (h.own.lt j e).1)⟩
theorem OwS.fin {w : World} {v : Value} {xs : List SP} {W : World} (h : OwS w v xs W) (hl : xs.length ≤ 100000) : ∃ a c, v = .slice a xs.length c ∧ RdS W a xs.length c xs := by
  obtain ⟨a, c, e, L, _⟩ := own_lstS h.own rfl
  exact ⟨a, c, e, L.rd (by omega)⟩
theorem row_alloc {W : World} (cs : List Value) (t : TypeId) (j : Nat) (u : Value) (h : cs[j]? = some u) (k : Nat) (hk : k = W.heap.size) : (W.alloc (.cells cs.toArray t)).cell? ((⟨k, 0, none⟩ : Addr).add j) = some u := by
  subst hk
  rw [add_plain, Nat.zero_add]
  exact row_cell (World.alloc_heap_new W _) j u (by simpa using h)
set_option maxRecDepth 100000 in
set_option maxHeartbeats 1000000 in
theorem script_any (n : Nat) (a : Option Addr) (k cap : Nat) (l : List LK) (nm : ByteArray) (kd sc : Int) (a' : Option Addr) (k' cap' : Nat) (zs : List Int) (w : World) (hr : RdL w a k cap l) (hz : Row w a' k' cap' zs) (hl : l.length ≤ 256) (hn : n ≤ 16) :
    Calls Try.prog 26 #[.int .i64 (n : Int), .slice a k cap, .string nm, .int .i64 kd, .int .i64 sc, .slice a' k' cap'] w fun e w' => ∃ c d m, e = .returned (.slice c m d) ∧ RdS w' c m d (scriptL (min n k') l nm kd sc zs) ∧ Below w.heap.size w w' := by
  have HN : Hid (n ≤ 16 ∧ l.length ≤ 256 ∧ l.length = k ∧ zs.length = k') := ⟨hn, hl, hr.size, hz.size⟩
  have HZ : Hid (k' ≤ 9223372036854775807) := hz.small
  clear hl hn
  go_enter Try.func26, Try.ntmps26
  go_wp2
  go_loopg [13, 19] k (fun gk v13 v19 wr => ∃ i : Nat, v19 = .int .i64 (i : Int) ∧ i + gk = k ∧ OwS w v13 ((l.take i).flatMap lks) wr)
  case atStart => exact ⟨0, by first | rfl | go_num, by omega, OwS.nil w⟩
  case round =>
    obtain ⟨i, rfl, hg, O⟩ := hrel
    by_cases hi : i < k
    case pos =>
      have hiI : (i : Int) < (k : Int) := by omega
      obtain ⟨b, off, rfl, hb, hd, hra⟩ := (hr.below O.below).at i hi
      obtain ⟨⟨p, q⟩, hgi⟩ : ∃ x : LK, l.getD i LK.z = x := ⟨_, rfl⟩
      rw [hgi] at hra hd
      have HT : Hid ((l.take (i + 1)).flatMap lks = (l.take i).flatMap lks ++ lks (p, q)) := lks_take hd
      have hlen : ((l.take i).flatMap lks).length ≤ 1000 := by rw [lks_len, List.length_take]; have := HN.out; omega
      obtain ⟨xs, hxs⟩ : ∃ xs, (l.take i).flatMap lks = xs := ⟨_, rfl⟩
      rw [hxs] at HT O hlen
      have HX : Hid (xs.length ≤ 1000) := hlen
      have hin : IntKind.i64.wrap ((i : Int) + 1) = (i : Int) + 1 := by rw [IntKind.wrap_i64]; have := HN.out; omega
      have OA := (O.later ((Below.refl _ wr).alloc (Nat.le_refl _) (.cells #[.int .i64 p, .int .i64 q] 49)))
      have OB := OA.later ((Below.refl _ _).alloc (Nat.le_refl _) (.cells (csS (lks (p, q))).toArray 74))
      clear hd hgi hlen hxs
      go_wp2_with (first
        | ((with_reducible show wpList _ _ _ (Oper.mk _ (Op.load 49 (Operand.tmp 21)) _ _ _ _ :: _) _ _); refine wpList_load49 rfl _ rfl b _ (p, q) rfl hra ?_; dsimp only [LK.val])
        | ((with_reducible show wpList _ _ _ (Oper.mk _ (Op.call { callee := Callee.builtin Builtin.append, args := _, argTypes := _ }) _ _ _ _ :: _) _ _); refine wpList_apps rfl _ _ rfl w.heap.size _ _ _ rfl OB.own ⟨_, 0, none⟩ 2 (lks (p, q)) rfl rfl (fun j u hu => row_alloc (csS (lks (p, q))) 74 j u hu _ (by simp)) (by have := HX.out; omega) (Nat.le_trans OB.below.size (Nat.le_refl _)) ?_; intro v' w' r1 r2; have O9 := OB.more (lks (p, q)) r1 r2))
      go_roundg (gk - 1)
      case measure => omega
      case rel => exact ⟨i + 1, by first | rfl | go_num, by omega, by rw [HT.out]; exact O9⟩
    case neg =>
      have hiI : ¬ (i : Int) < (k : Int) := by omega
      have HT : Hid (l.take i = l) := by show _ = _; rw [List.take_of_length_le (by have := HN.out; omega)]
      rw [HT.out] at O
      have HX : Hid ((l.flatMap lks).length ≤ 512) := by show _ ≤ _; rw [lks_len]; have := HN.out; omega
      obtain ⟨xs, hxs⟩ : ∃ xs, l.flatMap lks = xs := ⟨_, rfl⟩
      have HXE : Hid (l.flatMap lks = xs) := hxs
      rw [hxs] at O HX
      clear hxs HT hr
      go_wp2
      go_loopg [13, 37] 6 (fun gk v13 v37 wr => ∃ j : Nat, v37 = .int .i64 (j : Int) ∧ j + gk = 6 ∧ OwS w v13 (xs ++ List.replicate j rnd1) wr)
      case atStart => exact ⟨0, by first | rfl | go_num, by omega, by rw [List.replicate_zero, List.append_nil]; exact O⟩
      case round =>
        clear O
        obtain ⟨j, rfl, hgj, O⟩ := hrel
        by_cases hj : j < 6
        case pos =>
          have hjI : (j : Int) < 6 := by omega
          have HT : Hid (xs ++ List.replicate (j + 1) rnd1 = (xs ++ List.replicate j rnd1) ++ [rnd1]) := by show _ = _; rw [List.replicate_succ', List.append_assoc]
          have HY : Hid ((xs ++ List.replicate j rnd1).length ≤ 600) := by show _ ≤ _; rw [List.length_append, List.length_replicate]; have := HX.out; omega
          obtain ⟨ys, hys⟩ : ∃ ys, xs ++ List.replicate j rnd1 = ys := ⟨_, rfl⟩
          rw [hys] at O HT HY
          have hin : IntKind.i64.wrap ((j : Int) + 1) = (j : Int) + 1 := by rw [IntKind.wrap_i64]; omega
          have OB := O.later ((Below.refl _ _).alloc (Nat.le_refl _) (.cells (csS [rnd1]).toArray 74))
          clear hys
          go_wp2_with ((with_reducible show wpList _ _ _ (Oper.mk _ (Op.call { callee := Callee.builtin Builtin.append, args := _, argTypes := _ }) _ _ _ _ :: _) _ _); refine wpList_apps rfl _ _ rfl w.heap.size _ _ _ rfl OB.own ⟨_, 0, none⟩ 1 ([rnd1]) rfl rfl (fun j u hu => row_alloc (csS ([rnd1])) 74 j u hu _ (by simp)) (by have := HY.out; omega) (Nat.le_trans OB.below.size (Nat.le_refl _)) ?_; intro v' w' r1 r2; have O9 := OB.more ([rnd1]) r1 r2)
          go_roundg (gk - 1)
          case measure => omega
          case rel => exact ⟨j + 1, by first | rfl | go_num, by omega, by rw [HT.out]; exact O9⟩
        case neg =>
          have hjI : ¬ (j : Int) < 6 := by omega
          have hj6 : j = 6 := by omega
          rw [hj6] at O
          have HAE : Hid (aheadL l = xs ++ List.replicate 6 rnd1) := by show _ = _; unfold aheadL; rw [HXE.out]
          have HY : Hid ((xs ++ List.replicate 6 rnd1).length ≤ 600) := by show _ ≤ _; rw [List.length_append, List.length_replicate]; have := HX.out; omega
          obtain ⟨ys, hys⟩ : ∃ ys, xs ++ List.replicate 6 rnd1 = ys := ⟨_, rfl⟩
          rw [hys] at O HAE HY
          have OB := O.later ((Below.refl _ _).alloc (Nat.le_refl _) (.cells (csS (mkS nm kd sc)).toArray 74))
          clear hys hj6 O
          by_cases hnk : n ≤ k'
          case pos =>
            have HM : Hid (min n k' = n) := by show _ = _; omega
            have hnkI : (n : Int) ≤ (k' : Int) := by omega
            go_wp2_with ((with_reducible show wpList _ _ _ (Oper.mk _ (Op.call { callee := Callee.builtin Builtin.append, args := _, argTypes := _ }) _ _ _ _ :: _) _ _); refine wpList_apps rfl _ _ rfl w.heap.size _ _ _ rfl OB.own ⟨_, 0, none⟩ 2 (mkS nm kd sc) rfl rfl (fun j u hu => row_alloc (csS (mkS nm kd sc)) 74 j u hu _ (by simp)) (by have := HY.out; omega) (Nat.le_trans OB.below.size (Nat.le_refl _)) ?_; intro v' w' r1 r2; have O9 := OB.more (mkS nm kd sc) r1 r2)
            have HY9 : Hid ((ys ++ mkS nm kd sc).length ≤ 700) := by show _ ≤ _; rw [List.length_append]; have := HY.out; show _ + 2 ≤ _; omega
            have HS9 : Hid (aheadL l ++ mkS nm kd sc = ys ++ mkS nm kd sc) := by show _ = _; rw [HAE.out]
            obtain ⟨ts, hts⟩ : ∃ ts, ys ++ mkS nm kd sc = ts := ⟨_, rfl⟩
            rw [hts] at O9 HY9 HS9
            clear hts OB r1 r2
            go_loopg [13, 56] n (fun gk v13 v56 wr => ∃ i : Nat, v56 = .int .i64 (i : Int) ∧ i + gk = n ∧ OwS w v13 (ts ++ (List.range i).map (setS nm zs)) wr)
            case atStart => exact ⟨0, by first | rfl | go_num, by omega, by rw [List.range_zero, List.map_nil, List.append_nil]; exact O9⟩
            case round =>
              clear O9
              obtain ⟨i, rfl, hg3, O⟩ := hrel
              by_cases hi3 : i < n
              case pos =>
                have hi3I : (i : Int) < (n : Int) := by omega
                obtain ⟨b, off, rfl, hb, hc⟩ := (hz.below O.below).mem.resolve_left (by omega)
                have hc3 := hc i (by omega)
                have hi3k : (i : Int) < (k' : Int) := by omega
                have HT : Hid (ts ++ (List.range (i + 1)).map (setS nm zs) = (ts ++ (List.range i).map (setS nm zs)) ++ [setS nm zs i]) := by show _ = _; rw [List.range_succ, List.map_append, List.append_assoc]; rfl
                have HQ : Hid ((ts ++ (List.range i).map (setS nm zs)).length ≤ 1000) := by show _ ≤ _; rw [List.length_append, List.length_map, List.length_range]; have := HY9.out; have := HN.out; omega
                obtain ⟨qs, hqs⟩ : ∃ qs, ts ++ (List.range i).map (setS nm zs) = qs := ⟨_, rfl⟩
                rw [hqs] at O HT HQ
                obtain ⟨z, hz0⟩ : ∃ z, zs.getD i 0 = z := ⟨_, rfl⟩
                have HZ0 : Hid (setS nm zs i = ⟨5, (i : Int), 0, nm, 0, z⟩) := by show _ = _; unfold setS; rw [hz0]
                rw [hz0] at hc3
                rw [HZ0.out] at HT
                have hin : IntKind.i64.wrap ((i : Int) + 1) = (i : Int) + 1 := by rw [IntKind.wrap_i64]; have := HN.out; omega
                have OB := O.later ((Below.refl _ _).alloc (Nat.le_refl _) (.cells (csS [⟨5, (i : Int), 0, nm, 0, z⟩]).toArray 74))
                clear hqs hz0 hc
                go_wp2_with ((with_reducible show wpList _ _ _ (Oper.mk _ (Op.call { callee := Callee.builtin Builtin.append, args := _, argTypes := _ }) _ _ _ _ :: _) _ _); refine wpList_apps rfl _ _ rfl w.heap.size _ _ _ rfl OB.own ⟨_, 0, none⟩ 1 ([⟨5, (i : Int), 0, nm, 0, z⟩]) rfl rfl (fun j u hu => row_alloc (csS ([⟨5, (i : Int), 0, nm, 0, z⟩])) 74 j u hu _ (by simp)) (by have := HQ.out; omega) (Nat.le_trans OB.below.size (Nat.le_refl _)) ?_; intro v' w' r1 r2; have O9 := OB.more ([⟨5, (i : Int), 0, nm, 0, z⟩]) r1 r2)
                go_roundg (gk - 1)
                case measure => omega
                case rel => exact ⟨i + 1, by first | rfl | go_num, by omega, by rw [HT.out]; exact O9⟩
              case neg =>
                have hi3I : ¬ (i : Int) < (n : Int) := by omega
                have hi3e : i = n := by omega
                have HF : Hid (ts ++ (List.range i).map (setS nm zs) = scriptL (min n k') l nm kd sc zs) := by show _ = _; unfold scriptL; rw [HM.out, HS9.out, hi3e]
                rw [HF.out] at O
                have HLn : Hid ((scriptL (min n k') l nm kd sc zs).length ≤ 100000) := by show _ ≤ _; rw [← HF.out, List.length_append, List.length_map, List.length_range]; have := HY9.out; have := HN.out; omega
                obtain ⟨c, d, rfl, R9⟩ := O.fin HLn.out
                have HB := O.below
                obtain ⟨rs, hrs⟩ : ∃ rs, scriptL (min n k') l nm kd sc zs = rs := ⟨_, rfl⟩
                rw [hrs] at R9 ⊢
                go_wp2
                go_ret
                exact ⟨c, d, _, rfl, by first | exact R9 | (have e := hrs; rw [HM.out] at e; rw [e]; exact R9), HB⟩
          case neg =>
            have HM : Hid (min n k' = k') := by show _ = _; omega
            have hnkI : ¬ (n : Int) ≤ (k' : Int) := by omega
            go_wp2_with ((with_reducible show wpList _ _ _ (Oper.mk _ (Op.call { callee := Callee.builtin Builtin.append, args := _, argTypes := _ }) _ _ _ _ :: _) _ _); refine wpList_apps rfl _ _ rfl w.heap.size _ _ _ rfl OB.own ⟨_, 0, none⟩ 2 (mkS nm kd sc) rfl rfl (fun j u hu => row_alloc (csS (mkS nm kd sc)) 74 j u hu _ (by simp)) (by have := HY.out; omega) (Nat.le_trans OB.below.size (Nat.le_refl _)) ?_; intro v' w' r1 r2; have O9 := OB.more (mkS nm kd sc) r1 r2)
            have HY9 : Hid ((ys ++ mkS nm kd sc).length ≤ 700) := by show _ ≤ _; rw [List.length_append]; have := HY.out; show _ + 2 ≤ _; omega
            have HS9 : Hid (aheadL l ++ mkS nm kd sc = ys ++ mkS nm kd sc) := by show _ = _; rw [HAE.out]
            obtain ⟨ts, hts⟩ : ∃ ts, ys ++ mkS nm kd sc = ts := ⟨_, rfl⟩
            rw [hts] at O9 HY9 HS9
            clear hts OB r1 r2
            go_loopg [13, 56] k' (fun gk v13 v56 wr => ∃ i : Nat, v56 = .int .i64 (i : Int) ∧ i + gk = k' ∧ OwS w v13 (ts ++ (List.range i).map (setS nm zs)) wr)
            case atStart => exact ⟨0, by first | rfl | go_num, by omega, by rw [List.range_zero, List.map_nil, List.append_nil]; exact O9⟩
            case round =>
              clear O9
              obtain ⟨i, rfl, hg3, O⟩ := hrel
              by_cases hi3 : i < k'
              case pos =>
                have hi3I : (i : Int) < (k' : Int) := by omega
                obtain ⟨b, off, rfl, hb, hc⟩ := (hz.below O.below).mem.resolve_left (by omega)
                have hc3 := hc i (by omega)
                have hi3k : (i : Int) < (k' : Int) := by omega
                have HT : Hid (ts ++ (List.range (i + 1)).map (setS nm zs) = (ts ++ (List.range i).map (setS nm zs)) ++ [setS nm zs i]) := by show _ = _; rw [List.range_succ, List.map_append, List.append_assoc]; rfl
                have HQ : Hid ((ts ++ (List.range i).map (setS nm zs)).length ≤ 1000) := by show _ ≤ _; rw [List.length_append, List.length_map, List.length_range]; have := HY9.out; have := HN.out; omega
                obtain ⟨qs, hqs⟩ : ∃ qs, ts ++ (List.range i).map (setS nm zs) = qs := ⟨_, rfl⟩
                rw [hqs] at O HT HQ
                obtain ⟨z, hz0⟩ : ∃ z, zs.getD i 0 = z := ⟨_, rfl⟩
                have HZ0 : Hid (setS nm zs i = ⟨5, (i : Int), 0, nm, 0, z⟩) := by show _ = _; unfold setS; rw [hz0]
                rw [hz0] at hc3
                rw [HZ0.out] at HT
                have hin : IntKind.i64.wrap ((i : Int) + 1) = (i : Int) + 1 := by rw [IntKind.wrap_i64]; have := HN.out; omega
                have OB := O.later ((Below.refl _ _).alloc (Nat.le_refl _) (.cells (csS [⟨5, (i : Int), 0, nm, 0, z⟩]).toArray 74))
                clear hqs hz0 hc
                go_wp2_with ((with_reducible show wpList _ _ _ (Oper.mk _ (Op.call { callee := Callee.builtin Builtin.append, args := _, argTypes := _ }) _ _ _ _ :: _) _ _); refine wpList_apps rfl _ _ rfl w.heap.size _ _ _ rfl OB.own ⟨_, 0, none⟩ 1 ([⟨5, (i : Int), 0, nm, 0, z⟩]) rfl rfl (fun j u hu => row_alloc (csS ([⟨5, (i : Int), 0, nm, 0, z⟩])) 74 j u hu _ (by simp)) (by have := HQ.out; omega) (Nat.le_trans OB.below.size (Nat.le_refl _)) ?_; intro v' w' r1 r2; have O9 := OB.more ([⟨5, (i : Int), 0, nm, 0, z⟩]) r1 r2)
                go_roundg (gk - 1)
                case measure => omega
                case rel => exact ⟨i + 1, by first | rfl | go_num, by omega, by rw [HT.out]; exact O9⟩
              case neg =>
                have hi3I : ¬ (i : Int) < (k' : Int) := by omega
                have hi3e : i = k' := by omega
                have HF : Hid (ts ++ (List.range i).map (setS nm zs) = scriptL (min n k') l nm kd sc zs) := by show _ = _; unfold scriptL; rw [HM.out, HS9.out, hi3e]
                rw [HF.out] at O
                have HLn : Hid ((scriptL (min n k') l nm kd sc zs).length ≤ 100000) := by show _ ≤ _; rw [← HF.out, List.length_append, List.length_map, List.length_range]; have := HY9.out; have := HN.out; omega
                obtain ⟨c, d, rfl, R9⟩ := O.fin HLn.out
                have HB := O.below
                obtain ⟨rs, hrs⟩ : ∃ rs, scriptL (min n k') l nm kd sc zs = rs := ⟨_, rfl⟩
                rw [hrs] at R9 ⊢
                go_wp2
                go_ret
                exact ⟨c, d, _, rfl, by first | exact R9 | (have e := hrs; rw [HM.out] at e; rw [e]; exact R9), HB⟩

end Go.Proofs.Ytpdmpekkmblgmaa
