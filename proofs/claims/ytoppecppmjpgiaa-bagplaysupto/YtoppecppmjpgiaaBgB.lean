/-
  Package bag: Between.
-/
import Derived.Test.YtoppecppmjpgiaaBg9
import Derived.Deep.DeepMust
namespace Go.Proofs.Ytoppecppmjpgiaa
open Go.ChangeShapes Go.WideShapes Go.ChangeAt Go.RowKit Go.Maps
set_option linter.unusedVariables false
set_option linter.unusedSimpArgs false

def nv (x : Int) : Value := .int .i64 x
/-- Numbers of one's own. -/
def OwnN (base : Nat) (w : World) (v : Value) (zs : List Int) : Prop := w.ownsRow base 2 1 v zs.length (zs.map nv)
theorem OwnN.nil (base : Nat) (w : World) : OwnN base w (.slice none 0 0) [] := World.ownsRow_nil w base 2 1
theorem OwnN.lt {base : Nat} {w : World} {v : Value} {zs : List Int} (h : OwnN base w v zs) : ∀ k, v.ownBlock = some k → base ≤ k := fun k hk => (World.ownsRow.lt h k hk).1
theorem OwnN.of_block {base : Nat} {w w' : World} {v : Value} {zs : List Int} (h : OwnN base w v zs) (hb : ∀ g, v.ownBlock = some g → w'.heap[g]? = w.heap[g]?) : OwnN base w' v zs := by
  refine ⟨h.1, ?_⟩
  rcases h.2 with hn | ⟨g, cap, cur, rfl, hg, hh, r⟩
  · exact .inl hn
  · exact .inr ⟨g, cap, cur, rfl, hg, (hb g rfl).trans hh, r⟩
theorem OwnN.below {base : Nat} {w w' : World} {v : Value} {zs : List Int} (h : OwnN base w v zs) (hb : Below w.heap.size w w') : OwnN base w' v zs :=
  h.of_block fun g hg => hb.block g (World.ownsRow.lt h g hg).2
theorem info2 : (Try.prog.info? 2).map (fun i => (i.zero, i.size, i.bytes)) = some (some (.int .i64 0), 1, 8) := by kernel_rfl
theorem wpList_append_num {w0 : World} {ops : Array Oper} {rest : List Oper} {o : Oper} {a : Act} {Q : Exit → Act → World → Prop} (hg : o.guard = none)
    (s x : Operand) (hop : o.op = Op.call { callee := Callee.builtin Builtin.append, args := #[s, x], argTypes := #[53, 53] })
    (base : Nat) (v : Value) (zs : List Int) (z : Int) (hs : a.eval s = v) (hown : OwnN base w0 v zs) (s0 : Nat) (hs0 : w0.heap.size = s0) (hx : a.eval x = .slice (some ⟨s0, 0, none⟩) 1 1)
    (hb : base ≤ w0.heap.size) (hl : zs.length + 1 ≤ 65537)
    (hK : ∀ v' w', OwnN base w' v' (zs ++ [z]) → Below base (w0.alloc (.cells #[nv z] 2)) w' → wpList Try.prog ops Q rest (a.put o.dst v') w') : wpList Try.prog ops Q (o :: rest) a (w0.alloc (.cells #[nv z] 2)) := by
  subst hs0
  obtain ⟨i0, hi, hz0, hz1, hz2⟩ := info_parts info2
  have h1' := hown.below ((Below.refl _ _).alloc (Nat.le_refl _) (.cells #[nv z] 2))
  refine wpList_append_own _ hg s x 53 hop base 2 i0 (.int .i64 0) 1 8 Try.underlying53 hi hz0 hz1 hz2 rfl (by decide) v zs.length (zs.map nv) hs h1' ⟨w0.heap.size, 0, none⟩ 1 1 [nv z] hx rfl ?_ (by simp [nv, Value.oneCell']) (by unfold maxLen; omega) (by omega) (by simp; omega) ?_
  · intro j u hj
    rw [add_plain]
    exact range_new w0 [nv z] 2 j u hj
  · intro v' w' ho hgr _
    exact hK v' w' (by simpa [OwnN] using ho) ((Below.refl _ _).grown hgr (by simp; omega) hown.lt)
/-- Whether a packet is asked for. -/
def fits (x y : Int) (d : DG) : Bool := (x == -1 || x == d.src) && (y == -1 || y == d.dst)
def nums (x y : Int) (ds : List DG) : List Int := (ds.filter (fits x y)).map DG.num
theorem nums_yes {x y : Int} {ds : List DG} {i : Nat} {d : DG} (hd : ds[i]? = some d) (h : fits x y d = true) : nums x y (ds.take (i + 1)) = nums x y (ds.take i) ++ [d.num] := by
  unfold nums
  rw [List.take_add_one, hd, List.filter_append, List.map_append]
  simp [h]
theorem nums_no {x y : Int} {ds : List DG} {i : Nat} {d : DG} (hd : ds[i]? = some d) (h : fits x y d = false) : nums x y (ds.take (i + 1)) = nums x y (ds.take i) := by
  unfold nums
  rw [List.take_add_one, hd, List.filter_append, List.map_append]
  simp [h]
theorem nums_len (x y : Int) (ds : List DG) (i n : Nat) (h : ds.length = n) : (nums x y (ds.take i)).length ≤ n := by
  unfold nums
  rw [List.length_map]
  exact Nat.le_trans (List.length_filter_le _ _) (by rw [List.length_take]; omega)
set_option maxRecDepth 100000 in
set_option maxHeartbeats 8000000 in
theorem between_any (b M : Nat) (a : Option Addr) (n cap k : Nat) (next : Int) (ds : List DG) (D : DataW Unit) (x y : Int) (w : World) (B : BagAt w b M a n cap k next ds D) (hn : n ≤ 65536) : Calls Try.prog 20 #[.pointer (some ⟨b, 0, none⟩), .int .i64 x, .int .i64 y] w fun e w' => ∃ v, e = .returned v ∧ OwnN w.heap.size w' v (nums x y ds) ∧ Below w.heap.size w w' := by
  have c1 := row_cell B.obj 1 (.slice a n cap) rfl
  have hsz : Hid (ds.length = n) := ⟨B.lst.size⟩
  have L := B.lst
  go_enter Try.func20, Try.ntmps20
  go_wp2_with (go_at_call 34; refine (given_any b M a n cap k next ds D _ B).mono ?_; rintro e w1 ⟨rfl, hw⟩; rw [hw]; clear hw)
  go_loopg [7, 18] n (fun g v7 v18 wr => ∃ i : Nat, v18 = .int .i64 (i : Int) ∧ i + g = n ∧ Hid (OwnN w.heap.size wr v7 (nums x y (ds.take i))) ∧ Hid (Below w.heap.size w wr))
  case atStart => exact ⟨0, rfl, by omega, ⟨OwnN.nil _ _⟩, ⟨Below.refl _ _⟩⟩
  case round =>
    obtain ⟨i, rfl, hg, HO, HB⟩ := hrel
    by_cases hi : i < n
    · have hiI : (i : Int) < (n : Int) := by omega
      have Lr : Lst wr a n cap ds := L.of_block fun g off e => HB.out.block g (by rw [e] at L; exact L.lt)
      obtain ⟨g, off, rfl, hd, hr⟩ := Lr.at i hi
      have HD : Hid (ds[i]? = some (ds.getD i DG.z)) := ⟨hd⟩
      clear hd
      obtain ⟨d, hdd⟩ : ∃ d, ds.getD i DG.z = d := ⟨_, rfl⟩
      rw [hdd] at HD hr
      clear hdd
      obtain ⟨num, src, dst, body⟩ := d
      have bA : Below wr.heap.size wr (wr.alloc (.cells #[.int .i64 num, .int .i64 src, .int .i64 dst, .string body] 33)) := (Below.refl _ _).alloc (Nat.le_refl _) _
      have OA := HO.out.below bA
      have hlen : (nums x y (ds.take i)).length + 1 ≤ 65537 := by have := nums_len x y ds i n hsz.out; omega
      have hwr : w.heap.size ≤ (wr.alloc (.cells #[.int .i64 num, .int .i64 src, .int .i64 dst, .string body] 33)).heap.size := by have := HB.out.size; have := bA.size; omega
      by_cases h1 : x = -1
      · have b1 : (x == -1) = true := by simp [h1]
        by_cases h3 : y = -1
        · have b3 : (y == -1) = true := by simp [h3]
          have hfit : fits x y ⟨num, src, dst, body⟩ = true := by simp [fits, b1, b3]
          clear h1 h3
          go_wp2_with (first
            | ((with_reducible show wpList _ _ _ (Oper.mk _ (Op.load 33 _) _ _ _ _ :: _) _ _); refine wpList_load33x rfl _ rfl g (off + i * 4) num src dst body rfl hr ?_)
            | ((with_reducible show wpList _ _ _ (Oper.mk _ (Op.call { callee := Callee.builtin Builtin.append, args := _, argTypes := _ }) _ _ _ _ :: _) _ _); go_must (refine wpList_append_num rfl _ _ rfl w.heap.size u7 (nums x y (ds.take i)) num rfl OA (wr.heap.size + 1) (by simp) rfl hwr hlen ?_; intro v5 w5 O5 b5)))
          go_roundg (gk - 1)
          case measure => omega
          case rel => exact ⟨i + 1, by go_num, by omega, ⟨by rw [nums_yes HD.out hfit]; exact O5⟩, ⟨(HB.out.trans (bA.mono HB.out.size)).trans (((Below.refl _ _).alloc hwr (.cells #[nv num] 2)).trans b5)⟩⟩
        · have b3 : (y == -1) = false := by simp [h3]
          by_cases h4 : y = dst
          · have b4 : (y == dst) = true := by simp [h4]
            have hfit : fits x y ⟨num, src, dst, body⟩ = true := by simp [fits, b1, b3, b4]
            clear h1 h3 h4
            go_wp2_with (first
              | ((with_reducible show wpList _ _ _ (Oper.mk _ (Op.load 33 _) _ _ _ _ :: _) _ _); refine wpList_load33x rfl _ rfl g (off + i * 4) num src dst body rfl hr ?_)
              | ((with_reducible show wpList _ _ _ (Oper.mk _ (Op.call { callee := Callee.builtin Builtin.append, args := _, argTypes := _ }) _ _ _ _ :: _) _ _); go_must (refine wpList_append_num rfl _ _ rfl w.heap.size u7 (nums x y (ds.take i)) num rfl OA (wr.heap.size + 1) (by simp) rfl hwr hlen ?_; intro v5 w5 O5 b5)))
            go_roundg (gk - 1)
            case measure => omega
            case rel => exact ⟨i + 1, by go_num, by omega, ⟨by rw [nums_yes HD.out hfit]; exact O5⟩, ⟨(HB.out.trans (bA.mono HB.out.size)).trans (((Below.refl _ _).alloc hwr (.cells #[nv num] 2)).trans b5)⟩⟩
          · have b4 : (y == dst) = false := by simp [h4]
            have hfit : fits x y ⟨num, src, dst, body⟩ = false := by simp [fits, b1, b3, b4]
            clear h1 h3 h4
            go_wp2_with (first
              | ((with_reducible show wpList _ _ _ (Oper.mk _ (Op.load 33 _) _ _ _ _ :: _) _ _); refine wpList_load33x rfl _ rfl g (off + i * 4) num src dst body rfl hr ?_)
              | ((with_reducible show wpList _ _ _ (Oper.mk _ (Op.call { callee := Callee.builtin Builtin.append, args := _, argTypes := _ }) _ _ _ _ :: _) _ _); go_must (refine wpList_append_num rfl _ _ rfl w.heap.size u7 (nums x y (ds.take i)) num rfl OA (wr.heap.size + 1) (by simp) rfl hwr hlen ?_; intro v5 w5 O5 b5)))
            go_roundg (gk - 1)
            case measure => omega
            case rel => exact ⟨i + 1, by go_num, by omega, ⟨by rw [nums_no HD.out hfit]; exact OA⟩, ⟨HB.out.trans (bA.mono HB.out.size)⟩⟩
      · have b1 : (x == -1) = false := by simp [h1]
        by_cases h2 : x = src
        · have b2 : (x == src) = true := by simp [h2]
          by_cases h3 : y = -1
          · have b3 : (y == -1) = true := by simp [h3]
            have hfit : fits x y ⟨num, src, dst, body⟩ = true := by simp [fits, b1, b2, b3]
            clear h1 h2 h3
            go_wp2_with (first
              | ((with_reducible show wpList _ _ _ (Oper.mk _ (Op.load 33 _) _ _ _ _ :: _) _ _); refine wpList_load33x rfl _ rfl g (off + i * 4) num src dst body rfl hr ?_)
              | ((with_reducible show wpList _ _ _ (Oper.mk _ (Op.call { callee := Callee.builtin Builtin.append, args := _, argTypes := _ }) _ _ _ _ :: _) _ _); go_must (refine wpList_append_num rfl _ _ rfl w.heap.size u7 (nums x y (ds.take i)) num rfl OA (wr.heap.size + 1) (by simp) rfl hwr hlen ?_; intro v5 w5 O5 b5)))
            go_roundg (gk - 1)
            case measure => omega
            case rel => exact ⟨i + 1, by go_num, by omega, ⟨by rw [nums_yes HD.out hfit]; exact O5⟩, ⟨(HB.out.trans (bA.mono HB.out.size)).trans (((Below.refl _ _).alloc hwr (.cells #[nv num] 2)).trans b5)⟩⟩
          · have b3 : (y == -1) = false := by simp [h3]
            by_cases h4 : y = dst
            · have b4 : (y == dst) = true := by simp [h4]
              have hfit : fits x y ⟨num, src, dst, body⟩ = true := by simp [fits, b1, b2, b3, b4]
              clear h1 h2 h3 h4
              go_wp2_with (first
                | ((with_reducible show wpList _ _ _ (Oper.mk _ (Op.load 33 _) _ _ _ _ :: _) _ _); refine wpList_load33x rfl _ rfl g (off + i * 4) num src dst body rfl hr ?_)
                | ((with_reducible show wpList _ _ _ (Oper.mk _ (Op.call { callee := Callee.builtin Builtin.append, args := _, argTypes := _ }) _ _ _ _ :: _) _ _); go_must (refine wpList_append_num rfl _ _ rfl w.heap.size u7 (nums x y (ds.take i)) num rfl OA (wr.heap.size + 1) (by simp) rfl hwr hlen ?_; intro v5 w5 O5 b5)))
              go_roundg (gk - 1)
              case measure => omega
              case rel => exact ⟨i + 1, by go_num, by omega, ⟨by rw [nums_yes HD.out hfit]; exact O5⟩, ⟨(HB.out.trans (bA.mono HB.out.size)).trans (((Below.refl _ _).alloc hwr (.cells #[nv num] 2)).trans b5)⟩⟩
            · have b4 : (y == dst) = false := by simp [h4]
              have hfit : fits x y ⟨num, src, dst, body⟩ = false := by simp [fits, b1, b2, b3, b4]
              clear h1 h2 h3 h4
              go_wp2_with (first
                | ((with_reducible show wpList _ _ _ (Oper.mk _ (Op.load 33 _) _ _ _ _ :: _) _ _); refine wpList_load33x rfl _ rfl g (off + i * 4) num src dst body rfl hr ?_)
                | ((with_reducible show wpList _ _ _ (Oper.mk _ (Op.call { callee := Callee.builtin Builtin.append, args := _, argTypes := _ }) _ _ _ _ :: _) _ _); go_must (refine wpList_append_num rfl _ _ rfl w.heap.size u7 (nums x y (ds.take i)) num rfl OA (wr.heap.size + 1) (by simp) rfl hwr hlen ?_; intro v5 w5 O5 b5)))
              go_roundg (gk - 1)
              case measure => omega
              case rel => exact ⟨i + 1, by go_num, by omega, ⟨by rw [nums_no HD.out hfit]; exact OA⟩, ⟨HB.out.trans (bA.mono HB.out.size)⟩⟩
        · have b2 : (x == src) = false := by simp [h2]
          have hfit : fits x y ⟨num, src, dst, body⟩ = false := by simp [fits, b1, b2]
          clear h1 h2
          go_wp2_with (first
            | ((with_reducible show wpList _ _ _ (Oper.mk _ (Op.load 33 _) _ _ _ _ :: _) _ _); refine wpList_load33x rfl _ rfl g (off + i * 4) num src dst body rfl hr ?_)
            | ((with_reducible show wpList _ _ _ (Oper.mk _ (Op.call { callee := Callee.builtin Builtin.append, args := _, argTypes := _ }) _ _ _ _ :: _) _ _); go_must (refine wpList_append_num rfl _ _ rfl w.heap.size u7 (nums x y (ds.take i)) num rfl OA (wr.heap.size + 1) (by simp) rfl hwr hlen ?_; intro v5 w5 O5 b5)))
          go_roundg (gk - 1)
          case measure => omega
          case rel => exact ⟨i + 1, by go_num, by omega, ⟨by rw [nums_no HD.out hfit]; exact OA⟩, ⟨HB.out.trans (bA.mono HB.out.size)⟩⟩
    · obtain rfl : i = n := by omega
      have hO := HO.out
      rw [List.take_of_length_le (by rw [hsz.out]; exact Nat.le_refl _)] at hO
      go_wp2
      go_ret
      exact ⟨_, rfl, hO, HB.out⟩
end Go.Proofs.Ytoppecppmjpgiaa
