
/- The lines that are touched, of the program: gathered, sorted and each kept once, by the library's Sort and Compact. Conditions: a list that reads as told, of at most 1048576 ops. -/
import Derived.Test.YteblffhbennpnaaGreatDoorTouFacts
import Derived.Test.YteblffhbennpnaaGreatDoorShelf
import Derived.Test.YteblffhbennpnaaGreatDoorBoxes
import Derived.Sort.OwnSortedInts
import Derived.Lib.OwnBridge
namespace Go.Proofs.YteblffhbennpnaaGreatDoor
open Go.ChangeShapes Go.WideShapes Go.ChangeAt Go.RowKit
set_option linter.unusedVariables false

/-- What Sort leaves of an own list. -/
theorem owni_sorted {B g cap n : Nat} {w : World} {os : Array Obj} {zs ts : List Int} (ho : OwnI B w g cap zs) (hl : ts.length = zs.length) :
    OwnI B (Sort.grow (Sort.putRow (Value.int .i64) (Sort.ahead w n) g 0 ts.toArray) os) g cap ts := by
  rcases ho.2 with ⟨h0, _⟩ | ⟨g', cap', cur, hv, hb, hh, h1, h2, h3, h4⟩
  · cases h0
  cases hv
  have := ownsRow_sortedI (n := n) (os := os) hl hb hh h1 h2 h3
  unfold OwnI
  rw [hl]
  exact this
theorem owni_put {B g cap q k : Nat} {w : World} {zs ts : List Int} (ho : OwnI B w g cap zs) (hl : ts.length = zs.length) (hk : k ≤ ts.length) :
    OwnI B (Sort.putRow (Value.int .i64) (Sort.ahead w q) g 0 ts.toArray) g cap (ts.take k) := by
  have h := owni_sorted (n := q) (os := #[]) ho hl
  rw [Sort.grow_empty] at h
  rcases h.2 with ⟨h0, _⟩ | ⟨g', cap', cur, hv, hb, hh, h1, h2, h3, h4⟩
  · cases h0
  cases hv
  have hlk : (ts.take k).length = k := by rw [List.length_take]; omega
  unfold OwnI
  rw [hlk]
  refine ⟨by simp; omega, .inr ⟨g, cap, cur, rfl, hb, hh, by omega, h2, h3, ?_⟩⟩
  rw [Nat.mul_one] at h4 ⊢
  have : List.take k (List.take ts.length cur.toList) = List.take k (List.map (Value.int .i64) ts) := by rw [h4]
  rw [List.take_take, Nat.min_eq_left hk] at this
  rw [this, List.map_take]
theorem holds_owni {B g cap : Nat} {w : World} {zs : List Int} (ho : OwnI B w g cap zs) : Sort.Holds (Value.int .i64) w g 0 zs.toArray := by
  rcases ho.2 with ⟨h0, _⟩ | ⟨g', cap', cur, hv, hb, hh, h1, h2, h3, h4⟩
  · cases h0
  cases hv
  rw [Nat.mul_one] at h4
  exact holds_of_blockI hh h4
theorem below_row {w w1 : World} {g n : Nat} {os : Array Obj} {ts : List Int} (hb : Below w.heap.size w w1) (hg : w.heap.size ≤ g) : Below w.heap.size w (Sort.grow (Sort.putRow (Value.int .i64) (Sort.ahead w1 n) g 0 ts.toArray) os) :=
  hb.grown (grownBy_sortedI _) hb.size (fun j hj => by cases hj; exact hg)

set_option maxHeartbeats 4000000 in
theorem implTouches_any (a : Option Addr) (xs : List OpD) (cap : Nat) (w : World) (h : SlRd opR w a xs) (hm : xs.length ≤ 1048576) :
    Calls Tryz.prog 8 #[.slice a xs.length cap] w fun e w' => ∃ v, e = .returned v ∧ Made w w' v (touL xs) := by
  obtain ⟨i0, hi, hz0, hz1, hz2⟩ := info_parts Tryz.infoI
  have HS : Hid (∀ W, Below w.heap.size w W → SlRd opR W a xs) := fun W hb => slrd_next h hb
  clear h
  have HM0 : Hid _ := made_lit w #[] [] rfl (by unfold maxLen; simp)
  go_enter Tryz.func8, Tryz.ntmps8
  go_wp2
  go_loopw [3, 9] (fun v i wr => ∃ k : Nat, k ≤ xs.length ∧ i = .int .i64 k ∧ Made w wr v (rawL (xs.take k))) (fun _ i _ => xs.length - (intOf i).toNat)
  case atStart => exact ⟨0, Nat.zero_le _, rfl, HM0.out⟩
  case round =>
    obtain ⟨k, hk, rfl, MM⟩ := hrel
    by_cases hlt : k < xs.length
    · have hlt' : (k : Int) < (xs.length : Int) := by omega
      obtain ⟨x, hx⟩ : ∃ x, xs[k]? = some x := ⟨_, List.getElem?_eq_getElem hlt⟩
      have HT : Hid (rawL (xs.take (k + 1)) = _) := raw_step hx
      have htl := raw_len xs k
      obtain ⟨g, cg, rfl, hg1, hg2, OG, BB⟩ := MM
      obtain ⟨b, off, rfl, x0, x1, x2, x3, -⟩ := op_at (HS.out _ BB) hx
      clear hx
      generalize rawL (xs.take k) = L at HT htl OG ⊢
      have A := heap_at wr (.cells #[.int .i64 x.1, .int .i64 x.2.1, .int .i64 x.2.2.1, .int .i64 x.2.2.2] 42)
      have bx := box_below wr (.cells #[.int .i64 x.1, .int .i64 x.2.1, .int .i64 x.2.2.1, .int .i64 x.2.2.2] 42)
      go_wp2_with fail
      generalize wr.alloc (.cells #[.int .i64 x.1, .int .i64 x.2.1, .int .i64 x.2.2.1, .int .i64 x.2.2.2] 42) = w0 at A bx ⊢
      refine (implOpOk_any _ _ _ _ _).mono ?_
      rintro e w1 ⟨rfl, bb⟩
      have hsz : wr.heap.size < w0.heap.size := (Array.getElem?_eq_some_iff.1 A).1
      have B1 := below_step bx bb
      have OG1 := owni_below OG B1 hg2
      have BW := below_step BB B1
      have y1 : w1.cell? ⟨wr.heap.size, 1, none⟩ = some (.int .i64 x.2.1) := cell_keep bb (by simp [World.cell?, A]) hsz
      have hn1 := Nat.lt_of_lt_of_le hg2 B1.size
      clear x0 x1 x2 x3 bx OG BB A B1 bb
      cases hb : opOkD x
      · rw [show opB x.1 x.2.1 x.2.2.1 x.2.2.2 = _ from hb]
        rw [hb] at HT
        have HM : Hid (Made w w1 (.slice (some ⟨g, 0, none⟩) L.length cg) L) := ⟨g, cg, rfl, hg1, hn1, OG1, BW⟩
        clear OG1 hg1 hn1 BW
        go_wp2
        go_roundw
        case rel => exact ⟨k + 1, by omega, by go_num, by rw [HT.out]; exact HM.out⟩
        case measure => simp [intOf]; omega
      · rw [show opB x.1 x.2.1 x.2.2.1 x.2.2.2 = _ from hb]
        rw [hb] at HT
        have hdv : x.2.1.tdiv 2 = x.2.1 / 2 := tdiv_two (op_addr hb).1
        have had := op_addr hb
        generalize x.2.1 = y at HT hdv had y1 ⊢
        have hq : ∃ z, z = y / 2 := ⟨_, rfl⟩
        obtain ⟨z, hz⟩ := hq
        rw [← hz] at HT hdv
        have hz' : 0 ≤ z ∧ z ≤ 15 := by omega
        clear hz
        have hsw := BW.size
        go_wp2_with (at_builtin; refine wpList_append_own _ rfl _ _ 31 rfl w.heap.size 2 i0 (.int .i64 0) 1 8 Tryz.underlying31 hi hz0 hz1 hz2 rfl (by decide) _ _ _ rfl (World.ownsRow.alloc OG1 _) ⟨_, 0, none⟩ 1 1 [.int .i64 z] rfl rfl ?c1 ?c2 ?c3 ?c4 ?c5 ?_)
        case c1 =>
          intro j u hj
          match j, hj with
          | 0, hj => simp at hj; subst hj; simp [Addr.add]
        case c2 => intro u hu; simp at hu; subst hu; rfl
        case c3 => unfold maxLen; omega
        case c4 => omega
        case c5 => simp; omega
        · intro v' w2 hown' hgrow hnil
          obtain ⟨g3, c3, rfl, O3, B3⟩ := app_next (m := L.length + 1) (ys := [z]) BW OG1 (by simp) (by simpa using hown') hgrow hnil
          have HM : Hid (Made w w2 (.slice (some ⟨g3, 0, none⟩) (L.length + 1) c3) (L ++ [z])) := ⟨g3, c3, by simp, (owni_lt O3).1, (owni_lt O3).2, O3, B3⟩
          clear hown' hgrow hnil OG1 O3 B3 BW hsw
          go_wp2
          go_roundw
          case rel => exact ⟨k + 1, by omega, by go_num, by rw [HT.out]; exact HM.out⟩
          case measure => simp [intOf]; omega
    · have hkl : k = xs.length := by omega
      subst hkl
      rw [List.take_length] at MM
      obtain ⟨g, cg, rfl, hg1, hg2, OG, BB⟩ := MM
      have htr := tou_raw xs
      have hlr : (rawL xs).length ≤ 1048576 := by have := raw_len xs xs.length; rw [List.take_length] at this; omega
      generalize rawL xs = L at htr hlr OG ⊢
      have hl2 : (L.mergeSort fun x y => decide (x ≤ y)).length = L.length := List.length_mergeSort L
      have hsort := Tryz.slices_Sort_int g 0 cg L wr (holds_owni OG) hg2 (by omega)
      generalize (L.mergeSort fun x y => decide (x ≤ y)) = M at htr hl2 hsort
      have hle : (Lib.compact M).length ≤ M.length := Lib.compact_length_le M
      have HC : Hid (∀ n os, Calls Tryz.prog 29 #[.slice (some ⟨g, 0, none⟩) L.length cg] (Sort.grow (Sort.putRow (Value.int .i64) (Sort.ahead wr n) g 0 M.toArray) os) fun e w' => ∃ v, e = .returned v ∧ Made w w' v (touL xs)) := by
        intro n os
        have O1 := owni_sorted (n := n) (os := os) OG hl2
        have B1 := below_row (n := n) (os := os) (ts := M) BB hg1
        have hcap := owni_cap O1
        generalize Sort.grow (Sort.putRow (Value.int .i64) (Sort.ahead wr n) g 0 M.toArray) os = W at O1 B1
        have hcomp := Tryz.slices_Compact_int g 0 cg M W (holds_owni O1) (by omega) hcap.1
        rw [hl2] at hcomp
        refine hcomp.mono ?_
        rintro e w' ⟨rfl, q, rfl⟩
        rw [← htr]
        have O2 := owni_put (q := q) (k := (Lib.compact M).length) (ts := Lib.compact M ++ List.replicate (L.length - (Lib.compact M).length) 0) O1 (by simp; omega) (by simp)
        rw [List.take_left] at O2
        have B2 := below_row (n := q) (os := #[]) (ts := Lib.compact M ++ List.replicate (L.length - (Lib.compact M).length) 0) B1 hg1
        rw [Sort.grow_empty] at B2
        exact ⟨_, rfl, g, cg, rfl, hg1, (owni_lt O2).2, O2, B2⟩
      clear OG BB htr hle
      go_wp2_with (first
        | (go_at_call 28; refine hsort.mono ?_; rintro e w2 ⟨rfl, n, os, rfl⟩)
        | (go_at_call 29; refine (HC.out n os).mono ?_; rintro e w3 ⟨v, rfl, mm⟩))
      go_ret
      exact ⟨_, rfl, mm⟩
end Go.Proofs.YteblffhbennpnaaGreatDoor
