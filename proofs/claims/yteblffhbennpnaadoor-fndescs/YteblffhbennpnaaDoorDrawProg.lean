
/- The draws of lists of ops and of descs: some list is drawn, in new memory, and nothing that was there turns but the cursor. Conditions: the bytes are at most 2^61. -/
import Derived.Test.YteblffhbennpnaaDoorDrawList
import Derived.Test.YteblffhbennpnaaDoorDrawBox
import Derived.Test.YteblffhbennpnaaDoorDrawOps
import Derived.Test.YteblffhbennpnaaDoorOpL
import Derived.Test.YteblffhbennpnaaDoorDescs
namespace Go.Proofs.YteblffhbennpnaaDoor
open Go.ChangeShapes Go.WideShapes Go.ChangeAt Go.RowKit
set_option linter.unusedVariables false

theorem in4_sm {k a x y : Int} (h : OpSm k a x y) : In4 (k, a, x, y) := by
  obtain ⟨⟨h1, h2⟩, ⟨h3, h4⟩, ⟨h5, h6⟩, h7, h8⟩ := h
  exact ⟨small64 (x := k) (by omega) (by omega), small64 (x := a) (by omega) (by omega), small64 (x := x) (by omega) (by omega), small64 (x := y) (by omega) (by omega)⟩
theorem drew_op {B g : Nat} {w w1 : World} {k a x y : Int} (h : OpSm k a x y) (hc : Cur B w1 g) (hg : w.grownBy w1 (some g)) : DrewR opR B g w w1 [.int .i64 k, .int .i64 a, .int .i64 x, .int .i64 y] (k, a, x, y) := ⟨own_op (u := (k, a, x, y)) (in4_sm h), hc, chg_grown hg rfl⟩
theorem one_4 (a b c d : Int) : ∀ u ∈ ([.int .i64 a, .int .i64 b, .int .i64 c, .int .i64 d] : List Value), u.oneCell' = true := by
  intro u hu
  simp at hu
  rcases hu with rfl | rfl | rfl | rfl <;> rfl
theorem one_d (p : Bool) (a b : Int) (q : Option Addr) (n m : Nat) : ∀ u ∈ ([.bool p, .int .i64 a, .int .i64 b, .slice q n m] : List Value), u.oneCell' = true := by
  intro u hu
  simp at hu
  rcases hu with rfl | rfl | rfl | rfl <;> rfl
theorem drew_len {B g : Nat} {w w' : World} {α : Type} {R : Rep α} {e : TypeId} {v : Value} {xs ys : List α} (h : DrewR (slR e R) B g w w' [v] xs) (hx : xs = ys) : DrewR (slR e R) B g w w' [v] ys := hx ▸ h
theorem Tryd.infoOpD : (Tryd.prog.info? 73).map (fun i => (i.zero, i.size, i.bytes)) = some (some (.agg #[.int .i64 0, .int .i64 0, .int .i64 0, .int .i64 0]), 4, 32) := by kernel_rfl
theorem Tryd.infoDescD : (Tryd.prog.info? 38).map (fun i => (i.zero, i.size, i.bytes)) = some (some (.agg #[.bool false, .int .i64 0, .int .i64 0, .slice none 0 0]), 4, 48) := by kernel_rfl

set_option maxHeartbeats 4000000 in
theorem l11DrawOps_any (B g : Nat) (lines most : Int) (w : World) (hcur : Cur B w g) (hl : 0 < lines) (hl1 : lines ≤ 128) (hm0 : 0 < most) (hm1 : most ≤ 200) :
    Calls Tryd.prog 34 #[.pointer (some ⟨g, 0, none⟩), .int .i64 lines, .int .i64 most] w fun e w' => ∃ xs a cap, e = .returned (.slice a xs.length cap) ∧ (xs.length : Int) < most ∧ DrewR opsR B g w w' [.slice a xs.length cap] xs := by
  obtain ⟨i0, hi, hz0, hz1, hz2⟩ := info_parts Tryd.infoOpD
  have hgw := cur_lt hcur
  have HD0 : Hid _ := drew_none (R := opR) (e := 73) hcur (Chg.refl _ w)
  have C0 := HD0.out.cur
  clear hcur
  go_enter Tryd.func34, Tryd.ntmps34
  go_wp2_with fail
  refine (l1Below_small B g most _ C0 (by omega) (by omega)).mono ?_
  rintro e w1 ⟨n, rfl, n0, n1, C1, g1⟩
  have HD1 : Hid _ := drew_grown HD0.out g1 C1 hgw
  obtain ⟨N, rfl⟩ : ∃ N : Nat, n = (N : Int) := ⟨n.toNat, by omega⟩
  clear C0 C1 g1 HD0
  go_wp2
  go_loopw [7, 8] (fun v i wr => ∃ (k : Nat) (xs : List OpD) (a : Option Addr) (cap : Nat), i = .int .i64 k ∧ v = .slice a xs.length cap ∧ xs.length + k = N ∧ DrewR opsR B g w wr [.slice a xs.length cap] xs) (fun _ i _ => (intOf i).toNat)
  case atStart => exact ⟨N, [], _, _, rfl, rfl, by simp, HD1.out⟩
  case round =>
    obtain ⟨k, xs, a, cap, rfl, rfl, hk, D⟩ := hrel
    have C := D.cur
    by_cases hlt : 0 < k
    · have hlt' : (0 : Int) < (k : Int) := by omega
      have HD : Hid _ := D
      clear D
      go_wp2_with fail
      refine (l8Draw_any B g lines _ C hl hl1).mono ?_
      rintro e w2 ⟨ok, oa, ox, oy, rfl, hsm, C2, g2⟩
      have Y := drew_op hsm C2 g2
      have HY : Hid _ := Y
      clear Y C2 g2 C
      go_wp2_with (at_builtin; refine wpList_drew rfl _ _ 34 rfl opR 73 i0 _ 32 Tryd.underlying34 hi hz0 hz1 hz2 rfl (by decide) (by decide) B g _ xs [.int .i64 ok, .int .i64 oa, .int .i64 ox, .int .i64 oy] (ok, oa, ox, oy) _ rfl _ rfl (by simp) HD.out HY.out hgw (one_4 _ _ _ _) (by unfold maxLen; omega) (by omega) ?_)
      intro g' cap' w3 D3
      have HD3 : Hid _ := D3
      clear D3 HD HY
      go_wp2
      go_roundw
      case rel => exact ⟨k - 1, xs ++ [(ok, oa, ox, oy)], _, _, by go_num, by rw [List.length_append]; rfl, by rw [List.length_append]; show xs.length + 1 + (k - 1) = N; omega, by rw [List.length_append]; exact HD3.out⟩
      case measure => simp [intOf]; omega
    · have hk0 : k = 0 := by omega
      subst hk0
      have HD : Hid _ := D
      clear D
      go_wp2
      go_ret
      exact ⟨xs, a, cap, rfl, by omega, HD.out⟩
/-- A desc that is being drawn, in a box. -/
structure DD (B g : Nat) (w wr : World) (mb : Nat) (p : Bool) (q m : Int) (dd : List Int) (da : Option Addr) (dc : Nat) : Prop where
  box : wr.heap[mb]? = some (.cells #[.bool p, .int .i64 q, .int .i64 m, .slice da dd.length dc] 38 (0, 0))
  own : intsR.own wr (fun k => mb < k ∧ k < wr.heap.size) [.slice da dd.length dc] dd
  i1 : In64 q
  i2 : In64 m
  cur : Cur B wr g
  chg : Chg (fun b => b = g) w wr
  lt : w.heap.size ≤ mb ∧ mb < wr.heap.size ∧ g < w.heap.size ∧ B ≤ g
theorem dd_step {B g mb : Nat} {w wr w' : World} {p : Bool} {q m : Int} {dd : List Int} {da : Option Addr} {dc : Nat} (h : DD B g w wr mb p q m dd da dc) (hc : Chg (fun b => b = g) wr w') (hcur : Cur B w' g) : DD B g w w' mb p q m dd da dc := by
  obtain ⟨l1, l2, l3, l4⟩ := h.lt
  have hs := hc.size
  exact ⟨(hc.block mb (by omega) (by omega)).trans h.box, intsR.own_mono (own_chg h.own hc (fun j hj e => by have := hj.1; omega)) (fun k hk => ⟨hk.1, by have := hk.2; omega⟩), h.i1, h.i2, hcur, h.chg.trans hc, l1, by omega, l3, l4⟩
theorem dd_grown {B g mb : Nat} {w wr w' : World} {p : Bool} {q m : Int} {dd : List Int} {da : Option Addr} {dc : Nat} (h : DD B g w wr mb p q m dd da dc) (hg : wr.grownBy w' (some g)) (hcur : Cur B w' g) : DD B g w w' mb p q m dd da dc := dd_step h (chg_grown hg rfl) hcur
theorem dd_frame {B g mb i : Nat} {w wr : World} {p : Bool} {q m : Int} {dd : List Int} {da : Option Addr} {dc : Nat} {v : Value} (h : DD B g w wr mb p q m dd da dc) : Cur B (wr.setCell ⟨mb, i, none⟩ v) g ∧ Chg (fun b => b = g) w (wr.setCell ⟨mb, i, none⟩ v) ∧ (w.heap.size ≤ mb ∧ mb < (wr.setCell ⟨mb, i, none⟩ v).heap.size ∧ g < w.heap.size ∧ B ≤ g) := by
  obtain ⟨l1, l2, l3, l4⟩ := h.lt
  have c1 : Chg (fun b => b = mb) wr (wr.setCell ⟨mb, i, none⟩ v) := chg_set
  exact ⟨cur_chg h.cur c1 (fun k hk => by omega) (by omega), chg_via h.chg c1 (by omega), l1, by simp; omega, l3, l4⟩
theorem dd_set0 {B g mb : Nat} {w wr : World} {p p' : Bool} {q m : Int} {dd : List Int} {da : Option Addr} {dc : Nat} (h : DD B g w wr mb p q m dd da dc) : DD B g w (wr.setCell ⟨mb, 0, none⟩ (.bool p')) mb p' q m dd da dc := by
  obtain ⟨f1, f2, f3⟩ := dd_frame (i := 0) (v := .bool p') h
  exact ⟨heap_setCell_same wr mb 0 _ _ _ h.box, intsR.own_mono (own_setC h.own (fun e => by have := e.1; omega)) (fun k hk => ⟨hk.1, by have := hk.2; simp; omega⟩), h.i1, h.i2, f1, f2, f3⟩
theorem dd_set2 {B g mb : Nat} {w wr : World} {p : Bool} {q m m' : Int} {dd : List Int} {da : Option Addr} {dc : Nat} (h : DD B g w wr mb p q m dd da dc) (hm : In64 m') : DD B g w (wr.setCell ⟨mb, 2, none⟩ (.int .i64 m')) mb p q m' dd da dc := by
  obtain ⟨f1, f2, f3⟩ := dd_frame (i := 2) (v := .int .i64 m') h
  exact ⟨heap_setCell_same wr mb 2 _ _ _ h.box, intsR.own_mono (own_setC h.own (fun e => by have := e.1; omega)) (fun k hk => ⟨hk.1, by have := hk.2; simp; omega⟩), h.i1, hm, f1, f2, f3⟩
theorem dd_set3 {B g mb : Nat} {w wr : World} {p : Bool} {q m : Int} {dd d2 : List Int} {da a2 : Option Addr} {dc c2 : Nat} (h : DD B g w wr mb p q m dd da dc) (ho : intsR.own wr (fun k => mb < k ∧ k < wr.heap.size) [.slice a2 d2.length c2] d2) : DD B g w (wr.setCell ⟨mb, 3, none⟩ (.slice a2 d2.length c2)) mb p q m d2 a2 c2 := by
  obtain ⟨f1, f2, f3⟩ := dd_frame (i := 3) (v := .slice a2 d2.length c2) h
  exact ⟨heap_setCell_same wr mb 3 _ _ _ h.box, intsR.own_mono (own_setC ho (fun e => by have := e.1; omega)) (fun k hk => ⟨hk.1, by have := hk.2; simp; omega⟩), h.i1, h.i2, f1, f2, f3⟩
theorem dd_drew {B g mb : Nat} {w wr : World} {p : Bool} {q m : Int} {dd : List Int} {da : Option Addr} {dc : Nat} (h : DD B g w wr mb p q m dd da dc) : DrewR descR B g w wr [.bool p, .int .i64 q, .int .i64 m, .slice da dd.length dc] (p, q, m, dd) :=
  ⟨own_desc h.i1 h.i2 (intsR.own_mono h.own (fun k hk => ⟨by have := hk.1; have := h.lt; omega, hk.2⟩)), h.cur, h.chg⟩
theorem dd_new {B g : Nat} {w wr : World} {q : Int} (hq : In64 q) (hcur : Cur B wr g) (hc : Chg (fun b => b = g) w wr) (hg : g < w.heap.size) : DD B g w (wr.alloc (.cells #[.bool false, .int .i64 q, .int .i64 0, .slice none 0 0] 38)) wr.heap.size false q 0 [] none 0 :=
  ⟨heap_at wr _, ⟨_, [], fun _ => False, rfl, World.ownsRow_nil _ _ _ _, fun g hg => by simp [Value.ownBlock] at hg, fun _ h => h.elim, rfl⟩, hq, small64 (by omega) (by omega), cur_alloc hcur _, hc.trans (chg_below (box_below _ _)), hc.size, by simp, hg, hcur.1⟩

theorem all3_push {xs : List DescD} {x : DescD} (h : ∀ u ∈ xs, u.2.2.2.length ≤ 3) (hx : x.2.2.2.length ≤ 3) : ∀ u ∈ xs ++ [x], u.2.2.2.length ≤ 3 := by
  intro u hu
  rcases List.mem_append.1 hu with hu | hu
  · exact h u hu
  · simp at hu; subst hu; exact hx
set_option maxRecDepth 20000 in
set_option maxHeartbeats 8000000 in
theorem l11DrawDescs_any (B g : Nat) (lines most : Int) (w : World) (hcur : Cur B w g) (hl : 0 < lines) (hl1 : lines ≤ 128) (hm0 : 0 < most) (hm1 : most ≤ 200) :
    Calls Tryd.prog 26 #[.pointer (some ⟨g, 0, none⟩), .int .i64 lines, .int .i64 most] w fun e w' => ∃ xs a cap, e = .returned (.slice a xs.length cap) ∧ (xs.length : Int) < most ∧ (∀ u ∈ xs, u.2.2.2.length ≤ 3) ∧ DrewR descsR B g w w' [.slice a xs.length cap] xs := by
  obtain ⟨i0, hi, hz0, hz1, hz2⟩ := info_parts Tryd.infoDescD
  have hgw := cur_lt hcur
  have HD0 : Hid _ := drew_none (R := descR) (e := 38) hcur (Chg.refl _ w)
  have C0 := HD0.out.cur
  clear hcur
  go_enter Tryd.func26, Tryd.ntmps26
  go_wp2_with fail
  refine (l1Below_small B g most _ C0 (by omega) (by omega)).mono ?_
  rintro e w1 ⟨n, rfl, n0, n1, C1, g1⟩
  have HD1 : Hid _ := drew_grown HD0.out g1 C1 hgw
  obtain ⟨N, rfl⟩ : ∃ N : Nat, n = (N : Int) := ⟨n.toNat, by omega⟩
  clear C0 C1 g1 HD0
  go_wp2
  go_loopw [7, 8] (fun v i wr => ∃ (k : Nat) (xs : List DescD) (a : Option Addr) (cap : Nat), i = .int .i64 k ∧ v = .slice a xs.length cap ∧ xs.length + k = N ∧ (∀ u ∈ xs, u.2.2.2.length ≤ 3) ∧ DrewR descsR B g w wr [.slice a xs.length cap] xs) (fun _ i _ => (intOf i).toNat)
  case atStart => exact ⟨N, [], _, _, rfl, rfl, by simp, by simp, HD1.out⟩
  case round =>
    obtain ⟨k, xs, a, cap, rfl, rfl, hk, h3, D⟩ := hrel
    have C := D.cur
    by_cases hlt : 0 < k
    · have hlt' : (0 : Int) < (k : Int) := by omega
      have hgr : g < wr.heap.size := by have := D.chg.size; omega
      have HD : Hid _ := D
      have H3 : Hid _ := h3
      clear D h3
      go_wp2_with fail
      refine (l1Below_small B g lines _ C hl (by omega)).mono ?_
      rintro e w2 ⟨ln, rfl, ln0, ln1, C2, g2⟩
      have E := dd_new (q := ln) (small64 (by omega) (by omega)) C2 (chg_grown (S := fun b => b = g) g2 rfl) hgr
      have HE : Hid _ := E
      clear E C2 g2 C
      go_wp2_with fail
      have E := HE.out
      generalize w2.alloc (.cells #[.bool false, .int .i64 ln, .int .i64 0, .slice none 0 0] 38) = W2 at E ⊢
      generalize w2.heap.size = mb at E ⊢
      have C := E.cur
      clear HE
      refine (l1Once_small B g 2 _ C (by omega) (by omega)).mono ?_
      rintro e w3 ⟨b, rfl, C3, g3⟩
      replace E := dd_grown E g3 C3
      clear C C3 g3
      cases b
      · obtain ⟨m0, m1, m2, m3⟩ := cells_4 E.box
        have Y := dd_drew E
        have HY : Hid _ := Y
        clear Y E
        go_wp2_with (at_builtin; refine wpList_drew rfl _ _ 26 rfl descR 38 i0 _ 48 Tryd.underlying26 hi hz0 hz1 hz2 rfl (by decide) (by decide) B g _ xs [.bool false, .int .i64 ln, .int .i64 0, .slice none 0 0] (false, ln, 0, []) _ rfl _ rfl (by simp) HD.out HY.out hgw (one_d _ _ _ _ _ _) (by unfold maxLen; omega) (by omega) ?_)
        intro g' cap' w5 D5
        have HD5 : Hid _ := D5
        clear D5 HD HY m0 m1 m2 m3
        go_wp2
        go_roundw
        case rel => exact ⟨k - 1, xs ++ [(false, ln, 0, [])], _, _, by go_num, by rw [List.length_append]; rfl, by rw [List.length_append]; show xs.length + 1 + (k - 1) = N; omega, all3_push H3.out (by simp), by rw [List.length_append]; exact HD5.out⟩
        case measure => simp [intOf]; omega
      · obtain ⟨m0, m1, m2, m3⟩ := cells_4 E.box
        obtain ⟨s0, s1, s2, s3⟩ := froz_4 E.box
        have HE : Hid _ := dd_set0 (p' := true) E
        have C := HE.out.cur
        clear E
        go_wp2_with fail
        refine (l1Below_small B g 3 _ C (by omega) (by omega)).mono ?_
        rintro e w4 ⟨mk, rfl, mk0, mk1, C4, g4⟩
        have E := dd_grown HE.out g4 C4
        clear C C4 g4 HE m0 m1 m2 m3 s0 s1 s2 s3
        obtain ⟨m0, m1, m2, m3⟩ := cells_4 E.box
        obtain ⟨s0, s1, s2, s3⟩ := froz_4 E.box
        have HE : Hid _ := dd_set2 (m' := 1 + mk) E (small64 (by omega) (by omega))
        have C := HE.out.cur
        clear E
        go_wp2_with fail
        have hlt5 := HE.out.lt
        refine (l3DrawLine_rep B g _ C).mono ?_
        rintro e w5 ⟨gl, lx, ly, rfl, gl1, hxy, OL, C5, g5⟩
        have hsz := g5.size
        have hgl := (owni_lt OL).2
        have E := dd_grown HE.out g5 C5
        have OL2 : intsR.own w5 (fun k => mb < k ∧ k < w5.heap.size) [.slice (some ⟨gl, 0, none⟩) ([lx, ly] : List Int).length 2] [lx, ly] := own_of OL ⟨by omega, by omega⟩ hxy
        clear C C5 g5 HE m0 m1 m2 m3 s0 s1 s2 s3
        obtain ⟨m0, m1, m2, m3⟩ := cells_4 E.box
        obtain ⟨s0, s1, s2, s3⟩ := froz_4 E.box
        have E6 := dd_set3 E OL2
        have Y : DrewR descR B g wr (w5.setCell ⟨mb, 3, none⟩ (.slice (some ⟨gl, 0, none⟩) 2 2)) [.bool true, .int .i64 ln, .int .i64 (1 + mk), .slice (some ⟨gl, 0, none⟩) 2 2] (true, ln, 1 + mk, [lx, ly]) := dd_drew E6
        have HY : Hid _ := Y
        clear Y E E6 OL2 OL hsz hgl gl1 hlt5
        go_wp2_with (at_builtin; (refine wpList_drew rfl _ _ 26 rfl descR 38 i0 _ 48 Tryd.underlying26 hi hz0 hz1 hz2 rfl (by decide) (by decide) B g _ xs [.bool true, .int .i64 ln, .int .i64 (1 + mk), .slice (some ⟨gl, 0, none⟩) 2 2] (true, ln, 1 + mk, [lx, ly]) _ rfl _ rfl (by simp) HD.out HY.out hgw (one_d _ _ _ _ _ _) (by unfold maxLen; omega) (by omega) ?_))
        intro g' cap' w7 D7
        have HD7 : Hid _ := D7
        clear D7 HD HY m0 m1 m2 m3 s0 s1 s2 s3
        go_wp2
        go_roundw
        case rel => exact ⟨k - 1, xs ++ [(true, ln, 1 + mk, [lx, ly])], _, _, by go_num, by rw [List.length_append]; rfl, by rw [List.length_append]; show xs.length + 1 + (k - 1) = N; omega, all3_push H3.out (by simp), by rw [List.length_append]; exact HD7.out⟩
        case measure => simp [intOf]; omega
    · have hk0 : k = 0 := by omega
      subst hk0
      have HD : Hid _ := And.intro h3 D
      clear D h3
      go_wp2
      go_ret
      exact ⟨xs, a, cap, rfl, by omega, HD.out.1, HD.out.2⟩
end Go.Proofs.YteblffhbennpnaaDoor
