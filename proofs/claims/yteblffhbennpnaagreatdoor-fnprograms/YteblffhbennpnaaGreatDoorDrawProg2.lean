
/- The draws of a layout and a list of ops, of a list of ops, of programs and descs: they read as some, and nothing that was there turns. Conditions: the bytes are at most 2^61. -/
import Derived.Test.YteblffhbennpnaaGreatDoorDrawProg
import Derived.Test.YteblffhbennpnaaGreatDoorDrawCfg2
import Derived.Test.YteblffhbennpnaaGreatDoorOpSS
import Derived.Test.YteblffhbennpnaaGreatDoorElem
import Derived.Test.YteblffhbennpnaaGreatDoorOwned
namespace Go.Proofs.YteblffhbennpnaaGreatDoor
open Go.ChangeShapes Go.WideShapes Go.ChangeAt Go.RowKit
set_option linter.unusedVariables false

def slen : Value → Nat
  | .slice _ n _ => n
  | _ => 0
def ProgP (w : World) (e : Ending) (w' : World) : Prop :=
  ∃ (cc cs cy cl : Int) (xs : List OpD) (a : Option Addr) (cap : Nat), e = .returned (.tuple #[.agg #[.int .i64 cc, .int .i64 cs, .int .i64 cy, .int .i64 cl], .slice a xs.length cap]) ∧ xs.length ≤ 31 ∧ SlRd opR w' a xs ∧ Below w.heap.size w w'
theorem put_4p {w : World} {g : Nat} {x0 x1 x2 x3 y0 y1 y2 y3 : Value} {t : TypeId} (h : w.heap[g]? = some (.cells #[x0, x1, x2, x3] t (0, 0))) : ((((w.setCell ⟨g, 0, none⟩ (y0)).setCell ⟨g, 1, none⟩ (y1)).setCell ⟨g, 2, none⟩ (y2)).setCell ⟨g, 3, none⟩ (y3)).heap[g]? = some (.cells #[y0, y1, y2, y3] t (0, 0)) := by
  have h0 : (w.setCell ⟨g, 0, none⟩ y0).heap[g]? = some (.cells #[y0, x1, x2, x3] t (0, 0)) := heap_setCell_same _ g 0 _ t y0 h
  have h1 : ((w.setCell ⟨g, 0, none⟩ y0).setCell ⟨g, 1, none⟩ y1).heap[g]? = some (.cells #[y0, y1, x2, x3] t (0, 0)) := heap_setCell_same _ g 1 _ t y1 h0
  have h2 : (((w.setCell ⟨g, 0, none⟩ y0).setCell ⟨g, 1, none⟩ y1).setCell ⟨g, 2, none⟩ y2).heap[g]? = some (.cells #[y0, y1, y2, x3] t (0, 0)) := heap_setCell_same _ g 2 _ t y2 h1
  exact heap_setCell_same _ g 3 _ t y3 h2
theorem row8_boxP {w : World} {a : Option Addr} {len : Nat} {zs : List Int} (h : Row8 w a len zs) (o : Obj) : Row8 (w.alloc o) a len zs := row8_below h (box_below w o)
/-- A layout and a list are drawn: the layout's box and the result's lie below. -/
structure DP {α : Type} (R : Rep (List α)) (gg : Nat) (w w3 wr : World) (cb : Nat) (cc cs cy cl : Int) (v : Value) (xs : List α) : Prop where
  drew : DrewR R gg gg w3 wr [v] xs
  res : w3.heap[w.heap.size]? = some (.cells #[.int .i64 0, .int .i64 0, .int .i64 0, .int .i64 0] 25 (0, 0))
  box : w3.heap[cb]? = some (.cells #[.int .i64 cc, .int .i64 cs, .int .i64 cy, .int .i64 cl] 25 (0, 0))
  bel : Below w.heap.size w w3
  lt : w.heap.size < gg ∧ gg < cb ∧ cb < w3.heap.size
theorem dp_with {α : Type} {R : Rep (List α)} {gg cb : Nat} {w w3 wr w' : World} {cc cs cy cl : Int} {v v' : Value} {xs xs' : List α} (h : DP R gg w w3 wr cb cc cs cy cl v xs) (d : DrewR R gg gg w3 w' [v'] xs') : DP R gg w w3 w' cb cc cs cy cl v' xs' := ⟨d, h.res, h.box, h.bel, h.lt⟩
theorem dp_grown {α : Type} {R : Rep (List α)} {gg cb : Nat} {w w3 wr w' : World} {cc cs cy cl : Int} {v : Value} {xs : List α} (h : DP R gg w w3 wr cb cc cs cy cl v xs) (hg : wr.grownBy w' (some gg)) (hc : Cur gg w' gg) : DP R gg w w3 w' cb cc cs cy cl v xs := dp_with h (drew_grown h.drew hg hc (by have := h.lt; omega))
theorem dp_res {α : Type} {R : Rep (List α)} {gg cb : Nat} {w w3 wr : World} {cc cs cy cl : Int} {v : Value} {xs : List α} (h : DP R gg w w3 wr cb cc cs cy cl v xs) : wr.heap[w.heap.size]? = some (.cells #[.int .i64 0, .int .i64 0, .int .i64 0, .int .i64 0] 25 (0, 0)) := by
  have hl := h.lt
  exact (h.drew.chg.block _ (by omega) (by omega)).trans h.res
theorem dp_box {α : Type} {R : Rep (List α)} {gg cb : Nat} {w w3 wr : World} {cc cs cy cl : Int} {v : Value} {xs : List α} (h : DP R gg w w3 wr cb cc cs cy cl v xs) : wr.heap[cb]? = some (.cells #[.int .i64 cc, .int .i64 cs, .int .i64 cy, .int .i64 cl] 25 (0, 0)) := by
  have hl := h.lt
  exact (h.drew.chg.block _ (by omega) (by omega)).trans h.box
theorem dp_end {α : Type} {R : Rep (List α)} {gg cb : Nat} {w w3 wr W : World} {cc cs cy cl : Int} {v : Value} {xs : List α} (h : DP R gg w w3 wr cb cc cs cy cl v xs) (c : Chg (fun b => b = w.heap.size) wr W) : R.own W (rng w3.heap.size wr.heap.size) [v] xs ∧ Below w.heap.size w W := by
  have hl := h.lt
  have h1 := h.drew.chg.below h.bel (fun k hk => by omega) (by omega)
  exact ⟨own_chg h.drew.own c (fun j hj e => by have := hj.1; omega), c.below h1 (fun k hk => by omega) h1.size⟩
theorem own_one0 {w : World} {S : Foot} : opR.own w S [.int .i64 1, .int .i64 0, .int .i64 0, .int .i64 0] (1, 0, 0, 0) := own_op (u := (1, 0, 0, 0)) ⟨small64 (x := 1) (by omega) (by omega), small64 (x := 0) (by omega) (by omega), small64 (x := 0) (by omega) (by omega), small64 (x := 0) (by omega) (by omega)⟩
theorem drew_ops {B g : Nat} {w w' : World} {a : Option Addr} {cap : Nat} {xs : List OpD} {S : Foot} (h : opsR.own w' S [.slice a xs.length cap] xs) : SlRd opR w' a xs := ops_rd h
set_option maxRecDepth 20000 in
set_option maxHeartbeats 8000000 in
theorem drawProgramCode_any (a9 : Option Addr) (len cap9 : Nat) (zs : List Int) (w : World) (hr : Row8 w a9 len zs) :
    Calls Tryz.prog 5 #[.slice a9 len cap9] w fun e w' => ProgP w e w' := by
  obtain ⟨i0, hi, hz0, hz1, hz2⟩ := info_parts Tryz.infoOpD
  have X := heap_at w (.cells #[.int .i64 0, .int .i64 0, .int .i64 0, .int .i64 0] 25)
  have B := box_below w (.cells #[.int .i64 0, .int .i64 0, .int .i64 0, .int .i64 0] 25)
  have hr0 := row8_boxP hr (.cells #[.int .i64 0, .int .i64 0, .int .i64 0, .int .i64 0] 25)
  have e0 : (w.alloc (.cells #[.int .i64 0, .int .i64 0, .int .i64 0, .int .i64 0] 25)).heap.size ≥ w.heap.size + 1 := by simp
  go_enter Tryz.func5, Tryz.ntmps5
  go_wp2_with fail
  generalize w.alloc (.cells #[.int .i64 0, .int .i64 0, .int .i64 0, .int .i64 0] 25) = W0 at X B hr0 e0 ⊢
  refine (l1New_any _ _ _ zs _ hr0).mono ?_
  rintro e w1 ⟨rfl, hc1, hb1⟩
  replace X := row_keep hb1 X
  replace B := below_step B hb1
  have hcl := cur_lt hc1
  generalize hgg : W0.heap.size = gg at hc1 e0 hcl ⊢
  have HX : Hid _ := And.intro X B
  clear hb1 hr0 hr X B hgg
  go_wp2_with fail
  refine (l2DrawAny_any gg gg w1 hc1).mono ?_
  rintro e w2 ⟨cc, cs, cy, cl, rfl, hc2, hg2⟩
  obtain ⟨X, B⟩ := HX.out
  have ch2 := chg_grown (S := fun b => b = gg) hg2 rfl
  have z2 := ch2.size
  have X3 := heap_on (.cells #[.int .i64 cc, .int .i64 cs, .int .i64 cy, .int .i64 cl] 25) ((ch2.block _ (Array.getElem?_eq_some_iff.1 X).1 (by omega)).trans X)
  have Y3 := heap_at w2 (.cells #[.int .i64 cc, .int .i64 cs, .int .i64 cy, .int .i64 cl] 25)
  have B3 := below_step (ch2.below B (fun k hk => by omega) (by omega)) (box_below w2 (.cells #[.int .i64 cc, .int .i64 cs, .int .i64 cy, .int .i64 cl] 25))
  have C3 := cur_alloc hc2 (.cells #[.int .i64 cc, .int .i64 cs, .int .i64 cy, .int .i64 cl] 25)
  have z3 : w2.heap.size < (w2.alloc (.cells #[.int .i64 cc, .int .i64 cs, .int .i64 cy, .int .i64 cl] 25)).heap.size := by simp
  have HH : Hid _ := And.intro X3 (And.intro Y3 (And.intro B3 z3))
  clear X B HX ch2 hc1 hc2 hg2 X3 Y3 B3 z3
  go_wp2_with fail
  generalize w2.alloc (.cells #[.int .i64 cc, .int .i64 cs, .int .i64 cy, .int .i64 cl] 25) = W3 at HH C3 ⊢
  refine (l11DrawOps_any gg gg 4 8 W3 C3 (by omega) (by omega) (by omega) (by omega)).mono ?_
  rintro e w4 ⟨xs, a, cap, rfl, hxs8, D4⟩
  obtain ⟨X3, Y3, B3, z3⟩ := HH.out
  generalize w2.heap.size = cb at Y3 z3 z2 ⊢
  have D : DP opsR gg w W3 w4 cb cc cs cy cl (.slice a xs.length cap) xs := ⟨D4, X3, Y3, B3, by omega, by omega, z3⟩
  clear D4 X3 Y3 B3 HH C3 z2 z3 e0 hcl
  have hxs : xs.length ≤ 8 := by omega
  clear hxs8
  have C := D.drew.cur
  go_wp2_with fail
  refine (l1Once_small gg gg 4 _ C (by omega) (by omega)).mono ?_
  rintro e w5 ⟨b, rfl, C5, g5⟩
  replace D := dp_grown D g5 C5
  clear C C5 g5
  cases b
  · skip
    have C := D.drew.cur
    go_wp2_with fail
    refine (l1Once_small gg gg 20 _ C (by omega) (by omega)).mono ?_
    rintro e wt ⟨b2, rfl, Ct, gt⟩
    replace D := dp_grown D gt Ct
    clear C Ct gt
    cases b2
    · skip
      obtain ⟨q0, q1, q2, q3⟩ := cells_4 (dp_box D)
      obtain ⟨x0, x1, x2, x3⟩ := cells_4 (dp_res D)
      obtain ⟨f0, f1, f2, f3⟩ := froz_4 (dp_res D)
      have HD : Hid _ := D
      have hlt := D.lt
      clear D
      go_wp2
      obtain ⟨r0, r1, r2, r3⟩ := cells_4 (put_4p (y0 := .int .i64 cc) (y1 := .int .i64 cs) (y2 := .int .i64 cy) (y3 := .int .i64 cl) (dp_res HD.out))
      have c7 : Chg (fun b => b = w.heap.size) wt ((((wt.setCell ⟨w.heap.size, 0, none⟩ (.int .i64 cc)).setCell ⟨w.heap.size, 1, none⟩ (.int .i64 cs)).setCell ⟨w.heap.size, 2, none⟩ (.int .i64 cy)).setCell ⟨w.heap.size, 3, none⟩ (.int .i64 cl)) := (((chg_set).trans chg_set).trans chg_set).trans chg_set
      obtain ⟨k1, k2⟩ := dp_end HD.out c7
      exact bodyPost_ret (v := .tuple #[.agg #[.int .i64 cc, .int .i64 cs, .int .i64 cy, .int .i64 cl], .slice a xs.length cap]) (by simp [results, Tryz.results5, go_sem, r0, r1, r2, r3]) rfl ⟨cc, cs, cy, cl, xs, a, cap, rfl, by omega, ops_rd k1, k2⟩
    · have E := dp_with D (drew_none (R := opR) (e := 42) D.drew.cur D.drew.chg)
      have HE : Hid _ := E
      clear E D hxs
      go_wp2
      go_loopw [6] (fun v wr => ∃ (xs : List OpD) (a : Option Addr) (cap : Nat), v = .slice a xs.length cap ∧ xs.length ≤ 31 ∧ DP opsR gg w W3 wr cb cc cs cy cl (.slice a xs.length cap) xs) (fun v _ => 32 - slen v)
      case atStart => exact ⟨[], _, _, rfl, by simp, HE.out⟩
      case round =>
        clear HE
        obtain ⟨ys, ya, yc, rfl, hxs, D⟩ := hrel
        have C := D.drew.cur
        go_wp2_with fail
        refine (l1Below_small gg gg 2 _ C (by omega) (by omega)).mono ?_
        rintro e wu ⟨z, rfl, z0, z1, Cu, gu⟩
        replace D := dp_grown D gu Cu
        clear C Cu gu
        by_cases hlt : (ys.length : Int) < 30 + z
        · have HD : Hid _ := D
          have hgw : gg < W3.heap.size := by have := D.lt; omega
          clear D
          have HY : Hid (DrewR opR gg gg wu wu [.int .i64 1, .int .i64 0, .int .i64 0, .int .i64 0] (1, 0, 0, 0)) := ⟨own_one0, HD.out.drew.cur, Chg.refl _ _⟩
          go_wp2_with (at_builtin; refine wpList_drew rfl _ _ 26 rfl opR 42 i0 _ 32 Tryz.underlying26 hi hz0 hz1 hz2 rfl (by decide) (by decide) gg gg _ ys [.int .i64 1, .int .i64 0, .int .i64 0, .int .i64 0] (1, 0, 0, 0) _ rfl _ rfl (by simp) HD.out.drew HY.out hgw (one_4 _ _ _ _) (by unfold maxLen; omega) (by omega) ?_)
          intro g' cap' wv Dv
          have HE : Hid _ := dp_with HD.out Dv
          clear Dv HD HY
          go_wp2
          go_roundw
          case rel => exact ⟨ys ++ [(1, 0, 0, 0)], _, _, by rw [List.length_append]; rfl, by rw [List.length_append]; show ys.length + 1 ≤ 31; omega, by rw [List.length_append]; exact HE.out⟩
          case measure => simp [slen]; omega
        · skip
          obtain ⟨q0, q1, q2, q3⟩ := cells_4 (dp_box D)
          obtain ⟨x0, x1, x2, x3⟩ := cells_4 (dp_res D)
          obtain ⟨f0, f1, f2, f3⟩ := froz_4 (dp_res D)
          have HD : Hid _ := D
          have hlt := D.lt
          clear D
          go_wp2
          obtain ⟨r0, r1, r2, r3⟩ := cells_4 (put_4p (y0 := .int .i64 cc) (y1 := .int .i64 cs) (y2 := .int .i64 cy) (y3 := .int .i64 cl) (dp_res HD.out))
          have c7 : Chg (fun b => b = w.heap.size) wu ((((wu.setCell ⟨w.heap.size, 0, none⟩ (.int .i64 cc)).setCell ⟨w.heap.size, 1, none⟩ (.int .i64 cs)).setCell ⟨w.heap.size, 2, none⟩ (.int .i64 cy)).setCell ⟨w.heap.size, 3, none⟩ (.int .i64 cl)) := (((chg_set).trans chg_set).trans chg_set).trans chg_set
          obtain ⟨k1, k2⟩ := dp_end HD.out c7
          exact bodyPost_ret (v := .tuple #[.agg #[.int .i64 cc, .int .i64 cs, .int .i64 cy, .int .i64 cl], .slice ya ys.length yc]) (by simp [results, Tryz.results5, go_sem, r0, r1, r2, r3]) rfl ⟨cc, cs, cy, cl, ys, ya, yc, rfl, by omega, ops_rd k1, k2⟩
  · have C := D.drew.cur
    have HD : Hid _ := D
    have hgw : gg < W3.heap.size := by have := D.lt; omega
    clear D
    go_wp2_with fail
    refine (l8DrawAny_any gg gg _ C).mono ?_
    rintro e w6 ⟨ok, oa, ox, oy, rfl, hsm, C6, g6⟩
    have HY : Hid _ := drew_op hsm C6 g6
    clear C C6 g6
    go_wp2_with (at_builtin; refine wpList_drew rfl _ _ 26 rfl opR 42 i0 _ 32 Tryz.underlying26 hi hz0 hz1 hz2 rfl (by decide) (by decide) gg gg _ xs [.int .i64 ok, .int .i64 oa, .int .i64 ox, .int .i64 oy] (ok, oa, ox, oy) _ rfl _ rfl (by simp) HD.out.drew HY.out hgw (one_4 _ _ _ _) (by unfold maxLen; omega) (by omega) ?_)
    intro g' cap' w7 D7
    have D := dp_with HD.out D7
    have hxs2 : (xs ++ [(ok, oa, ox, oy)]).length ≤ 9 := by rw [List.length_append]; show xs.length + 1 ≤ 9; omega
    replace D : DP opsR gg w W3 w7 cb cc cs cy cl (.slice (some ⟨g', 0, none⟩) (xs ++ [(ok, oa, ox, oy)]).length cap') (xs ++ [(ok, oa, ox, oy)]) := by rw [List.length_append]; exact D
    rw [show xs.length + 1 = (xs ++ [(ok, oa, ox, oy)]).length by rw [List.length_append]; rfl]
    clear D7 HD HY hxs
    have hxs := hxs2
    clear hxs2
    generalize xs ++ [(ok, oa, ox, oy)] = xs at D hxs ⊢
    generalize (some (⟨g', 0, none⟩ : Addr)) = a at D ⊢
    generalize cap' = cap at D ⊢
    have C := D.drew.cur
    go_wp2_with fail
    refine (l1Once_small gg gg 20 _ C (by omega) (by omega)).mono ?_
    rintro e wt ⟨b2, rfl, Ct, gt⟩
    replace D := dp_grown D gt Ct
    clear C Ct gt
    cases b2
    · skip
      obtain ⟨q0, q1, q2, q3⟩ := cells_4 (dp_box D)
      obtain ⟨x0, x1, x2, x3⟩ := cells_4 (dp_res D)
      obtain ⟨f0, f1, f2, f3⟩ := froz_4 (dp_res D)
      have HD : Hid _ := D
      have hlt := D.lt
      clear D
      go_wp2
      obtain ⟨r0, r1, r2, r3⟩ := cells_4 (put_4p (y0 := .int .i64 cc) (y1 := .int .i64 cs) (y2 := .int .i64 cy) (y3 := .int .i64 cl) (dp_res HD.out))
      have c7 : Chg (fun b => b = w.heap.size) wt ((((wt.setCell ⟨w.heap.size, 0, none⟩ (.int .i64 cc)).setCell ⟨w.heap.size, 1, none⟩ (.int .i64 cs)).setCell ⟨w.heap.size, 2, none⟩ (.int .i64 cy)).setCell ⟨w.heap.size, 3, none⟩ (.int .i64 cl)) := (((chg_set).trans chg_set).trans chg_set).trans chg_set
      obtain ⟨k1, k2⟩ := dp_end HD.out c7
      exact bodyPost_ret (v := .tuple #[.agg #[.int .i64 cc, .int .i64 cs, .int .i64 cy, .int .i64 cl], .slice a xs.length cap]) (by simp [results, Tryz.results5, go_sem, r0, r1, r2, r3]) rfl ⟨cc, cs, cy, cl, xs, a, cap, rfl, by omega, ops_rd k1, k2⟩
    · have E := dp_with D (drew_none (R := opR) (e := 42) D.drew.cur D.drew.chg)
      have HE : Hid _ := E
      clear E D hxs
      go_wp2
      go_loopw [6] (fun v wr => ∃ (xs : List OpD) (a : Option Addr) (cap : Nat), v = .slice a xs.length cap ∧ xs.length ≤ 31 ∧ DP opsR gg w W3 wr cb cc cs cy cl (.slice a xs.length cap) xs) (fun v _ => 32 - slen v)
      case atStart => exact ⟨[], _, _, rfl, by simp, HE.out⟩
      case round =>
        clear HE
        obtain ⟨ys, ya, yc, rfl, hxs, D⟩ := hrel
        have C := D.drew.cur
        go_wp2_with fail
        refine (l1Below_small gg gg 2 _ C (by omega) (by omega)).mono ?_
        rintro e wu ⟨z, rfl, z0, z1, Cu, gu⟩
        replace D := dp_grown D gu Cu
        clear C Cu gu
        by_cases hlt : (ys.length : Int) < 30 + z
        · have HD : Hid _ := D
          have hgw : gg < W3.heap.size := by have := D.lt; omega
          clear D
          have HY : Hid (DrewR opR gg gg wu wu [.int .i64 1, .int .i64 0, .int .i64 0, .int .i64 0] (1, 0, 0, 0)) := ⟨own_one0, HD.out.drew.cur, Chg.refl _ _⟩
          go_wp2_with (at_builtin; refine wpList_drew rfl _ _ 26 rfl opR 42 i0 _ 32 Tryz.underlying26 hi hz0 hz1 hz2 rfl (by decide) (by decide) gg gg _ ys [.int .i64 1, .int .i64 0, .int .i64 0, .int .i64 0] (1, 0, 0, 0) _ rfl _ rfl (by simp) HD.out.drew HY.out hgw (one_4 _ _ _ _) (by unfold maxLen; omega) (by omega) ?_)
          intro g' cap' wv Dv
          have HE : Hid _ := dp_with HD.out Dv
          clear Dv HD HY
          go_wp2
          go_roundw
          case rel => exact ⟨ys ++ [(1, 0, 0, 0)], _, _, by rw [List.length_append]; rfl, by rw [List.length_append]; show ys.length + 1 ≤ 31; omega, by rw [List.length_append]; exact HE.out⟩
          case measure => simp [slen]; omega
        · skip
          obtain ⟨q0, q1, q2, q3⟩ := cells_4 (dp_box D)
          obtain ⟨x0, x1, x2, x3⟩ := cells_4 (dp_res D)
          obtain ⟨f0, f1, f2, f3⟩ := froz_4 (dp_res D)
          have HD : Hid _ := D
          have hlt := D.lt
          clear D
          go_wp2
          obtain ⟨r0, r1, r2, r3⟩ := cells_4 (put_4p (y0 := .int .i64 cc) (y1 := .int .i64 cs) (y2 := .int .i64 cy) (y3 := .int .i64 cl) (dp_res HD.out))
          have c7 : Chg (fun b => b = w.heap.size) wu ((((wu.setCell ⟨w.heap.size, 0, none⟩ (.int .i64 cc)).setCell ⟨w.heap.size, 1, none⟩ (.int .i64 cs)).setCell ⟨w.heap.size, 2, none⟩ (.int .i64 cy)).setCell ⟨w.heap.size, 3, none⟩ (.int .i64 cl)) := (((chg_set).trans chg_set).trans chg_set).trans chg_set
          obtain ⟨k1, k2⟩ := dp_end HD.out c7
          exact bodyPost_ret (v := .tuple #[.agg #[.int .i64 cc, .int .i64 cs, .int .i64 cy, .int .i64 cl], .slice ya ys.length yc]) (by simp [results, Tryz.results5, go_sem, r0, r1, r2, r3]) rfl ⟨cc, cs, cy, cl, ys, ya, yc, rfl, by omega, ops_rd k1, k2⟩
set_option maxHeartbeats 1000000 in
theorem drawTouches_any (a9 : Option Addr) (len cap9 : Nat) (zs : List Int) (w : World) (hr : Row8 w a9 len zs) :
    Calls Tryz.prog 7 #[.slice a9 len cap9] w fun e w' => ∃ (xs : List OpD) (a : Option Addr) (cap : Nat), e = .returned (.slice a xs.length cap) ∧ xs.length ≤ 31 ∧ SlRd opR w' a xs ∧ Below w.heap.size w w' := by
  have H := drawProgramCode_any a9 len cap9 zs w hr
  clear hr
  go_enter Tryz.func7, Tryz.ntmps7
  go_wp2_with fail
  refine H.mono ?_
  rintro e w1 ⟨cc, cs, cy, cl, xs, a, cap, rfl, hx, hrd, hb⟩
  have HE : Hid (∀ o, SlRd opR (w1.alloc o) a xs ∧ Below w.heap.size w (w1.alloc o)) := fun o => ⟨slrd_next hrd (box_below _ _), below_step hb (box_below _ _)⟩
  clear H hrd hb
  go_wp2
  go_ret
  exact ⟨xs, a, cap, rfl, hx, (HE.out _).1, (HE.out _).2⟩
end Go.Proofs.YteblffhbennpnaaGreatDoor
