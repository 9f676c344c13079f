/- The draws of an entry of the book: some entry is drawn, in new memory, and nothing that was there turns but the cursor. Conditions: the bytes are at most 2^61. -/
import Derived.Test.YtlbolnbchijknaaDrawBox
import Derived.Test.YtlbolnbchijknaaForgot
import Derived.Test.YtlbolnbchijknaaOwnedE
namespace Go.Proofs.Ytlbolnbchijknaa
open Go.ChangeShapes Go.WideShapes Go.ChangeAt Go.RowKit
set_option linter.unusedVariables false

abbrev DE (B g : Nat) (w wr : World) (rb mb : Nat) (f0 f1 : Int) (f2 : Bool) (f3 f4 f5 f6 : Int) (d : List Int) (av : Option Addr) (cv : Nat) : Prop :=
  DC entR 26 B g w wr rb mb [.int .i64 0, .int .i64 0, .bool false, .int .i64 0, .int .i64 0, .int .i64 0, .int .i64 0, .slice none 0 0] [.int .i64 f0, .int .i64 f1, .bool f2, .int .i64 f3, .int .i64 f4, .int .i64 f5, .int .i64 f6, .slice av d.length cv] (f0, f1, f2, f3, f4, f5, f6, d)
theorem de_set0 {B g rb mb : Nat} {w wr : World} {f0 f1 f3 f4 f5 f6 : Int} {f2 : Bool} {d : List Int} {av : Option Addr} {cv : Nat} {x : Int} (h : DE B g w wr rb mb f0 f1 f2 f3 f4 f5 f6 d av cv) (hx : In64 x) : DE B g w (wr.setCell ⟨mb, 0, none⟩ (.int .i64 x)) rb mb x f1 f2 f3 f4 f5 f6 d av cv := by
  obtain ⟨v, e, n0, n1, n3, n4, n5, n6, -⟩ := ent_own h.own
  exact dc_put h rfl (own_ent hx n1 n3 n4 n5 n6 (ent_intsd h.own))
theorem de_set1 {B g rb mb : Nat} {w wr : World} {f0 f1 f3 f4 f5 f6 : Int} {f2 : Bool} {d : List Int} {av : Option Addr} {cv : Nat} {x : Int} (h : DE B g w wr rb mb f0 f1 f2 f3 f4 f5 f6 d av cv) (hx : In64 x) : DE B g w (wr.setCell ⟨mb, 1, none⟩ (.int .i64 x)) rb mb f0 x f2 f3 f4 f5 f6 d av cv := by
  obtain ⟨v, e, n0, n1, n3, n4, n5, n6, -⟩ := ent_own h.own
  exact dc_put h rfl (own_ent n0 hx n3 n4 n5 n6 (ent_intsd h.own))
theorem de_set2 {B g rb mb : Nat} {w wr : World} {f0 f1 f3 f4 f5 f6 : Int} {f2 : Bool} {d : List Int} {av : Option Addr} {cv : Nat} {x : Bool} (h : DE B g w wr rb mb f0 f1 f2 f3 f4 f5 f6 d av cv) : DE B g w (wr.setCell ⟨mb, 2, none⟩ (.bool x)) rb mb f0 f1 x f3 f4 f5 f6 d av cv := by
  obtain ⟨v, e, n0, n1, n3, n4, n5, n6, -⟩ := ent_own h.own
  exact dc_put h rfl (own_ent n0 n1 n3 n4 n5 n6 (ent_intsd h.own))
theorem de_set3 {B g rb mb : Nat} {w wr : World} {f0 f1 f3 f4 f5 f6 : Int} {f2 : Bool} {d : List Int} {av : Option Addr} {cv : Nat} {x : Int} (h : DE B g w wr rb mb f0 f1 f2 f3 f4 f5 f6 d av cv) (hx : In64 x) : DE B g w (wr.setCell ⟨mb, 3, none⟩ (.int .i64 x)) rb mb f0 f1 f2 x f4 f5 f6 d av cv := by
  obtain ⟨v, e, n0, n1, n3, n4, n5, n6, -⟩ := ent_own h.own
  exact dc_put h rfl (own_ent n0 n1 hx n4 n5 n6 (ent_intsd h.own))
theorem de_set4 {B g rb mb : Nat} {w wr : World} {f0 f1 f3 f4 f5 f6 : Int} {f2 : Bool} {d : List Int} {av : Option Addr} {cv : Nat} {x : Int} (h : DE B g w wr rb mb f0 f1 f2 f3 f4 f5 f6 d av cv) (hx : In64 x) : DE B g w (wr.setCell ⟨mb, 4, none⟩ (.int .i64 x)) rb mb f0 f1 f2 f3 x f5 f6 d av cv := by
  obtain ⟨v, e, n0, n1, n3, n4, n5, n6, -⟩ := ent_own h.own
  exact dc_put h rfl (own_ent n0 n1 n3 hx n5 n6 (ent_intsd h.own))
theorem de_set5 {B g rb mb : Nat} {w wr : World} {f0 f1 f3 f4 f5 f6 : Int} {f2 : Bool} {d : List Int} {av : Option Addr} {cv : Nat} {x : Int} (h : DE B g w wr rb mb f0 f1 f2 f3 f4 f5 f6 d av cv) (hx : In64 x) : DE B g w (wr.setCell ⟨mb, 5, none⟩ (.int .i64 x)) rb mb f0 f1 f2 f3 f4 x f6 d av cv := by
  obtain ⟨v, e, n0, n1, n3, n4, n5, n6, -⟩ := ent_own h.own
  exact dc_put h rfl (own_ent n0 n1 n3 n4 hx n6 (ent_intsd h.own))
theorem de_set6 {B g rb mb : Nat} {w wr : World} {f0 f1 f3 f4 f5 f6 : Int} {f2 : Bool} {d : List Int} {av : Option Addr} {cv : Nat} {x : Int} (h : DE B g w wr rb mb f0 f1 f2 f3 f4 f5 f6 d av cv) (hx : In64 x) : DE B g w (wr.setCell ⟨mb, 6, none⟩ (.int .i64 x)) rb mb f0 f1 f2 f3 f4 f5 x d av cv := by
  obtain ⟨v, e, n0, n1, n3, n4, n5, n6, -⟩ := ent_own h.own
  exact dc_put h rfl (own_ent n0 n1 n3 n4 n5 hx (ent_intsd h.own))
theorem de_data {B g rb mb : Nat} {w wr : World} {f0 f1 f3 f4 f5 f6 : Int} {f2 : Bool} {d d2 : List Int} {av a2 : Option Addr} {cv c2 : Nat} (h : DE B g w wr rb mb f0 f1 f2 f3 f4 f5 f6 d av cv) (ho : intsR.own wr (fun k => rb < k ∧ k < wr.heap.size ∧ k ≠ mb) [.slice a2 d2.length c2] d2) : DE B g w (wr.setCell ⟨mb, 7, none⟩ (.slice a2 d2.length c2)) rb mb f0 f1 f2 f3 f4 f5 f6 d2 a2 c2 := by
  obtain ⟨v, e, n0, n1, n3, n4, n5, n6, -⟩ := ent_own h.own
  exact dc_put h rfl (own_ent n0 n1 n3 n4 n5 n6 ho)
/-- What the draw of an entry leaves. -/
def DrawEP (B g : Nat) (w : World) (e : Ending) (w' : World) : Prop :=
  ∃ f0 f1 f2 f3 f4 f5 f6 d av cv, e = .returned (.agg #[.int .i64 f0, .int .i64 f1, .bool f2, .int .i64 f3, .int .i64 f4, .int .i64 f5, .int .i64 f6, .slice av d.length cv]) ∧ d.length ≤ 3 ∧ DrewR entR B g w w' [.int .i64 f0, .int .i64 f1, .bool f2, .int .i64 f3, .int .i64 f4, .int .i64 f5, .int .i64 f6, .slice av d.length cv] (f0, f1, f2, f3, f4, f5, f6, d)
theorem cur_belowE {B g : Nat} {w w' : World} (h : Cur B w g) (hb : Below w.heap.size w w') : Cur B w' g := cur_chg (S := fun _ => False) h ⟨hb.os, hb.tape, hb.output, hb.size, fun k hk _ => hb.block k hk⟩ (fun k hk => hk.elim) (Nat.le_trans h.1 (Nat.le_of_lt (cur_lt h)))
theorem l10Draw_end {B g rb mb : Nat} {w wr : World} {f0 f1 f3 f4 f5 f6 : Int} {f2 : Bool} {d : List Int} {av : Option Addr} {cv : Nat} {a : Act} (h : DE B g w wr rb mb f0 f1 f2 f3 f4 f5 f6 d av cv) (hd : d.length ≤ 3) (ha : a.tmps[2]? = some (.pointer (some ⟨rb, 0, none⟩))) (hdf : a.defers = []) :
    bodyPost Try.prog Try.f52 (fun e w' => DrawEP B g w e w') Exit.ret a ((((((((wr.setCell ⟨rb, 0, none⟩ (.int .i64 f0)).setCell ⟨rb, 1, none⟩ (.int .i64 f1)).setCell ⟨rb, 2, none⟩ (.bool f2)).setCell ⟨rb, 3, none⟩ (.int .i64 f3)).setCell ⟨rb, 4, none⟩ (.int .i64 f4)).setCell ⟨rb, 5, none⟩ (.int .i64 f5)).setCell ⟨rb, 6, none⟩ (.int .i64 f6)).setCell ⟨rb, 7, none⟩ (.slice av d.length cv)) := by
  obtain ⟨r0, r1, r2, r3, r4, r5, r6, r7⟩ := cells_8 (put_8 (y0 := .int .i64 f0) (y1 := .int .i64 f1) (y2 := .bool f2) (y3 := .int .i64 f3) (y4 := .int .i64 f4) (y5 := .int .i64 f5) (y6 := .int .i64 f6) (y7 := .slice av d.length cv) h.res)
  have c7 : Chg (fun b => b = rb) wr ((((((((wr.setCell ⟨rb, 0, none⟩ (.int .i64 f0)).setCell ⟨rb, 1, none⟩ (.int .i64 f1)).setCell ⟨rb, 2, none⟩ (.bool f2)).setCell ⟨rb, 3, none⟩ (.int .i64 f3)).setCell ⟨rb, 4, none⟩ (.int .i64 f4)).setCell ⟨rb, 5, none⟩ (.int .i64 f5)).setCell ⟨rb, 6, none⟩ (.int .i64 f6)).setCell ⟨rb, 7, none⟩ (.slice av d.length cv)) := (((((((chg_set).trans chg_set).trans chg_set).trans chg_set).trans chg_set).trans chg_set).trans chg_set).trans chg_set
  generalize ((((((((wr.setCell ⟨rb, 0, none⟩ (.int .i64 f0)).setCell ⟨rb, 1, none⟩ (.int .i64 f1)).setCell ⟨rb, 2, none⟩ (.bool f2)).setCell ⟨rb, 3, none⟩ (.int .i64 f3)).setCell ⟨rb, 4, none⟩ (.int .i64 f4)).setCell ⟨rb, 5, none⟩ (.int .i64 f5)).setCell ⟨rb, 6, none⟩ (.int .i64 f6)).setCell ⟨rb, 7, none⟩ (.slice av d.length cv)) = W at r0 r1 r2 r3 r4 r5 r6 r7 c7 ⊢
  exact bodyPost_ret (v := .agg #[.int .i64 f0, .int .i64 f1, .bool f2, .int .i64 f3, .int .i64 f4, .int .i64 f5, .int .i64 f6, .slice av d.length cv]) (by simp [results, Try.results52, go_sem, ha, r0, r1, r2, r3, r4, r5, r6, r7]) hdf ⟨f0, f1, f2, f3, f4, f5, f6, d, av, cv, rfl, hd, dc_done h c7⟩
set_option maxRecDepth 20000 in
set_option maxHeartbeats 8000000 in
theorem l10Draw_any (B g : Nat) (w : World) (hcur : Cur B w g) :
    Calls Try.prog 52 #[.pointer (some ⟨g, 0, none⟩)] w fun e w' => DrawEP B g w e w' := by
  have hgw := cur_lt hcur
  have hBg := hcur.1
  have X0 := heap_at w (.cells #[.int .i64 0, .int .i64 0, .bool false, .int .i64 0, .int .i64 0, .int .i64 0, .int .i64 0, .slice none 0 0] 26)
  have G0 := box_below w (.cells #[.int .i64 0, .int .i64 0, .bool false, .int .i64 0, .int .i64 0, .int .i64 0, .int .i64 0, .slice none 0 0] 26)
  have C0 := cur_alloc hcur (.cells #[.int .i64 0, .int .i64 0, .bool false, .int .i64 0, .int .i64 0, .int .i64 0, .int .i64 0, .slice none 0 0] 26)
  go_enter Try.func52, Try.ntmps52
  go_wp2_with fail
  generalize w.alloc (.cells #[.int .i64 0, .int .i64 0, .bool false, .int .i64 0, .int .i64 0, .int .i64 0, .int .i64 0, .slice none 0 0] 26) = W0 at X0 G0 C0 ⊢
  refine (specNewEntry_any _).mono ?_
  rintro e w1 ⟨rfl, b1⟩
  replace X0 := row_keep b1 X0
  replace C0 := cur_belowE C0 b1
  replace G0 := below_step G0 b1
  clear b1
  go_wp2_with fail
  have hl1 := (Array.getElem?_eq_some_iff.1 X0).1
  have D := dc_of (db_new (R := entR) (t := 26) (cs := [.int .i64 (-1), .int .i64 0, .bool false, .int .i64 0, .int .i64 0, .int .i64 0, .int .i64 0, .slice none 0 0]) (x := newE) (chg_below G0) C0 X0 (own_ent i64_m i64_0 i64_0 i64_0 i64_0 i64_0 (own_zero _ _)) (Nat.le_refl _) (by omega) hgw)
  generalize w1.alloc (.cells #[.int .i64 (-1), .int .i64 0, .bool false, .int .i64 0, .int .i64 0, .int .i64 0, .int .i64 0, .slice none 0 0] 26) = W1 at D ⊢
  generalize w1.heap.size = mb at D ⊢
  clear X0 G0 C0 hl1
  replace D : DE B g w W1 w.heap.size mb (-1) 0 false 0 0 0 0 [] none 0 := D
  have hd0 : ([] : List Int).length ≤ 3 := by decide
  have C := D.cur
  refine (l1Once_small B g 2 _ C (by omega) (by omega)).mono ?_
  rintro e v1 ⟨b, rfl, C1, g1⟩
  replace D := dc_grown D g1 C1
  clear C g1 C1
  cases b
  · skip
    obtain ⟨m0, m1, m2, m3, m4, m5, m6, m7⟩ := cells_8 D.box
    obtain ⟨s0, s1, s2, s3, s4, s5, s6, s7⟩ := froz_8 D.box
    obtain ⟨r0, r1, r2, r3, r4, r5, r6, r7⟩ := cells_8 D.res
    obtain ⟨q0, q1, q2, q3, q4, q5, q6, q7⟩ := froz_8 D.res
    have hlt := D.lt
    have hlt2 : ¬ w.heap.size = mb := by omega
    have hlt3 : ¬ mb = w.heap.size := by omega
    go_wp2_with fail
    clear m0 m1 m2 m3 m4 m5 m6 m7 s0 s1 s2 s3 s4 s5 s6 s7 r0 r1 r2 r3 r4 r5 r6 r7 q0 q1 q2 q3 q4 q5 q6 q7 hlt hlt2 hlt3
    have C := D.cur
    refine (l1Below_small B g 16 _ C (by omega) (by omega)).mono ?_
    rintro e v2 ⟨y, rfl, y0, y1, C1, g1⟩
    replace D := dc_grown D g1 C1
    clear C g1 C1
    have hy : In64 y := small64 (by omega) (by omega)
    have HN : Hid _ := de_set1 D hy
    obtain ⟨m0, m1, m2, m3, m4, m5, m6, m7⟩ := cells_8 D.box
    obtain ⟨s0, s1, s2, s3, s4, s5, s6, s7⟩ := froz_8 D.box
    obtain ⟨r0, r1, r2, r3, r4, r5, r6, r7⟩ := cells_8 D.res
    obtain ⟨q0, q1, q2, q3, q4, q5, q6, q7⟩ := froz_8 D.res
    have hlt := D.lt
    have hlt2 : ¬ w.heap.size = mb := by omega
    have hlt3 : ¬ mb = w.heap.size := by omega
    clear D
    go_wp2_with fail
    have D := HN.out
    clear HN m0 m1 m2 m3 m4 m5 m6 m7 s0 s1 s2 s3 s4 s5 s6 s7 r0 r1 r2 r3 r4 r5 r6 r7 q0 q1 q2 q3 q4 q5 q6 q7 hlt hlt2 hlt3
    have C := D.cur
    refine (l1Once_small B g 2 _ C (by omega) (by omega)).mono ?_
    rintro e v3 ⟨b, rfl, C1, g1⟩
    replace D := dc_grown D g1 C1
    clear C g1 C1
    cases b
    · have hd := hd0
      have HN : Hid _ := D
      have HE : Hid (∀ a : Act, _ → _ → _) := fun a ha hdf => l10Draw_end (a := a) HN.out hd ha hdf
      obtain ⟨m0, m1, m2, m3, m4, m5, m6, m7⟩ := cells_8 D.box
      obtain ⟨s0, s1, s2, s3, s4, s5, s6, s7⟩ := froz_8 D.box
      obtain ⟨r0, r1, r2, r3, r4, r5, r6, r7⟩ := cells_8 D.res
      obtain ⟨q0, q1, q2, q3, q4, q5, q6, q7⟩ := froz_8 D.res
      have hlt := D.lt
      have hlt2 : ¬ w.heap.size = mb := by omega
      have hlt3 : ¬ mb = w.heap.size := by omega
      clear D
      go_wp2
      exact HE.out _ rfl rfl
    · skip
      have HN : Hid _ := de_set2 (x := true) D
      obtain ⟨m0, m1, m2, m3, m4, m5, m6, m7⟩ := cells_8 D.box
      obtain ⟨s0, s1, s2, s3, s4, s5, s6, s7⟩ := froz_8 D.box
      obtain ⟨r0, r1, r2, r3, r4, r5, r6, r7⟩ := cells_8 D.res
      obtain ⟨q0, q1, q2, q3, q4, q5, q6, q7⟩ := froz_8 D.res
      have hlt := D.lt
      have hlt2 : ¬ w.heap.size = mb := by omega
      have hlt3 : ¬ mb = w.heap.size := by omega
      clear D
      go_wp2_with fail
      have D := HN.out
      clear HN m0 m1 m2 m3 m4 m5 m6 m7 s0 s1 s2 s3 s4 s5 s6 s7 r0 r1 r2 r3 r4 r5 r6 r7 q0 q1 q2 q3 q4 q5 q6 q7 hlt hlt2 hlt3
      have C := D.cur
      refine (l1Below_small B g 4 _ C (by omega) (by omega)).mono ?_
      rintro e v4 ⟨kd, rfl, kd0, kd1, C1, g1⟩
      replace D := dc_grown D g1 C1
      clear C g1 C1
      have hk : In64 (1 + kd) := small64 (by omega) (by omega)
      have HN : Hid _ := de_set3 D hk
      obtain ⟨m0, m1, m2, m3, m4, m5, m6, m7⟩ := cells_8 D.box
      obtain ⟨s0, s1, s2, s3, s4, s5, s6, s7⟩ := froz_8 D.box
      obtain ⟨r0, r1, r2, r3, r4, r5, r6, r7⟩ := cells_8 D.res
      obtain ⟨q0, q1, q2, q3, q4, q5, q6, q7⟩ := froz_8 D.res
      have hlt := D.lt
      have hlt2 : ¬ w.heap.size = mb := by omega
      have hlt3 : ¬ mb = w.heap.size := by omega
      clear D
      go_wp2_with fail
      have D := HN.out
      clear HN m0 m1 m2 m3 m4 m5 m6 m7 s0 s1 s2 s3 s4 s5 s6 s7 r0 r1 r2 r3 r4 r5 r6 r7 q0 q1 q2 q3 q4 q5 q6 q7 hlt hlt2 hlt3
      have C := D.cur
      refine (l1Below_small B g 4 _ C (by omega) (by omega)).mono ?_
      rintro e v5 ⟨fr, rfl, fr0, fr1, C1, g1⟩
      replace D := dc_grown D g1 C1
      clear C g1 C1
      have hfr : In64 fr := small64 (by omega) (by omega)
      have HN : Hid _ := de_set4 D hfr
      obtain ⟨m0, m1, m2, m3, m4, m5, m6, m7⟩ := cells_8 D.box
      obtain ⟨s0, s1, s2, s3, s4, s5, s6, s7⟩ := froz_8 D.box
      obtain ⟨r0, r1, r2, r3, r4, r5, r6, r7⟩ := cells_8 D.res
      obtain ⟨q0, q1, q2, q3, q4, q5, q6, q7⟩ := froz_8 D.res
      have hlt := D.lt
      have hlt2 : ¬ w.heap.size = mb := by omega
      have hlt3 : ¬ mb = w.heap.size := by omega
      clear D
      go_wp2_with fail
      have D := HN.out
      clear HN m0 m1 m2 m3 m4 m5 m6 m7 s0 s1 s2 s3 s4 s5 s6 s7 r0 r1 r2 r3 r4 r5 r6 r7 q0 q1 q2 q3 q4 q5 q6 q7 hlt hlt2 hlt3
      have C := D.cur
      refine (l1Below_small B g 4 _ C (by omega) (by omega)).mono ?_
      rintro e v6 ⟨lf, rfl, lf0, lf1, C1, g1⟩
      replace D := dc_grown D g1 C1
      clear C g1 C1
      have hlf : In64 lf := small64 (by omega) (by omega)
      have hlf1 : In64 (lf + 1) := small64 (by omega) (by omega)
      have i5 : In64 5 := small64 (by omega) (by omega)
      obtain rfl | rfl | rfl | rfl : kd = 0 ∨ kd = 1 ∨ kd = 2 ∨ kd = 3 := by omega
      · have hd := hd0
        have HN : Hid _ := de_set5 D hlf
        have HE : Hid (∀ a : Act, _ → _ → _) := fun a ha hdf => l10Draw_end (a := a) HN.out hd ha hdf
        obtain ⟨m0, m1, m2, m3, m4, m5, m6, m7⟩ := cells_8 D.box
        obtain ⟨s0, s1, s2, s3, s4, s5, s6, s7⟩ := froz_8 D.box
        obtain ⟨r0, r1, r2, r3, r4, r5, r6, r7⟩ := cells_8 D.res
        obtain ⟨q0, q1, q2, q3, q4, q5, q6, q7⟩ := froz_8 D.res
        have hlt := D.lt
        have hlt2 : ¬ w.heap.size = mb := by omega
        have hlt3 : ¬ mb = w.heap.size := by omega
        clear D
        go_wp2
        exact HE.out _ rfl rfl
      · have hd := hd0
        have HN : Hid _ := de_set5 D hlf
        have HE : Hid (∀ a : Act, _ → _ → _) := fun a ha hdf => l10Draw_end (a := a) HN.out hd ha hdf
        obtain ⟨m0, m1, m2, m3, m4, m5, m6, m7⟩ := cells_8 D.box
        obtain ⟨s0, s1, s2, s3, s4, s5, s6, s7⟩ := froz_8 D.box
        obtain ⟨r0, r1, r2, r3, r4, r5, r6, r7⟩ := cells_8 D.res
        obtain ⟨q0, q1, q2, q3, q4, q5, q6, q7⟩ := froz_8 D.res
        have hlt := D.lt
        have hlt2 : ¬ w.heap.size = mb := by omega
        have hlt3 : ¬ mb = w.heap.size := by omega
        clear D
        go_wp2
        exact HE.out _ rfl rfl
      · have hd := hd0
        have HN : Hid _ := de_set5 (de_set4 (de_set5 D hlf) i5) hlf1
        have HE : Hid (∀ a : Act, _ → _ → _) := fun a ha hdf => l10Draw_end (a := a) HN.out hd ha hdf
        obtain ⟨m0, m1, m2, m3, m4, m5, m6, m7⟩ := cells_8 D.box
        obtain ⟨s0, s1, s2, s3, s4, s5, s6, s7⟩ := froz_8 D.box
        obtain ⟨r0, r1, r2, r3, r4, r5, r6, r7⟩ := cells_8 D.res
        obtain ⟨q0, q1, q2, q3, q4, q5, q6, q7⟩ := froz_8 D.res
        have hlt := D.lt
        have hlt2 : ¬ w.heap.size = mb := by omega
        have hlt3 : ¬ mb = w.heap.size := by omega
        clear D
        go_wp2
        exact HE.out _ rfl rfl
      · have hd := hd0
        have HN : Hid _ := de_set5 (de_set4 (de_set5 D hlf) i5) hlf1
        obtain ⟨m0, m1, m2, m3, m4, m5, m6, m7⟩ := cells_8 D.box
        obtain ⟨s0, s1, s2, s3, s4, s5, s6, s7⟩ := froz_8 D.box
        obtain ⟨r0, r1, r2, r3, r4, r5, r6, r7⟩ := cells_8 D.res
        obtain ⟨q0, q1, q2, q3, q4, q5, q6, q7⟩ := froz_8 D.res
        have hlt := D.lt
        have hlt2 : ¬ w.heap.size = mb := by omega
        have hlt3 : ¬ mb = w.heap.size := by omega
        clear D
        go_wp2_with fail
        have D := HN.out
        clear HN m0 m1 m2 m3 m4 m5 m6 m7 s0 s1 s2 s3 s4 s5 s6 s7 r0 r1 r2 r3 r4 r5 r6 r7 q0 q1 q2 q3 q4 q5 q6 q7 hlt hlt2 hlt3
        have C := D.cur
        refine (l1Below_small B g 4 _ C (by omega) (by omega)).mono ?_
        rintro e v7 ⟨mk, rfl, mk0, mk1, C1, g1⟩
        replace D := dc_grown D g1 C1
        clear C g1 C1
        have hmk : In64 mk := small64 (by omega) (by omega)
        have HN : Hid _ := de_set6 D hmk
        obtain ⟨m0, m1, m2, m3, m4, m5, m6, m7⟩ := cells_8 D.box
        obtain ⟨s0, s1, s2, s3, s4, s5, s6, s7⟩ := froz_8 D.box
        obtain ⟨r0, r1, r2, r3, r4, r5, r6, r7⟩ := cells_8 D.res
        obtain ⟨q0, q1, q2, q3, q4, q5, q6, q7⟩ := froz_8 D.res
        have hlt := D.lt
        have hlt2 : ¬ w.heap.size = mb := by omega
        have hlt3 : ¬ mb = w.heap.size := by omega
        clear D
        go_wp2_with fail
        have D := HN.out
        clear HN m0 m1 m2 m3 m4 m5 m6 m7 s0 s1 s2 s3 s4 s5 s6 s7 r0 r1 r2 r3 r4 r5 r6 r7 q0 q1 q2 q3 q4 q5 q6 q7 hlt hlt2 hlt3
        have C := D.cur
        have hlt := D.lt
        refine (l3DrawLine_rep B g _ C).mono ?_
        rintro e v8 ⟨gl, lx, ly, rfl, gl1, hxy, OL, C1, g1⟩
        have hsz := g1.size
        have hgl := (owni_lt OL).2
        replace D := dc_grown D g1 C1
        have OL2 : intsR.own v8 (fun k => w.heap.size < k ∧ k < v8.heap.size ∧ k ≠ mb) [.slice (some ⟨gl, 0, none⟩) ([lx, ly] : List Int).length 2] [lx, ly] := own_of OL ⟨by omega, by omega, by omega⟩ hxy
        have hd2 : ([lx, ly] : List Int).length ≤ 3 := by simp
        clear C g1 C1 hlt OL hd
        have hd := hd2
        have HN : Hid _ := de_data D OL2
        have HE : Hid (∀ a : Act, _ → _ → _) := fun a ha hdf => l10Draw_end (a := a) HN.out hd ha hdf
        obtain ⟨m0, m1, m2, m3, m4, m5, m6, m7⟩ := cells_8 D.box
        obtain ⟨s0, s1, s2, s3, s4, s5, s6, s7⟩ := froz_8 D.box
        obtain ⟨r0, r1, r2, r3, r4, r5, r6, r7⟩ := cells_8 D.res
        obtain ⟨q0, q1, q2, q3, q4, q5, q6, q7⟩ := froz_8 D.res
        have hlt := D.lt
        have hlt2 : ¬ w.heap.size = mb := by omega
        have hlt3 : ¬ mb = w.heap.size := by omega
        clear D
        go_wp2
        exact HE.out _ rfl rfl
  · skip
    obtain ⟨m0, m1, m2, m3, m4, m5, m6, m7⟩ := cells_8 D.box
    obtain ⟨s0, s1, s2, s3, s4, s5, s6, s7⟩ := froz_8 D.box
    obtain ⟨r0, r1, r2, r3, r4, r5, r6, r7⟩ := cells_8 D.res
    obtain ⟨q0, q1, q2, q3, q4, q5, q6, q7⟩ := froz_8 D.res
    have hlt := D.lt
    have hlt2 : ¬ w.heap.size = mb := by omega
    have hlt3 : ¬ mb = w.heap.size := by omega
    go_wp2_with fail
    clear m0 m1 m2 m3 m4 m5 m6 m7 s0 s1 s2 s3 s4 s5 s6 s7 r0 r1 r2 r3 r4 r5 r6 r7 q0 q1 q2 q3 q4 q5 q6 q7 hlt hlt2 hlt3
    have C := D.cur
    refine (l1Below_small B g 4 _ C (by omega) (by omega)).mono ?_
    rintro e v9 ⟨y, rfl, y0, y1, C1, g1⟩
    replace D := dc_grown D g1 C1
    clear C g1 C1
    have hy : In64 y := small64 (by omega) (by omega)
    have HN : Hid _ := de_set0 D hy
    obtain ⟨m0, m1, m2, m3, m4, m5, m6, m7⟩ := cells_8 D.box
    obtain ⟨s0, s1, s2, s3, s4, s5, s6, s7⟩ := froz_8 D.box
    obtain ⟨r0, r1, r2, r3, r4, r5, r6, r7⟩ := cells_8 D.res
    obtain ⟨q0, q1, q2, q3, q4, q5, q6, q7⟩ := froz_8 D.res
    have hlt := D.lt
    have hlt2 : ¬ w.heap.size = mb := by omega
    have hlt3 : ¬ mb = w.heap.size := by omega
    clear D
    go_wp2_with fail
    have D := HN.out
    clear HN m0 m1 m2 m3 m4 m5 m6 m7 s0 s1 s2 s3 s4 s5 s6 s7 r0 r1 r2 r3 r4 r5 r6 r7 q0 q1 q2 q3 q4 q5 q6 q7 hlt hlt2 hlt3
    have C := D.cur
    refine (l1Once_small B g 2 _ C (by omega) (by omega)).mono ?_
    rintro e v10 ⟨b, rfl, C1, g1⟩
    replace D := dc_grown D g1 C1
    clear C g1 C1
    cases b
    · have hd := hd0
      have HN : Hid _ := D
      have HE : Hid (∀ a : Act, _ → _ → _) := fun a ha hdf => l10Draw_end (a := a) HN.out hd ha hdf
      obtain ⟨m0, m1, m2, m3, m4, m5, m6, m7⟩ := cells_8 D.box
      obtain ⟨s0, s1, s2, s3, s4, s5, s6, s7⟩ := froz_8 D.box
      obtain ⟨r0, r1, r2, r3, r4, r5, r6, r7⟩ := cells_8 D.res
      obtain ⟨q0, q1, q2, q3, q4, q5, q6, q7⟩ := froz_8 D.res
      have hlt := D.lt
      have hlt2 : ¬ w.heap.size = mb := by omega
      have hlt3 : ¬ mb = w.heap.size := by omega
      clear D
      go_wp2
      exact HE.out _ rfl rfl
    · skip
      have HN : Hid _ := de_set2 (x := true) D
      obtain ⟨m0, m1, m2, m3, m4, m5, m6, m7⟩ := cells_8 D.box
      obtain ⟨s0, s1, s2, s3, s4, s5, s6, s7⟩ := froz_8 D.box
      obtain ⟨r0, r1, r2, r3, r4, r5, r6, r7⟩ := cells_8 D.res
      obtain ⟨q0, q1, q2, q3, q4, q5, q6, q7⟩ := froz_8 D.res
      have hlt := D.lt
      have hlt2 : ¬ w.heap.size = mb := by omega
      have hlt3 : ¬ mb = w.heap.size := by omega
      clear D
      go_wp2_with fail
      have D := HN.out
      clear HN m0 m1 m2 m3 m4 m5 m6 m7 s0 s1 s2 s3 s4 s5 s6 s7 r0 r1 r2 r3 r4 r5 r6 r7 q0 q1 q2 q3 q4 q5 q6 q7 hlt hlt2 hlt3
      have C := D.cur
      refine (l1Below_small B g 4 _ C (by omega) (by omega)).mono ?_
      rintro e v11 ⟨kd, rfl, kd0, kd1, C1, g1⟩
      replace D := dc_grown D g1 C1
      clear C g1 C1
      have hk : In64 (1 + kd) := small64 (by omega) (by omega)
      have HN : Hid _ := de_set3 D hk
      obtain ⟨m0, m1, m2, m3, m4, m5, m6, m7⟩ := cells_8 D.box
      obtain ⟨s0, s1, s2, s3, s4, s5, s6, s7⟩ := froz_8 D.box
      obtain ⟨r0, r1, r2, r3, r4, r5, r6, r7⟩ := cells_8 D.res
      obtain ⟨q0, q1, q2, q3, q4, q5, q6, q7⟩ := froz_8 D.res
      have hlt := D.lt
      have hlt2 : ¬ w.heap.size = mb := by omega
      have hlt3 : ¬ mb = w.heap.size := by omega
      clear D
      go_wp2_with fail
      have D := HN.out
      clear HN m0 m1 m2 m3 m4 m5 m6 m7 s0 s1 s2 s3 s4 s5 s6 s7 r0 r1 r2 r3 r4 r5 r6 r7 q0 q1 q2 q3 q4 q5 q6 q7 hlt hlt2 hlt3
      have C := D.cur
      refine (l1Below_small B g 4 _ C (by omega) (by omega)).mono ?_
      rintro e v12 ⟨fr, rfl, fr0, fr1, C1, g1⟩
      replace D := dc_grown D g1 C1
      clear C g1 C1
      have hfr : In64 fr := small64 (by omega) (by omega)
      have HN : Hid _ := de_set4 D hfr
      obtain ⟨m0, m1, m2, m3, m4, m5, m6, m7⟩ := cells_8 D.box
      obtain ⟨s0, s1, s2, s3, s4, s5, s6, s7⟩ := froz_8 D.box
      obtain ⟨r0, r1, r2, r3, r4, r5, r6, r7⟩ := cells_8 D.res
      obtain ⟨q0, q1, q2, q3, q4, q5, q6, q7⟩ := froz_8 D.res
      have hlt := D.lt
      have hlt2 : ¬ w.heap.size = mb := by omega
      have hlt3 : ¬ mb = w.heap.size := by omega
      clear D
      go_wp2_with fail
      have D := HN.out
      clear HN m0 m1 m2 m3 m4 m5 m6 m7 s0 s1 s2 s3 s4 s5 s6 s7 r0 r1 r2 r3 r4 r5 r6 r7 q0 q1 q2 q3 q4 q5 q6 q7 hlt hlt2 hlt3
      have C := D.cur
      refine (l1Below_small B g 4 _ C (by omega) (by omega)).mono ?_
      rintro e v13 ⟨lf, rfl, lf0, lf1, C1, g1⟩
      replace D := dc_grown D g1 C1
      clear C g1 C1
      have hlf : In64 lf := small64 (by omega) (by omega)
      have hlf1 : In64 (lf + 1) := small64 (by omega) (by omega)
      have i5 : In64 5 := small64 (by omega) (by omega)
      obtain rfl | rfl | rfl | rfl : kd = 0 ∨ kd = 1 ∨ kd = 2 ∨ kd = 3 := by omega
      · have hd := hd0
        have HN : Hid _ := de_set5 D hlf
        have HE : Hid (∀ a : Act, _ → _ → _) := fun a ha hdf => l10Draw_end (a := a) HN.out hd ha hdf
        obtain ⟨m0, m1, m2, m3, m4, m5, m6, m7⟩ := cells_8 D.box
        obtain ⟨s0, s1, s2, s3, s4, s5, s6, s7⟩ := froz_8 D.box
        obtain ⟨r0, r1, r2, r3, r4, r5, r6, r7⟩ := cells_8 D.res
        obtain ⟨q0, q1, q2, q3, q4, q5, q6, q7⟩ := froz_8 D.res
        have hlt := D.lt
        have hlt2 : ¬ w.heap.size = mb := by omega
        have hlt3 : ¬ mb = w.heap.size := by omega
        clear D
        go_wp2
        exact HE.out _ rfl rfl
      · have hd := hd0
        have HN : Hid _ := de_set5 D hlf
        have HE : Hid (∀ a : Act, _ → _ → _) := fun a ha hdf => l10Draw_end (a := a) HN.out hd ha hdf
        obtain ⟨m0, m1, m2, m3, m4, m5, m6, m7⟩ := cells_8 D.box
        obtain ⟨s0, s1, s2, s3, s4, s5, s6, s7⟩ := froz_8 D.box
        obtain ⟨r0, r1, r2, r3, r4, r5, r6, r7⟩ := cells_8 D.res
        obtain ⟨q0, q1, q2, q3, q4, q5, q6, q7⟩ := froz_8 D.res
        have hlt := D.lt
        have hlt2 : ¬ w.heap.size = mb := by omega
        have hlt3 : ¬ mb = w.heap.size := by omega
        clear D
        go_wp2
        exact HE.out _ rfl rfl
      · have hd := hd0
        have HN : Hid _ := de_set5 (de_set4 (de_set5 D hlf) i5) hlf1
        have HE : Hid (∀ a : Act, _ → _ → _) := fun a ha hdf => l10Draw_end (a := a) HN.out hd ha hdf
        obtain ⟨m0, m1, m2, m3, m4, m5, m6, m7⟩ := cells_8 D.box
        obtain ⟨s0, s1, s2, s3, s4, s5, s6, s7⟩ := froz_8 D.box
        obtain ⟨r0, r1, r2, r3, r4, r5, r6, r7⟩ := cells_8 D.res
        obtain ⟨q0, q1, q2, q3, q4, q5, q6, q7⟩ := froz_8 D.res
        have hlt := D.lt
        have hlt2 : ¬ w.heap.size = mb := by omega
        have hlt3 : ¬ mb = w.heap.size := by omega
        clear D
        go_wp2
        exact HE.out _ rfl rfl
      · have hd := hd0
        have HN : Hid _ := de_set5 (de_set4 (de_set5 D hlf) i5) hlf1
        obtain ⟨m0, m1, m2, m3, m4, m5, m6, m7⟩ := cells_8 D.box
        obtain ⟨s0, s1, s2, s3, s4, s5, s6, s7⟩ := froz_8 D.box
        obtain ⟨r0, r1, r2, r3, r4, r5, r6, r7⟩ := cells_8 D.res
        obtain ⟨q0, q1, q2, q3, q4, q5, q6, q7⟩ := froz_8 D.res
        have hlt := D.lt
        have hlt2 : ¬ w.heap.size = mb := by omega
        have hlt3 : ¬ mb = w.heap.size := by omega
        clear D
        go_wp2_with fail
        have D := HN.out
        clear HN m0 m1 m2 m3 m4 m5 m6 m7 s0 s1 s2 s3 s4 s5 s6 s7 r0 r1 r2 r3 r4 r5 r6 r7 q0 q1 q2 q3 q4 q5 q6 q7 hlt hlt2 hlt3
        have C := D.cur
        refine (l1Below_small B g 4 _ C (by omega) (by omega)).mono ?_
        rintro e v14 ⟨mk, rfl, mk0, mk1, C1, g1⟩
        replace D := dc_grown D g1 C1
        clear C g1 C1
        have hmk : In64 mk := small64 (by omega) (by omega)
        have HN : Hid _ := de_set6 D hmk
        obtain ⟨m0, m1, m2, m3, m4, m5, m6, m7⟩ := cells_8 D.box
        obtain ⟨s0, s1, s2, s3, s4, s5, s6, s7⟩ := froz_8 D.box
        obtain ⟨r0, r1, r2, r3, r4, r5, r6, r7⟩ := cells_8 D.res
        obtain ⟨q0, q1, q2, q3, q4, q5, q6, q7⟩ := froz_8 D.res
        have hlt := D.lt
        have hlt2 : ¬ w.heap.size = mb := by omega
        have hlt3 : ¬ mb = w.heap.size := by omega
        clear D
        go_wp2_with fail
        have D := HN.out
        clear HN m0 m1 m2 m3 m4 m5 m6 m7 s0 s1 s2 s3 s4 s5 s6 s7 r0 r1 r2 r3 r4 r5 r6 r7 q0 q1 q2 q3 q4 q5 q6 q7 hlt hlt2 hlt3
        have C := D.cur
        have hlt := D.lt
        refine (l3DrawLine_rep B g _ C).mono ?_
        rintro e v15 ⟨gl, lx, ly, rfl, gl1, hxy, OL, C1, g1⟩
        have hsz := g1.size
        have hgl := (owni_lt OL).2
        replace D := dc_grown D g1 C1
        have OL2 : intsR.own v15 (fun k => w.heap.size < k ∧ k < v15.heap.size ∧ k ≠ mb) [.slice (some ⟨gl, 0, none⟩) ([lx, ly] : List Int).length 2] [lx, ly] := own_of OL ⟨by omega, by omega, by omega⟩ hxy
        have hd2 : ([lx, ly] : List Int).length ≤ 3 := by simp
        clear C g1 C1 hlt OL hd
        have hd := hd2
        have HN : Hid _ := de_data D OL2
        have HE : Hid (∀ a : Act, _ → _ → _) := fun a ha hdf => l10Draw_end (a := a) HN.out hd ha hdf
        obtain ⟨m0, m1, m2, m3, m4, m5, m6, m7⟩ := cells_8 D.box
        obtain ⟨s0, s1, s2, s3, s4, s5, s6, s7⟩ := froz_8 D.box
        obtain ⟨r0, r1, r2, r3, r4, r5, r6, r7⟩ := cells_8 D.res
        obtain ⟨q0, q1, q2, q3, q4, q5, q6, q7⟩ := froz_8 D.res
        have hlt := D.lt
        have hlt2 : ¬ w.heap.size = mb := by omega
        have hlt3 : ¬ mb = w.heap.size := by omega
        clear D
        go_wp2
        exact HE.out _ rfl rfl
theorem l10DrawAny_end {B g rb mb : Nat} {w wr : World} {f0 f1 f3 f4 f5 f6 : Int} {f2 : Bool} {d : List Int} {av : Option Addr} {cv : Nat} {a : Act} (h : DE B g w wr rb mb f0 f1 f2 f3 f4 f5 f6 d av cv) (hd : d.length ≤ 3) (ha : a.tmps[2]? = some (.pointer (some ⟨rb, 0, none⟩))) (hdf : a.defers = []) :
    bodyPost Try.prog Try.f32 (fun e w' => DrawEP B g w e w') Exit.ret a ((((((((wr.setCell ⟨rb, 0, none⟩ (.int .i64 f0)).setCell ⟨rb, 1, none⟩ (.int .i64 f1)).setCell ⟨rb, 2, none⟩ (.bool f2)).setCell ⟨rb, 3, none⟩ (.int .i64 f3)).setCell ⟨rb, 4, none⟩ (.int .i64 f4)).setCell ⟨rb, 5, none⟩ (.int .i64 f5)).setCell ⟨rb, 6, none⟩ (.int .i64 f6)).setCell ⟨rb, 7, none⟩ (.slice av d.length cv)) := by
  obtain ⟨r0, r1, r2, r3, r4, r5, r6, r7⟩ := cells_8 (put_8 (y0 := .int .i64 f0) (y1 := .int .i64 f1) (y2 := .bool f2) (y3 := .int .i64 f3) (y4 := .int .i64 f4) (y5 := .int .i64 f5) (y6 := .int .i64 f6) (y7 := .slice av d.length cv) h.res)
  have c7 : Chg (fun b => b = rb) wr ((((((((wr.setCell ⟨rb, 0, none⟩ (.int .i64 f0)).setCell ⟨rb, 1, none⟩ (.int .i64 f1)).setCell ⟨rb, 2, none⟩ (.bool f2)).setCell ⟨rb, 3, none⟩ (.int .i64 f3)).setCell ⟨rb, 4, none⟩ (.int .i64 f4)).setCell ⟨rb, 5, none⟩ (.int .i64 f5)).setCell ⟨rb, 6, none⟩ (.int .i64 f6)).setCell ⟨rb, 7, none⟩ (.slice av d.length cv)) := (((((((chg_set).trans chg_set).trans chg_set).trans chg_set).trans chg_set).trans chg_set).trans chg_set).trans chg_set
  generalize ((((((((wr.setCell ⟨rb, 0, none⟩ (.int .i64 f0)).setCell ⟨rb, 1, none⟩ (.int .i64 f1)).setCell ⟨rb, 2, none⟩ (.bool f2)).setCell ⟨rb, 3, none⟩ (.int .i64 f3)).setCell ⟨rb, 4, none⟩ (.int .i64 f4)).setCell ⟨rb, 5, none⟩ (.int .i64 f5)).setCell ⟨rb, 6, none⟩ (.int .i64 f6)).setCell ⟨rb, 7, none⟩ (.slice av d.length cv)) = W at r0 r1 r2 r3 r4 r5 r6 r7 c7 ⊢
  exact bodyPost_ret (v := .agg #[.int .i64 f0, .int .i64 f1, .bool f2, .int .i64 f3, .int .i64 f4, .int .i64 f5, .int .i64 f6, .slice av d.length cv]) (by simp [results, Try.results32, go_sem, ha, r0, r1, r2, r3, r4, r5, r6, r7]) hdf ⟨f0, f1, f2, f3, f4, f5, f6, d, av, cv, rfl, hd, dc_done h c7⟩
set_option maxRecDepth 20000 in
set_option maxHeartbeats 8000000 in
theorem l10DrawAny_any (B g : Nat) (w : World) (hcur : Cur B w g) :
    Calls Try.prog 32 #[.pointer (some ⟨g, 0, none⟩)] w fun e w' => DrawEP B g w e w' := by
  have hgw := cur_lt hcur
  have hBg := hcur.1
  have X0 := heap_at w (.cells #[.int .i64 0, .int .i64 0, .bool false, .int .i64 0, .int .i64 0, .int .i64 0, .int .i64 0, .slice none 0 0] 26)
  have G0 := box_below w (.cells #[.int .i64 0, .int .i64 0, .bool false, .int .i64 0, .int .i64 0, .int .i64 0, .int .i64 0, .slice none 0 0] 26)
  have C0 := cur_alloc hcur (.cells #[.int .i64 0, .int .i64 0, .bool false, .int .i64 0, .int .i64 0, .int .i64 0, .int .i64 0, .slice none 0 0] 26)
  go_enter Try.func32, Try.ntmps32
  go_wp2_with fail
  generalize w.alloc (.cells #[.int .i64 0, .int .i64 0, .bool false, .int .i64 0, .int .i64 0, .int .i64 0, .int .i64 0, .slice none 0 0] 26) = W0 at X0 G0 C0 ⊢
  refine (l10Draw_any B g _ C0).mono ?_
  rintro e w1 ⟨f0, f1, f2, f3, f4, f5, f6, d, av, cv, rfl, hd, DR⟩
  have D := dc_new (t := 26) DR (chg_below G0) X0 (Nat.le_refl _) hgw
  clear DR C0 G0 X0
  have HD : Hid _ := D
  clear D
  go_wp2_with fail
  have D := HD.out
  clear HD
  generalize w1.alloc (.cells #[.int .i64 f0, .int .i64 f1, .bool f2, .int .i64 f3, .int .i64 f4, .int .i64 f5, .int .i64 f6, .slice av d.length cv] 26) = W1 at D ⊢
  generalize w1.heap.size = mb at D ⊢
  replace D : DE B g w W1 w.heap.size mb f0 f1 f2 f3 f4 f5 f6 d av cv := D
  have C := D.cur
  refine (l1Once_small B g 8 _ C (by omega) (by omega)).mono ?_
  rintro e v1 ⟨b, rfl, C1, g1⟩
  replace D := dc_grown D g1 C1
  clear C g1 C1
  cases b
  · skip
    have HN : Hid _ := D
    have HE : Hid (∀ a : Act, _ → _ → _) := fun a ha hdf => l10DrawAny_end (a := a) HN.out hd ha hdf
    obtain ⟨m0, m1, m2, m3, m4, m5, m6, m7⟩ := cells_8 D.box
    obtain ⟨s0, s1, s2, s3, s4, s5, s6, s7⟩ := froz_8 D.box
    obtain ⟨r0, r1, r2, r3, r4, r5, r6, r7⟩ := cells_8 D.res
    obtain ⟨q0, q1, q2, q3, q4, q5, q6, q7⟩ := froz_8 D.res
    have hlt := D.lt
    have hlt2 : ¬ w.heap.size = mb := by omega
    have hlt3 : ¬ mb = w.heap.size := by omega
    clear D
    go_wp2
    exact HE.out _ rfl rfl
  · skip
    obtain ⟨m0, m1, m2, m3, m4, m5, m6, m7⟩ := cells_8 D.box
    obtain ⟨s0, s1, s2, s3, s4, s5, s6, s7⟩ := froz_8 D.box
    obtain ⟨r0, r1, r2, r3, r4, r5, r6, r7⟩ := cells_8 D.res
    obtain ⟨q0, q1, q2, q3, q4, q5, q6, q7⟩ := froz_8 D.res
    have hlt := D.lt
    have hlt2 : ¬ w.heap.size = mb := by omega
    have hlt3 : ¬ mb = w.heap.size := by omega
    go_wp2_with fail
    clear m0 m1 m2 m3 m4 m5 m6 m7 s0 s1 s2 s3 s4 s5 s6 s7 r0 r1 r2 r3 r4 r5 r6 r7 q0 q1 q2 q3 q4 q5 q6 q7 hlt hlt2 hlt3
    have C := D.cur
    refine (l1Below_small B g 6 _ C (by omega) (by omega)).mono ?_
    rintro e v2 ⟨k, rfl, k0, k1, C1, g1⟩
    replace D := dc_grown D g1 C1
    clear C g1 C1
    obtain rfl | rfl | rfl | rfl | rfl | rfl : k = 0 ∨ k = 1 ∨ k = 2 ∨ k = 3 ∨ k = 4 ∨ k = 5 := by omega
    · skip
      obtain ⟨m0, m1, m2, m3, m4, m5, m6, m7⟩ := cells_8 D.box
      obtain ⟨s0, s1, s2, s3, s4, s5, s6, s7⟩ := froz_8 D.box
      obtain ⟨r0, r1, r2, r3, r4, r5, r6, r7⟩ := cells_8 D.res
      obtain ⟨q0, q1, q2, q3, q4, q5, q6, q7⟩ := froz_8 D.res
      have hlt := D.lt
      have hlt2 : ¬ w.heap.size = mb := by omega
      have hlt3 : ¬ mb = w.heap.size := by omega
      have hgs := cur_lt D.cur
      go_wp2_with fail
      clear m0 m1 m2 m3 m4 m5 m6 m7 s0 s1 s2 s3 s4 s5 s6 s7 r0 r1 r2 r3 r4 r5 r6 r7 q0 q1 q2 q3 q4 q5 q6 q7 hlt hlt2 hlt3
      have C := cur_alloc D.cur (.cells #[.int .i64 (-2), .int .i64 3, .int .i64 4] 2)
      refine (l1Below_small B g 3 _ C (by omega) (by omega)).mono ?_
      rintro e v3 ⟨k, rfl, k0, k1, C1, g1⟩
      obtain ⟨y, hy, hy64⟩ := lit_cellP (n := 3) g1 hgs k k0 k1 (by
        intro j hj
        obtain rfl | rfl | rfl : j = 0 ∨ j = 1 ∨ j = 2 := by omega
        all_goals exact ⟨_, rfl, by decide, by decide⟩)
      replace D := dc_grown (dc_alloc D _) g1 C1
      clear C C1 g1
      have HN : Hid _ := de_set0 D hy64
      have HE : Hid (∀ a : Act, _ → _ → _) := fun a ha hdf => l10DrawAny_end (a := a) HN.out hd ha hdf
      obtain ⟨m0, m1, m2, m3, m4, m5, m6, m7⟩ := cells_8 D.box
      obtain ⟨s0, s1, s2, s3, s4, s5, s6, s7⟩ := froz_8 D.box
      obtain ⟨r0, r1, r2, r3, r4, r5, r6, r7⟩ := cells_8 D.res
      obtain ⟨q0, q1, q2, q3, q4, q5, q6, q7⟩ := froz_8 D.res
      have hlt := D.lt
      have hlt2 : ¬ w.heap.size = mb := by omega
      have hlt3 : ¬ mb = w.heap.size := by omega
      clear D
      go_wp2
      exact HE.out _ rfl rfl
    · skip
      obtain ⟨m0, m1, m2, m3, m4, m5, m6, m7⟩ := cells_8 D.box
      obtain ⟨s0, s1, s2, s3, s4, s5, s6, s7⟩ := froz_8 D.box
      obtain ⟨r0, r1, r2, r3, r4, r5, r6, r7⟩ := cells_8 D.res
      obtain ⟨q0, q1, q2, q3, q4, q5, q6, q7⟩ := froz_8 D.res
      have hlt := D.lt
      have hlt2 : ¬ w.heap.size = mb := by omega
      have hlt3 : ¬ mb = w.heap.size := by omega
      have hgs := cur_lt D.cur
      go_wp2_with fail
      clear m0 m1 m2 m3 m4 m5 m6 m7 s0 s1 s2 s3 s4 s5 s6 s7 r0 r1 r2 r3 r4 r5 r6 r7 q0 q1 q2 q3 q4 q5 q6 q7 hlt hlt2 hlt3
      have C := cur_alloc D.cur (.cells #[.int .i64 (-1), .int .i64 15, .int .i64 16] 2)
      refine (l1Below_small B g 3 _ C (by omega) (by omega)).mono ?_
      rintro e v4 ⟨k, rfl, k0, k1, C1, g1⟩
      obtain ⟨y, hy, hy64⟩ := lit_cellP (n := 3) g1 hgs k k0 k1 (by
        intro j hj
        obtain rfl | rfl | rfl : j = 0 ∨ j = 1 ∨ j = 2 := by omega
        all_goals exact ⟨_, rfl, by decide, by decide⟩)
      replace D := dc_grown (dc_alloc D _) g1 C1
      clear C C1 g1
      have HN : Hid _ := de_set1 D hy64
      have HE : Hid (∀ a : Act, _ → _ → _) := fun a ha hdf => l10DrawAny_end (a := a) HN.out hd ha hdf
      obtain ⟨m0, m1, m2, m3, m4, m5, m6, m7⟩ := cells_8 D.box
      obtain ⟨s0, s1, s2, s3, s4, s5, s6, s7⟩ := froz_8 D.box
      obtain ⟨r0, r1, r2, r3, r4, r5, r6, r7⟩ := cells_8 D.res
      obtain ⟨q0, q1, q2, q3, q4, q5, q6, q7⟩ := froz_8 D.res
      have hlt := D.lt
      have hlt2 : ¬ w.heap.size = mb := by omega
      have hlt3 : ¬ mb = w.heap.size := by omega
      clear D
      go_wp2
      exact HE.out _ rfl rfl
    · skip
      obtain ⟨m0, m1, m2, m3, m4, m5, m6, m7⟩ := cells_8 D.box
      obtain ⟨s0, s1, s2, s3, s4, s5, s6, s7⟩ := froz_8 D.box
      obtain ⟨r0, r1, r2, r3, r4, r5, r6, r7⟩ := cells_8 D.res
      obtain ⟨q0, q1, q2, q3, q4, q5, q6, q7⟩ := froz_8 D.res
      have hlt := D.lt
      have hlt2 : ¬ w.heap.size = mb := by omega
      have hlt3 : ¬ mb = w.heap.size := by omega
      go_wp2_with fail
      clear m0 m1 m2 m3 m4 m5 m6 m7 s0 s1 s2 s3 s4 s5 s6 s7 r0 r1 r2 r3 r4 r5 r6 r7 q0 q1 q2 q3 q4 q5 q6 q7 hlt hlt2 hlt3
      have C := D.cur
      refine (l1From_small B g (-1) 7 _ C (by omega) (by omega) (by omega) (by omega)).mono ?_
      rintro e v5 ⟨y, rfl, y0, y1, C1, g1⟩
      replace D := dc_grown D g1 C1
      clear C g1 C1
      have hy : In64 y := small64 (by omega) (by omega)
      have HN : Hid _ := de_set3 D hy
      have HE : Hid (∀ a : Act, _ → _ → _) := fun a ha hdf => l10DrawAny_end (a := a) HN.out hd ha hdf
      obtain ⟨m0, m1, m2, m3, m4, m5, m6, m7⟩ := cells_8 D.box
      obtain ⟨s0, s1, s2, s3, s4, s5, s6, s7⟩ := froz_8 D.box
      obtain ⟨r0, r1, r2, r3, r4, r5, r6, r7⟩ := cells_8 D.res
      obtain ⟨q0, q1, q2, q3, q4, q5, q6, q7⟩ := froz_8 D.res
      have hlt := D.lt
      have hlt2 : ¬ w.heap.size = mb := by omega
      have hlt3 : ¬ mb = w.heap.size := by omega
      clear D
      go_wp2
      exact HE.out _ rfl rfl
    · skip
      obtain ⟨m0, m1, m2, m3, m4, m5, m6, m7⟩ := cells_8 D.box
      obtain ⟨s0, s1, s2, s3, s4, s5, s6, s7⟩ := froz_8 D.box
      obtain ⟨r0, r1, r2, r3, r4, r5, r6, r7⟩ := cells_8 D.res
      obtain ⟨q0, q1, q2, q3, q4, q5, q6, q7⟩ := froz_8 D.res
      have hlt := D.lt
      have hlt2 : ¬ w.heap.size = mb := by omega
      have hlt3 : ¬ mb = w.heap.size := by omega
      go_wp2_with fail
      clear m0 m1 m2 m3 m4 m5 m6 m7 s0 s1 s2 s3 s4 s5 s6 s7 r0 r1 r2 r3 r4 r5 r6 r7 q0 q1 q2 q3 q4 q5 q6 q7 hlt hlt2 hlt3
      have C := D.cur
      refine (l1From_small B g (-1) 8 _ C (by omega) (by omega) (by omega) (by omega)).mono ?_
      rintro e v6 ⟨y, rfl, y0, y1, C1, g1⟩
      replace D := dc_grown D g1 C1
      clear C g1 C1
      have hy : In64 y := small64 (by omega) (by omega)
      have HN : Hid _ := de_set4 D hy
      have HE : Hid (∀ a : Act, _ → _ → _) := fun a ha hdf => l10DrawAny_end (a := a) HN.out hd ha hdf
      obtain ⟨m0, m1, m2, m3, m4, m5, m6, m7⟩ := cells_8 D.box
      obtain ⟨s0, s1, s2, s3, s4, s5, s6, s7⟩ := froz_8 D.box
      obtain ⟨r0, r1, r2, r3, r4, r5, r6, r7⟩ := cells_8 D.res
      obtain ⟨q0, q1, q2, q3, q4, q5, q6, q7⟩ := froz_8 D.res
      have hlt := D.lt
      have hlt2 : ¬ w.heap.size = mb := by omega
      have hlt3 : ¬ mb = w.heap.size := by omega
      clear D
      go_wp2
      exact HE.out _ rfl rfl
    · skip
      obtain ⟨m0, m1, m2, m3, m4, m5, m6, m7⟩ := cells_8 D.box
      obtain ⟨s0, s1, s2, s3, s4, s5, s6, s7⟩ := froz_8 D.box
      obtain ⟨r0, r1, r2, r3, r4, r5, r6, r7⟩ := cells_8 D.res
      obtain ⟨q0, q1, q2, q3, q4, q5, q6, q7⟩ := froz_8 D.res
      have hlt := D.lt
      have hlt2 : ¬ w.heap.size = mb := by omega
      have hlt3 : ¬ mb = w.heap.size := by omega
      go_wp2_with fail
      clear m0 m1 m2 m3 m4 m5 m6 m7 s0 s1 s2 s3 s4 s5 s6 s7 r0 r1 r2 r3 r4 r5 r6 r7 q0 q1 q2 q3 q4 q5 q6 q7 hlt hlt2 hlt3
      have C := D.cur
      refine (l1From_small B g (-1) 7 _ C (by omega) (by omega) (by omega) (by omega)).mono ?_
      rintro e v7 ⟨y, rfl, y0, y1, C1, g1⟩
      replace D := dc_grown D g1 C1
      clear C g1 C1
      have hy : In64 y := small64 (by omega) (by omega)
      have HN : Hid _ := de_set5 D hy
      have HE : Hid (∀ a : Act, _ → _ → _) := fun a ha hdf => l10DrawAny_end (a := a) HN.out hd ha hdf
      obtain ⟨m0, m1, m2, m3, m4, m5, m6, m7⟩ := cells_8 D.box
      obtain ⟨s0, s1, s2, s3, s4, s5, s6, s7⟩ := froz_8 D.box
      obtain ⟨r0, r1, r2, r3, r4, r5, r6, r7⟩ := cells_8 D.res
      obtain ⟨q0, q1, q2, q3, q4, q5, q6, q7⟩ := froz_8 D.res
      have hlt := D.lt
      have hlt2 : ¬ w.heap.size = mb := by omega
      have hlt3 : ¬ mb = w.heap.size := by omega
      clear D
      go_wp2
      exact HE.out _ rfl rfl
    · skip
      obtain ⟨m0, m1, m2, m3, m4, m5, m6, m7⟩ := cells_8 D.box
      obtain ⟨s0, s1, s2, s3, s4, s5, s6, s7⟩ := froz_8 D.box
      obtain ⟨r0, r1, r2, r3, r4, r5, r6, r7⟩ := cells_8 D.res
      obtain ⟨q0, q1, q2, q3, q4, q5, q6, q7⟩ := froz_8 D.res
      have hlt := D.lt
      have hlt2 : ¬ w.heap.size = mb := by omega
      have hlt3 : ¬ mb = w.heap.size := by omega
      go_wp2_with fail
      clear m0 m1 m2 m3 m4 m5 m6 m7 s0 s1 s2 s3 s4 s5 s6 s7 r0 r1 r2 r3 r4 r5 r6 r7 q0 q1 q2 q3 q4 q5 q6 q7 hlt hlt2 hlt3
      have C := D.cur
      have hlt := D.lt
      refine (l3DrawAny_rep B g _ C).mono ?_
      rintro e v8 ⟨v, xs, rfl, hx3, hx64, gl, cl, rfl, gl1, OL, C1, g1⟩
      have hsz := g1.size
      have hgl := (owni_lt OL).2
      replace D := dc_grown D g1 C1
      have OL2 : intsR.own v8 (fun k => w.heap.size < k ∧ k < v8.heap.size ∧ k ≠ mb) [.slice (some ⟨gl, 0, none⟩) xs.length cl] xs := own_of OL ⟨by omega, by omega, by omega⟩ hx64
      clear C g1 C1 hlt OL hd
      have hd := hx3
      have HN : Hid _ := de_data D OL2
      have HE : Hid (∀ a : Act, _ → _ → _) := fun a ha hdf => l10DrawAny_end (a := a) HN.out hd ha hdf
      obtain ⟨m0, m1, m2, m3, m4, m5, m6, m7⟩ := cells_8 D.box
      obtain ⟨s0, s1, s2, s3, s4, s5, s6, s7⟩ := froz_8 D.box
      obtain ⟨r0, r1, r2, r3, r4, r5, r6, r7⟩ := cells_8 D.res
      obtain ⟨q0, q1, q2, q3, q4, q5, q6, q7⟩ := froz_8 D.res
      have hlt := D.lt
      have hlt2 : ¬ w.heap.size = mb := by omega
      have hlt3 : ¬ mb = w.heap.size := by omega
      clear D
      go_wp2
      exact HE.out _ rfl rfl
/-- What the draw of an entry and a number leaves. -/
def ForgotP (w : World) (e : Ending) (w' : World) : Prop :=
  ∃ f0 f1 f2 f3 f4 f5 f6 d av cv c, e = .returned (.tuple #[.agg #[.int .i64 f0, .int .i64 f1, .bool f2, .int .i64 f3, .int .i64 f4, .int .i64 f5, .int .i64 f6, .slice av d.length cv], .int .i64 c]) ∧ d.length ≤ 3 ∧ (In64 f0 ∧ In64 f1 ∧ In64 f3 ∧ In64 f4 ∧ In64 f5 ∧ In64 f6) ∧ In64 c ∧ SlRd intR w' av d ∧ Below w.heap.size w w'
theorem row8_boxE {w : World} {a : Option Addr} {len : Nat} {zs : List Int} (h : Row8 w a len zs) (o : Obj) : Row8 (w.alloc o) a len zs := row8_below h (box_below w o)
set_option maxRecDepth 8000 in
set_option maxHeartbeats 4000000 in
theorem drawForgot_any (a : Option Addr) (len cap : Nat) (zs : List Int) (w : World) (hr : Row8 w a len zs) :
    Calls Try.prog 9 #[.slice a len cap] w fun e w' => ForgotP w e w' := by
  have X := heap_at w (.cells #[.int .i64 0, .int .i64 0, .bool false, .int .i64 0, .int .i64 0, .int .i64 0, .int .i64 0, .slice none 0 0] 26)
  have B := box_below w (.cells #[.int .i64 0, .int .i64 0, .bool false, .int .i64 0, .int .i64 0, .int .i64 0, .int .i64 0, .slice none 0 0] 26)
  have hr0 := row8_boxE hr (.cells #[.int .i64 0, .int .i64 0, .bool false, .int .i64 0, .int .i64 0, .int .i64 0, .int .i64 0, .slice none 0 0] 26)
  have e0 : (w.alloc (.cells #[.int .i64 0, .int .i64 0, .bool false, .int .i64 0, .int .i64 0, .int .i64 0, .int .i64 0, .slice none 0 0] 26)).heap.size ≥ w.heap.size + 1 := by simp
  go_enter Try.func9, Try.ntmps9
  go_wp2_with fail
  generalize w.alloc (.cells #[.int .i64 0, .int .i64 0, .bool false, .int .i64 0, .int .i64 0, .int .i64 0, .int .i64 0, .slice none 0 0] 26) = W0 at X B hr0 e0 ⊢
  refine (l1New_any _ _ _ zs _ hr0).mono ?_
  rintro e w1 ⟨rfl, hc1, hb1⟩
  replace X := row_keep hb1 X
  have B1 := below_step B hb1
  have z1 := hb1.size
  have hcl := cur_lt hc1
  have HB : Hid _ := B1
  have HX : Hid _ := X
  generalize hgg : W0.heap.size = gg at hc1 e0 z1 hcl ⊢
  clear hb1 hr0 hr B B1 X hgg
  go_wp2_with fail
  refine (l10DrawAny_any gg gg w1 hc1).mono ?_
  rintro e w2 ⟨f0, f1, f2, f3, f4, f5, f6, d, av, cv, rfl, hdl, DR⟩
  obtain ⟨vq, eq, i0, i1, i3, i4, i5, i6, -⟩ := ent_own DR.own
  have HI : Hid (In64 f0 ∧ In64 f1 ∧ In64 f3 ∧ In64 f4 ∧ In64 f5 ∧ In64 f6) := ⟨i0, i1, i3, i4, i5, i6⟩
  clear eq vq i0 i1 i3 i4 i5 i6
  have z2 := DR.chg.size
  have X3 : (w2.alloc (.cells #[.int .i64 f0, .int .i64 f1, .bool f2, .int .i64 f3, .int .i64 f4, .int .i64 f5, .int .i64 f6, .slice av d.length cv] 26)).heap[w.heap.size]? = some (.cells #[.int .i64 0, .int .i64 0, .bool false, .int .i64 0, .int .i64 0, .int .i64 0, .int .i64 0, .slice none 0 0] 26) := heap_on _ ((DR.chg.block _ (by omega) (by omega)).trans HX.out)
  have Y3 := heap_at w2 (.cells #[.int .i64 f0, .int .i64 f1, .bool f2, .int .i64 f3, .int .i64 f4, .int .i64 f5, .int .i64 f6, .slice av d.length cv] 26)
  have B3 : Below w.heap.size w (w2.alloc (.cells #[.int .i64 f0, .int .i64 f1, .bool f2, .int .i64 f3, .int .i64 f4, .int .i64 f5, .int .i64 f6, .slice av d.length cv] 26)) := below_step (DR.chg.below HB.out (fun k hk => by omega) (by omega)) (box_below _ _)
  have N3 : intsR.own (w2.alloc (.cells #[.int .i64 f0, .int .i64 f1, .bool f2, .int .i64 f3, .int .i64 f4, .int .i64 f5, .int .i64 f6, .slice av d.length cv] 26)) (rng w1.heap.size w2.heap.size) [.slice av d.length cv] d := own_box _ (ent_intsd (u := (f0, f1, f2, f3, f4, f5, f6, d)) DR.own)
  have C3 := cur_alloc DR.cur (.cells #[.int .i64 f0, .int .i64 f1, .bool f2, .int .i64 f3, .int .i64 f4, .int .i64 f5, .int .i64 f6, .slice av d.length cv] 26)
  have z3 : (w2.alloc (.cells #[.int .i64 f0, .int .i64 f1, .bool f2, .int .i64 f3, .int .i64 f4, .int .i64 f5, .int .i64 f6, .slice av d.length cv] 26)).heap.size ≥ w2.heap.size + 1 := by simp
  have HH : Hid _ := And.intro X3 (And.intro Y3 (And.intro B3 (And.intro N3 (And.intro C3 z3))))
  clear X3 Y3 B3 N3 C3 z3 DR HB HX hc1
  go_wp2
  obtain ⟨X3, Y3, B3, N3, C3, z3⟩ := HH.out
  clear HH
  generalize w2.alloc (.cells #[.int .i64 f0, .int .i64 f1, .bool f2, .int .i64 f3, .int .i64 f4, .int .i64 f5, .int .i64 f6, .slice av d.length cv] 26) = W3 at X3 Y3 B3 N3 C3 z3 ⊢
  obtain ⟨m0, m1, m2, m3, m4, m5, m6, m7⟩ := cells_8 Y3
  obtain ⟨s0, s1, s2, s3, s4, s5, s6, s7⟩ := cells_8 X3
  obtain ⟨q0, q1, q2, q3, q4, q5, q6, q7⟩ := froz_8 X3
  go_region_with (go_at_call 33
                  refine (l1From_small gg gg (-1) 7 _ (cur_drew C3) (by omega) (by omega) (by omega) (by omega)).mono ?_
                  rintro e w4 ⟨c, rfl, c0, c1, hc4, hgd⟩
                  have hg : W3.grownBy w4 (some gg) := ⟨hgd.os, hgd.tape, hgd.output, hgd.size, hgd.block⟩
                  have ch := chg_grown (S := fun b => b = gg) hg rfl
                  replace X3 := (ch.block _ (by omega) (by omega)).trans X3
                  replace Y3 := (ch.block _ (by omega) (by omega)).trans Y3
                  have B4 := ch.below B3 (fun k hk => by omega) (by omega)
                  have N4 := own_chg N3 ch (fun j hj e => by have := hj.1; omega)
                  clear m0 m1 m2 m3 m4 m5 m6 m7 s0 s1 s2 s3 s4 s5 s6 s7 q0 q1 q2 q3 q4 q5 q6 q7 hg hgd hc4 ch
                  obtain ⟨m0, m1, m2, m3, m4, m5, m6, m7⟩ := cells_8 Y3
                  obtain ⟨s0, s1, s2, s3, s4, s5, s6, s7⟩ := cells_8 X3
                  obtain ⟨q0, q1, q2, q3, q4, q5, q6, q7⟩ := froz_8 X3)
  all_goals
    go_wp2
    obtain ⟨r0, r1, r2, r3, r4, r5, r6, r7⟩ := cells_8 (put_8 (y0 := .int .i64 f0) (y1 := .int .i64 f1) (y2 := .bool f2) (y3 := .int .i64 f3) (y4 := .int .i64 f4) (y5 := .int .i64 f5) (y6 := .int .i64 f6) (y7 := .slice av d.length cv) X3)
    have c7 : Chg (fun b => b = w.heap.size) w4 ((((((((w4.setCell ⟨w.heap.size, 0, none⟩ (.int .i64 f0)).setCell ⟨w.heap.size, 1, none⟩ (.int .i64 f1)).setCell ⟨w.heap.size, 2, none⟩ (.bool f2)).setCell ⟨w.heap.size, 3, none⟩ (.int .i64 f3)).setCell ⟨w.heap.size, 4, none⟩ (.int .i64 f4)).setCell ⟨w.heap.size, 5, none⟩ (.int .i64 f5)).setCell ⟨w.heap.size, 6, none⟩ (.int .i64 f6)).setCell ⟨w.heap.size, 7, none⟩ (.slice av d.length cv)) := (((((((chg_set).trans chg_set).trans chg_set).trans chg_set).trans chg_set).trans chg_set).trans chg_set).trans chg_set
    have k2 := own_chg N4 c7 (fun j hj e => by have := hj.1; omega)
    have k3 := c7.below B4 (fun j hj => by omega) B4.size
    exact bodyPost_ret (v := .tuple #[.agg #[.int .i64 f0, .int .i64 f1, .bool f2, .int .i64 f3, .int .i64 f4, .int .i64 f5, .int .i64 f6, .slice av d.length cv], .int .i64 c]) (by simp [results, Try.results9, go_sem, r0, r1, r2, r3, r4, r5, r6, r7]) rfl ⟨f0, f1, f2, f3, f4, f5, f6, d, av, cv, c, rfl, hdl, HI.out, small64 (by omega) (by omega), ints_rd7 k2, k3⟩
end Go.Proofs.Ytlbolnbchijknaa
