import Derived.Test.YtoihjejenjcokaaGreatDoorP00Box
import Derived.Test.YtoihjejenjcokaaGreatDoorP30GotQ
import Derived.Deep.RegionHeld3
import Derived.BigQuiet
import Derived.Deep.QuietTactic
namespace Go.Proofs.YtoihjejenjcokaaGreatDoor
open Go.ChangeShapes Go.WideShapes Go.ChangeAt Go.RowKit
set_option linter.unusedVariables false
set_option maxHeartbeats 16000000 in
set_option maxRecDepth 20000 in
theorem zKJ (cs us : List Value) (x : zAE) (u : zAU) (w : World) (hh : Hold w) (hr : zAn.rd w cs x) (hu : zAS.rd w us u) (hk : zAZ x = true) :
    Calls Tryz.prog 104 #[zAM cs, zAM us] w fun e w' => e = .returned (.bool (zEZ x u)) ∧ Below w.heap.size w w' := by
 have HKO : Hid (x.2.2.2.1 = 2 → zBN (zBv (toS x)) = true ∧ ∀ W, Below w.heap.size w W → Calls Tryz.prog 128 #[zAM cs] W fun e w' => e = .returned (.agg #[.int .i64 (zBv (toS x)).1, .int .i64 (zBv (toS x)).2.1, .int .i64 (zBv (toS x)).2.2.1, .int .i64 (zBv (toS x)).2.2.2]) ∧ Below W.heap.size W w') := fun q => ⟨(zB4 hk).ops _ (zEa (zB4 hk).at0 ((zB4 hk).wait q)), fun W hb => zLr cs x W (zAN hr hb) (zB4 hk).at0 ((zB4 hk).wait q)⟩
 obtain ⟨b9, hb9⟩ : ∃ b9, b9 = zEZ x u := ⟨_, rfl⟩
 rw [← hb9]
 unfold zEZ at hb9
 obtain ⟨v0, v1, v2, v5, v6, v7, v8, rfl, r0, r1, i2, i3, r4, r5⟩ := zCs hr
 obtain ⟨a0, c0, b0, d0, e0, -⟩ := zAH r0
 simp only [List.cons.injEq, and_true] at e0
 obtain ⟨rfl, rfl⟩ := e0
 obtain ⟨a1, c1, e1, -, -, -⟩ := r1
 simp only [List.cons.injEq, and_true] at e1
 obtain rfl := e1
 obtain ⟨a4, c4, e4, -, -, -, -, -⟩ := zAL r4
 simp only [List.cons.injEq, and_true] at e4
 obtain ⟨rfl, rfl, rfl⟩ := e4
 obtain ⟨a5, c5, e5, -, -, -⟩ := r5
 simp only [List.cons.injEq, and_true] at e5
 obtain rfl := e5
 obtain ⟨ua, uc, rfl, -, -, -, -, -⟩ := zAL hu
 clear hr r0 r4 i2 i3 hu
 have HHH : Hid (Hold w) := hh
 generalize zBv (toS x) = o at HKO hb9
 clear hk hh
 obtain ⟨c, p, at_, ph, h, t⟩ := x
 simp only at *
 rw [show zAM [.slice a0 c.1.length c0, .slice b0 c.2.length d0, .slice a1 p.length c1, .int .i64 at_, .int .i64 ph, .int .i64 h.1, .int .i64 h.2.1, .slice a4 h.2.2.length c4, .slice a5 t.length c5] = .agg #[.slice a0 c.1.length c0, .slice b0 c.2.length d0, .slice a1 p.length c1, .int .i64 at_, .int .i64 ph, .int .i64 h.1, .int .i64 h.2.1, .slice a4 h.2.2.length c4, .slice a5 t.length c5] from rfl] at HKO ⊢
 rw [show zAM [.int .i64 u.1, .int .i64 u.2.1, .slice ua u.2.2.length uc] = .agg #[.int .i64 u.1, .int .i64 u.2.1, .slice ua u.2.2.length uc] from rfl]
 have B := Below.refl w.heap.size w
 by_cases hz : ph = 2
 ·obtain ⟨hoo, hop⟩ := HKO.out hz
  have z1 : (ph == 2) = true := by simp [hz]
  rw [decide_eq_true hz, Bool.true_and] at hb9
  have HOP : Hid _ := hop
  have HLN : Hid (∀ W, Calls Tryz.prog 129 #[.agg #[.int .i64 o.1, .int .i64 o.2.1, .int .i64 o.2.2.1, .int .i64 o.2.2.2]] W fun e w' => e = .returned (.int .i64 (zBf o)) ∧ Below W.heap.size W w') := fun W => zMi o W hoo
  have HWR : Hid (∀ W, Calls Tryz.prog 131 #[.agg #[.int .i64 o.1, .int .i64 o.2.1, .int .i64 o.2.2.1, .int .i64 o.2.2.2]] W fun e w' => e = .returned (.bool (zCV o)) ∧ Below W.heap.size W w') := fun W => zFW o W
  generalize zBf o = ol at HLN hb9
  generalize zCV o = ow at HWR hb9
  have HAS : Hid (∀ W, Below w.heap.size w W → Calls Tryz.prog 130 #[.int .i64 u.2.1, .bool ow] W fun e w' => e = .returned (.int .i64 (zCl u.2.1 ow)) ∧ Below W.heap.size W w') := fun W hb => (zIR u.2.1 ow W (HHH.out.goes hb)).mono fun e w' ⟨q, r⟩ => ⟨q, zFj r⟩
  generalize zCl u.2.1 ow = ak at HAS hb9
  clear hop hoo hz HKO
  by_cases hl : ol = u.1
  ·have z2 : (ol == u.1) = true := by simp [hl]
   rw [decide_eq_true hl, Bool.true_and] at hb9
   clear hl
   by_cases ha : ak = 0
   ·have z3 : (ak == 0) = true := by simp [ha]
    rw [decide_eq_true ha] at hb9
    clear ha
    go_enter Tryz.func104, Tryz.ntmps104
    go_upto_region 1 with fail
    generalize hu1w : w.alloc _ = u1w
    have X := boxH hu1w
    have bz := boxB hu1w
    have zX := boxL hu1w
    clear hu1w
    replace B := zAb B bz
    clear bz
    have zXa := Nat.le_of_eq zX
    have zXb := Nat.le_of_eq zX.symm
    clear zX
    generalize hu2w : u1w.alloc _ = u2w
    have V := boxH hu2w
    have bz := boxB hu2w
    have zV := boxL hu2w
    clear hu2w
    rw [show u1w.heap.size = w.heap.size + 1 from by omega] at V
    replace B := zAb B bz
    replace X := zAa bz X
    clear bz
    have zVa := Nat.le_of_eq zV
    have zVb := Nat.le_of_eq zV.symm
    clear zV
    obtain ⟨Xc0, Xc1, Xc2, Xc3, Xc4, Xc5, Xc6, Xc7, Xc8⟩ := zAc X
    have Xlt := (Array.getElem?_eq_some_iff.1 X).1
    obtain ⟨Vc0, Vc1, Vc2⟩ := zAg V
    have Vlt := (Array.getElem?_eq_some_iff.1 V).1
    replace B := B.drew
    first | (go_region_held3 (fun wx => wx.cell? ⟨w.heap.size, 0, none⟩ = some (.slice a0 c.1.length c0) ∧ wx.cell? ⟨w.heap.size, 1, none⟩ = some (.slice b0 c.2.length d0) ∧ wx.cell? ⟨w.heap.size, 2, none⟩ = some (.slice a1 p.length c1) ∧ wx.cell? ⟨w.heap.size, 3, none⟩ = some (.int .i64 at_) ∧ wx.cell? ⟨w.heap.size, 4, none⟩ = some (.int .i64 ph) ∧ wx.cell? ⟨w.heap.size, 5, none⟩ = some (.int .i64 h.1) ∧ wx.cell? ⟨w.heap.size, 6, none⟩ = some (.int .i64 h.2.1) ∧ wx.cell? ⟨w.heap.size, 7, none⟩ = some (.slice a4 h.2.2.length c4) ∧ wx.cell? ⟨w.heap.size, 8, none⟩ = some (.slice a5 t.length c5) ∧ wx.cell? ⟨w.heap.size + 1, 0, none⟩ = some (.int .i64 u.1) ∧ wx.cell? ⟨w.heap.size + 1, 1, none⟩ = some (.int .i64 u.2.1) ∧ wx.cell? ⟨w.heap.size + 1, 2, none⟩ = some (.slice ua u.2.2.length uc)) (first | (exact ⟨Xc0, Xc1, Xc2, Xc3, Xc4, Xc5, Xc6, Xc7, Xc8, Vc0, Vc1, Vc2⟩)) (first | (go_at_call 128; refine (HOP.out _ B).mono ?_; rintro e wq ⟨rfl, mb⟩; replace B := zAb B mb; replace X := zAa mb X; replace V := zAa mb V; clear mb; clear Xc0 Xc1 Xc2 Xc3 Xc4 Xc5 Xc6 Xc7 Xc8 Xlt Vc0 Vc1 Vc2 Vlt; obtain ⟨Xc0, Xc1, Xc2, Xc3, Xc4, Xc5, Xc6, Xc7, Xc8⟩ := zAc X; have Xlt := (Array.getElem?_eq_some_iff.1 X).1; obtain ⟨Vc0, Vc1, Vc2⟩ := zAg V; have Vlt := (Array.getElem?_eq_some_iff.1 V).1) | (go_at_call 129; refine (HLN.out _).mono ?_; rintro e wq ⟨rfl, mb⟩; replace B := zAb B mb; replace X := zAa mb X; replace V := zAa mb V; clear mb; clear Xc0 Xc1 Xc2 Xc3 Xc4 Xc5 Xc6 Xc7 Xc8 Xlt Vc0 Vc1 Vc2 Vlt; obtain ⟨Xc0, Xc1, Xc2, Xc3, Xc4, Xc5, Xc6, Xc7, Xc8⟩ := zAc X; have Xlt := (Array.getElem?_eq_some_iff.1 X).1; obtain ⟨Vc0, Vc1, Vc2⟩ := zAg V; have Vlt := (Array.getElem?_eq_some_iff.1 V).1) | (go_at_call 131; refine (HWR.out _).mono ?_; rintro e wq ⟨rfl, mb⟩; replace B := zAb B mb; replace X := zAa mb X; replace V := zAa mb V; clear mb; clear Xc0 Xc1 Xc2 Xc3 Xc4 Xc5 Xc6 Xc7 Xc8 Xlt Vc0 Vc1 Vc2 Vlt; obtain ⟨Xc0, Xc1, Xc2, Xc3, Xc4, Xc5, Xc6, Xc7, Xc8⟩ := zAc X; have Xlt := (Array.getElem?_eq_some_iff.1 X).1; obtain ⟨Vc0, Vc1, Vc2⟩ := zAg V; have Vlt := (Array.getElem?_eq_some_iff.1 V).1) | (go_at_call 130; refine (HAS.out _ B).mono ?_; rintro e wq ⟨rfl, mb⟩; replace B := zAb B mb; replace X := zAa mb X; replace V := zAa mb V; clear mb; clear Xc0 Xc1 Xc2 Xc3 Xc4 Xc5 Xc6 Xc7 Xc8 Xlt Vc0 Vc1 Vc2 Vlt; obtain ⟨Xc0, Xc1, Xc2, Xc3, Xc4, Xc5, Xc6, Xc7, Xc8⟩ := zAc X; have Xlt := (Array.getElem?_eq_some_iff.1 X).1; obtain ⟨Vc0, Vc1, Vc2⟩ := zAg V; have Vlt := (Array.getElem?_eq_some_iff.1 V).1))) | fail
    all_goals
     clear X V
     go_wp2
     subst hb9
     go_ret
     exact ⟨rfl, B⟩
   ·have z3 : (ak == 0) = false := by simp [ha]
    rw [decide_eq_false ha] at hb9
    clear ha
    go_enter Tryz.func104, Tryz.ntmps104
    go_upto_region 1 with fail
    generalize hu3w : w.alloc _ = u3w
    have X := boxH hu3w
    have bz := boxB hu3w
    have zX := boxL hu3w
    clear hu3w
    replace B := zAb B bz
    clear bz
    have zXa := Nat.le_of_eq zX
    have zXb := Nat.le_of_eq zX.symm
    clear zX
    generalize hu4w : u3w.alloc _ = u4w
    have V := boxH hu4w
    have bz := boxB hu4w
    have zV := boxL hu4w
    clear hu4w
    rw [show u3w.heap.size = w.heap.size + 1 from by omega] at V
    replace B := zAb B bz
    replace X := zAa bz X
    clear bz
    have zVa := Nat.le_of_eq zV
    have zVb := Nat.le_of_eq zV.symm
    clear zV
    obtain ⟨Xc0, Xc1, Xc2, Xc3, Xc4, Xc5, Xc6, Xc7, Xc8⟩ := zAc X
    have Xlt := (Array.getElem?_eq_some_iff.1 X).1
    obtain ⟨Vc0, Vc1, Vc2⟩ := zAg V
    have Vlt := (Array.getElem?_eq_some_iff.1 V).1
    replace B := B.drew
    first | (go_region_held3 (fun wx => wx.cell? ⟨w.heap.size, 0, none⟩ = some (.slice a0 c.1.length c0) ∧ wx.cell? ⟨w.heap.size, 1, none⟩ = some (.slice b0 c.2.length d0) ∧ wx.cell? ⟨w.heap.size, 2, none⟩ = some (.slice a1 p.length c1) ∧ wx.cell? ⟨w.heap.size, 3, none⟩ = some (.int .i64 at_) ∧ wx.cell? ⟨w.heap.size, 4, none⟩ = some (.int .i64 ph) ∧ wx.cell? ⟨w.heap.size, 5, none⟩ = some (.int .i64 h.1) ∧ wx.cell? ⟨w.heap.size, 6, none⟩ = some (.int .i64 h.2.1) ∧ wx.cell? ⟨w.heap.size, 7, none⟩ = some (.slice a4 h.2.2.length c4) ∧ wx.cell? ⟨w.heap.size, 8, none⟩ = some (.slice a5 t.length c5) ∧ wx.cell? ⟨w.heap.size + 1, 0, none⟩ = some (.int .i64 u.1) ∧ wx.cell? ⟨w.heap.size + 1, 1, none⟩ = some (.int .i64 u.2.1) ∧ wx.cell? ⟨w.heap.size + 1, 2, none⟩ = some (.slice ua u.2.2.length uc)) (first | (exact ⟨Xc0, Xc1, Xc2, Xc3, Xc4, Xc5, Xc6, Xc7, Xc8, Vc0, Vc1, Vc2⟩)) (first | (go_at_call 128; refine (HOP.out _ B).mono ?_; rintro e wq ⟨rfl, mb⟩; replace B := zAb B mb; replace X := zAa mb X; replace V := zAa mb V; clear mb; clear Xc0 Xc1 Xc2 Xc3 Xc4 Xc5 Xc6 Xc7 Xc8 Xlt Vc0 Vc1 Vc2 Vlt; obtain ⟨Xc0, Xc1, Xc2, Xc3, Xc4, Xc5, Xc6, Xc7, Xc8⟩ := zAc X; have Xlt := (Array.getElem?_eq_some_iff.1 X).1; obtain ⟨Vc0, Vc1, Vc2⟩ := zAg V; have Vlt := (Array.getElem?_eq_some_iff.1 V).1) | (go_at_call 129; refine (HLN.out _).mono ?_; rintro e wq ⟨rfl, mb⟩; replace B := zAb B mb; replace X := zAa mb X; replace V := zAa mb V; clear mb; clear Xc0 Xc1 Xc2 Xc3 Xc4 Xc5 Xc6 Xc7 Xc8 Xlt Vc0 Vc1 Vc2 Vlt; obtain ⟨Xc0, Xc1, Xc2, Xc3, Xc4, Xc5, Xc6, Xc7, Xc8⟩ := zAc X; have Xlt := (Array.getElem?_eq_some_iff.1 X).1; obtain ⟨Vc0, Vc1, Vc2⟩ := zAg V; have Vlt := (Array.getElem?_eq_some_iff.1 V).1) | (go_at_call 131; refine (HWR.out _).mono ?_; rintro e wq ⟨rfl, mb⟩; replace B := zAb B mb; replace X := zAa mb X; replace V := zAa mb V; clear mb; clear Xc0 Xc1 Xc2 Xc3 Xc4 Xc5 Xc6 Xc7 Xc8 Xlt Vc0 Vc1 Vc2 Vlt; obtain ⟨Xc0, Xc1, Xc2, Xc3, Xc4, Xc5, Xc6, Xc7, Xc8⟩ := zAc X; have Xlt := (Array.getElem?_eq_some_iff.1 X).1; obtain ⟨Vc0, Vc1, Vc2⟩ := zAg V; have Vlt := (Array.getElem?_eq_some_iff.1 V).1) | (go_at_call 130; refine (HAS.out _ B).mono ?_; rintro e wq ⟨rfl, mb⟩; replace B := zAb B mb; replace X := zAa mb X; replace V := zAa mb V; clear mb; clear Xc0 Xc1 Xc2 Xc3 Xc4 Xc5 Xc6 Xc7 Xc8 Xlt Vc0 Vc1 Vc2 Vlt; obtain ⟨Xc0, Xc1, Xc2, Xc3, Xc4, Xc5, Xc6, Xc7, Xc8⟩ := zAc X; have Xlt := (Array.getElem?_eq_some_iff.1 X).1; obtain ⟨Vc0, Vc1, Vc2⟩ := zAg V; have Vlt := (Array.getElem?_eq_some_iff.1 V).1))) | fail
    all_goals
     clear X V
     go_wp2
     subst hb9
     go_ret
     exact ⟨rfl, B⟩
  ·have z2 : (ol == u.1) = false := by simp [hl]
   rw [decide_eq_false hl, Bool.false_and] at hb9
   clear hl HWR HAS
   go_enter Tryz.func104, Tryz.ntmps104
   go_upto_region 1 with fail
   generalize hu5w : w.alloc _ = u5w
   have X := boxH hu5w
   have bz := boxB hu5w
   have zX := boxL hu5w
   clear hu5w
   replace B := zAb B bz
   clear bz
   have zXa := Nat.le_of_eq zX
   have zXb := Nat.le_of_eq zX.symm
   clear zX
   generalize hu6w : u5w.alloc _ = u6w
   have V := boxH hu6w
   have bz := boxB hu6w
   have zV := boxL hu6w
   clear hu6w
   rw [show u5w.heap.size = w.heap.size + 1 from by omega] at V
   replace B := zAb B bz
   replace X := zAa bz X
   clear bz
   have zVa := Nat.le_of_eq zV
   have zVb := Nat.le_of_eq zV.symm
   clear zV
   obtain ⟨Xc0, Xc1, Xc2, Xc3, Xc4, Xc5, Xc6, Xc7, Xc8⟩ := zAc X
   have Xlt := (Array.getElem?_eq_some_iff.1 X).1
   obtain ⟨Vc0, Vc1, Vc2⟩ := zAg V
   have Vlt := (Array.getElem?_eq_some_iff.1 V).1
   replace B := B.drew
   first | (go_region_with (first | (go_at_call 128; refine (HOP.out _ B).mono ?_; rintro e wq ⟨rfl, mb⟩; replace B := zAb B mb; replace X := zAa mb X; replace V := zAa mb V; clear mb; clear Xc0 Xc1 Xc2 Xc3 Xc4 Xc5 Xc6 Xc7 Xc8 Xlt Vc0 Vc1 Vc2 Vlt; obtain ⟨Xc0, Xc1, Xc2, Xc3, Xc4, Xc5, Xc6, Xc7, Xc8⟩ := zAc X; have Xlt := (Array.getElem?_eq_some_iff.1 X).1; obtain ⟨Vc0, Vc1, Vc2⟩ := zAg V; have Vlt := (Array.getElem?_eq_some_iff.1 V).1) | (go_at_call 129; refine (HLN.out _).mono ?_; rintro e wq ⟨rfl, mb⟩; replace B := zAb B mb; replace X := zAa mb X; replace V := zAa mb V; clear mb; clear Xc0 Xc1 Xc2 Xc3 Xc4 Xc5 Xc6 Xc7 Xc8 Xlt Vc0 Vc1 Vc2 Vlt; obtain ⟨Xc0, Xc1, Xc2, Xc3, Xc4, Xc5, Xc6, Xc7, Xc8⟩ := zAc X; have Xlt := (Array.getElem?_eq_some_iff.1 X).1; obtain ⟨Vc0, Vc1, Vc2⟩ := zAg V; have Vlt := (Array.getElem?_eq_some_iff.1 V).1))) | fail
   all_goals
    clear X V
    go_wp2
    subst hb9
    go_ret
    exact ⟨rfl, B⟩
 ·have z1 : (ph == 2) = false := by simp [hz]
  rw [decide_eq_false hz, Bool.false_and] at hb9
  clear hz HKO
  go_enter Tryz.func104, Tryz.ntmps104
  go_upto_region 1 with fail
  generalize hu7w : w.alloc _ = u7w
  have X := boxH hu7w
  have bz := boxB hu7w
  have zX := boxL hu7w
  clear hu7w
  replace B := zAb B bz
  clear bz
  have zXa := Nat.le_of_eq zX
  have zXb := Nat.le_of_eq zX.symm
  clear zX
  generalize hu8w : u7w.alloc _ = u8w
  have V := boxH hu8w
  have bz := boxB hu8w
  have zV := boxL hu8w
  clear hu8w
  rw [show u7w.heap.size = w.heap.size + 1 from by omega] at V
  replace B := zAb B bz
  replace X := zAa bz X
  clear bz
  have zVa := Nat.le_of_eq zV
  have zVb := Nat.le_of_eq zV.symm
  clear zV
  obtain ⟨Xc0, Xc1, Xc2, Xc3, Xc4, Xc5, Xc6, Xc7, Xc8⟩ := zAc X
  have Xlt := (Array.getElem?_eq_some_iff.1 X).1
  obtain ⟨Vc0, Vc1, Vc2⟩ := zAg V
  have Vlt := (Array.getElem?_eq_some_iff.1 V).1
  have HB : Hid _ := B
  clear X V B
  go_quiet (fail)
  go_wp2
  subst hb9
  go_ret
  exact ⟨rfl, by first | exact HB.out | exact HB.out.drew | exact zBt HB.out _⟩
end Go.Proofs.YtoihjejenjcokaaGreatDoor
