import Derived.Test.YtoihjejenjcokaaGreatDoorP00Box
import Derived.Test.YtoihjejenjcokaaGreatDoorP29CoreEvict
import Derived.Test.YtoihjejenjcokaaGreatDoorP27Ops2
import Derived.BigRegion
import Derived.Deep.DeepCutAuto
namespace Go.Proofs.YtoihjejenjcokaaGreatDoor
set_option maxHeartbeats 8000000
set_option maxRecDepth 20000
open Go.ChangeShapes Go.WideShapes Go.ChangeAt Go.RowKit
set_option linter.unusedVariables false
theorem coreNone {w' : World} {T : zAX} {ds : List Value} {x : zAE} (h : zAn.own w' T ds x) (hT : ∀ k, T k → k < w'.heap.size) :
    (zBP zAn zBp).own (w'.alloc (.cells #[] 46)) (fun k => T k ∨ (w'.heap.size ≤ k ∧ k < (w'.alloc (.cells #[] 46)).heap.size)) (ds ++ [.slice (some ⟨w'.heap.size, 0, none⟩) 0 0]) (x, []) := by
 have al := zAp w' (.cells #[] 46)
 exact zDL (zAn.own_keep h (zAh (zAf w' _))) (zC3 w') (fun k hk => .inl hk) (fun k hk => .inr ⟨by omega, by omega⟩) (fun k ha hb => by have := hT k ha; omega)
theorem chgDrew {S : zAX} {w W : World} (h : Chg S w W) : Chg S w W.drew := ⟨h.os, h.tape, h.output, h.size, h.block⟩
def zEI (S : zAX) (w : World) (y : zAE) (l : List zB5) (k : Int) (e : Ending) (w' : World) : Prop := ∃ ds ms, e = .returned (.tuple #[zAM ds, ms, .int .i64 k]) ∧ ds.length = zAn.size ∧ (zBP zAn zBp).own w' (fun j => S j ∨ (w.heap.size ≤ j ∧ j < w'.heap.size)) (ds ++ [ms]) (y, l) ∧ Chg S w w'
theorem zJ5 {S T : zAX} {w W : World} {y : zAE} {cs vs : List Value} {k : Int} {r : Nat} (C : Chg S w W) (ho : zAn.own W T cs y) (hT : ∀ j, T j → (S j ∨ w.heap.size ≤ j) ∧ j < W.heap.size) (hr : w.heap.size ≤ r) (hTr : ¬ T r) :
    zEI S w y [] k (.returned (.tuple #[zAM cs, .slice (some ⟨W.heap.size, 0, none⟩) 0 0, .int .i64 k])) ((zAo W r 0 vs).alloc (.cells #[] 46)) := by
 have FS : (zAo W r 0 vs).heap.size = W.heap.size := zAj _ _ _
 have CO := coreNone (zAs (g := r) (o := 0) (vs := vs) ho hTr) (fun j q => by rw [FS]; exact (hT j q).2)
 rw [FS] at CO
 refine ⟨cs, _, rfl, zAn.rd_len (zAn.own_rd ho), (zBP zAn zBp).own_mono CO ?_, (zBg C hr).trans (zA9 (zAf _ _))⟩
 intro j q
 have hw := C.size
 have := zAp (zAo W r 0 vs) (.cells #[] 46)
 rcases q with q | q
 ·obtain ⟨q1, q2⟩ := hT j q
  rcases q1 with q1 | q1
  ·exact .inl q1
  ·exact .inr ⟨q1, by omega⟩
 ·exact .inr ⟨by omega, q.2⟩
theorem zEF {S T U : zAX} {w W : World} {y : zAE} {m : zB5} {cs cm vs : List Value} {k : Int} {r : Nat} (C : Chg S w W) (ho : zAn.own W T cs y) (hm : zBy.own W U cm m) (hTU : Dis T U) (hT : ∀ j, T j → (S j ∨ w.heap.size ≤ j) ∧ j < W.heap.size) (hU : ∀ j, U j → (S j ∨ w.heap.size ≤ j) ∧ j < W.heap.size) (hr : w.heap.size ≤ r) (hTr : ¬ T r) (hUr : ¬ U r) :
    zEI S w y [m] k (.returned (.tuple #[zAM cs, .slice (some ⟨W.heap.size, 0, none⟩) 1 1, .int .i64 k])) ((zAo W r 0 vs).alloc (.cells cm.toArray 46)) := by
 have FS : (zAo W r 0 vs).heap.size = W.heap.size := zAj _ _ _
 have OC := zAn.own_keep (zAs (g := r) (o := 0) (vs := vs) ho hTr) (zAh (zAf (zAo W r 0 vs) (.cells cm.toArray 46)))
 have OM := zFJ (e := 46) (R := zBy) (by decide) (zAs (g := r) (o := 0) (vs := vs) hm hUr) (fun j q => by rw [FS]; exact (hU j q).2)
 rw [FS] at OM
 have hw := C.size
 have al := zAp (zAo W r 0 vs) (.cells cm.toArray 46)
 refine ⟨cs, _, rfl, zAn.rd_len (zAn.own_rd ho), zDL OC OM ?_ ?_ ?_, (zBg C hr).trans (zA9 (zAf _ _))⟩
 ·intro j q
  obtain ⟨q1, q2⟩ := hT j q
  rcases q1 with q1 | q1
  ·exact .inl q1
  ·exact .inr ⟨q1, by omega⟩
 ·intro j q
  rcases q with q | q
  ·obtain ⟨q1, q2⟩ := hU j q
   rcases q1 with q1 | q1
   ·exact .inl q1
   ·exact .inr ⟨q1, by omega⟩
  ·exact .inr ⟨by omega, by omega⟩
 ·intro j a b
  rcases b with b | b
  ·exact hTU j a b
  ·have := (hT j a).2; omega
theorem zDE {S T U : zAX} {w W : World} {y : zAE} {m : zB5} {cs cm vs : List Value} {k : Int} {r : Nat} (C : Chg S w W) (ho : zAn.own W T cs y) (hm : zBy.own W U cm m) (hTU : Dis T U) (hT : ∀ j, T j → (S j ∨ w.heap.size ≤ j) ∧ j < W.heap.size) (hU : ∀ j, U j → (S j ∨ w.heap.size ≤ j) ∧ j < W.heap.size) (hr : w.heap.size ≤ r) (hTr : ¬ T r) (hUr : ¬ U r) (hrW : r < W.heap.size) :
    zEI S w y [m] k (.returned (.tuple #[zAM cs, .slice (some ⟨W.heap.size, 0, none⟩) 1 1, .int .i64 k])) (zAo (W.alloc (.cells cm.toArray 46)) r 0 vs) := by
 have al := zAp W (.cells cm.toArray 46)
 have FS : (zAo (W.alloc (.cells cm.toArray 46)) r 0 vs).heap.size = W.heap.size + 1 := (zAj _ _ _).trans al
 have OC := zAs (g := r) (o := 0) (vs := vs) (zAn.own_keep ho (zAh (zAf W (.cells cm.toArray 46)))) hTr
 have OM := zAs (g := r) (o := 0) (vs := vs) (zFJ (e := 46) (R := zBy) (by decide) hm (fun j q => (hU j q).2)) (fun q => by rcases q with q | q; exact hUr q; omega)
 have hw := C.size
 refine ⟨cs, _, rfl, zAn.rd_len (zAn.own_rd ho), zDL OC OM ?_ ?_ ?_, zBg (C.trans (zA9 (zAf _ _))) hr⟩
 ·intro j q
  obtain ⟨q1, q2⟩ := hT j q
  rcases q1 with q1 | q1
  ·exact .inl q1
  ·exact .inr ⟨q1, by omega⟩
 ·intro j q
  rcases q with q | q
  ·obtain ⟨q1, q2⟩ := hU j q
   rcases q1 with q1 | q1
   ·exact .inl q1
   ·exact .inr ⟨q1, by omega⟩
  ·exact .inr ⟨by omega, by omega⟩
 ·intro j a b
  rcases b with b | b
  ·exact hTU j a b
  ·have := (hT j a).2; omega
theorem lt9 {w : World} {g b : Nat} {x0 x1 x2 x3 x4 x5 x6 x7 x8 : Value} (h : b < w.heap.size) : b < (((((((((w.setCell ⟨g, 0, none⟩ x0).setCell ⟨g, 1, none⟩ x1).setCell ⟨g, 2, none⟩ x2).setCell ⟨g, 3, none⟩ x3).setCell ⟨g, 4, none⟩ x4).setCell ⟨g, 5, none⟩ x5).setCell ⟨g, 6, none⟩ x6).setCell ⟨g, 7, none⟩ x7).setCell ⟨g, 8, none⟩ x8).heap.size := by simpa using h
theorem zCg {S S' : zAX} {w W wd : World} {y : zAE} {l : List zB5} {k : Int} {cs vs : List Value} {ms : Value} {r : Nat} (C : Chg S w W) (hS' : ∀ j, S' j → S j ∨ w.heap.size ≤ j) (hl : cs.length = zAn.size) (DO : (zBP zAn zBp).own wd (fun j => S' j ∨ (W.heap.size ≤ j ∧ j < wd.heap.size)) (cs ++ [ms]) (y, l)) (hlt : ∀ j, S' j → j < wd.heap.size) (DC : Chg S' W wd) (hr : w.heap.size ≤ r) (hr2 : r < W.heap.size) (hn : ¬ S' r) :
    zEI S w y l k (.returned (.tuple #[zAM cs, ms, .int .i64 k])) (zAo wd r 0 vs) := by
 have FS : (zAo wd r 0 vs).heap.size = wd.heap.size := zAj _ _ _
 have C2 : Chg S w wd := ⟨DC.os.trans C.os, DC.tape.trans C.tape, DC.output.trans C.output, Nat.le_trans C.size DC.size, fun j hj hn => (DC.block j (Nat.lt_of_lt_of_le hj C.size) (fun q => by
  rcases hS' j q with q | q
  ·exact hn q
  ·omega)).trans (C.block j hj hn)⟩
 have hw := C.size
 refine ⟨cs, ms, rfl, hl, (zBP zAn zBp).own_mono (zAs (g := r) (o := 0) (vs := vs) DO (fun q => by rcases q with q | q; exact hn q; omega)) ?_, zBg C2 hr⟩
 intro j q
 rw [FS]
 rcases q with q | q
 ·rcases hS' j q with q1 | q1
  ·exact .inl q1
  ·exact .inr ⟨q1, hlt j q⟩
 ·exact .inr ⟨by omega, q.2⟩
theorem zCa {S : zAX} {w : World} {y : zAE} {l : List zB5} {k : Int} {e : Ending} {w' : World} (h : zEI S w y l k e w') : ∃ (a0 : Option Addr) (a1 : Nat) (a2 : Option Addr) (a3 : Nat) (a4 : Option Addr) (a5 : Nat) (a6 : Option Addr) (a7 : Nat) (a8 : Option Addr) (a9 : Nat) (sa : Option Addr) (sc : Nat), e = .returned (.tuple #[.agg #[.slice a0 y.1.1.length a1, .slice a2 y.1.2.length a3, .slice a4 y.2.1.length a5, .int .i64 y.2.2.1, .int .i64 y.2.2.2.1, .int .i64 y.2.2.2.2.1.1, .int .i64 y.2.2.2.2.1.2.1, .slice a6 y.2.2.2.2.1.2.2.length a7, .slice a8 y.2.2.2.2.2.length a9], .slice sa l.length sc, .int .i64 k]) ∧ (zBP zAn zBp).own w' (fun j => S j ∨ (w.heap.size ≤ j ∧ j < w'.heap.size)) ([.slice a0 y.1.1.length a1, .slice a2 y.1.2.length a3, .slice a4 y.2.1.length a5, .int .i64 y.2.2.1, .int .i64 y.2.2.2.1, .int .i64 y.2.2.2.2.1.1, .int .i64 y.2.2.2.2.1.2.1, .slice a6 y.2.2.2.2.1.2.2.length a7, .slice a8 y.2.2.2.2.2.length a9] ++ [.slice sa l.length sc]) (y, l) ∧ Chg S w w' := by
 obtain ⟨ds, ms, rfl, hl, DO, DC⟩ := h
 have pr := pair_rd ((zBP zAn zBp).own_rd DO) hl
 obtain ⟨a0, a1, a2, a3, a4, a5, a6, a7, a8, a9, rfl⟩ := zCy pr.1
 obtain ⟨sa, sc, ro, -, -, -⟩ := pr.2
 simp only [List.cons.injEq, and_true] at ro
 obtain rfl := ro
 exact ⟨_, _, _, _, _, _, _, _, _, _, _, _, rfl, DO, DC⟩
theorem cs9 {w : World} {g b k : Nat} {u x0 x1 x2 x3 x4 x5 x6 x7 x8 : Value} (hne : b ≠ g) (h : w.cell? ⟨b, k, none⟩ = some u) : (((((((((w.setCell ⟨g, 0, none⟩ x0).setCell ⟨g, 1, none⟩ x1).setCell ⟨g, 2, none⟩ x2).setCell ⟨g, 3, none⟩ x3).setCell ⟨g, 4, none⟩ x4).setCell ⟨g, 5, none⟩ x5).setCell ⟨g, 6, none⟩ x6).setCell ⟨g, 7, none⟩ x7).setCell ⟨g, 8, none⟩ x8).cell? ⟨b, k, none⟩ = some u := cs1 hne (cs1 hne (cs1 hne (cs1 hne (cs1 hne (cs1 hne (cs1 hne (cs1 hne (cs1 hne h))))))))
theorem zCh {w w' : World} {S : zAX} {g : Nat} {o : Obj} (h : w.heap[g]? = some o) (c : Chg S w w') (hn : ¬ S g) : w'.heap[g]? = some o := (c.block g (Array.getElem?_eq_some_iff.1 h).1 hn).trans h
theorem al9 {w : World} {g b k : Nat} {u x0 x1 x2 x3 x4 x5 x6 x7 x8 : Value} {o : Obj} (hne : b ≠ g) (hl : b < w.heap.size) (h : w.cell? ⟨b, k, none⟩ = some u) : ((((((((((w.setCell ⟨g, 0, none⟩ x0).setCell ⟨g, 1, none⟩ x1).setCell ⟨g, 2, none⟩ x2).setCell ⟨g, 3, none⟩ x3).setCell ⟨g, 4, none⟩ x4).setCell ⟨g, 5, none⟩ x5).setCell ⟨g, 6, none⟩ x6).setCell ⟨g, 7, none⟩ x7).setCell ⟨g, 8, none⟩ x8).alloc o).cell? ⟨b, k, none⟩ = some u := zAd (zAf _ _) (cs9 hne h) (lt9 hl)
theorem held_st {x : zAE} (h : zAZ x = true) : zAQ x.2.2.2.2.1.2.1 0 3 = true := by
 have hp := zB4 h
 simp only [zAQ, decide_eq_true_eq]
 by_cases h1 : x.2.2.2.1 = 1
 ·obtain ⟨-, h2 | h2, -⟩ := zCE hp h1
  ·have : x.2.2.2.2.1.2.1 = 0 := h2.1
   omega
  ·have := (zB0 h2).2.1
   have h3 : 1 ≤ x.2.2.2.2.1.2.1 ∧ x.2.2.2.2.1.2.1 ≤ 3 := this
   omega
 ·have h2 : x.2.2.2.2.1 = zAA := zDo hp h1
  rw [h2]
  decide
theorem zDY (S : zAX) (cs : List Value) (x : zAE) (w : World) (ho : zAn.own w S cs x) (hS : ∀ k, S k → k < w.heap.size) : Calls Tryz.prog 34 #[zAM cs] w fun e w' => zEI S w x [] 0 e w' := by
 have HO : Hid (∀ W, Below w.heap.size w W → zAn.own W S cs x) := fun W hb => zAn.own_keep ho (zAh hb)
 obtain ⟨g0, g1, g2, g3, g4, g5, g6, g7, g8, g9, rfl⟩ := zCy (zAn.own_rd ho)
 have HSS : Hid (∀ k, S k → k < w.heap.size) := hS
 clear ho hS
 rw [show zAM [.slice g0 x.1.1.length g1, .slice g2 x.1.2.length g3, .slice g4 x.2.1.length g5, .int .i64 x.2.2.1, .int .i64 x.2.2.2.1, .int .i64 x.2.2.2.2.1.1, .int .i64 x.2.2.2.2.1.2.1, .slice g6 x.2.2.2.2.1.2.2.length g7, .slice g8 x.2.2.2.2.2.length g9] = .agg #[.slice g0 x.1.1.length g1, .slice g2 x.1.2.length g3, .slice g4 x.2.1.length g5, .int .i64 x.2.2.1, .int .i64 x.2.2.2.1, .int .i64 x.2.2.2.2.1.1, .int .i64 x.2.2.2.2.1.2.1, .slice g6 x.2.2.2.2.1.2.2.length g7, .slice g8 x.2.2.2.2.2.length g9] from rfl]
 have B := Below.refl w.heap.size w
 go_enter Tryz.func34, Tryz.ntmps34
 go_upto_region 1 with fail
 generalize hu1w : w.alloc _ = u1w
 have X := boxH hu1w
 have bz := boxB hu1w
 have zX := boxL hu1w
 clear hu1w
 replace B := zAb B bz
 clear bz
 have zXa := Nat.le_of_eq zX
 have zXb := Nat.le_of_eq zX.symm
 clear zX
 generalize hu2w : u1w.alloc _ = u2w
 have R := boxH hu2w
 have bz := boxB hu2w
 have zR := boxL hu2w
 clear hu2w
 rw [show u1w.heap.size = w.heap.size + 1 from by omega] at R
 replace B := zAb B bz
 replace X := zAa bz X
 clear bz
 have zRa := Nat.le_of_eq zR
 have zRb := Nat.le_of_eq zR.symm
 clear zR
 obtain ⟨Xc0, Xc1, Xc2, Xc3, Xc4, Xc5, Xc6, Xc7, Xc8⟩ := zAc X
 have Xlt := (Array.getElem?_eq_some_iff.1 X).1
 obtain ⟨Rc0, Rc1, Rc2, Rc3, Rc4, Rc5, Rc6, Rc7, Rc8⟩ := zAc R
 have Rlt := (Array.getElem?_eq_some_iff.1 R).1
 obtain ⟨Rf0, Rf1, Rf2, Rf3, Rf4, Rf5, Rf6, Rf7, Rf8⟩ := zAr R
 have HK : Hid _ := And.intro B (And.intro X (R))
 clear B X R
 go_wp2
 clear Xc0 Xc1 Xc2 Xc3 Xc4 Xc5 Xc6 Xc7 Xc8 Xlt Rc0 Rc1 Rc2 Rc3 Rc4 Rc5 Rc6 Rc7 Rc8 Rlt Rf0 Rf1 Rf2 Rf3 Rf4 Rf5 Rf6 Rf7 Rf8
 obtain ⟨B, X, R⟩ := HK.out
 clear HK
 have V2 := zAa (zAf _ (.cells #[] 46)) (zAV (y0 := .slice g0 x.1.1.length g1) (y1 := .slice g2 x.1.2.length g3) (y2 := .slice g4 x.2.1.length g5) (y3 := .int .i64 x.2.2.1) (y4 := .int .i64 x.2.2.2.1) (y5 := .int .i64 x.2.2.2.2.1.1) (y6 := .int .i64 x.2.2.2.2.1.2.1) (y7 := .slice g6 x.2.2.2.2.1.2.2.length g7) (y8 := .slice g8 x.2.2.2.2.2.length g9) R)
 obtain ⟨r0, r1, r2, r3, r4, r5, r6, r7, r8⟩ := zAc V2
 have bsz := B.size
 have FQ := zJ5 (S := S) (k := 0) (r := w.heap.size + 1) (vs := [.slice g0 x.1.1.length g1, .slice g2 x.1.2.length g3, .slice g4 x.2.1.length g5, .int .i64 x.2.2.1, .int .i64 x.2.2.2.1, .int .i64 x.2.2.2.2.1.1, .int .i64 x.2.2.2.2.1.2.1, .slice g6 x.2.2.2.2.1.2.2.length g7, .slice g8 x.2.2.2.2.2.length g9]) (zA9 B) (HO.out _ B) (fun j q => ⟨.inl q, by have := HSS.out j q; omega⟩) (by omega) (fun q => by have := HSS.out _ q; omega)
 simp only [zA0, zA3, Nat.reduceAdd] at FQ
 clear B X R V2
 exact bodyPost_ret (v := .tuple #[.agg #[.slice g0 x.1.1.length g1, .slice g2 x.1.2.length g3, .slice g4 x.2.1.length g5, .int .i64 x.2.2.1, .int .i64 x.2.2.2.1, .int .i64 x.2.2.2.2.1.1, .int .i64 x.2.2.2.2.1.2.1, .slice g6 x.2.2.2.2.1.2.2.length g7, .slice g8 x.2.2.2.2.2.length g9], .slice (some ⟨u2w.heap.size, 0, none⟩) 0 0, .int .i64 0]) (by simp [results, Tryz.results34, go_sem, r0, r1, r2, r3, r4, r5, r6, r7, r8]) rfl FQ
theorem zHL (us : List Value) (u : zAU) (w : World) (h : zAS.rd w us u) : Calls Tryz.prog 123 #[zAM us] w fun e w' => ∃ ds, e = .returned (zAM ds) ∧ zAY zAS w w' ds (u.1, 0, []) := by
 obtain ⟨ua, uc, rfl, i1, i2, -, -, -⟩ := zAL h
 rw [show zAM [.int .i64 u.1, .int .i64 u.2.1, .slice ua u.2.2.length uc] = .agg #[.int .i64 u.1, .int .i64 u.2.1, .slice ua u.2.2.length uc] from rfl]
 clear h
 have B := Below.refl w.heap.size w
 go_enter Tryz.func123, Tryz.ntmps123
 go_upto_region 1 with fail
 generalize hu1w : w.alloc _ = u1w
 have U := boxH hu1w
 have bz := boxB hu1w
 have zU := boxL hu1w
 clear hu1w
 replace B := zAb B bz
 clear bz
 have zUa := Nat.le_of_eq zU
 have zUb := Nat.le_of_eq zU.symm
 clear zU
 generalize hu2w : u1w.alloc _ = u2w
 have R := boxH hu2w
 have bz := boxB hu2w
 have zR := boxL hu2w
 clear hu2w
 rw [show u1w.heap.size = w.heap.size + 1 from by omega] at R
 replace B := zAb B bz
 replace U := zAa bz U
 clear bz
 have zRa := Nat.le_of_eq zR
 have zRb := Nat.le_of_eq zR.symm
 clear zR
 obtain ⟨Uc0, Uc1, Uc2⟩ := zAg U
 have Ult := (Array.getElem?_eq_some_iff.1 U).1
 obtain ⟨Rc0, Rc1, Rc2⟩ := zAg R
 have Rlt := (Array.getElem?_eq_some_iff.1 R).1
 obtain ⟨Rf0, Rf1, Rf2⟩ := zEO R
 have HK : Hid _ := And.intro B (And.intro U (R))
 clear B U R
 go_wp2
 clear Uc0 Uc1 Uc2 Ult Rc0 Rc1 Rc2 Rlt Rf0 Rf1 Rf2
 obtain ⟨B, U, R⟩ := HK.out
 clear HK
 have bsz := B.size
 have V2 := zAa (zAf (zAo u2w (w.heap.size + 1) 0 [.int .i64 u.1, .int .i64 0, .slice (some ⟨u2w.heap.size, 0, none⟩) 0 0]) (.cells #[] 2)) (zAC (g := w.heap.size + 1) [.int .i64 u.1, .int .i64 0, .slice (some ⟨u2w.heap.size, 0, none⟩) 0 0] 0 R)
 obtain ⟨r0, r1, r2⟩ := zAg (x := .int .i64 u.1) (y := .int .i64 0) V2
 have FS : (zAo u2w (w.heap.size + 1) 0 [.int .i64 u.1, .int .i64 0, .slice (some ⟨u2w.heap.size, 0, none⟩) 0 0]).heap.size = u2w.heap.size := zAj _ _ _
 have ON := zC3 (e := 2) (R := zBC) (zAo u2w (w.heap.size + 1) 0 [.int .i64 u.1, .int .i64 0, .slice (some ⟨u2w.heap.size, 0, none⟩) 0 0])
 rw [FS] at ON
 have OW : zAS.own ((zAo u2w (w.heap.size + 1) 0 [.int .i64 u.1, .int .i64 0, .slice (some ⟨u2w.heap.size, 0, none⟩) 0 0]).alloc (.cells #[] 2)) (fun k => k = u2w.heap.size) [.int .i64 u.1, .int .i64 0, .slice (some ⟨u2w.heap.size, 0, none⟩) 0 0] (u.1, 0, []) := zCF i1 (by constructor <;> decide) ON
 have FM : zAY zAS w ((zAo u2w (w.heap.size + 1) 0 [.int .i64 u.1, .int .i64 0, .slice (some ⟨u2w.heap.size, 0, none⟩) 0 0]).alloc (.cells #[] 2)) [.int .i64 u.1, .int .i64 0, .slice (some ⟨u2w.heap.size, 0, none⟩) 0 0] (u.1, 0, []) := ⟨zAS.own_mono OW (fun k q => by have q2 : k = u2w.heap.size := q; exact ⟨by omega, by rw [zAp, FS]; omega⟩), zAb (zAv (g := w.heap.size + 1) (o := 0) (vs := [.int .i64 u.1, .int .i64 0, .slice (some ⟨u2w.heap.size, 0, none⟩) 0 0]) B (by omega)) (zAf _ _)⟩
 simp only [zA0, zA3, Nat.reduceAdd] at FM V2 r0 r1 r2
 clear B U R V2 OW FS ON
 exact bodyPost_ret (v := .agg #[.int .i64 u.1, .int .i64 0, .slice (some ⟨u2w.heap.size, 0, none⟩) 0 0]) (by simp [results, Tryz.results123, go_sem, r0, r1, r2]) rfl ⟨[.int .i64 u.1, .int .i64 0, .slice (some ⟨u2w.heap.size, 0, none⟩) 0 0], rfl, FM⟩
theorem zND {w : World} {u : zAU} {s : Int} {ua : Option Addr} {uc : Nat} (h : zAS.rd w [.int .i64 u.1, .int .i64 u.2.1, .slice ua u.2.2.length uc] u) (hs : zBk s) : zAS.rd w [.int .i64 u.1, .int .i64 s, .slice ua u.2.2.length uc] (u.1, s, u.2.2) := by
 obtain ⟨a, cap, e, i1, i2, k1, k2, k3⟩ := zAL h
 simp only [List.cons.injEq, Value.slice.injEq, true_and, and_true] at e
 obtain ⟨rfl, rfl⟩ := e
 exact ⟨[_], [_, _], rfl, ⟨rfl, i1⟩, [_], [_], rfl, ⟨rfl, hs⟩, _, _, rfl, k1, k2, k3⟩
theorem implAs_u (us : List Value) (u : zAU) (s : Int) (w : World) (h : zAS.rd w us u) (hs : zBk s) : Calls Tryz.prog 127 #[zAM us, .int .i64 s] w fun e w' => ∃ ds, e = .returned (zAM ds) ∧ zAS.rd w' ds (asW u s) ∧ Below w.heap.size w w' := by
 obtain ⟨ua, uc, rfl, i1, i2, -, -, qu⟩ := zAL h
 have HU : Hid (∀ W, Below w.heap.size w W → zAS.rd W [.int .i64 u.1, .int .i64 u.2.1, .slice ua u.2.2.length uc] u) := fun W hb => zAN h hb
 rw [show zAM [.int .i64 u.1, .int .i64 u.2.1, .slice ua u.2.2.length uc] = .agg #[.int .i64 u.1, .int .i64 u.2.1, .slice ua u.2.2.length uc] from rfl]
 clear h qu
 have B := Below.refl w.heap.size w
 by_cases hz : s = 0
 ·subst hz
  rw [show asW u 0 = zAA from rfl]
  go_enter Tryz.func127, Tryz.ntmps127
  go_upto_region 1 with fail
  generalize hu1w : w.alloc _ = u1w
  have U := boxH hu1w
  have bz := boxB hu1w
  have zU := boxL hu1w
  clear hu1w
  replace B := zAb B bz
  clear bz
  have zUa := Nat.le_of_eq zU
  have zUb := Nat.le_of_eq zU.symm
  clear zU
  generalize hu2w : u1w.alloc _ = u2w
  have R := boxH hu2w
  have bz := boxB hu2w
  have zR := boxL hu2w
  clear hu2w
  rw [show u1w.heap.size = w.heap.size + 1 from by omega] at R
  replace B := zAb B bz
  replace U := zAa bz U
  clear bz
  have zRa := Nat.le_of_eq zR
  have zRb := Nat.le_of_eq zR.symm
  clear zR
  obtain ⟨Uc0, Uc1, Uc2⟩ := zAg U
  have Ult := (Array.getElem?_eq_some_iff.1 U).1
  obtain ⟨Rc0, Rc1, Rc2⟩ := zAg R
  have Rlt := (Array.getElem?_eq_some_iff.1 R).1
  go_wp2_with fail
  clear Uc0 Uc1 Uc2 Ult Rc0 Rc1 Rc2 Rlt
  refine (zHH _).mono ?_
  rintro e u3w ⟨ds, rfl, mm⟩
  obtain ⟨ea, ec, rfl, -, -, -, -, -⟩ := zAL (zAS.own_rd mm.1)
  rw [show zAM [.int .i64 zAA.1, .int .i64 zAA.2.1, .slice ea zAA.2.2.length ec] = .agg #[.int .i64 zAA.1, .int .i64 zAA.2.1, .slice ea zAA.2.2.length ec] from rfl]
  have E := zAR (R := zAS) mm
  have mb := mm.2
  have tu3w : u2w.heap.size ≤ u3w.heap.size := mb.size
  replace B := zAb B mb
  replace U := zAa mb U
  replace R := zAa mb R
  clear mb mm
  obtain ⟨Uc0, Uc1, Uc2⟩ := zAg U
  have Ult := (Array.getElem?_eq_some_iff.1 U).1
  obtain ⟨Rc0, Rc1, Rc2⟩ := zAg R
  have Rlt := (Array.getElem?_eq_some_iff.1 R).1
  obtain ⟨Rf0, Rf1, Rf2⟩ := zEO R
  have HK : Hid _ := And.intro B (And.intro U (And.intro R (E)))
  clear B U R E
  go_wp2
  clear Uc0 Uc1 Uc2 Ult Rc0 Rc1 Rc2 Rlt Rf0 Rf1 Rf2
  obtain ⟨B, U, R, E⟩ := HK.out
  clear HK
  have bsz := B.size
  have V2 := zAC (g := w.heap.size + 1) [.int .i64 zAA.1, .int .i64 zAA.2.1, .slice ea zAA.2.2.length ec] 0 R
  obtain ⟨r0, r1, r2⟩ := zAg (x := .int .i64 zAA.1) (y := .int .i64 zAA.2.1) (z := .slice ea zAA.2.2.length ec) V2
  have FO := zAS.own_rd (zAw (g := w.heap.size + 1) (o := 0) (vs := [.int .i64 zAA.1, .int .i64 zAA.2.1, .slice ea zAA.2.2.length ec]) E (by omega)).1
  have FB := zAv (g := w.heap.size + 1) (o := 0) (vs := [.int .i64 zAA.1, .int .i64 zAA.2.1, .slice ea zAA.2.2.length ec]) B (by omega)
  simp only [zA0, zA3, Nat.reduceAdd] at FO FB r0 r1 r2
  clear B U R E V2
  exact bodyPost_ret (v := .agg #[.int .i64 zAA.1, .int .i64 zAA.2.1, .slice ea zAA.2.2.length ec]) (by simp [results, Tryz.results127, go_sem, r0, r1, r2]) rfl ⟨[.int .i64 zAA.1, .int .i64 zAA.2.1, .slice ea zAA.2.2.length ec], rfl, FO, FB⟩
 ·rw [show asW u s = (u.1, s, u.2.2) from if_neg hz]
  have hz2 : (s == 0) = false := by simp [hz]
  clear hz
  go_enter Tryz.func127, Tryz.ntmps127
  go_upto_region 1 with fail
  generalize hu4w : w.alloc _ = u4w
  have U := boxH hu4w
  have bz := boxB hu4w
  have zU := boxL hu4w
  clear hu4w
  replace B := zAb B bz
  clear bz
  have zUa := Nat.le_of_eq zU
  have zUb := Nat.le_of_eq zU.symm
  clear zU
  generalize hu5w : u4w.alloc _ = u5w
  have R := boxH hu5w
  have bz := boxB hu5w
  have zR := boxL hu5w
  clear hu5w
  rw [show u4w.heap.size = w.heap.size + 1 from by omega] at R
  replace B := zAb B bz
  replace U := zAa bz U
  clear bz
  have zRa := Nat.le_of_eq zR
  have zRb := Nat.le_of_eq zR.symm
  clear zR
  obtain ⟨Uc0, Uc1, Uc2⟩ := zAg U
  have Ult := (Array.getElem?_eq_some_iff.1 U).1
  obtain ⟨Uf0, Uf1, Uf2⟩ := zEO U
  obtain ⟨Rc0, Rc1, Rc2⟩ := zAg R
  have Rlt := (Array.getElem?_eq_some_iff.1 R).1
  go_upto_region 4 with fail
  clear Uc0 Uc1 Uc2 Ult Uf0 Uf1 Uf2 Rc0 Rc1 Rc2 Rlt
  rw [show (u5w.setCell ⟨w.heap.size, 1, none⟩ (.int .i64 s)) = (zAo u5w (w.heap.size) 1 [.int .i64 s]) from rfl]
  replace R := zAk (g := w.heap.size) (o := 1) (vs := [.int .i64 s]) R (by omega)
  replace B := zAv (g := w.heap.size) (o := 1) (vs := [.int .i64 s]) B (by omega)
  replace U : (zAo u5w (w.heap.size) 1 [.int .i64 s]).heap[w.heap.size]? = some (.cells #[.int .i64 u.1, .int .i64 s, .slice ua u.2.2.length uc] 39 (0, 0)) := zAC _ _ U
  have tu6w := Nat.le_of_eq (zAj (g := w.heap.size) [.int .i64 s] 1 u5w)
  have qu6w := Nat.le_of_eq (zAj (g := w.heap.size) [.int .i64 s] 1 u5w).symm
  generalize (zAo u5w (w.heap.size) 1 [.int .i64 s]) = u6w at B U R tu6w qu6w ⊢
  obtain ⟨Uc0, Uc1, Uc2⟩ := zAg U
  have Ult := (Array.getElem?_eq_some_iff.1 U).1
  obtain ⟨Rc0, Rc1, Rc2⟩ := zAg R
  have Rlt := (Array.getElem?_eq_some_iff.1 R).1
  obtain ⟨Rf0, Rf1, Rf2⟩ := zEO R
  have HK : Hid _ := And.intro B (And.intro U (R))
  clear B U R
  go_wp2
  clear Uc0 Uc1 Uc2 Ult Rc0 Rc1 Rc2 Rlt Rf0 Rf1 Rf2
  obtain ⟨B, U, R⟩ := HK.out
  clear HK
  have bsz := B.size
  have V2 := zAC (g := w.heap.size + 1) [.int .i64 u.1, .int .i64 s, .slice ua u.2.2.length uc] 0 R
  obtain ⟨r0, r1, r2⟩ := zAg (x := .int .i64 u.1) (y := .int .i64 s) (z := .slice ua u.2.2.length uc) V2
  have FB := zAv (g := w.heap.size + 1) (o := 0) (vs := [.int .i64 u.1, .int .i64 s, .slice ua u.2.2.length uc]) B (by omega)
  have FO := zND (HU.out _ FB) hs
  simp only [zA0, zA3, Nat.reduceAdd] at FO FB r0 r1 r2
  clear B U R V2
  exact bodyPost_ret (v := .agg #[.int .i64 u.1, .int .i64 s, .slice ua u.2.2.length uc]) (by simp [results, Tryz.results127, go_sem, r0, r1, r2]) rfl ⟨[.int .i64 u.1, .int .i64 s, .slice ua u.2.2.length uc], rfl, FO, FB⟩
theorem zEx (id k left : Int) (us : List Value) (u : zAU) (w : World) (hh : Hold w) (h : zAS.rd w us u) (hs : zAQ u.2.1 0 3 = true) (hl : u.2.2.length ≤ 1048576) (hid : zBk id) (hk64 : zBk k) : Calls Tryz.prog 124 #[.int .i64 id, .int .i64 k, zAM us, .int .i64 left] w fun e w' => ∃ ds, e = .returned (zAM ds) ∧ zAY zBy w w' ds (zJI id k u left) := by
 obtain ⟨ua, uc, rfl, -, -, -, -, -⟩ := zAL h
 have HU : Hid (∀ W, Below w.heap.size w W → zAS.rd W [.int .i64 u.1, .int .i64 u.2.1, .slice ua u.2.2.length uc] u) := fun W hb => zAN h hb
 have HHH : Hid (Hold w) := hh
 have HLN : Hid (u.2.2.length ≤ 1048576) := hl
 obtain ⟨am, ham⟩ : ∃ am, am = zJI id k u left := ⟨_, rfl⟩
 rw [← ham]
 unfold zJI at ham
 have HAM : Hid _ := ham
 rw [show zAM [.int .i64 u.1, .int .i64 u.2.1, .slice ua u.2.2.length uc] = .agg #[.int .i64 u.1, .int .i64 u.2.1, .slice ua u.2.2.length uc] from rfl]
 clear h hh ham hl
 have B := Below.refl w.heap.size w
 go_enter Tryz.func124, Tryz.ntmps124
 go_upto_region 1 with fail
 generalize hu1w : w.alloc _ = u1w
 have U := boxH hu1w
 have bz := boxB hu1w
 have zU := boxL hu1w
 clear hu1w
 replace B := zAb B bz
 clear bz
 have zUa := Nat.le_of_eq zU
 have zUb := Nat.le_of_eq zU.symm
 clear zU
 generalize hu2w : u1w.alloc _ = u2w
 have R := boxH hu2w
 have bz := boxB hu2w
 have zR := boxL hu2w
 clear hu2w
 rw [show u1w.heap.size = w.heap.size + 1 from by omega] at R
 replace B := zAb B bz
 replace U := zAa bz U
 clear bz
 have zRa := Nat.le_of_eq zR
 have zRb := Nat.le_of_eq zR.symm
 clear zR
 obtain ⟨Uc0, Uc1, Uc2⟩ := zAg U
 have Ult := (Array.getElem?_eq_some_iff.1 U).1
 obtain ⟨Rc0, Rc1, Rc2, Rc3, Rc4, Rc5, Rc6⟩ := zAe R
 have Rlt := (Array.getElem?_eq_some_iff.1 R).1
 go_upto_region 2 with fail
 clear Uc0 Uc1 Uc2 Ult Rc0 Rc1 Rc2 Rc3 Rc4 Rc5 Rc6 Rlt
 generalize hu3w : u2w.alloc _ = u3w
 have M := boxH hu3w
 have bz := boxB hu3w
 have zM := boxL hu3w
 clear hu3w
 replace B := zAb B bz
 replace U := zAa bz U
 replace R := zAa bz R
 clear bz
 have zMa := Nat.le_of_eq zM
 have zMb := Nat.le_of_eq zM.symm
 clear zM
 obtain ⟨Uc0, Uc1, Uc2⟩ := zAg U
 have Ult := (Array.getElem?_eq_some_iff.1 U).1
 obtain ⟨Rc0, Rc1, Rc2, Rc3, Rc4, Rc5, Rc6⟩ := zAe R
 have Rlt := (Array.getElem?_eq_some_iff.1 R).1
 obtain ⟨Mc0, Mc1, Mc2, Mc3, Mc4, Mc5, Mc6⟩ := zAe M
 have Mlt := (Array.getElem?_eq_some_iff.1 M).1
 go_wp2_with fail
 clear Uc0 Uc1 Uc2 Ult Rc0 Rc1 Rc2 Rc3 Rc4 Rc5 Rc6 Rlt Mc0 Mc1 Mc2 Mc3 Mc4 Mc5 Mc6 Mlt
 refine (zGW [.int .i64 u.1, .int .i64 u.2.1, .slice ua u.2.2.length uc] u _ (HHH.out.goes B) (HU.out _ B) hs).mono ?_
 rintro e u4w ⟨rfl, bq⟩
 have tu4w : u3w.heap.size ≤ u4w.heap.size := bq.size
 replace B := zAb B bq
 replace U := zAa bq U
 replace R := zAa bq R
 replace M := zAa bq M
 clear bq
 by_cases h2 : 2 ≤ u.2.1
 ·have ham := HAM.out
  rw [if_pos h2, if_pos h2] at ham
  rw [decide_eq_true h2]
  obtain ⟨Uc0, Uc1, Uc2⟩ := zAg U
  have Ult := (Array.getElem?_eq_some_iff.1 U).1
  obtain ⟨Rc0, Rc1, Rc2, Rc3, Rc4, Rc5, Rc6⟩ := zAe R
  have Rlt := (Array.getElem?_eq_some_iff.1 R).1
  obtain ⟨Mc0, Mc1, Mc2, Mc3, Mc4, Mc5, Mc6⟩ := zAe M
  have Mlt := (Array.getElem?_eq_some_iff.1 M).1
  go_wp2_with fail
  clear Uc0 Uc1 Uc2 Ult Rc0 Rc1 Rc2 Rc3 Rc4 Rc5 Rc6 Rlt Mc0 Mc1 Mc2 Mc3 Mc4 Mc5 Mc6 Mlt
  refine (zGT [.int .i64 u.1, .int .i64 u.2.1, .slice ua u.2.2.length uc] u _ (HU.out _ B) HLN.out).mono ?_
  rintro e u5w ⟨us, rfl, mm⟩
  obtain ⟨ya, yc, rfl, -, -, -, -, -⟩ := zAL (zAS.own_rd mm.1)
  rw [show zAM [.int .i64 u.1, .int .i64 u.2.1, .slice ya u.2.2.length yc] = .agg #[.int .i64 u.1, .int .i64 u.2.1, .slice ya u.2.2.length yc] from rfl]
  have Y := zAR (R := zAS) mm
  have mb := mm.2
  have tu5w : u4w.heap.size ≤ u5w.heap.size := mb.size
  replace B := zAb B mb
  replace U := zAa mb U
  replace R := zAa mb R
  replace M := zAa mb M
  clear mb mm
  have FW : ∀ (a b c : Value) (W : World), (Instr.field 39 (.agg #[a, b, c]) 2).run Tryz.prog W = .ok c W := zNA
  obtain ⟨Uc0, Uc1, Uc2⟩ := zAg U
  have Ult := (Array.getElem?_eq_some_iff.1 U).1
  obtain ⟨Rc0, Rc1, Rc2, Rc3, Rc4, Rc5, Rc6⟩ := zAe R
  have Rlt := (Array.getElem?_eq_some_iff.1 R).1
  obtain ⟨Mc0, Mc1, Mc2, Mc3, Mc4, Mc5, Mc6⟩ := zAe M
  have Mlt := (Array.getElem?_eq_some_iff.1 M).1
  obtain ⟨Mf0, Mf1, Mf2, Mf3, Mf4, Mf5, Mf6⟩ := zB8 M
  go_upto_region 4 with fail
  clear FW
  clear Uc0 Uc1 Uc2 Ult Rc0 Rc1 Rc2 Rc3 Rc4 Rc5 Rc6 Rlt Mc0 Mc1 Mc2 Mc3 Mc4 Mc5 Mc6 Mlt Mf0 Mf1 Mf2 Mf3 Mf4 Mf5 Mf6
  rw [show (u5w.setCell ⟨u2w.heap.size, 3, none⟩ (.int .i64 8)) = (zAo u5w (u2w.heap.size) 3 [.int .i64 8]) from rfl]
  replace U := zAk (g := u2w.heap.size) (o := 3) (vs := [.int .i64 8]) U (by omega)
  replace R := zAk (g := u2w.heap.size) (o := 3) (vs := [.int .i64 8]) R (by omega)
  replace Y := zAw (g := u2w.heap.size) (o := 3) (vs := [.int .i64 8]) Y (by omega)
  replace B := zAv (g := u2w.heap.size) (o := 3) (vs := [.int .i64 8]) B (by omega)
  replace M : (zAo u5w (u2w.heap.size) 3 [.int .i64 8]).heap[u2w.heap.size]? = some (.cells #[.int .i64 2, .int .i64 id, .int .i64 4, .int .i64 8, .int .i64 k, .slice none 0 0, .int .i64 0] 46 (0, 0)) := zAC _ _ M
  have tu6w := Nat.le_of_eq (zAj (g := u2w.heap.size) [.int .i64 8] 3 u5w)
  have qu6w := Nat.le_of_eq (zAj (g := u2w.heap.size) [.int .i64 8] 3 u5w).symm
  generalize (zAo u5w (u2w.heap.size) 3 [.int .i64 8]) = u6w at B U R M Y tu6w qu6w ⊢
  rw [show (u6w.setCell ⟨u2w.heap.size, 5, none⟩ (.slice ya u.2.2.length yc)) = (zAo u6w (u2w.heap.size) 5 [.slice ya u.2.2.length yc]) from rfl]
  replace U := zAk (g := u2w.heap.size) (o := 5) (vs := [.slice ya u.2.2.length yc]) U (by omega)
  replace R := zAk (g := u2w.heap.size) (o := 5) (vs := [.slice ya u.2.2.length yc]) R (by omega)
  replace Y := zAw (g := u2w.heap.size) (o := 5) (vs := [.slice ya u.2.2.length yc]) Y (by omega)
  replace B := zAv (g := u2w.heap.size) (o := 5) (vs := [.slice ya u.2.2.length yc]) B (by omega)
  replace M : (zAo u6w (u2w.heap.size) 5 [.slice ya u.2.2.length yc]).heap[u2w.heap.size]? = some (.cells #[.int .i64 2, .int .i64 id, .int .i64 4, .int .i64 8, .int .i64 k, .slice ya u.2.2.length yc, .int .i64 0] 46 (0, 0)) := zAC _ _ M
  have tu7w := Nat.le_of_eq (zAj (g := u2w.heap.size) [.slice ya u.2.2.length yc] 5 u6w)
  have qu7w := Nat.le_of_eq (zAj (g := u2w.heap.size) [.slice ya u.2.2.length yc] 5 u6w).symm
  generalize (zAo u6w (u2w.heap.size) 5 [.slice ya u.2.2.length yc]) = u7w at B U R M Y tu7w qu7w ⊢
  by_cases hz : left = 0
  ·rw [if_pos hz] at ham
   have hz2 : (left == 0) = true := by simp [hz]
   obtain ⟨Uc0, Uc1, Uc2⟩ := zAg U
   have Ult := (Array.getElem?_eq_some_iff.1 U).1
   obtain ⟨Rc0, Rc1, Rc2, Rc3, Rc4, Rc5, Rc6⟩ := zAe R
   have Rlt := (Array.getElem?_eq_some_iff.1 R).1
   obtain ⟨Mc0, Mc1, Mc2, Mc3, Mc4, Mc5, Mc6⟩ := zAe M
   have Mlt := (Array.getElem?_eq_some_iff.1 M).1
   obtain ⟨Mf0, Mf1, Mf2, Mf3, Mf4, Mf5, Mf6⟩ := zB8 M
   go_upto_region 6 with fail
   clear Uc0 Uc1 Uc2 Ult Rc0 Rc1 Rc2 Rc3 Rc4 Rc5 Rc6 Rlt Mc0 Mc1 Mc2 Mc3 Mc4 Mc5 Mc6 Mlt Mf0 Mf1 Mf2 Mf3 Mf4 Mf5 Mf6
   rw [show (u7w.setCell ⟨u2w.heap.size, 6, none⟩ (.int .i64 1)) = (zAo u7w (u2w.heap.size) 6 [.int .i64 1]) from rfl]
   replace U := zAk (g := u2w.heap.size) (o := 6) (vs := [.int .i64 1]) U (by omega)
   replace R := zAk (g := u2w.heap.size) (o := 6) (vs := [.int .i64 1]) R (by omega)
   replace Y := zAw (g := u2w.heap.size) (o := 6) (vs := [.int .i64 1]) Y (by omega)
   replace B := zAv (g := u2w.heap.size) (o := 6) (vs := [.int .i64 1]) B (by omega)
   replace M : (zAo u7w (u2w.heap.size) 6 [.int .i64 1]).heap[u2w.heap.size]? = some (.cells #[.int .i64 2, .int .i64 id, .int .i64 4, .int .i64 8, .int .i64 k, .slice ya u.2.2.length yc, .int .i64 1] 46 (0, 0)) := zAC _ _ M
   have tu8w := Nat.le_of_eq (zAj (g := u2w.heap.size) [.int .i64 1] 6 u7w)
   have qu8w := Nat.le_of_eq (zAj (g := u2w.heap.size) [.int .i64 1] 6 u7w).symm
   generalize (zAo u7w (u2w.heap.size) 6 [.int .i64 1]) = u8w at B U R M Y tu8w qu8w ⊢
   obtain ⟨Uc0, Uc1, Uc2⟩ := zAg U
   have Ult := (Array.getElem?_eq_some_iff.1 U).1
   obtain ⟨Rc0, Rc1, Rc2, Rc3, Rc4, Rc5, Rc6⟩ := zAe R
   have Rlt := (Array.getElem?_eq_some_iff.1 R).1
   obtain ⟨Rf0, Rf1, Rf2, Rf3, Rf4, Rf5, Rf6⟩ := zB8 R
   obtain ⟨Mc0, Mc1, Mc2, Mc3, Mc4, Mc5, Mc6⟩ := zAe M
   have Mlt := (Array.getElem?_eq_some_iff.1 M).1
   have ne1 : ¬ (u2w.heap.size = w.heap.size + 1) := by omega
   have ne2 : ¬ (w.heap.size + 1 = u2w.heap.size) := by omega
   have HK : Hid _ := And.intro B (And.intro U (And.intro R (And.intro M (Y))))
   clear B U R M Y
   go_wp2
   clear ne1 ne2
   clear Uc0 Uc1 Uc2 Ult Rc0 Rc1 Rc2 Rc3 Rc4 Rc5 Rc6 Rlt Rf0 Rf1 Rf2 Rf3 Rf4 Rf5 Rf6 Mc0 Mc1 Mc2 Mc3 Mc4 Mc5 Mc6 Mlt
   obtain ⟨B, U, R, M, Y⟩ := HK.out
   clear HK
   have bsz := B.size
   have V2 := zAC (g := w.heap.size + 1) [.int .i64 2, .int .i64 id, .int .i64 4, .int .i64 8, .int .i64 k, .slice ya u.2.2.length yc, .int .i64 1] 0 R
   have V3 : (zAo u8w (w.heap.size + 1) 0 [.int .i64 2, .int .i64 id, .int .i64 4, .int .i64 8, .int .i64 k, .slice ya u.2.2.length yc, .int .i64 1]).heap[w.heap.size + 1]? = some (.cells #[.int .i64 2, .int .i64 id, .int .i64 4, .int .i64 8, .int .i64 k, .slice ya u.2.2.length yc, .int .i64 1] 46 (0, 0)) := V2
   obtain ⟨r0, r1, r2, r3, r4, r5, r6⟩ := zAe V3
   have OM : zCp zBy u4w.heap.size u5w.heap.size u8w [.int .i64 2, .int .i64 id, .int .i64 4, .int .i64 8, .int .i64 k, .slice ya u.2.2.length yc, .int .i64 1] (msg 2 id 4 8 k u.2.2 1) := And.intro (zBR (by constructor <;> decide) hid (by constructor <;> decide) (by constructor <;> decide) hk64 (by constructor <;> decide) (zIn Y.1)) (Y.2)
   have FS : (zAo u8w (w.heap.size + 1) 0 [.int .i64 2, .int .i64 id, .int .i64 4, .int .i64 8, .int .i64 k, .slice ya u.2.2.length yc, .int .i64 1]).heap.size = u8w.heap.size := zAj _ _ _
   have FM : zAY zBy w (zAo u8w (w.heap.size + 1) 0 [.int .i64 2, .int .i64 id, .int .i64 4, .int .i64 8, .int .i64 k, .slice ya u.2.2.length yc, .int .i64 1]) [.int .i64 2, .int .i64 id, .int .i64 4, .int .i64 8, .int .i64 k, .slice ya u.2.2.length yc, .int .i64 1] am := ⟨by rw [ham]; exact zBy.own_mono (zAw (g := w.heap.size + 1) (o := 0) (vs := [.int .i64 2, .int .i64 id, .int .i64 4, .int .i64 8, .int .i64 k, .slice ya u.2.2.length yc, .int .i64 1]) OM (by omega)).1 (fun k q => ⟨by have := q.1; omega, by have := q.2; have := OM.2; omega⟩), zAv (g := w.heap.size + 1) (o := 0) (vs := [.int .i64 2, .int .i64 id, .int .i64 4, .int .i64 8, .int .i64 k, .slice ya u.2.2.length yc, .int .i64 1]) B (by omega)⟩
   simp only [zA0, zA3, Nat.reduceAdd] at FM r0 r1 r2 r3 r4 r5 r6
   clear B U R M Y V2 V3 OM FS
   exact bodyPost_ret (v := .agg #[.int .i64 2, .int .i64 id, .int .i64 4, .int .i64 8, .int .i64 k, .slice ya u.2.2.length yc, .int .i64 1]) (by simp [results, Tryz.results124, go_sem, r0, r1, r2, r3, r4, r5, r6]) rfl ⟨[.int .i64 2, .int .i64 id, .int .i64 4, .int .i64 8, .int .i64 k, .slice ya u.2.2.length yc, .int .i64 1], rfl, FM⟩
  ·rw [if_neg hz] at ham
   have hz2 : (left == 0) = false := by simp [hz]
   obtain ⟨Uc0, Uc1, Uc2⟩ := zAg U
   have Ult := (Array.getElem?_eq_some_iff.1 U).1
   obtain ⟨Rc0, Rc1, Rc2, Rc3, Rc4, Rc5, Rc6⟩ := zAe R
   have Rlt := (Array.getElem?_eq_some_iff.1 R).1
   obtain ⟨Mc0, Mc1, Mc2, Mc3, Mc4, Mc5, Mc6⟩ := zAe M
   have Mlt := (Array.getElem?_eq_some_iff.1 M).1
   obtain ⟨Mf0, Mf1, Mf2, Mf3, Mf4, Mf5, Mf6⟩ := zB8 M
   go_upto_region 6 with fail
   clear Uc0 Uc1 Uc2 Ult Rc0 Rc1 Rc2 Rc3 Rc4 Rc5 Rc6 Rlt Mc0 Mc1 Mc2 Mc3 Mc4 Mc5 Mc6 Mlt Mf0 Mf1 Mf2 Mf3 Mf4 Mf5 Mf6
   obtain ⟨Uc0, Uc1, Uc2⟩ := zAg U
   have Ult := (Array.getElem?_eq_some_iff.1 U).1
   obtain ⟨Rc0, Rc1, Rc2, Rc3, Rc4, Rc5, Rc6⟩ := zAe R
   have Rlt := (Array.getElem?_eq_some_iff.1 R).1
   obtain ⟨Rf0, Rf1, Rf2, Rf3, Rf4, Rf5, Rf6⟩ := zB8 R
   obtain ⟨Mc0, Mc1, Mc2, Mc3, Mc4, Mc5, Mc6⟩ := zAe M
   have Mlt := (Array.getElem?_eq_some_iff.1 M).1
   have ne1 : ¬ (u2w.heap.size = w.heap.size + 1) := by omega
   have ne2 : ¬ (w.heap.size + 1 = u2w.heap.size) := by omega
   have HK : Hid _ := And.intro B (And.intro U (And.intro R (And.intro M (Y))))
   clear B U R M Y
   go_wp2
   clear ne1 ne2
   clear Uc0 Uc1 Uc2 Ult Rc0 Rc1 Rc2 Rc3 Rc4 Rc5 Rc6 Rlt Rf0 Rf1 Rf2 Rf3 Rf4 Rf5 Rf6 Mc0 Mc1 Mc2 Mc3 Mc4 Mc5 Mc6 Mlt
   obtain ⟨B, U, R, M, Y⟩ := HK.out
   clear HK
   have bsz := B.size
   have V2 := zAC (g := w.heap.size + 1) [.int .i64 2, .int .i64 id, .int .i64 4, .int .i64 8, .int .i64 k, .slice ya u.2.2.length yc, .int .i64 0] 0 R
   have V3 : (zAo u7w (w.heap.size + 1) 0 [.int .i64 2, .int .i64 id, .int .i64 4, .int .i64 8, .int .i64 k, .slice ya u.2.2.length yc, .int .i64 0]).heap[w.heap.size + 1]? = some (.cells #[.int .i64 2, .int .i64 id, .int .i64 4, .int .i64 8, .int .i64 k, .slice ya u.2.2.length yc, .int .i64 0] 46 (0, 0)) := V2
   obtain ⟨r0, r1, r2, r3, r4, r5, r6⟩ := zAe V3
   have OM : zCp zBy u4w.heap.size u5w.heap.size u7w [.int .i64 2, .int .i64 id, .int .i64 4, .int .i64 8, .int .i64 k, .slice ya u.2.2.length yc, .int .i64 0] (msg 2 id 4 8 k u.2.2 0) := And.intro (zBR (by constructor <;> decide) hid (by constructor <;> decide) (by constructor <;> decide) hk64 (by constructor <;> decide) (zIn Y.1)) (Y.2)
   have FS : (zAo u7w (w.heap.size + 1) 0 [.int .i64 2, .int .i64 id, .int .i64 4, .int .i64 8, .int .i64 k, .slice ya u.2.2.length yc, .int .i64 0]).heap.size = u7w.heap.size := zAj _ _ _
   have FM : zAY zBy w (zAo u7w (w.heap.size + 1) 0 [.int .i64 2, .int .i64 id, .int .i64 4, .int .i64 8, .int .i64 k, .slice ya u.2.2.length yc, .int .i64 0]) [.int .i64 2, .int .i64 id, .int .i64 4, .int .i64 8, .int .i64 k, .slice ya u.2.2.length yc, .int .i64 0] am := ⟨by rw [ham]; exact zBy.own_mono (zAw (g := w.heap.size + 1) (o := 0) (vs := [.int .i64 2, .int .i64 id, .int .i64 4, .int .i64 8, .int .i64 k, .slice ya u.2.2.length yc, .int .i64 0]) OM (by omega)).1 (fun k q => ⟨by have := q.1; omega, by have := q.2; have := OM.2; omega⟩), zAv (g := w.heap.size + 1) (o := 0) (vs := [.int .i64 2, .int .i64 id, .int .i64 4, .int .i64 8, .int .i64 k, .slice ya u.2.2.length yc, .int .i64 0]) B (by omega)⟩
   simp only [zA0, zA3, Nat.reduceAdd] at FM r0 r1 r2 r3 r4 r5 r6
   clear B U R M Y V2 V3 OM FS
   exact bodyPost_ret (v := .agg #[.int .i64 2, .int .i64 id, .int .i64 4, .int .i64 8, .int .i64 k, .slice ya u.2.2.length yc, .int .i64 0]) (by simp [results, Tryz.results124, go_sem, r0, r1, r2, r3, r4, r5, r6]) rfl ⟨[.int .i64 2, .int .i64 id, .int .i64 4, .int .i64 8, .int .i64 k, .slice ya u.2.2.length yc, .int .i64 0], rfl, FM⟩
 ·have ham := HAM.out
  rw [if_neg h2, if_neg h2] at ham
  rw [decide_eq_false h2]
  by_cases hz : left = 0
  ·rw [if_pos hz] at ham
   have hz2 : (left == 0) = true := by simp [hz]
   obtain ⟨Uc0, Uc1, Uc2⟩ := zAg U
   have Ult := (Array.getElem?_eq_some_iff.1 U).1
   obtain ⟨Rc0, Rc1, Rc2, Rc3, Rc4, Rc5, Rc6⟩ := zAe R
   have Rlt := (Array.getElem?_eq_some_iff.1 R).1
   obtain ⟨Mc0, Mc1, Mc2, Mc3, Mc4, Mc5, Mc6⟩ := zAe M
   have Mlt := (Array.getElem?_eq_some_iff.1 M).1
   obtain ⟨Mf0, Mf1, Mf2, Mf3, Mf4, Mf5, Mf6⟩ := zB8 M
   go_upto_region 6 with fail
   clear Uc0 Uc1 Uc2 Ult Rc0 Rc1 Rc2 Rc3 Rc4 Rc5 Rc6 Rlt Mc0 Mc1 Mc2 Mc3 Mc4 Mc5 Mc6 Mlt Mf0 Mf1 Mf2 Mf3 Mf4 Mf5 Mf6
   rw [show (u4w.setCell ⟨u2w.heap.size, 6, none⟩ (.int .i64 1)) = (zAo u4w (u2w.heap.size) 6 [.int .i64 1]) from rfl]
   replace U := zAk (g := u2w.heap.size) (o := 6) (vs := [.int .i64 1]) U (by omega)
   replace R := zAk (g := u2w.heap.size) (o := 6) (vs := [.int .i64 1]) R (by omega)
   replace B := zAv (g := u2w.heap.size) (o := 6) (vs := [.int .i64 1]) B (by omega)
   replace M : (zAo u4w (u2w.heap.size) 6 [.int .i64 1]).heap[u2w.heap.size]? = some (.cells #[.int .i64 2, .int .i64 id, .int .i64 4, .int .i64 9, .int .i64 k, .slice none 0 0, .int .i64 1] 46 (0, 0)) := zAC _ _ M
   have tu9w := Nat.le_of_eq (zAj (g := u2w.heap.size) [.int .i64 1] 6 u4w)
   have qu9w := Nat.le_of_eq (zAj (g := u2w.heap.size) [.int .i64 1] 6 u4w).symm
   generalize (zAo u4w (u2w.heap.size) 6 [.int .i64 1]) = u9w at B U R M tu9w qu9w ⊢
   obtain ⟨Uc0, Uc1, Uc2⟩ := zAg U
   have Ult := (Array.getElem?_eq_some_iff.1 U).1
   obtain ⟨Rc0, Rc1, Rc2, Rc3, Rc4, Rc5, Rc6⟩ := zAe R
   have Rlt := (Array.getElem?_eq_some_iff.1 R).1
   obtain ⟨Rf0, Rf1, Rf2, Rf3, Rf4, Rf5, Rf6⟩ := zB8 R
   obtain ⟨Mc0, Mc1, Mc2, Mc3, Mc4, Mc5, Mc6⟩ := zAe M
   have Mlt := (Array.getElem?_eq_some_iff.1 M).1
   have ne1 : ¬ (u2w.heap.size = w.heap.size + 1) := by omega
   have ne2 : ¬ (w.heap.size + 1 = u2w.heap.size) := by omega
   have HK : Hid _ := And.intro B (And.intro U (And.intro R (M)))
   clear B U R M
   go_wp2
   clear ne1 ne2
   clear Uc0 Uc1 Uc2 Ult Rc0 Rc1 Rc2 Rc3 Rc4 Rc5 Rc6 Rlt Rf0 Rf1 Rf2 Rf3 Rf4 Rf5 Rf6 Mc0 Mc1 Mc2 Mc3 Mc4 Mc5 Mc6 Mlt
   obtain ⟨B, U, R, M⟩ := HK.out
   clear HK
   have bsz := B.size
   have V2 := zAC (g := w.heap.size + 1) [.int .i64 2, .int .i64 id, .int .i64 4, .int .i64 9, .int .i64 k, .slice none 0 0, .int .i64 1] 0 R
   have V3 : (zAo u9w (w.heap.size + 1) 0 [.int .i64 2, .int .i64 id, .int .i64 4, .int .i64 9, .int .i64 k, .slice none 0 0, .int .i64 1]).heap[w.heap.size + 1]? = some (.cells #[.int .i64 2, .int .i64 id, .int .i64 4, .int .i64 9, .int .i64 k, .slice none 0 0, .int .i64 1] 46 (0, 0)) := V2
   obtain ⟨r0, r1, r2, r3, r4, r5, r6⟩ := zAe V3
   have OM : zCp zBy u9w.heap.size u9w.heap.size u9w [.int .i64 2, .int .i64 id, .int .i64 4, .int .i64 9, .int .i64 k, .slice none 0 0, .int .i64 1] (msg 2 id 4 9 k [] 1) := And.intro (zBR (by constructor <;> decide) hid (by constructor <;> decide) (by constructor <;> decide) hk64 (by constructor <;> decide) (zBA _ _)) (Nat.le_refl _)
   have FS : (zAo u9w (w.heap.size + 1) 0 [.int .i64 2, .int .i64 id, .int .i64 4, .int .i64 9, .int .i64 k, .slice none 0 0, .int .i64 1]).heap.size = u9w.heap.size := zAj _ _ _
   have FM : zAY zBy w (zAo u9w (w.heap.size + 1) 0 [.int .i64 2, .int .i64 id, .int .i64 4, .int .i64 9, .int .i64 k, .slice none 0 0, .int .i64 1]) [.int .i64 2, .int .i64 id, .int .i64 4, .int .i64 9, .int .i64 k, .slice none 0 0, .int .i64 1] am := ⟨by rw [ham]; exact zBy.own_mono (zAw (g := w.heap.size + 1) (o := 0) (vs := [.int .i64 2, .int .i64 id, .int .i64 4, .int .i64 9, .int .i64 k, .slice none 0 0, .int .i64 1]) OM (by omega)).1 (fun k q => ⟨by have := q.1; omega, by have := q.2; have := OM.2; omega⟩), zAv (g := w.heap.size + 1) (o := 0) (vs := [.int .i64 2, .int .i64 id, .int .i64 4, .int .i64 9, .int .i64 k, .slice none 0 0, .int .i64 1]) B (by omega)⟩
   simp only [zA0, zA3, Nat.reduceAdd] at FM r0 r1 r2 r3 r4 r5 r6
   clear B U R M V2 V3 OM FS
   exact bodyPost_ret (v := .agg #[.int .i64 2, .int .i64 id, .int .i64 4, .int .i64 9, .int .i64 k, .slice none 0 0, .int .i64 1]) (by simp [results, Tryz.results124, go_sem, r0, r1, r2, r3, r4, r5, r6]) rfl ⟨[.int .i64 2, .int .i64 id, .int .i64 4, .int .i64 9, .int .i64 k, .slice none 0 0, .int .i64 1], rfl, FM⟩
  ·rw [if_neg hz] at ham
   have hz2 : (left == 0) = false := by simp [hz]
   obtain ⟨Uc0, Uc1, Uc2⟩ := zAg U
   have Ult := (Array.getElem?_eq_some_iff.1 U).1
   obtain ⟨Rc0, Rc1, Rc2, Rc3, Rc4, Rc5, Rc6⟩ := zAe R
   have Rlt := (Array.getElem?_eq_some_iff.1 R).1
   obtain ⟨Mc0, Mc1, Mc2, Mc3, Mc4, Mc5, Mc6⟩ := zAe M
   have Mlt := (Array.getElem?_eq_some_iff.1 M).1
   obtain ⟨Mf0, Mf1, Mf2, Mf3, Mf4, Mf5, Mf6⟩ := zB8 M
   go_upto_region 6 with fail
   clear Uc0 Uc1 Uc2 Ult Rc0 Rc1 Rc2 Rc3 Rc4 Rc5 Rc6 Rlt Mc0 Mc1 Mc2 Mc3 Mc4 Mc5 Mc6 Mlt Mf0 Mf1 Mf2 Mf3 Mf4 Mf5 Mf6
   obtain ⟨Uc0, Uc1, Uc2⟩ := zAg U
   have Ult := (Array.getElem?_eq_some_iff.1 U).1
   obtain ⟨Rc0, Rc1, Rc2, Rc3, Rc4, Rc5, Rc6⟩ := zAe R
   have Rlt := (Array.getElem?_eq_some_iff.1 R).1
   obtain ⟨Rf0, Rf1, Rf2, Rf3, Rf4, Rf5, Rf6⟩ := zB8 R
   obtain ⟨Mc0, Mc1, Mc2, Mc3, Mc4, Mc5, Mc6⟩ := zAe M
   have Mlt := (Array.getElem?_eq_some_iff.1 M).1
   have ne1 : ¬ (u2w.heap.size = w.heap.size + 1) := by omega
   have ne2 : ¬ (w.heap.size + 1 = u2w.heap.size) := by omega
   have HK : Hid _ := And.intro B (And.intro U (And.intro R (M)))
   clear B U R M
   go_wp2
   clear ne1 ne2
   clear Uc0 Uc1 Uc2 Ult Rc0 Rc1 Rc2 Rc3 Rc4 Rc5 Rc6 Rlt Rf0 Rf1 Rf2 Rf3 Rf4 Rf5 Rf6 Mc0 Mc1 Mc2 Mc3 Mc4 Mc5 Mc6 Mlt
   obtain ⟨B, U, R, M⟩ := HK.out
   clear HK
   have bsz := B.size
   have V2 := zAC (g := w.heap.size + 1) [.int .i64 2, .int .i64 id, .int .i64 4, .int .i64 9, .int .i64 k, .slice none 0 0, .int .i64 0] 0 R
   have V3 : (zAo u4w (w.heap.size + 1) 0 [.int .i64 2, .int .i64 id, .int .i64 4, .int .i64 9, .int .i64 k, .slice none 0 0, .int .i64 0]).heap[w.heap.size + 1]? = some (.cells #[.int .i64 2, .int .i64 id, .int .i64 4, .int .i64 9, .int .i64 k, .slice none 0 0, .int .i64 0] 46 (0, 0)) := V2
   obtain ⟨r0, r1, r2, r3, r4, r5, r6⟩ := zAe V3
   have OM : zCp zBy u4w.heap.size u4w.heap.size u4w [.int .i64 2, .int .i64 id, .int .i64 4, .int .i64 9, .int .i64 k, .slice none 0 0, .int .i64 0] (msg 2 id 4 9 k [] 0) := And.intro (zBR (by constructor <;> decide) hid (by constructor <;> decide) (by constructor <;> decide) hk64 (by constructor <;> decide) (zBA _ _)) (Nat.le_refl _)
   have FS : (zAo u4w (w.heap.size + 1) 0 [.int .i64 2, .int .i64 id, .int .i64 4, .int .i64 9, .int .i64 k, .slice none 0 0, .int .i64 0]).heap.size = u4w.heap.size := zAj _ _ _
   have FM : zAY zBy w (zAo u4w (w.heap.size + 1) 0 [.int .i64 2, .int .i64 id, .int .i64 4, .int .i64 9, .int .i64 k, .slice none 0 0, .int .i64 0]) [.int .i64 2, .int .i64 id, .int .i64 4, .int .i64 9, .int .i64 k, .slice none 0 0, .int .i64 0] am := ⟨by rw [ham]; exact zBy.own_mono (zAw (g := w.heap.size + 1) (o := 0) (vs := [.int .i64 2, .int .i64 id, .int .i64 4, .int .i64 9, .int .i64 k, .slice none 0 0, .int .i64 0]) OM (by omega)).1 (fun k q => ⟨by have := q.1; omega, by have := q.2; have := OM.2; omega⟩), zAv (g := w.heap.size + 1) (o := 0) (vs := [.int .i64 2, .int .i64 id, .int .i64 4, .int .i64 9, .int .i64 k, .slice none 0 0, .int .i64 0]) B (by omega)⟩
   simp only [zA0, zA3, Nat.reduceAdd] at FM r0 r1 r2 r3 r4 r5 r6
   clear B U R M V2 V3 OM FS
   exact bodyPost_ret (v := .agg #[.int .i64 2, .int .i64 id, .int .i64 4, .int .i64 9, .int .i64 k, .slice none 0 0, .int .i64 0]) (by simp [results, Tryz.results124, go_sem, r0, r1, r2, r3, r4, r5, r6]) rfl ⟨[.int .i64 2, .int .i64 id, .int .i64 4, .int .i64 9, .int .i64 k, .slice none 0 0, .int .i64 0], rfl, FM⟩
end Go.Proofs.YtoihjejenjcokaaGreatDoor
