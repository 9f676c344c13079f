import Derived.Test.YtmaopldahnejdaaGreatDoorG00Box
import Derived.Test.YtmaopldahnejdaaGreatDoorG27
namespace Go.Proofs.YtmaopldahnejdaaGreatDoor
set_option maxHeartbeats 8000000
set_option maxRecDepth 20000
open Go.ChangeShapes Go.WideShapes Go.ChangeAt Go.RowKit
set_option linter.unusedVariables false
set_option linter.unusedSimpArgs false
theorem zK1 (g nb bc : Nat) (ba : Option Addr) (mv : Value) (r c tq n ln gg : Int) (dt : List Int) (ma : Option Addr) (mc2 : Nat) (w : World) (Z : w.heap[g]? = some (.cells #[mv, sL ba nb bc] 27 (0, 0))) (hd : zBv zBf w ma dt) (h7 : zFB (r, c, tq, n, ln, dt, gg) = false) :
    Calls Tryz.prog 49 #[.pointer (some ⟨g, 0, none⟩), .agg #[nI r, nI c, nI tq, nI n, nI ln, sL ma dt.length mc2, nI gg]] w fun e w' => ∃ d, e = .returned (.tuple #[sL (some ⟨d, 0, none⟩) 0 0, nI 0]) ∧ w'.heap[d]? = some (.cells #[] 30 (0, 0)) ∧ w.heap.size ≤ d ∧ Bl w w' := by
 have B := Below.refl w.heap.size w;have L : Hid (∀ W, Bl w W → zBv zBf W ma dt) := fun W hb => zAt hd hb;clear hd;go_enter Tryz.func49, Tryz.ntmps49;go_upto_region 1 with fail
 generalize i : w.alloc _ = w0;have X := boxH i;have b := boxB i;clear i;replace Z := zAb b Z;replace B := zAa B b;clear b;go_upto_region 2 with fail
 generalize f : w0.alloc _ = w1;have o := boxH f;have b := boxB f;clear f;have l := B.size;replace X := zAb b X;replace Z := zAb b Z;replace B := zAa B b;clear b;obtain ⟨d, j⟩ : ∃ d, d = w0.heap.size := ⟨_, rfl⟩;rw [← j] at o l;rw [← j];clear j;obtain ⟨A, y⟩ := zAd Z;have m := (ltH Z);obtain ⟨G, C, v, F, E, s, z⟩ := zAe X;have k := (ltH X);go_cut [22] (fun q wx => q = .bool true ∧ Bl w wx ∧ wx.heap[d]? = some (.cells #[] 30 (0, 0)))
 case first =>
  have a : Hid _ := aI B (aI o (aI Z X));have K : Hid (Bl w1 w1.drew) := (Below.refl w1.heap.size w1).drew;clear B o Z X;first | (go_region_with (first | (go_at_call 61; refine (zEC r c tq n ln gg dt ma mc2 _ (L.out _ a.out.1.drew)).mono ?_; rintro e M ⟨rfl, J⟩; rw [h7]; have p : Hid (Bl w1 M) := zAa K.out J; clear J A y m G C v F E s z k; obtain ⟨A, y⟩ := zAd (zAb p.out a.out.2.2.1); obtain ⟨G, C, v, F, E, s, z⟩ := zAe (zAb p.out a.out.2.2.2)) | fail)) | fail
  all_goals
   go_wp2_with fail
   go_meet
   exact ⟨rfl, zAa a.out.1 p.out, zAb p.out a.out.2.1⟩
 case rest =>
  obtain ⟨rfl, I, H⟩ := hcut;have D : Hid _ := aI I H;clear I H B o Z X A y m G C v F E s z k;generalize wc = w2 at D ⊢;go_wp2;go_ret2
  exact ⟨d, rfl, D.out.2, l, D.out.1⟩
theorem zJt (g nb bc : Nat) (ba : Option Addr) (mv : Value) (r c tq n ln gg : Int) (dt : List Int) (ma : Option Addr) (mc2 : Nat) (w : World) (Z : w.heap[g]? = some (.cells #[mv, sL ba nb bc] 27 (0, 0))) (hd : zBv zBf w ma dt) (h7 : zFB (r, c, tq, n, ln, dt, gg) = true) (hl : (nb : Int) ≤ ln) :
    Calls Tryz.prog 49 #[.pointer (some ⟨g, 0, none⟩), .agg #[nI r, nI c, nI tq, nI n, nI ln, sL ma dt.length mc2, nI gg]] w fun e w' => ∃ d, e = .returned (.tuple #[sL (some ⟨d, 0, none⟩) 0 0, nI 0]) ∧ w'.heap[d]? = some (.cells #[] 30 (0, 0)) ∧ w.heap.size ≤ d ∧ Bl w w' := by
 have B := Below.refl w.heap.size w;have L : Hid (∀ W, Bl w W → zBv zBf W ma dt) := fun W hb => zAt hd hb;clear hd;go_enter Tryz.func49, Tryz.ntmps49;go_upto_region 1 with fail
 generalize i : w.alloc _ = w0;have X := boxH i;have b := boxB i;clear i;replace Z := zAb b Z;replace B := zAa B b;clear b;go_upto_region 2 with fail
 generalize f : w0.alloc _ = w1;have o := boxH f;have b := boxB f;clear f;have l := B.size;replace X := zAb b X;replace Z := zAb b Z;replace B := zAa B b;clear b;obtain ⟨d, j⟩ : ∃ d, d = w0.heap.size := ⟨_, rfl⟩;rw [← j] at o l;rw [← j];clear j;obtain ⟨A, y⟩ := zAd Z;have m := (ltH Z);obtain ⟨G, C, v, F, E, s, z⟩ := zAe X;have k := (ltH X);go_cut [22] (fun q wx => q = .bool true ∧ Bl w wx ∧ wx.heap[d]? = some (.cells #[] 30 (0, 0)))
 case first =>
  have a : Hid _ := aI B (aI o (aI Z X));have K : Hid (Bl w1 w1.drew) := (Below.refl w1.heap.size w1).drew;clear B o Z X;first | (go_region_with (first | (go_at_call 61; refine (zEC r c tq n ln gg dt ma mc2 _ (L.out _ a.out.1.drew)).mono ?_; rintro e M ⟨rfl, J⟩; rw [h7]; have p : Hid (Bl w1 M) := zAa K.out J; clear J A y m G C v F E s z k; obtain ⟨A, y⟩ := zAd (zAb p.out a.out.2.2.1); obtain ⟨G, C, v, F, E, s, z⟩ := zAe (zAb p.out a.out.2.2.2)) | fail)) | fail
  all_goals
   go_wp2_with fail
   go_meet
   exact ⟨rfl, zAa a.out.1 p.out, zAb p.out a.out.2.1⟩
 case rest =>
  obtain ⟨rfl, I, H⟩ := hcut;have D : Hid _ := aI I H;clear I H B o Z X A y m G C v F E s z k;generalize wc = w2 at D ⊢;go_wp2;go_ret2
  exact ⟨d, rfl, D.out.2, l, D.out.1⟩
def BkC (w : World) (hb : Nat) (mv : Value) (mem : List (List Int)) (ob oz : Obj) (xs : List zA7) (wr : World) : Prop := ∃ (au : Option Addr) (cu : Nat),
 wr.heap[hb]? = some (.cells #[mv, .slice au xs.length cu] 27 (0, 0)) ∧ zBY.own wr (rng (w.heap.size + 2) hb) [mv] mem ∧ zCS.own wr (rng (hb + 1) wr.heap.size) [.slice au xs.length cu] xs ∧
 wr.heap[w.heap.size]? = some ob ∧ wr.heap[w.heap.size + 1]? = some oz ∧ Below w.heap.size w wr ∧ w.heap.size + 2 ≤ hb ∧ hb < wr.heap.size
theorem bkc_keep {w wr wr' : World} {hb : Nat} {mv : Value} {mem : List (List Int)} {ob oz : Obj} {xs : List zA7} (h : BkC w hb mv mem ob oz xs wr) (hq : Bl wr wr') : BkC w hb mv mem ob oz xs wr' := by
 obtain ⟨b, k, a, j, d, f, g, i, c, h8⟩ := h;have := hq.size;exact ⟨b, k, zAb hq a, zBY.own_keep j (zAj hq), zCS.own_mono (zCS.own_keep d (zAj hq)) (zAL (Nat.le_refl _) this), zAb hq f, zAb hq g, zAa i hq, c, by omega⟩
theorem infoEntC : (Tryz.prog.info? 48).map (fun i => (i.zero, i.size, i.bytes)) = some (some (.agg #[nI 0, nI 0, .bool false, nI 0, nI 0, nI 0, nI 0, sL none 0 0]), 8, 80) := by kernel_rfl
theorem zJu (cs : List Value) (x : zA2) (w : World) (h : zAz.rd w cs x) (hk : zCa x.1 = true) (h64 : ∀ xs ∈ x.1, ∀ y ∈ xs, zA4 y) (hd : ∀ u ∈ x.2, u.2.2.2.2.2.2.2.length ≤ 1048576) (hl : x.2.length ≤ 1000) :
    Calls Tryz.prog 48 #[zBw cs] w fun e w' => ∃ a l c b m d, e = .returned (.agg #[sL a l c, sL b m d]) ∧ zAD zAz w w' [sL a l c, sL b m d] x := by
 obtain ⟨v0, v1, rfl, ⟨a0, c0, e0, l1, l2, q0⟩, ⟨a1, c1, e1, m1, m2, q1⟩⟩ := zBW h;simp only [List.cons.injEq, and_true] at e0 e1;obtain rfl := e0;obtain rfl := e1;have RA : Hid (∀ W, Bl w W → zDo W a0 x.1) := fun W hb => zDq (zAt q0 hb);have cB : Hid (∀ W, Bl w W → zBv zB6 W a1 x.2) := fun W hb => zAt q1 hb;have TA : Hid _ := hd;have lB : Hid _ := h64;clear h q0 q1 hd h64 l1 l2 m1 m2;change Calls Tryz.prog 48 #[.agg #[sL a0 x.1.length c0, sL a1 x.2.length c1]] w _
 have B := Below.refl w.heap.size w;go_enter Tryz.func48, Tryz.ntmps48;go_upto_region 1 with fail
 generalize E : w.alloc _ = W0;have X := boxH E;have bz := boxB E;have s0 := boxL E;clear E;replace B := zAa B bz;clear bz;generalize J : W0.alloc _ = W1;have Z := boxH J;have bz := boxB J;have s1 := boxL J;clear J;rw [s0] at Z;replace X := zAb bz X;replace B := zAa B bz;clear bz;have nB : W1.heap.size = w.heap.size + 2 := by omega
 clear s0 s1;obtain ⟨x0, x1⟩ := zAd X;have R := (ltH X);go_wp2_with fail
 refine (zKn a0 x.1 c0 _ (RA.out _ B) hk).mono ?_;clear x0 x1 R;rintro e z ⟨v, rfl, CA⟩;have U := zEV CA lB.out;clear CA;obtain ⟨L, O, rfl⟩ := zAB U.1;replace X := zAb U.2 X;replace Z := zAb U.2 Z;replace B := zAa B U.2;have ss := U.2.size;have OM := U.1;clear U;have I0 : BkC w z.heap.size (sL L x.1.length O) x.1 (.cells #[sL a0 x.1.length c0, sL a1 x.2.length c1] 27 (0, 0)) (.cells #[sL none 0 0, sL none 0 0] 27 (0, 0)) [] (z.alloc (.cells #[sL L x.1.length O, sL none 0 0] 27)) :=
  ⟨none, 0, zAw z _, zBY.own_mono (zBY.own_keep OM (zAj (zAg z _))) (fun k hk => ⟨by have := hk.1; omega, hk.2⟩), zBh _ _, zAb (zAg z _) X, zAb (zAg z _) Z, zAa B (zAg z _), by omega, by rw [zAu]; omega⟩
 have F : Hid _ := I0;have oB : w.heap.size + 2 ≤ z.heap.size := by omega
 clear I0 OM B X Z;go_upto_region 2 with fail
 generalize z.alloc (.cells #[sL L x.1.length O, sL none 0 0] 27) = W3 at F ⊢;generalize dB : z.heap.size = hb at F oB ⊢;clear dB ss nB;go_wp2;go_loopw [4] (fun q wr => ∃ k : Nat, k ≤ x.2.length ∧ q = nI k ∧ BkC w hb (sL L x.1.length O) x.1 (.cells #[sL a0 x.1.length c0, sL a1 x.2.length c1] 27 (0, 0)) (.cells #[sL none 0 0, sL none 0 0] 27 (0, 0)) (x.2.take k) wr) (fun q _ => x.2.length - (intOf q).toNat)
 case atStart => exact ⟨0, Nat.zero_le _, rfl, F.out⟩
 case round =>
  clear F;obtain ⟨k, kC, rfl, I⟩ := hrel;have i : (x.2.take k).length = k := by rw [List.length_take]; omega
  obtain ⟨au, cu, i1, i2, T, i4, H, S, i7, i8⟩ := I;have K := i1;rw [i] at K;obtain ⟨y0, y1⟩ := zAd K;obtain ⟨x0, x1⟩ := zAd i4;have R := (ltH i4);have bA := (ltH i1);by_cases pB : k < x.2.length
  ·have AB : (k : Int) < (x.2.length : Int) := by omega
   obtain ⟨u, hu⟩ : ∃ u, x.2[k]? = some u := ⟨_, List.getElem?_eq_getElem pB⟩;obtain ⟨eb, eo, es, rfl, oA, s⟩ := zBH (cB.out _ S) hu;obtain ⟨ad, cp, rfl, j0, j1, j3, j4, j5, j6, -, -, GA⟩ := zE0 oA;have f : ∀ j u', ([nI u.1, nI u.2.1, .bool u.2.2.1, nI u.2.2.2.1, nI u.2.2.2.2.1, nI u.2.2.2.2.2.1, nI u.2.2.2.2.2.2.1, sL ad u.2.2.2.2.2.2.2.length cp] : List Value)[j]? = some u' → wr.cell? ⟨eb, eo + k * 8 + j, none⟩ = some u' := fun j u' hj => by
    have q := s j u' hj;rw [show eo + (k * zB6.size + j) = eo + k * 8 + j from by rw [show zB6.size = 8 from rfl]; omega] at q;exact q
   have k0 : wr.cell? ⟨eb, eo + k * 8, none⟩ = _ := f 0 _ rfl;have k1 := f 1 _ rfl;have k2 := f 2 _ rfl;have k3 := f 3 _ rfl;have k4 := f 4 _ rfl;have k5 := f 5 _ rfl;have k6 := f 6 _ rfl;have k7 := f 7 _ rfl;have N : Hid _ := aI hu (aI GA (aI j0 (aI j1 (aI j3 (aI j4 (aI j5 j6))))));have F : Hid _ := aI i1 (aI i2 (aI T (aI i4 (aI H (aI S (aI i7 i8))))));clear K oA s f hu GA j0 j1 j3 j4 j5 j6 i1 i2 T i4 H S;go_upto_region 6 with fail
   clear k0 k1 k2 k3 k4 k5 k6 k7 x0 x1 y0 y1 R bA;generalize M : wr.alloc _ = W4;have EB := boxH M;have b1 := boxB M;have z1 := boxL M;clear M;have FC := lE z1;have pC := lE z1.symm;clear z1;obtain ⟨n0, n1, n2, n3, n4, n5, n6, n7⟩ := zAk EB;have p := (ltH EB);go_wp2_with fail
   refine (zCB ad u.2.2.2.2.2.2.2 cp _ (zAt N.out.2.1 b1) (TA.out u (List.mem_of_getElem? N.out.1))).mono ?_;clear n0 n1 n2 n3 n4 n5 n6 n7 p;rintro e W5 ⟨v, rfl, mr⟩;obtain ⟨G, C, rfl⟩ := zAB mr.1;have z5 := mr.2.size;have r := zAb mr.2 EB;have b5 := zAa b1 mr.2;have OD : Hid _ := mr.1;clear mr EB b1;obtain ⟨n0, n1, n2, n3, n4, n5, n6, n7⟩ := zAk r;obtain ⟨p0, p1, p2, p3, p4, p5, p6, p7⟩ := zA3 r;have p := (ltH r);have cA : Hid _ := aI r b5;clear r b5;go_upto_region 7 with fail
   have D : (W5.setCell ⟨wr.heap.size, 7, none⟩ (sL G u.2.2.2.2.2.2.2.length C)).heap[wr.heap.size]? = some (.cells #[nI u.1, nI u.2.1, .bool u.2.2.1, nI u.2.2.2.1, nI u.2.2.2.2.1, nI u.2.2.2.2.2.1, nI u.2.2.2.2.2.2.1, sL G u.2.2.2.2.2.2.2.length C] 48 (0, 0)) := heap_setCell_same _ (wr.heap.size) 7 _ _ (sL G u.2.2.2.2.2.2.2.length C) cA.out.1;have b6 := zAh (g := wr.heap.size) (o := 7) (v := sL G u.2.2.2.2.2.2.2.length C) cA.out.2 (Nat.le_refl _);have Y : Hid _ := zAn (g := wr.heap.size) (o := 7) (v := sL G u.2.2.2.2.2.2.2.length C) OD.out (fun q => by have := q.1; omega);have z6 : W5.heap.size ≤ (W5.setCell ⟨wr.heap.size, 7, none⟩ (sL G u.2.2.2.2.2.2.2.length C)).heap.size := by simp
   clear n0 n1 n2 n3 n4 n5 n6 n7 p0 p1 p2 p3 p4 p5 p6 p7 p;generalize W5.setCell ⟨wr.heap.size, 7, none⟩ (sL G u.2.2.2.2.2.2.2.length C) = W6 at D b6 Y z6 ⊢;have VA : Hid (BkC w hb (sL L x.1.length O) x.1 (.cells #[sL a0 x.1.length c0, sL (some ⟨eb, eo, none⟩) x.2.length c1] 27 (0, 0)) (.cells #[sL none 0 0, sL none 0 0] 27 (0, 0)) (x.2.take k) W6) := bkc_keep ⟨au, cu, F.out⟩ b6;have R6 := zAb b6 F.out.1;rw [i] at R6;have O6 : Hid (zCS.own W6 (rng (hb + 1) wr.heap.size) [sL au k cu] (x.2.take k)) := by have q := zCS.own_keep F.out.2.2.1 (zAj b6); rw [i] at q; exact q
   have OE : Hid (zB6.own W6 (rng W4.heap.size W5.heap.size) [nI u.1, nI u.2.1, .bool u.2.2.1, nI u.2.2.2.1, nI u.2.2.2.2.1, nI u.2.2.2.2.2.1, nI u.2.2.2.2.2.2.1, sL G u.2.2.2.2.2.2.2.length C] u) := zB3 N.out.2.2.1 N.out.2.2.2.1 N.out.2.2.2.2.1 N.out.2.2.2.2.2.1 N.out.2.2.2.2.2.2.1 N.out.2.2.2.2.2.2.2 Y.out;have FB := F.out.2.2.2.2.2.2.2;have KB := b6.size;obtain ⟨n0, n1, n2, n3, n4, n5, n6, n7⟩ := zAk D;obtain ⟨y0, y1⟩ := zAd R6;obtain ⟨g0, g1⟩ := zA1 R6;have p := (ltH D);have bA := (ltH R6);have YA : Hid ((x.2.take k) ++ [u] = x.2.take (k + 1)) := by unfold Hid; rw [List.take_add_one, N.out.1]; rfl
   obtain ⟨ti, kB, ZA, OA, XA⟩ := info_parts infoEntC;have bB : Hid _ := R6;clear D R6 b6 Y OD cA;go_wp2_with (at_builtin; refine zGk rfl _ _ 25 rfl zB6 48 ti (.agg #[nI 0, nI 0, .bool false, nI 0, nI 0, nI 0, nI 0, sL none 0 0]) 80 Tryz.underlying25 kB ZA OA XA rfl (by decide) (by decide) (hb + 1) (rng (hb + 1) wr.heap.size) (rng W4.heap.size W5.heap.size) (sL au k cu) (x.2.take k) [nI u.1, nI u.2.1, .bool u.2.2.1, nI u.2.2.2.1, nI u.2.2.2.2.1, nI u.2.2.2.2.2.1, nI u.2.2.2.2.2.2.1, sL G u.2.2.2.2.2.2.2.length C] u 1 rfl _ rfl rfl O6.out OE.out ?d1 ?d2 ?d3 ?d4 ?c1 ?c2 ?c3 ?_)
   case d1 => exact zFe (.inl (by omega))
   case d2 => exact fun q A => A.1
   case d3 => intro q A; have := A.1; omega
   case d4 => omega
   case c1 => intro q A; simp at A; rcases A with rfl | rfl | rfl | rfl | rfl | rfl | rfl | rfl <;> rfl
   case c2 => rw [i]; exact Nat.le_trans (show k + 1 ≤ 1001 by omega) (by unfold maxLen; decide)
   case c3 => rw [i]; exact Nat.le_trans (Nat.mul_le_mul_right 80 (show k + 1 ≤ 1001 by omega)) (by decide)
   intro g' zA w2 NO NC;rw [YA.out] at NO
   (try rw [i] at NO)
   (try rw [i])
   have n : Hid _ := aI NO NC;have nS : ∀ q, q ≤ hb → ¬ Old W6 (rng (hb + 1) wr.heap.size) q := fun q A h9 => by have := h9.1.1; omega
   have P2 := (NC.block hb bA (nS hb (Nat.le_refl _))).trans bB.out;obtain ⟨q0, q1⟩ := zAd P2;obtain ⟨f0, f1⟩ := zA1 P2;have lC := (ltH P2);have gB : Hid _ := P2;have vA : Hid (k + 1 = (x.2.take (k + 1)).length) := by unfold Hid; rw [List.length_take]; omega
   clear NO NC P2 n0 n1 n2 n3 n4 n5 n6 n7 y0 y1 g0 g1 p;go_wp2;go_roundw
   case rel =>
    refine ⟨k + 1, by omega, by go_num, some ⟨g', 0, none⟩, zA, ?_⟩;have Q := VA.out;obtain ⟨MC, eC, r1, r2, r3, r4, r5, r6, r7, r8⟩ := Q;have z9 := n.out.2.size;refine ⟨?_, zAn (zBk r2 n.out.2 (fun q a b => nS q (by have := a.2; omega) b)) (fun q => by have := q.2; omega), ?_, zAl ((n.out.2.block _ (by omega) (nS _ (by omega))).trans r4) (by omega), zAl ((n.out.2.block _ (by omega) (nS _ (by omega))).trans r5) (by omega), zAh (n.out.2.below r6 (fun q h9 => by have := h9.1.1; omega) (by omega)) (by omega), r7, by simp; omega⟩
    ·rw [← vA.out];exact heap_setCell_same w2 hb 1 _ _ _ gB.out
    ·rw [← vA.out];refine zAn (zCS.own_mono n.out.1 (fun q A => ⟨A.1, by simpa using A.2⟩)) (fun q => by have := q.1; omega)
   case measure => simp [intOf]; omega
  ·have fB : k = x.2.length := by omega
   subst fB;clear K;rw [List.take_length] at i1 T;obtain ⟨y0, y1⟩ := zAd i1;obtain ⟨z0, z1⟩ := zAd H;obtain ⟨f0, f1⟩ := zA1 H;have bC := (ltH H);have HF : Hid _ := aI i2 (aI T (aI H S));clear i1 i2 T i4 H S;go_wp2;obtain ⟨i2, T, H, S⟩ := HF.out;have V := zCu (y0 := sL L x.1.length O) (y1 := sL au x.2.length cu) H;obtain ⟨r0, r1⟩ := zAd V;have FM : zAD zAz w ((wr.setCell ⟨w.heap.size + 1, 0, none⟩ (sL L x.1.length O)).setCell ⟨w.heap.size + 1, 1, none⟩ (sL au x.2.length cu)) [sL L x.1.length O, sL au x.2.length cu] x := ⟨zCt (S0 := rng (w.heap.size + 2) hb) (S1 := rng (hb + 1) wr.heap.size) (zAn (zAn i2 (fun h => by have := h.1; omega)) (fun h => by have := h.1; omega)) (zAn (zAn T (fun h => by have := h.1; omega)) (fun h => by have := h.1; omega)) (zAL (by omega) (by simp; omega)) (zAL (by omega) (by simp)) (zFe (.inl (by omega))), zAh (zAh S (by omega)) (by omega)⟩;exact bodyPost_ret (v := .agg #[sL L x.1.length O, sL au x.2.length cu]) (by simp [results, Tryz.results48, go_sem, r0, r1]) rfl ⟨_, _, _, _, _, _, rfl, FM⟩
end Go.Proofs.YtmaopldahnejdaaGreatDoor
