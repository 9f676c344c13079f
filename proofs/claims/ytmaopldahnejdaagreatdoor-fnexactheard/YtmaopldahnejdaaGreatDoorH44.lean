import Derived.Test.YtmaopldahnejdaaGreatDoorH00Box
import Derived.Test.YtmaopldahnejdaaGreatDoorH33
namespace Go.Proofs.YtmaopldahnejdaaGreatDoor
set_option maxHeartbeats 8000000
set_option maxRecDepth 20000
open Go.ChangeShapes Go.WideShapes Go.ChangeAt Go.RowKit
set_option linter.unusedVariables false
set_option linter.unusedSimpArgs false
theorem l13Hear_no (g nb bc : Nat) (ba : Option Addr) (mv : Value) (r c tq n ln gg : Int) (dt : List Int) (ma : Option Addr) (mc2 : Nat) (w : World) (Z : w.heap[g]? = some (.cells #[mv, sL ba nb bc] 27 (0, 0))) (hd : SlRd intR w ma dt) (h7 : msgB (r, c, tq, n, ln, dt, gg) = false) :
    Calls Tryz.prog 49 #[.pointer (some ⟨g, 0, none⟩), .agg #[nI r, nI c, nI tq, nI n, nI ln, sL ma dt.length mc2, nI gg]] w fun e w' => ∃ b, e = .returned (.tuple #[sL (some ⟨b, 0, none⟩) 0 0, nI 0]) ∧ w'.heap[b]? = some (.cells #[] 30 (0, 0)) ∧ w.heap.size ≤ b ∧ Bl w w' := by
 have B := Below.refl w.heap.size w;have K : Hid (∀ W, Bl w W → SlRd intR W ma dt) := fun W hb => slrd_next hd hb;clear hd;go_enter Tryz.func49, Tryz.ntmps49;go_upto_region 1 with fail
 generalize i : w.alloc _ = w0;have X := boxH i;have d := boxB i;clear i;replace Z := row_keep d Z;replace B := below_step B d;clear d;go_upto_region 2 with fail
 generalize f : w0.alloc _ = w1;have p := boxH f;have d := boxB f;clear f;have m := B.size;replace X := row_keep d X;replace Z := row_keep d Z;replace B := below_step B d;clear d;obtain ⟨b, j⟩ : ∃ b, b = w0.heap.size := ⟨_, rfl⟩;rw [← j] at p m;rw [← j];clear j;obtain ⟨F, z⟩ := cells_house Z;have l := (ltH Z);obtain ⟨A, E, D, v, C, s, y⟩ := cells_7 X;have k := (ltH X);go_cut [22] (fun q wx => q = .bool true ∧ Bl w wx ∧ wx.heap[b]? = some (.cells #[] 30 (0, 0)))
 case first =>
  have a : Hid _ := aI B (aI p (aI Z X));have M : Hid (Bl w1 w1.drew) := (Below.refl w1.heap.size w1).drew;clear B p Z X;first | (go_region_with (first | (go_at_call 61; refine (specMsg_any r c tq n ln gg dt ma mc2 _ (K.out _ a.out.1.drew)).mono ?_; rintro e L ⟨rfl, H⟩; rw [h7]; have o : Hid (Bl w1 L) := below_step M.out H; clear H F z l A E D v C s y k; obtain ⟨F, z⟩ := cells_house (row_keep o.out a.out.2.2.1); obtain ⟨A, E, D, v, C, s, y⟩ := cells_7 (row_keep o.out a.out.2.2.2)) | fail)) | fail
  all_goals
   go_wp2_with fail
   go_meet
   exact ⟨rfl, below_step a.out.1 o.out, row_keep o.out a.out.2.1⟩
 case rest =>
  obtain ⟨rfl, I, J⟩ := hcut;have G : Hid _ := aI I J;clear I J B p Z X F z l A E D v C s y k;generalize wc = w2 at G ⊢;go_wp2;go_ret2
  exact ⟨b, rfl, G.out.2, m, G.out.1⟩
theorem l13Hear_far (g nb bc : Nat) (ba : Option Addr) (mv : Value) (r c tq n ln gg : Int) (dt : List Int) (ma : Option Addr) (mc2 : Nat) (w : World) (Z : w.heap[g]? = some (.cells #[mv, sL ba nb bc] 27 (0, 0))) (hd : SlRd intR w ma dt) (h7 : msgB (r, c, tq, n, ln, dt, gg) = true) (hl : (nb : Int) ≤ ln) :
    Calls Tryz.prog 49 #[.pointer (some ⟨g, 0, none⟩), .agg #[nI r, nI c, nI tq, nI n, nI ln, sL ma dt.length mc2, nI gg]] w fun e w' => ∃ b, e = .returned (.tuple #[sL (some ⟨b, 0, none⟩) 0 0, nI 0]) ∧ w'.heap[b]? = some (.cells #[] 30 (0, 0)) ∧ w.heap.size ≤ b ∧ Bl w w' := by
 have B := Below.refl w.heap.size w;have K : Hid (∀ W, Bl w W → SlRd intR W ma dt) := fun W hb => slrd_next hd hb;clear hd;go_enter Tryz.func49, Tryz.ntmps49;go_upto_region 1 with fail
 generalize i : w.alloc _ = w0;have X := boxH i;have d := boxB i;clear i;replace Z := row_keep d Z;replace B := below_step B d;clear d;go_upto_region 2 with fail
 generalize f : w0.alloc _ = w1;have p := boxH f;have d := boxB f;clear f;have m := B.size;replace X := row_keep d X;replace Z := row_keep d Z;replace B := below_step B d;clear d;obtain ⟨b, j⟩ : ∃ b, b = w0.heap.size := ⟨_, rfl⟩;rw [← j] at p m;rw [← j];clear j;obtain ⟨F, z⟩ := cells_house Z;have l := (ltH Z);obtain ⟨A, E, D, v, C, s, y⟩ := cells_7 X;have k := (ltH X);go_cut [22] (fun q wx => q = .bool true ∧ Bl w wx ∧ wx.heap[b]? = some (.cells #[] 30 (0, 0)))
 case first =>
  have a : Hid _ := aI B (aI p (aI Z X));have M : Hid (Bl w1 w1.drew) := (Below.refl w1.heap.size w1).drew;clear B p Z X;first | (go_region_with (first | (go_at_call 61; refine (specMsg_any r c tq n ln gg dt ma mc2 _ (K.out _ a.out.1.drew)).mono ?_; rintro e L ⟨rfl, H⟩; rw [h7]; have o : Hid (Bl w1 L) := below_step M.out H; clear H F z l A E D v C s y k; obtain ⟨F, z⟩ := cells_house (row_keep o.out a.out.2.2.1); obtain ⟨A, E, D, v, C, s, y⟩ := cells_7 (row_keep o.out a.out.2.2.2)) | fail)) | fail
  all_goals
   go_wp2_with fail
   go_meet
   exact ⟨rfl, below_step a.out.1 o.out, row_keep o.out a.out.2.1⟩
 case rest =>
  obtain ⟨rfl, I, J⟩ := hcut;have G : Hid _ := aI I J;clear I J B p Z X F z l A E D v C s y k;generalize wc = w2 at G ⊢;go_wp2;go_ret2
  exact ⟨b, rfl, G.out.2, m, G.out.1⟩
def BkC (w : World) (hb : Nat) (mv : Value) (mem : List (List Int)) (ob oz : Obj) (xs : List EntryD) (wr : World) : Prop := ∃ (au : Option Addr) (cu : Nat),
 wr.heap[hb]? = some (.cells #[mv, .slice au xs.length cu] 27 (0, 0)) ∧ rowsR.own wr (rng (w.heap.size + 2) hb) [mv] mem ∧ entsR.own wr (rng (hb + 1) wr.heap.size) [.slice au xs.length cu] xs ∧
 wr.heap[w.heap.size]? = some ob ∧ wr.heap[w.heap.size + 1]? = some oz ∧ Below w.heap.size w wr ∧ w.heap.size + 2 ≤ hb ∧ hb < wr.heap.size
theorem bkc_keep {w wr wr' : World} {hb : Nat} {mv : Value} {mem : List (List Int)} {ob oz : Obj} {xs : List EntryD} (h : BkC w hb mv mem ob oz xs wr) (hq : Bl wr wr') : BkC w hb mv mem ob oz xs wr' := by
 obtain ⟨i, c, b, d, f, g, j, k, a, h8⟩ := h;have := hq.size;exact ⟨i, c, row_keep hq b, rowsR.own_keep d (keeps_below hq), entsR.own_mono (entsR.own_keep f (keeps_below hq)) (rng_sub (Nat.le_refl _) this), row_keep hq g, row_keep hq j, below_step k hq, a, by omega⟩
theorem infoEntC : (Tryz.prog.info? 48).map (fun i => (i.zero, i.size, i.bytes)) = some (some (.agg #[nI 0, nI 0, .bool false, nI 0, nI 0, nI 0, nI 0, sL none 0 0]), 8, 80) := by kernel_rfl
theorem l13Copy_any (cs : List Value) (x : HouseD) (w : World) (h : houseR.rd w cs x) (hk : memOk x.1 = true) (h64 : ∀ xs ∈ x.1, ∀ y ∈ xs, In64 y) (hd : ∀ u ∈ x.2, u.2.2.2.2.2.2.2.length ≤ 1048576) (hl : x.2.length ≤ 1000) :
    Calls Tryz.prog 48 #[aggV cs] w fun e w' => ∃ a l c b m d, e = .returned (.agg #[sL a l c, sL b m d]) ∧ MadeR houseR w w' [sL a l c, sL b m d] x := by
 obtain ⟨v0, v1, rfl, ⟨a0, c0, e0, l1, l2, q0⟩, ⟨a1, c1, e1, m1, m2, q1⟩⟩ := house_rd h;simp only [List.cons.injEq, and_true] at e0 e1;obtain rfl := e0;obtain rfl := e1;have nB : Hid (∀ W, Bl w W → ReadsM W a0 x.1) := fun W hb => readsM_of (slrd_next q0 hb);have jB : Hid (∀ W, Bl w W → SlRd entR W a1 x.2) := fun W hb => slrd_next q1 hb;have dB : Hid _ := hd;have VA : Hid _ := h64;clear h q0 q1 hd h64 l1 l2 m1 m2;change Calls Tryz.prog 48 #[.agg #[sL a0 x.1.length c0, sL a1 x.2.length c1]] w _
 have B := Below.refl w.heap.size w;go_enter Tryz.func48, Tryz.ntmps48;go_upto_region 1 with fail
 generalize K : w.alloc _ = W0;have X := boxH K;have bz := boxB K;have s0 := boxL K;clear K;replace B := below_step B bz;clear bz;generalize L : W0.alloc _ = W1;have Z := boxH L;have bz := boxB L;have s1 := boxL L;clear L;rw [s0] at Z;replace X := row_keep bz X;replace B := below_step B bz;clear bz;have bB : W1.heap.size = w.heap.size + 2 := by omega
 clear s0 s1;obtain ⟨x0, x1⟩ := cells_house X;have T := (ltH X);go_wp2_with fail
 refine (l4Copy_any a0 x.1 c0 _ (nB.out _ B) hk).mono ?_;clear x0 x1 T;rintro e A ⟨v, rfl, yA⟩;have mm := madeM_rep yA VA.out;clear yA;obtain ⟨O, H, rfl⟩ := slown_val mm.1;replace X := row_keep mm.2 X;replace Z := row_keep mm.2 Z;replace B := below_step B mm.2;have ss := mm.2.size;have OM := mm.1;clear mm;have I0 : BkC w A.heap.size (sL O x.1.length H) x.1 (.cells #[sL a0 x.1.length c0, sL a1 x.2.length c1] 27 (0, 0)) (.cells #[sL none 0 0, sL none 0 0] 27 (0, 0)) [] (A.alloc (.cells #[sL O x.1.length H, sL none 0 0] 27)) :=
  ⟨none, 0, heap_at A _, rowsR.own_mono (rowsR.own_keep OM (keeps_below (box_below A _))) (fun k hk => ⟨by have := hk.1; omega, hk.2⟩), own_noneH _ _, row_keep (box_below A _) X, row_keep (box_below A _) Z, below_step B (box_below A _), by omega, by rw [alloc_len]; omega⟩
 have J : Hid _ := I0;have cB : w.heap.size + 2 ≤ A.heap.size := by omega
 clear I0 OM B X Z;go_upto_region 2 with fail
 generalize A.alloc (.cells #[sL O x.1.length H, sL none 0 0] 27) = W3 at J ⊢;generalize gB : A.heap.size = hb at J cB ⊢;clear gB ss bB;go_wp2;go_loopw [4] (fun q wr => ∃ k : Nat, k ≤ x.2.length ∧ q = nI k ∧ BkC w hb (sL O x.1.length H) x.1 (.cells #[sL a0 x.1.length c0, sL a1 x.2.length c1] 27 (0, 0)) (.cells #[sL none 0 0, sL none 0 0] 27 (0, 0)) (x.2.take k) wr) (fun q _ => x.2.length - (intOf q).toNat)
 case atStart => exact ⟨0, Nat.zero_le _, rfl, J.out⟩
 case round =>
  clear J;obtain ⟨k, mC, rfl, I⟩ := hrel;have i : (x.2.take k).length = k := by rw [List.length_take]; omega
  obtain ⟨au, R, S, i2, i3, i4, G, U, i7, i8⟩ := I;have C := S;rw [i] at C;obtain ⟨y0, y1⟩ := cells_house C;obtain ⟨x0, x1⟩ := cells_house i4;have T := (ltH i4);have aA := (ltH S);by_cases mB : k < x.2.length
  ·have HB : (k : Int) < (x.2.length : Int) := by omega
   obtain ⟨u, hu⟩ : ∃ u, x.2[k]? = some u := ⟨_, List.getElem?_eq_getElem mB⟩;obtain ⟨eb, eo, es, rfl, HA, p⟩ := slrd_at (jB.out _ U) hu;obtain ⟨ad, cp, rfl, j0, j1, j3, j4, j5, j6, -, -, CA⟩ := ent_rd HA;have f : ∀ j u', ([nI u.1, nI u.2.1, .bool u.2.2.1, nI u.2.2.2.1, nI u.2.2.2.2.1, nI u.2.2.2.2.2.1, nI u.2.2.2.2.2.2.1, sL ad u.2.2.2.2.2.2.2.length cp] : List Value)[j]? = some u' → wr.cell? ⟨eb, eo + k * 8 + j, none⟩ = some u' := fun j u' hj => by
    have q := p j u' hj;rw [show eo + (k * entR.size + j) = eo + k * 8 + j from by rw [show entR.size = 8 from rfl]; omega] at q;exact q
   have k0 : wr.cell? ⟨eb, eo + k * 8, none⟩ = _ := f 0 _ rfl;have k1 := f 1 _ rfl;have k2 := f 2 _ rfl;have k3 := f 3 _ rfl;have k4 := f 4 _ rfl;have k5 := f 5 _ rfl;have k6 := f 6 _ rfl;have k7 := f 7 _ rfl;have F : Hid _ := aI hu (aI CA (aI j0 (aI j1 (aI j3 (aI j4 (aI j5 j6))))));have J : Hid _ := aI S (aI i2 (aI i3 (aI i4 (aI G (aI U (aI i7 i8))))));clear C HA p f hu CA j0 j1 j3 j4 j5 j6 S i2 i3 i4 G U;go_upto_region 6 with fail
   clear k0 k1 k2 k3 k4 k5 k6 k7 x0 x1 y0 y1 T aA;generalize N : wr.alloc _ = W4;have EB := boxH N;have b1 := boxB N;have z1 := boxL N;clear N;have TC := lE z1;have kC := lE z1.symm;clear z1;obtain ⟨n0, n1, n2, n3, n4, n5, n6, n7⟩ := cells_8 EB;have r := (ltH EB);go_wp2_with fail
   refine (l1Copy_rep ad u.2.2.2.2.2.2.2 cp _ (slrd_next F.out.2.1 b1) (dB.out u (List.mem_of_getElem? F.out.1))).mono ?_;clear n0 n1 n2 n3 n4 n5 n6 n7 r;rintro e W5 ⟨v, rfl, mr⟩;obtain ⟨D, E, rfl⟩ := slown_val mr.1;have z5 := mr.2.size;have s := row_keep mr.2 EB;have b5 := below_step b1 mr.2;have OD : Hid _ := mr.1;clear mr EB b1;obtain ⟨n0, n1, n2, n3, n4, n5, n6, n7⟩ := cells_8 s;obtain ⟨p0, p1, p2, p3, p4, p5, p6, p7⟩ := froz_8 s;have r := (ltH s);have eA : Hid _ := aI s b5;clear s b5;go_upto_region 7 with fail
   have M : (W5.setCell ⟨wr.heap.size, 7, none⟩ (sL D u.2.2.2.2.2.2.2.length E)).heap[wr.heap.size]? = some (.cells #[nI u.1, nI u.2.1, .bool u.2.2.1, nI u.2.2.2.1, nI u.2.2.2.2.1, nI u.2.2.2.2.2.1, nI u.2.2.2.2.2.2.1, sL D u.2.2.2.2.2.2.2.length E] 48 (0, 0)) := heap_setCell_same _ (wr.heap.size) 7 _ _ (sL D u.2.2.2.2.2.2.2.length E) eA.out.1;have b6 := below_setC (g := wr.heap.size) (o := 7) (v := sL D u.2.2.2.2.2.2.2.length E) eA.out.2 (Nat.le_refl _);have Y : Hid _ := own_setC (g := wr.heap.size) (o := 7) (v := sL D u.2.2.2.2.2.2.2.length E) OD.out (fun q => by have := q.1; omega);have z6 : W5.heap.size ≤ (W5.setCell ⟨wr.heap.size, 7, none⟩ (sL D u.2.2.2.2.2.2.2.length E)).heap.size := by simp
   clear n0 n1 n2 n3 n4 n5 n6 n7 p0 p1 p2 p3 p4 p5 p6 p7 r;generalize W5.setCell ⟨wr.heap.size, 7, none⟩ (sL D u.2.2.2.2.2.2.2.length E) = W6 at M b6 Y z6 ⊢;have ZA : Hid (BkC w hb (sL O x.1.length H) x.1 (.cells #[sL a0 x.1.length c0, sL (some ⟨eb, eo, none⟩) x.2.length c1] 27 (0, 0)) (.cells #[sL none 0 0, sL none 0 0] 27 (0, 0)) (x.2.take k) W6) := bkc_keep ⟨au, R, J.out⟩ b6;have R6 := row_keep b6 J.out.1;rw [i] at R6;have O6 : Hid (entsR.own W6 (rng (hb + 1) wr.heap.size) [sL au k R] (x.2.take k)) := by have q := entsR.own_keep J.out.2.2.1 (keeps_below b6); rw [i] at q; exact q
   have OE : Hid (entR.own W6 (rng W4.heap.size W5.heap.size) [nI u.1, nI u.2.1, .bool u.2.2.1, nI u.2.2.2.1, nI u.2.2.2.2.1, nI u.2.2.2.2.2.1, nI u.2.2.2.2.2.2.1, sL D u.2.2.2.2.2.2.2.length E] u) := own_ent F.out.2.2.1 F.out.2.2.2.1 F.out.2.2.2.2.1 F.out.2.2.2.2.2.1 F.out.2.2.2.2.2.2.1 F.out.2.2.2.2.2.2.2 Y.out;have vB := J.out.2.2.2.2.2.2.2;have DB := b6.size;obtain ⟨n0, n1, n2, n3, n4, n5, n6, n7⟩ := cells_8 M;obtain ⟨y0, y1⟩ := cells_house R6;obtain ⟨g0, g1⟩ := froz_house R6;have r := (ltH M);have aA := (ltH R6);have OA : Hid ((x.2.take k) ++ [u] = x.2.take (k + 1)) := by unfold Hid; rw [List.take_add_one, F.out.1]; rfl
   obtain ⟨ti, aB, eB, iB, lB⟩ := info_parts infoEntC;have fB : Hid _ := R6;clear M R6 b6 Y OD eA;go_wp2_with (at_builtin; refine wpList_push rfl _ _ 25 rfl entR 48 ti (.agg #[nI 0, nI 0, .bool false, nI 0, nI 0, nI 0, nI 0, sL none 0 0]) 80 Tryz.underlying25 aB eB iB lB rfl (by decide) (by decide) (hb + 1) (rng (hb + 1) wr.heap.size) (rng W4.heap.size W5.heap.size) (sL au k R) (x.2.take k) [nI u.1, nI u.2.1, .bool u.2.2.1, nI u.2.2.2.1, nI u.2.2.2.2.1, nI u.2.2.2.2.2.1, nI u.2.2.2.2.2.2.1, sL D u.2.2.2.2.2.2.2.length E] u 1 rfl _ rfl rfl O6.out OE.out ?d1 ?d2 ?d3 ?d4 ?c1 ?c2 ?c3 ?_)
   case d1 => exact rng_dis (.inl (by omega))
   case d2 => exact fun q z => z.1
   case d3 => intro q z; have := z.1; omega
   case d4 => omega
   case c1 => intro q z; simp at z; rcases z with rfl | rfl | rfl | rfl | rfl | rfl | rfl | rfl <;> rfl
   case c2 => rw [i]; exact Nat.le_trans (show k + 1 ≤ 1001 by omega) (by unfold maxLen; decide)
   case c3 => rw [i]; exact Nat.le_trans (Nat.mul_le_mul_right 80 (show k + 1 ≤ 1001 by omega)) (by decide)
   intro g' vA w2 NO NC;rw [OA.out] at NO
   (try rw [i] at NO)
   (try rw [i])
   have n : Hid _ := aI NO NC;have nS : ∀ q, q ≤ hb → ¬ Old W6 (rng (hb + 1) wr.heap.size) q := fun q z h9 => by have := h9.1.1; omega
   have P2 := (NC.block hb aA (nS hb (Nat.le_refl _))).trans fB.out;obtain ⟨q0, q1⟩ := cells_house P2;obtain ⟨f0, f1⟩ := froz_house P2;have gC := (ltH P2);have UA : Hid _ := P2;have EA : Hid (k + 1 = (x.2.take (k + 1)).length) := by unfold Hid; rw [List.length_take]; omega
   clear NO NC P2 n0 n1 n2 n3 n4 n5 n6 n7 y0 y1 g0 g1 r;go_wp2;go_roundw
   case rel =>
    refine ⟨k + 1, by omega, by go_num, some ⟨g', 0, none⟩, vA, ?_⟩;have Q := ZA.out;obtain ⟨XB, SC, r1, r2, r3, r4, r5, r6, r7, r8⟩ := Q;have z9 := n.out.2.size;refine ⟨?_, own_setC (own_chg r2 n.out.2 (fun q a b => nS q (by have := a.2; omega) b)) (fun q => by have := q.2; omega), ?_, heap_setC ((n.out.2.block _ (by omega) (nS _ (by omega))).trans r4) (by omega), heap_setC ((n.out.2.block _ (by omega) (nS _ (by omega))).trans r5) (by omega), below_setC (n.out.2.below r6 (fun q h9 => by have := h9.1.1; omega) (by omega)) (by omega), r7, by simp; omega⟩
    ·rw [← EA.out];exact heap_setCell_same w2 hb 1 _ _ _ UA.out
    ·rw [← EA.out];refine own_setC (entsR.own_mono n.out.1 (fun q z => ⟨z.1, by simpa using z.2⟩)) (fun q => by have := q.1; omega)
   case measure => simp [intOf]; omega
  ·have RA : k = x.2.length := by omega
   subst RA;clear C;rw [List.take_length] at S i3;obtain ⟨y0, y1⟩ := cells_house S;obtain ⟨z0, z1⟩ := cells_house G;obtain ⟨f0, f1⟩ := froz_house G;have jC := (ltH G);have HF : Hid _ := aI i2 (aI i3 (aI G U));clear S i2 i3 i4 G U;go_wp2;obtain ⟨i2, i3, G, U⟩ := HF.out;have V := put_house (y0 := sL O x.1.length H) (y1 := sL au x.2.length R) G;obtain ⟨r0, r1⟩ := cells_house V;have FM : MadeR houseR w ((wr.setCell ⟨w.heap.size + 1, 0, none⟩ (sL O x.1.length H)).setCell ⟨w.heap.size + 1, 1, none⟩ (sL au x.2.length R)) [sL O x.1.length H, sL au x.2.length R] x := ⟨own_house (S0 := rng (w.heap.size + 2) hb) (S1 := rng (hb + 1) wr.heap.size) (own_setC (own_setC i2 (fun h => by have := h.1; omega)) (fun h => by have := h.1; omega)) (own_setC (own_setC i3 (fun h => by have := h.1; omega)) (fun h => by have := h.1; omega)) (rng_sub (by omega) (by simp; omega)) (rng_sub (by omega) (by simp)) (rng_dis (.inl (by omega))), below_setC (below_setC U (by omega)) (by omega)⟩;exact bodyPost_ret (v := .agg #[sL O x.1.length H, sL au x.2.length R]) (by simp [results, Tryz.results48, go_sem, r0, r1]) rfl ⟨_, _, _, _, _, _, rfl, FM⟩
end Go.Proofs.YtmaopldahnejdaaGreatDoor
