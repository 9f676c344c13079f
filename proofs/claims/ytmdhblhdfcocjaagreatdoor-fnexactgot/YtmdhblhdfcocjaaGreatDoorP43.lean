import Derived.Test.YtmdhblhdfcocjaaGreatDoorP00Box
import Derived.Test.YtmdhblhdfcocjaaGreatDoorP42
import Derived.Test.YtmdhblhdfcocjaaGreatDoorP41
namespace Go.Proofs.YtmdhblhdfcocjaaGreatDoor
set_option maxHeartbeats 8000000
set_option maxRecDepth 20000
open Go.ChangeShapes Go.WideShapes Go.ChangeAt Go.RowKit
set_option linter.unusedVariables false
noncomputable def zFc (x : zAD) (u : zAT) : Bool := decide (zCl u.2.1 (zCV (zBv (toS x))) = 0) && didB x u
theorem zNH {l s : Int} {d : List Int} (hl : 0 ≤ l ∧ l ≤ 15) (hs : zAP s 1 3 = true) (hd : isL d = true) : zBi isL ((l, s, d) : zAT) = true := by
 simp only [zBi, decide_eq_true_eq];simp only [zAP, decide_eq_true_eq] at hs;exact ⟨hl, hs, hd⟩
theorem zGa {o : OpD} {l : Int} (h : zBN o = true) (e : zBe o = l) : 0 ≤ l ∧ l ≤ 15 := by
 have := zGQ h;rw [← e];exact ⟨by omega, by omega⟩
theorem do_all {x : zAD} {u : zAT} (hk : zAY x = true) (hf : zBi isL u = true) : doS (toS x) u = if zFc x u then some (toS (zJ3 x u)) else none := by
 have c := zB4 hk;have b : okc x.1 := c.ok;unfold zFc;unfold doS;dsimp only
 by_cases a : zCl u.2.1 (zCV (zBv (toS x))) = 0
 ·rw [if_pos a, decide_eq_true a, zK2 b];unfold didB zHh;cases hb : (zB1 x.1 (u.1, (if zCV (zBv (toS x)) then (3 : Int) else u.2.1), u.2.2.set ((zBv (toS x)).2.1 % 2).toNat (zII (zBv (toS x)) (u.2.2.getD ((zBv (toS x)).2.1 % 2).toNat 0)).1)).2
  ·rfl
  ·rfl
 ·rw [if_neg a, decide_eq_false a];rfl
theorem zNI (S : zAW) (g : Nat) (cs us : List Value) (x : zAD) (u : zAT) (w : World) (ho : zAn.own w S cs x) (hS : ∀ k, S k → k < w.heap.size) (hg : ¬ S g) (hbox : w.heap[g]? = some (.cells cs.toArray 41 (0, 0))) (hu : zAR.rd w us u) (hk : zAY x = true) (h1 : x.2.2.1 < x.2.1.length) (hf : zBi isL u = true) :
    Calls Tryz.prog 61 #[.pointer (some ⟨g, 0, none⟩), zBh us] w fun e d => ∃ f, e = .returned (.bool (zFc x u)) ∧ zAn.own d (fun k => S k ∨ (w.heap.size ≤ k ∧ k < d.heap.size)) f (if zFc x u then zJ3 x u else x) ∧ d.heap[g]? = some (.cells f.toArray 41 (0, 0)) ∧ Chg (fun k => S k ∨ k = g) w d := by
 by_cases i : zCl u.2.1 (zCV (zBv (toS x))) = 0
 ·refine (l12Do_u S g cs us x u w ho hS hg hbox hu hk h1 hf i).mono ?_;rintro e d ⟨f, rfl, a, b, c⟩;have j : zFc x u = didB x u := by unfold zFc; rw [decide_eq_true i, Bool.true_and]
  rw [j];exact ⟨f, rfl, a, b, c⟩
 ·refine (l12Do_no g cs us x u w (zAn.own_rd ho) hbox hu hk h1 i).mono ?_;rintro e d ⟨rfl, b⟩;have j : zFc x u = false := by unfold zFc; rw [decide_eq_false i, Bool.false_and]
  rw [j];exact ⟨cs, rfl, zAn.own_mono (zAn.own_keep ho (zAh b)) (fun k q => .inl q), zAa b hbox, zA9 b⟩
theorem zJB (S : zAW) (g : Nat) (cs ns : List Value) (x : zAD) (id : Int) (m : zB5) (w : World) (ho : zAn.own w S cs x) (hS : ∀ k, S k → k < w.heap.size) (hg : ¬ S g) (hbox : w.heap[g]? = some (.cells cs.toArray 41 (0, 0))) (hm : zBy.rd w ns m) (hk : zAY x = true) (hkd : m.2.2.2.1 = 11) (hp : x.2.2.2.1 = 2) (hid : zBk id) (hl : zBe (zBv (toS x)) = m.2.2.2.2.1) (hd : isL m.2.2.2.2.2.1 = true) (hf : zAP m.2.2.2.2.2.2 1 3 = true) :
    Calls Tryz.prog 25 #[.pointer (some ⟨g, 0, none⟩), nI id, zBh ns] w fun e w' => GtP S g w (if zFc x (m.2.2.2.2.1, m.2.2.2.2.2.2, m.2.2.2.2.2.1) then ((zJ3 x (m.2.2.2.2.1, m.2.2.2.2.2.2, m.2.2.2.2.2.1)).1, (zJ3 x (m.2.2.2.2.1, m.2.2.2.2.2.2, m.2.2.2.2.2.1)).2.1, (zJ3 x (m.2.2.2.2.1, m.2.2.2.2.2.2, m.2.2.2.2.2.1)).2.2.1, 0, (zJ3 x (m.2.2.2.2.1, m.2.2.2.2.2.2, m.2.2.2.2.2.1)).2.2.2.2.1, (zJ3 x (m.2.2.2.2.1, m.2.2.2.2.2.2, m.2.2.2.2.2.1)).2.2.2.2.2) else x) (if zFc x (m.2.2.2.2.1, m.2.2.2.2.2.2, m.2.2.2.2.2.1) then [msg 2 id 4 10 m.2.2.2.2.1 [] 0] else []) (if zFc x (m.2.2.2.2.1, m.2.2.2.2.2.2, m.2.2.2.2.2.1) then 2 else 0) e w' := by
 have V := zB4 hk;have h1 : x.2.2.1 < (x.2.1.length : Int) := V.wait hp;have E : 0 ≤ x.2.2.1 := V.at0;have MC : x.2.1.length ≤ 30 := V.len;have C : zBN (zBv (toS x)) = true := V.ops _ (zEa V.at0 h1);have y := zGX E h1;have K : Hid (∀ (us : List Value) (W : World), Bl w W → zAR.rd W us (m.2.2.2.2.1, m.2.2.2.2.2.2, m.2.2.2.2.2.1) → Calls Tryz.prog 61 #[.pointer (some ⟨g, 0, none⟩), zBh us] W fun e w' => ∃ ds, e = .returned (.bool (zFc x (m.2.2.2.2.1, m.2.2.2.2.2.2, m.2.2.2.2.2.1))) ∧ zAn.own w' (fun k => S k ∨ (W.heap.size ≤ k ∧ k < w'.heap.size)) ds (if zFc x (m.2.2.2.2.1, m.2.2.2.2.2.2, m.2.2.2.2.2.1) then zJ3 x (m.2.2.2.2.1, m.2.2.2.2.2.2, m.2.2.2.2.2.1) else x) ∧ w'.heap[g]? = some (.cells ds.toArray 41 (0, 0)) ∧ Chg (fun k => S k ∨ k = g) W w') := fun us W hb hu => zNI S g cs us x _ W (zAn.own_keep ho (zAh hb)) (fun k q => Nat.lt_of_lt_of_le (hS k q) hb.size) hg (zAa hb hbox) hu hk h1 (zNH (zGa C hl) hf hd);obtain ⟨db, bA⟩ : ∃ db, db = zFc x (m.2.2.2.2.1, m.2.2.2.2.2.2, m.2.2.2.2.2.1) := ⟨_, rfl⟩;rw [← bA] at K ⊢;clear bA;obtain ⟨F, eA⟩ : ∃ F, F = zJ3 x (m.2.2.2.2.1, m.2.2.2.2.2.2, m.2.2.2.2.2.1) := ⟨_, rfl⟩;rw [← eA] at K ⊢;clear eA;obtain ⟨o, Z⟩ : ∃ o, o = zBv (toS x) := ⟨_, rfl⟩;rw [← Z] at y C hl;clear Z;obtain ⟨H, A⟩ : ∃ H, H = zBe o := ⟨_, rfl⟩;rw [← A] at hl;obtain ⟨X, GA⟩ := zFK C;have vB : Int.tdiv o.2.1 2 = H := by rw [A]; unfold zBe; rw [Int.tdiv_eq_ediv_of_nonneg X]
 have XC : o.2.1 / 2 = H := A.symm;have cA : zBk H := by rw [A]; unfold zBe; constructor <;> omega
 have bC : IntKind.i64.wrap H = H := by rw [IntKind.wrap_i64]; have := cA.1; have := cA.2; omega
 obtain ⟨U, T, rfl, VA, BA, LA, FA, M, gA, dA, jA, mq⟩ := zBB hm;obtain ⟨v0, v1, v2, v5, v6, v7, v8, S0, S1, S4, S5, rfl, i2, i3, o0, o1, o4, o5, AA, yA, XA, sA, OA, ZA, SA, UA, RA, DA⟩ := zBc ho;have r0 := zAA.own_rd o0;obtain ⟨a0, c0, b0, d0, e0, -⟩ := zAH r0;simp only [List.cons.injEq, and_true] at e0;obtain ⟨rfl, rfl⟩ := e0;obtain ⟨a1, c1, e1, -, -, q1⟩ := zBX.own_rd o1;simp only [List.cons.injEq, and_true] at e1;obtain rfl := e1;have r4 := zAR.own_rd o4;obtain ⟨a4, c4, e4, JA, IA, -, -, q4⟩ := zAL r4;simp only [List.cons.injEq, and_true] at e4;obtain ⟨rfl, rfl, rfl⟩ := e4;obtain ⟨a5, c5, e5, -⟩ := zA5.own_rd o5;simp only [List.cons.injEq, and_true] at e5;obtain rfl := e5;have Y : Hid (∀ W, Bl w W → Calls Tryz.prog 60 #[sL U m.2.2.2.2.2.1.length T] W fun e w' => e = .returned (.bool (isL m.2.2.2.2.2.1)) ∧ w' = W) := fun W hb => zD3 U m.2.2.2.2.2.1 T W (zCw (zAG mq hb));have lA : Hid (∀ W, Calls Tryz.prog 23 #[nI m.2.2.2.2.2.2, nI 1, nI 3] W fun e w' => e = .returned (.bool (zAP m.2.2.2.2.2.2 1 3)) ∧ w' = W) := fun W => zAZ m.2.2.2.2.2.2 1 3 W;have vA : Hid (∀ W, Bl w W → zAR.rd W [nI m.2.2.2.2.1, nI m.2.2.2.2.2.2, sL U m.2.2.2.2.2.1.length T] (m.2.2.2.2.1, m.2.2.2.2.2.2, m.2.2.2.2.2.1)) := fun W hb => rd_way M gA dA jA (zAG mq hb);have EA : zBk m.2.2.2.2.1 := M;rw [hd] at Y;rw [hf] at lA;have HO : Hid (∀ W, Bl w W → zAn.own W S [sL a0 x.1.1.length c0, sL b0 x.1.2.length d0, sL a1 x.2.1.length c1, nI x.2.2.1, nI x.2.2.2.1, nI x.2.2.2.2.1.1, nI x.2.2.2.2.1.2.1, sL a4 x.2.2.2.2.1.2.2.length c4, sL a5 x.2.2.2.2.2.length c5] x) := fun W hb => zAn.own_keep ho (zAh hb);have J : Hid _ := aI hS hg;obtain ⟨c, p, mA, ph, h, t⟩ := x;simp only at *
 obtain ⟨n, rfl⟩ : ∃ n : Nat, mA = n := ⟨mA.toNat, by omega⟩;have hn : n < p.length := by omega
 have pC : (n : Int) < (p.length : Int) := h1;rw [show ((n : Int)).toNat = n by omega] at y;obtain ⟨O, oo, rfl, -, -, -, -, -⟩ := zEt q1 y;have TA : Hid (∀ W, Bl w W → W.cell? ⟨O, oo + n * 4, none⟩ = some (nI o.1) ∧ W.cell? ⟨O, oo + n * 4 + 1, none⟩ = some (nI o.2.1) ∧ W.cell? ⟨O, oo + n * 4 + 2, none⟩ = some (nI o.2.2.1) ∧ W.cell? ⟨O, oo + n * 4 + 3, none⟩ = some (nI o.2.2.2) ∧ O < W.heap.size) := fun W hb => by
  obtain ⟨b9, o9, e9, x0, x1, x2, x3, -⟩ := zEt (zAG q1 hb) y;simp only [Option.some.injEq, Addr.mk.injEq, and_true] at e9;obtain ⟨rfl, rfl⟩ := e9;exact ⟨x0, x1, x2, x3, zAi x0⟩
 have G : w.heap[g]? = some (.cells #[sL a0 c.1.length c0, sL b0 c.2.length d0, sL (some ⟨O, oo, none⟩) p.length c1, nI (n : Int), nI ph, nI h.1, nI h.2.1, sL a4 h.2.2.length c4, sL a5 t.length c5] 41 (0, 0)) := hbox;have gl := (ltH G);have z6 : (m.2.2.2.1 == 6) = false := by simp [hkd]
 have z7 : (m.2.2.2.1 == 7) = false := by simp [hkd]
 have ZB : (m.2.2.2.1 == 12) = false := by simp [hkd]
 have kC : (m.2.2.2.1 == 11) = true := by simp [hkd]
 have y1 : (ph != 2) = false := by simp [hp]
 clear ho hS hg r0 r4 q4 o0 o1 o4 o5 AA yA XA sA OA ZA SA UA RA DA i2 i3 JA IA hm hbox VA BA LA FA M gA hkd hp V h1 E C y hk q1 A X GA dA jA mq hd hf HO;have y2 : (H != m.2.2.2.2.1) = false := by simp [hl]
 clear hl;rw [aE];have B := Below.refl w.heap.size w;go_enter Tryz.func25, Tryz.ntmps25;go_upto_region 1 with fail
 generalize f : w.alloc _ = u1w;have N := boxH f;have I := boxB f;have zN := boxL f;clear f;replace B := zAb B I;replace G := zAa I G;clear I;have BC := lE zN;have TC := lE zN.symm;clear zN;obtain ⟨Gc0, Gc1, Gc2, Gc3, Gc4, Gc5, Gc6, Gc7, Gc8⟩ := zAc G;have Glt := (ltH G);obtain ⟨Nc0, Nc1, Nc2, Nc3, Nc4, Nc5, Nc6⟩ := zAe N;have Nlt := (ltH N);go_upto_region 2 with fail
 clear Gc0 Gc1 Gc2 Gc3 Gc4 Gc5 Gc6 Gc7 Gc8 Glt Nc0 Nc1 Nc2 Nc3 Nc4 Nc5 Nc6 Nlt;have Zo : zCp zBp (w.heap.size + 1) (w.heap.size + 1 + 1) (u1w.alloc (.cells #[] 46)) [sL (some ⟨w.heap.size + 1, 0, none⟩) 0 0] [] := by
  have q := zC3 (e := 46) (R := zBy) u1w;rw [show u1w.heap.size = w.heap.size + 1 from by omega] at q;exact aI (zBp.own_mono q (fun k z => by have z2 : k = w.heap.size + 1 := z; exact ⟨by omega, by omega⟩)) (by rw [zAp]; omega)
 have I := zAf u1w (.cells #[] 46);have zz := zAp u1w (.cells #[] 46);replace B := zAb B I;replace G := zAa I G;replace N := zAa I N;clear I;generalize u1w.alloc (.cells #[] 46) = u2w at B G N Zo zz ⊢;have cC := lE zz;have nC := lE zz.symm;clear zz;obtain ⟨Gc0, Gc1, Gc2, Gc3, Gc4, Gc5, Gc6, Gc7, Gc8⟩ := zAc G;have Glt := (ltH G);obtain ⟨Nc0, Nc1, Nc2, Nc3, Nc4, Nc5, Nc6⟩ := zAe N;have Nlt := (ltH N);go_upto_region 17 with fail
 clear Gc0 Gc1 Gc2 Gc3 Gc4 Gc5 Gc6 Gc7 Gc8 Glt Nc0 Nc1 Nc2 Nc3 Nc4 Nc5 Nc6 Nlt;go_cut [89] (fun q wx => q = .bool false ∧ Bl u2w wx)
 case first =>
  obtain ⟨ZC, JB, XB, gC, RB⟩ := TA.out _ B;have HB : Hid _ := B;obtain ⟨Gc0, Gc1, Gc2, Gc3, Gc4, Gc5, Gc6, Gc7, Gc8⟩ := zAc G;have Glt := (ltH G);obtain ⟨Nc0, Nc1, Nc2, Nc3, Nc4, Nc5, Nc6⟩ := zAe N;have Nlt := (ltH N);clear B G N Zo;go_quiet (first | (go_at_call 60; exact Calls.quiet_of_same (Y.out _ (zBt HB.out _))) | (go_at_call 23; exact Calls.quiet_of_same (lA.out _)) | fail)
  go_wp2_with fail
  go_meet
  exact ⟨rfl, zBt (Below.refl _ _) _⟩
 case rest =>
  obtain ⟨rfl, L⟩ := hcut;generalize wc = u3w at L ⊢;have nB : u2w.heap.size ≤ u3w.heap.size := L.size;replace B := zAb B L;replace G := zAa L G;replace N := zAa L N;replace Zo := zA6 Zo L;clear L;obtain ⟨Gc0, Gc1, Gc2, Gc3, Gc4, Gc5, Gc6, Gc7, Gc8⟩ := zAc G;have Glt := (ltH G);obtain ⟨Nc0, Nc1, Nc2, Nc3, Nc4, Nc5, Nc6⟩ := zAe N;have Nlt := (ltH N);go_wp2_with fail
  clear Gc0 Gc1 Gc2 Gc3 Gc4 Gc5 Gc6 Gc7 Gc8 Glt Nc0 Nc1 Nc2 Nc3 Nc4 Nc5 Nc6 Nlt;rw [show (Value.agg #[nI m.2.2.2.2.1, nI m.2.2.2.2.2.2, sL U m.2.2.2.2.2.1.length T]) = zBh [nI m.2.2.2.2.1, nI m.2.2.2.2.2.2, sL U m.2.2.2.2.2.1.length T] from rfl];refine (K.out [nI m.2.2.2.2.1, nI m.2.2.2.2.2.2, sL U m.2.2.2.2.2.1.length T] _ B (vA.out _ B)).mono ?_;rintro e r ⟨ds, rfl, i, d, ch⟩;have oC := B.size;have IB := ch.size;have D : Chg (fun j => S j ∨ j = g) w r := (zIJ B).trans ch;replace Zo : zCp zBp (w.heap.size + 1) (w.heap.size + 1 + 1) r [sL (some ⟨w.heap.size + 1, 0, none⟩) 0 0] [] := ⟨zAN Zo.1 ch (fun k a b => by rcases b with b | b; (have := J.out.1 _ b; have := a.1; omega); (have := a.1; omega)), by have := Zo.2; omega⟩;have VB := Zo.2;replace N := (ch.block w.heap.size (ltH N) (fun q => by rcases q with q | q; (have := J.out.1 _ q; omega); omega)).trans N;clear ch B G;cases db
  ·have HZ : Hid _ := aI i (aI d (aI D Zo));clear i d D Zo N;go_wp2;obtain ⟨i, d, D, Zo⟩ := HZ.out;rw [if_neg Bool.false_ne_true] at i;refine bodyPost_ret (v := .tuple #[sL (some ⟨w.heap.size + 1, 0, none⟩) 0 0, nI 0]) (by simp [results, Tryz.results25, go_sem]) rfl ?_;exact ⟨ds, _, rfl, zAn.own_mono i (fun k q => by rcases q with q | q; exact .inl q; exact .inr ⟨by omega, q.2⟩), zBp.own_mono Zo.1 (fun k q => ⟨by have := q.1; omega, by have := q.2; omega⟩), d, D⟩
  ·rw [if_pos rfl] at i;obtain ⟨s, l⟩ : ∃ s, s = F := ⟨_, rfl⟩;rw [← l] at i;clear Zo;obtain ⟨ka, kc, kb, kd, la, lc, na, nc, pa, pc, rfl⟩ := zCy (zAn.own_rd i);replace d : r.heap[g]? = some (.cells #[sL ka s.1.1.length kc, sL kb s.1.2.length kd, sL la s.2.1.length lc, nI s.2.2.1, nI s.2.2.2.1, nI s.2.2.2.2.1.1, nI s.2.2.2.2.1.2.1, sL na s.2.2.2.2.1.2.2.length nc, sL pa s.2.2.2.2.2.length pc] 41 (0, 0)) := d;obtain ⟨fD, LC, yC, LB, KC, VC, RC, qC, AC⟩ := zAc d;obtain ⟨eD, HC, SB, MB, NB, iD, OB, iC, SC⟩ := zAr d;have gD := (ltH d);obtain ⟨jC, cD, dD, NC, IC, FC, GC⟩ := zAe N;have zC := (ltH N);have HZ : Hid _ := aI i (aI d (aI D l));clear i d D l N;have eC : ¬ (g = w.heap.size) := by omega
   have aD : ¬ (w.heap.size = g) := by omega
   go_wp2;obtain ⟨i, d, D, l⟩ := HZ.out;obtain ⟨hS, hg⟩ := J.out;have FS : (zAo r g 4 [nI 0]).heap.size = r.heap.size := zAj _ _ _;have bb := zAf (zAo r g 4 [nI 0]) (.cells #[nI 2, nI id, nI 4, nI 10, nI m.2.2.2.2.1, sL none 0 0, nI 0] 46);have al := zAp (zAo r g 4 [nI 0]) (.cells #[nI 2, nI id, nI 4, nI 10, nI m.2.2.2.2.1, sL none 0 0, nI 0] 46);obtain ⟨yc, yp, ya, yh, yw, yt⟩ := s;simp only at i d
   have CO := zAn.own_keep (zAs (g := g) (o := 4) (vs := [nI 0]) (zNG (ph' := 0) i (by constructor <;> decide)) (fun q => by rcases q with q | q; exact hg q; omega)) (zAh bb);have OM := zFJ (e := 46) (R := zBy) (cs := [nI 2, nI id, nI 4, nI 10, nI m.2.2.2.2.1, sL none 0 0, nI 0]) (w := (zAo r g 4 [nI 0])) (S := fun _ => False) (by decide) (zBR (f0 := 2) (f1 := id) (f2 := 4) (f3 := 10) (f4 := m.2.2.2.2.1) (f6 := 0) (by constructor <;> decide) hid (by constructor <;> decide) (by constructor <;> decide) EA (by constructor <;> decide) (zBA _ _)) (fun k q => q.elim);rw [FS] at OM;have GR := zAa bb (zAB (g := g) [nI 0] 4 d);have CC : Chg (fun j => S j ∨ j = g) w ((zAo r g 4 [nI 0]).alloc (.cells #[nI 2, nI id, nI 4, nI 10, nI m.2.2.2.2.1, sL none 0 0, nI 0] 46)) := (D.trans ((zBU [nI 0] 4 r (g := g)).mono fun k q => .inr q)).trans (zA9 bb);have FQ : GtP S g w (F.1, F.2.1, F.2.2.1, 0, F.2.2.2.2.1, F.2.2.2.2.2) [msg 2 id 4 10 m.2.2.2.2.1 [] 0] 2 (.returned (.tuple #[sL (some ⟨r.heap.size, 0, none⟩) 1 1, nI 2])) ((zAo r g 4 [nI 0]).alloc (.cells #[nI 2, nI id, nI 4, nI 10, nI m.2.2.2.2.1, sL none 0 0, nI 0] 46)) := by
    rw [← l];exact ⟨_, _, rfl, zAn.own_mono CO (fun j q => by rw [al, FS]; rcases q with q | q; exact .inl q; exact .inr ⟨by omega, by omega⟩), zBp.own_mono OM (fun j q => by refine ⟨?_, ?_⟩; (rcases q with q | q; exact q.elim; omega); (rw [al, FS]; rcases q with q | q; exact q.elim; omega)), GR, CC⟩
   simp only [zA0, zA3] at FQ;clear CO OM GR CC bb al FS i d D l;refine bodyPost_ret (v := .tuple #[sL (some ⟨r.heap.size, 0, none⟩) 1 1, nI 2]) (by simp [results, Tryz.results25, go_sem]) rfl ?_;exact FQ
theorem l12Get_u (S : zAW) (g : Nat) (cs ns : List Value) (x : zAD) (id : Int) (m : zB5) (w : World) (ho : zAn.own w S cs x) (hS : ∀ k, S k → k < w.heap.size) (hg : ¬ S g) (hbox : w.heap[g]? = some (.cells cs.toArray 41 (0, 0))) (hm : zBy.rd w ns m) (hk : zAY x = true) (hid : zBk id) :
    Calls Tryz.prog 25 #[.pointer (some ⟨g, 0, none⟩), nI id, zBh ns] w fun e w' => GtP S g w (ofS (zBO (toS x) id m).1) (zBO (toS x) id m).2.1 (zBO (toS x) id m).2.2 e w' := by
 by_cases n : m.2.2.2.1 = 6
 ·cases f : zAP m.2.2.2.2.1 0 15
  ·rw [zKC hk f];exact zKE S g cs ns x id m w ho hS hg hbox hm n f
  ·rw [zGZ (.inl n) f, zLw];exact zKG S g cs ns x id m w ho hS hg hbox hm hk hid n f
 by_cases j : m.2.2.2.1 = 7
 ·cases f : zAP m.2.2.2.2.1 0 15
  ·rw [zKC hk f];exact zKF S g cs ns x id m w ho hS hg hbox hm j f
  ·rw [zGZ (.inr j) f, zLw];exact zKH S g cs ns x id m w ho hS hg hbox hm hk hid j f
 by_cases a : m.2.2.2.1 = 12
 ·by_cases c : x.2.2.2.1 = 1
  ·by_cases d : x.2.2.2.2.1.1 = m.2.2.2.2.1
   ·rw [zHc a c d];exact zMp S g cs ns x id m w ho hS hg hbox hm a c d
   ·rw [zEE a (.inr d)];exact zFY S g cs ns x id m w ho hS hg hbox hm a (.inr d)
  ·rw [zEE a (.inl c)];exact zFY S g cs ns x id m w ho hS hg hbox hm a (.inl c)
 by_cases b : m.2.2.2.1 = 11
 ·have v : zBO (toS x) id m = (if (toS x).phase ≠ 2 ∨ zBe (zBv (toS x)) ≠ zAt m ∨ isL (zBJ m) = false ∨ zAP (zB9 m) 1 3 = false then (toS x, [], 0) else match doS (toS x) (zAt m, zB9 m, zBJ m) with | some c' => ({ c' with phase := 0 }, [msg 2 id 4 10 (zAt m) [] 0], 2) | none => (toS x, [], 0) : CoreS × List zB5 × Int) := by
    have s : ¬ zBm m = 12 := a;have y : zBm m = 11 := b;unfold zBO;rw [if_neg (by rintro (q | q); exact n q; exact j q), if_neg s, if_pos y];rfl
  by_cases c : x.2.2.2.1 = 2
  ·by_cases d : zBe (zBv (toS x)) = m.2.2.2.2.1
   ·cases l : isL m.2.2.2.2.2.1
    ·rw [v, if_pos (.inr (.inr (.inl l)))];exact zCH S g cs ns x id m w ho hS hg hbox hm hk b c (.inr (.inl ⟨d, l⟩))
    ·cases o : zAP m.2.2.2.2.2.2 1 3
     ·rw [v, if_pos (.inr (.inr (.inr o)))];exact zCH S g cs ns x id m w ho hS hg hbox hm hk b c (.inr (.inr ⟨d, l, o⟩))
     ·have A := (zB4 hk).ops _ (zEa (zB4 hk).at0 ((zB4 hk).wait c));have i := zNH (zGa A d) o l;have z := do_all hk i;have p : doS (toS x) (zAt m, zB9 m, zBJ m) = _ := z;rw [v, if_neg (by rintro (q | q | q | q); exact q c; exact q d; (have r : isL m.2.2.2.2.2.1 = false := q; rw [l] at r; cases r); (have r : zAP m.2.2.2.2.2.2 1 3 = false := q; rw [o] at r; cases r)), p];have K := zJB S g cs ns x id m w ho hS hg hbox hm hk b c hid d l o;cases f : zFc x (m.2.2.2.2.1, m.2.2.2.2.2.2, m.2.2.2.2.2.1)
      ·rw [f] at K;exact K
      ·rw [f] at K;exact K
   ·rw [v, if_pos (.inr (.inl d))];exact zCH S g cs ns x id m w ho hS hg hbox hm hk b c (.inl d)
  ·rw [v, if_pos (.inl c)];exact zFM S g cs ns x id m w ho hS hg hbox hm b c
 ·rw [zIF n j a b];exact zKD S g cs ns x id m w ho hS hg hbox hm n j a b
def zHd (m : zB5) (ma : Option Addr) (mc : Nat) : Value := if m.2.2.2.1 = 6 then .iface 102 (.agg #[.int .i64 m.2.2.2.2.1]) else if m.2.2.2.1 = 7 then .iface 104 (.agg #[.int .i64 m.2.2.2.2.1]) else if m.2.2.2.1 = 12 then .iface 105 (.agg #[.int .i64 m.2.2.2.2.1]) else if m.2.2.2.1 = 11 then .iface 108 (.agg #[.int .i64 m.2.2.2.2.1, .int .i64 m.2.2.2.2.2.2, .slice ma m.2.2.2.2.2.1.length mc]) else .nilIface
theorem zKI (m : zB5) (ma : Option Addr) (mc : Nat) (w : World) : Calls Tryz.prog 36 #[.agg #[nI m.1, nI m.2.1, nI m.2.2.1, nI m.2.2.2.1, nI m.2.2.2.2.1, sL ma m.2.2.2.2.2.1.length mc, nI m.2.2.2.2.2.2]] w fun e w' => e = .returned (zHd m ma mc) ∧ Bl w w' := by
 unfold zHd;by_cases c : m.2.2.2.1 = 6
 ·have j : (m.2.2.2.1 == 6) = true := by simp [c]
  rw [if_pos c];clear c;have B := zAf w (.cells #[nI m.1, nI m.2.1, nI m.2.2.1, nI m.2.2.2.1, nI m.2.2.2.2.1, sL ma m.2.2.2.2.2.1.length mc, nI m.2.2.2.2.2.2] 46);have f : Hid _ := B;clear B;go_enter Tryz.func36, Tryz.ntmps36;go_wp2;go_ret
  exact ⟨rfl, f.out⟩
 ·have j : (m.2.2.2.1 == 6) = false := by simp [c]
  by_cases d : m.2.2.2.1 = 7
  ·have k : (m.2.2.2.1 == 7) = true := by simp [d]
   rw [if_neg c, if_pos d];clear c d;have B := zAf w (.cells #[nI m.1, nI m.2.1, nI m.2.2.1, nI m.2.2.2.1, nI m.2.2.2.2.1, sL ma m.2.2.2.2.2.1.length mc, nI m.2.2.2.2.2.2] 46);have f : Hid _ := B;clear B;go_enter Tryz.func36, Tryz.ntmps36;go_wp2;go_ret
   exact ⟨rfl, f.out⟩
  ·have k : (m.2.2.2.1 == 7) = false := by simp [d]
   by_cases a : m.2.2.2.1 = 12
   ·have i : (m.2.2.2.1 == 12) = true := by simp [a]
    rw [if_neg c, if_neg d, if_pos a];clear c d a;have B := zAf w (.cells #[nI m.1, nI m.2.1, nI m.2.2.1, nI m.2.2.2.1, nI m.2.2.2.2.1, sL ma m.2.2.2.2.2.1.length mc, nI m.2.2.2.2.2.2] 46);have f : Hid _ := B;clear B;go_enter Tryz.func36, Tryz.ntmps36;go_wp2;go_ret
    exact ⟨rfl, f.out⟩
   ·have i : (m.2.2.2.1 == 12) = false := by simp [a]
    by_cases b : m.2.2.2.1 = 11
    ·have g : (m.2.2.2.1 == 11) = true := by simp [b]
     rw [if_neg c, if_neg d, if_neg a, if_pos b];clear c d a b;have B := zAf w (.cells #[nI m.1, nI m.2.1, nI m.2.2.1, nI m.2.2.2.1, nI m.2.2.2.2.1, sL ma m.2.2.2.2.2.1.length mc, nI m.2.2.2.2.2.2] 46);have f : Hid _ := B;clear B;go_enter Tryz.func36, Tryz.ntmps36;go_wp2;go_ret
     exact ⟨rfl, f.out⟩
    ·have g : (m.2.2.2.1 == 11) = false := by simp [b]
     rw [if_neg c, if_neg d, if_neg a, if_neg b];clear c d a b;have B := zAf w (.cells #[nI m.1, nI m.2.1, nI m.2.2.1, nI m.2.2.2.1, nI m.2.2.2.2.1, sL ma m.2.2.2.2.2.1.length mc, nI m.2.2.2.2.2.2] 46);have f : Hid _ := B;clear B;go_enter Tryz.func36, Tryz.ntmps36;go_wp2;go_ret
     exact ⟨rfl, f.out⟩
end Go.Proofs.YtmdhblhdfcocjaaGreatDoor
