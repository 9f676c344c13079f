import Derived.Test.YtmdhblhdfcocjaaGreatDoorP00Box
import Derived.Test.YtmdhblhdfcocjaaGreatDoorP23
import Derived.Test.YtmdhblhdfcocjaaGreatDoorP22
namespace Go.Proofs.YtmdhblhdfcocjaaGreatDoor
set_option maxHeartbeats 8000000
set_option maxRecDepth 8000
open Go.ChangeShapes Go.WideShapes Go.ChangeAt Go.RowKit
set_option linter.unusedVariables false
theorem zFH {w w4 : World} {S1 S2 : zAW} {u v : Value} {c : zAu} (r : Nat) (hr : w.heap.size ≤ r) (N1 : zBu.own w4 S1 [u] c.1) (N2 : zA5.own w4 S2 [v] c.2) (a1 : ∀ k, S1 k → r + 1 ≤ k ∧ k < w4.heap.size) (a2 : ∀ k, S2 k → r + 1 ≤ k ∧ k < w4.heap.size) (dd : Dis S1 S2) (B : Bl w w4) :
    zAX zAA w ((w4.setCell ⟨r, 0, none⟩ u).setCell ⟨r, 1, none⟩ v) [u, v] c := by
 refine ⟨zCd (S1 := S1) (S2 := S2) (zAl (zAl N1 ?_) ?_) (zAl (zAl N2 ?_) ?_) ?_ ?_ dd, zAq (zAq B hr) hr⟩
 ·exact fun h => by have := (a1 _ h).1; omega
 ·exact fun h => by have := (a1 _ h).1; omega
 ·exact fun h => by have := (a2 _ h).1; omega
 ·exact fun h => by have := (a2 _ h).1; omega
 ·intro x h;exact ⟨by have := (a1 _ h).1; omega, by have := (a1 _ h).2; simp; omega⟩
 ·intro x h;exact ⟨by have := (a2 _ h).1; omega, by have := (a2 _ h).2; simp; omega⟩
theorem three_at {w : World} {o1 o2 o3 : Obj} : (((w.alloc o1).alloc o2).alloc o3).heap[w.heap.size]? = some o1 ∧ (((w.alloc o1).alloc o2).alloc o3).heap[w.heap.size + 1]? = some o2 ∧ (((w.alloc o1).alloc o2).alloc o3).heap[w.heap.size + 1 + 1]? = some o3 ∧ Bl w (((w.alloc o1).alloc o2).alloc o3) ∧ (((w.alloc o1).alloc o2).alloc o3).heap.size = w.heap.size + 3 := by
 have b := zAK o3 (zAx (w.alloc o1) o2);have a := zAx ((w.alloc o1).alloc o2) o3;rw [zAp] at b;rw [zAp, zAp] at a;exact ⟨zAK o3 (zAK o2 (zAx w o1)), b, a, zAb (zAb (zAf w o1) (zAf _ o2)) (zAf _ o3), by simp⟩
theorem zHw (a b : Option Addr) (c : zAu) (cap cp : Nat) (l st : Int) (d : List Int) (ad : Option Addr) (cpw : Nat) (w : World) (G : zBg zBl w a c.1) (h2 : zBg zBC w b c.2) (m1 : c.1.length ≤ maxLen) (m2 : c.2.length ≤ maxLen) (m3 : ∀ row ∈ c.1, row.length ≤ maxLen) (i1 : zBk l) (i2 : zBk st) (hd : zBg zBC w ad d) (hdl : d.length ≤ 1048576) :
    Calls Tryz.prog 105 #[.agg #[sL a c.1.length cap, sL b c.2.length cp], .agg #[nI l, nI st, sL ad d.length cpw]] w fun e w' => ∃ m g j i, e = .returned (.tuple #[.agg #[sL m (zB1 c (l, st, d)).1.1.length g, sL j (zB1 c (l, st, d)).1.2.length i], .bool (zB1 c (l, st, d)).2]) ∧
     zAX zAA w w' [sL m (zB1 c (l, st, d)).1.1.length g, sL j (zB1 c (l, st, d)).1.2.length i] (zB1 c (l, st, d)).1 := by
 have q : Hid (∀ W, Bl w W → Calls Tryz.prog 64 #[.agg #[sL a c.1.length cap, sL b c.2.length cp]] W fun e w' => e = .returned (.bool (okB isL zAJ c)) ∧ Bl W w') := fun W hb =>
  zDk a b c cap cp W (zA7 G fun k hk => hb.block k hk) (zA7 h2 fun k hk => hb.block k hk) m1 m2 m3
 have R : Hid (∀ W, Bl w W → Calls Tryz.prog 96 #[.agg #[nI l, nI st, sL ad d.length cpw]] W fun e w' => e = .returned (.bool (zBi isL (l, st, d))) ∧ Bl W w') := fun W hb =>
  zDw l st d ad cpw W (zA7 hd fun k hk => hb.block k hk)
 have HD : Hid (∀ W, Bl w W → zBg zBC W ad d) := fun W hb => zA7 hd fun k hk => hb.block k hk;obtain ⟨X, V, Y, B, e0⟩ := three_at (w := w) (o1 := (.cells #[sL a c.1.length cap, sL b c.2.length cp] 37)) (o2 := (.cells #[nI l, nI st, sL ad d.length cpw] 39)) (o3 := (.cells #[sL none 0 0, sL none 0 0] 37));clear hd;cases C : okB isL zAJ c
 ·rw [C] at q;rw [fill_bad C];show Calls Tryz.prog 105 _ w fun e w' => ∃ m g j i, e = .returned (.tuple #[.agg #[sL m 0 g, sL j 0 i], .bool false]) ∧ zAX zAA w w' [sL m 0 g, sL j 0 i] (([], []) : zAu)
  clear G h2 m1 m2 m3 R HD V;go_enter Tryz.func105, Tryz.ntmps105;go_wp2_with fail
  generalize ((w.alloc (.cells #[sL a c.1.length cap, sL b c.2.length cp] 37)).alloc (.cells #[nI l, nI st, sL ad d.length cpw] 39)).alloc (.cells #[sL none 0 0, sL none 0 0] 37) = W0 at X Y B e0 ⊢;refine (q.out _ B).mono ?_;rintro e w1 ⟨rfl, f⟩;replace B := zAb B f;replace Y := zAa f Y;clear f X q;obtain ⟨y0, y1⟩ := zAy Y;obtain ⟨f0, f1⟩ := zBW Y;have HY : Hid _ := Y;clear Y;go_wp2;obtain ⟨r0, r1⟩ := zBb (put2 (a := sL none 0 0) (b := sL none 0 0) HY.out);refine bodyPost_ret (v := .tuple #[.agg #[sL none 0 0, sL none 0 0], .bool false]) (by simp [results, Tryz.results105, go_sem, r0, r1]) rfl ⟨none, 0, none, 0, rfl, zJl _ _, zAq (zAq B (by omega)) (by omega)⟩
 ·have n := zCK.1 C;rw [C] at q;obtain ⟨k1, k2, k3⟩ := zIw n;obtain ⟨oA, mw, FA, JA⟩ := zMV n;have CP : Hid (∀ W, Bl w W → Calls Tryz.prog 69 #[.agg #[sL a c.1.length cap, sL b c.2.length cp]] W fun e w' => ∃ m g j i, e = .returned (.agg #[sL m c.1.length g, sL j c.2.length i]) ∧ zAX zAA W w' [sL m c.1.length g, sL j c.2.length i] c) := fun W hb =>
   zEN a b c cap cp mw W (zA7 G fun k hk => hb.block k hk) (zA7 h2 fun k hk => hb.block k hk) oA FA JA (by omega) (fun row hr u hu => (k3 row hr).2 u hu)
  clear G h2 m1 m2 m3 oA FA JA;cases K : zBi isL (l, st, d)
  ·rw [K] at R;rw [zFz n K];clear n C k1 k2 k3 HD;go_enter Tryz.func105, Tryz.ntmps105;go_wp2_with fail
   generalize ((w.alloc (.cells #[sL a c.1.length cap, sL b c.2.length cp] 37)).alloc (.cells #[nI l, nI st, sL ad d.length cpw] 39)).alloc (.cells #[sL none 0 0, sL none 0 0] 37) = W0 at X V Y B e0 ⊢;refine (q.out _ B).mono ?_;rintro e w1 ⟨rfl, f⟩;have z1 := f.size;replace B := zAb B f;replace Y := zAa f Y;replace V := zAa f V;replace X := zAa f X;clear f q;obtain ⟨x0, x1⟩ := zAy X;go_wp2_with fail
   refine (CP.out _ B).mono ?_;rintro e p ⟨m, g, j, i, rfl, s⟩;have z2 := s.2.size;obtain ⟨u', v', S1, S2, U, o1, o2, r, z, A⟩ := zCe s.1;simp only [List.cons.injEq, and_true] at U;obtain ⟨rfl, rfl⟩ := U;replace B := zAb B s.2;replace Y := zAa s.2 Y;replace V := zAa s.2 V;clear s CP X x0 x1;obtain ⟨I, M, H⟩ := zAg V;have lv := (ltH V);go_wp2_with fail
   have O := zAx p (.cells #[sL m c.1.length g, sL j c.2.length i] 37);have D := zAf p (.cells #[sL m c.1.length g, sL j c.2.length i] 37);replace B := zAb B D;replace Y := zAa D Y;replace V := zAa D V;replace o1 := zBQ (.cells #[sL m c.1.length g, sL j c.2.length i] 37) o1;replace o2 := zBQ (.cells #[sL m c.1.length g, sL j c.2.length i] 37) o2;have e3 : (p.alloc (.cells #[sL m c.1.length g, sL j c.2.length i] 37)).heap.size = p.heap.size + 1 := by simp
   clear D I M H lv;generalize p.alloc (.cells #[sL m c.1.length g, sL j c.2.length i] 37) = w3 at B Y V O o1 o2 e3 ⊢;refine (R.out _ B).mono ?_;rintro e w4 ⟨rfl, f⟩;have z4 := f.size;replace B := zAb B f;replace Y := zAa f Y;replace V := zAa f V;replace O := zAa f O;replace o1 := zBu.own_keep o1 (zAh f);replace o2 := zA5.own_keep o2 (zAh f);clear f R;obtain ⟨y0, y1⟩ := zAy Y;obtain ⟨f0, f1⟩ := zBW Y;obtain ⟨N, o⟩ := zAy O;have HK : Hid _ := aI o1 (aI o2 (aI Y B));have HA : Hid _ := aI r (aI z A);clear o1 o2 O Y V B r z A;go_wp2;obtain ⟨o1, o2, Y, B⟩ := HK.out;obtain ⟨r, z, A⟩ := HA.out;obtain ⟨r0, r1⟩ := zBb (put2 (a := sL m c.1.length g) (b := sL j c.2.length i) Y);refine bodyPost_ret (v := .tuple #[.agg #[sL m c.1.length g, sL j c.2.length i], .bool false]) (by simp [results, Tryz.results105, go_sem, r0, r1]) rfl ⟨m, g, j, i, rfl, zFH (w.heap.size + 1 + 1) (by omega) o1 o2 (fun k h => ?_) (fun k h => ?_) A B⟩
   ·have := (r k h).1;have := (r k h).2;exact ⟨by omega, by omega⟩
   ·have := (z k h).1;have := (z k h).2;exact ⟨by omega, by omega⟩
  ·rw [K] at R;have L := zBY K;simp only at L
   have gA : zAP l 0 15 = true := by simp [zAP]; omega
   have y : Hid (∀ (m j : Option Addr) (g i : Nat) (W : World), zBg zBl W m c.1 → Calls Tryz.prog 132 #[.agg #[sL m c.1.length g, sL j c.2.length i], nI l] W fun e w' => e = .returned (.tuple #[.agg #[nI ((zAE c l : Nat) : Int), nI (zGc (zB2 c l))], .bool (zB2 c l).isSome]) ∧ Bl W w') :=
    fun m j g i W hr => by
     have := zIZ m j c g i l W n hr (by omega);rwa [roomP_eq n gA] at this
   cases F : zB2 c l with
   | none =>
    rw [zDp (u := (l, st, d)) n F];rw [F] at y;clear n C k1 k2 k3 HD L gA;generalize ((zAE c l : Nat) : Int) = p1 at y;generalize zGc none = p2 at y;go_enter Tryz.func105, Tryz.ntmps105;go_wp2_with fail
    generalize ((w.alloc (.cells #[sL a c.1.length cap, sL b c.2.length cp] 37)).alloc (.cells #[nI l, nI st, sL ad d.length cpw] 39)).alloc (.cells #[sL none 0 0, sL none 0 0] 37) = W0 at X V Y B e0 ⊢;refine (q.out _ B).mono ?_;rintro e w1 ⟨rfl, f⟩;have z1 := f.size;replace B := zAb B f;replace Y := zAa f Y;replace V := zAa f V;replace X := zAa f X;clear f q;obtain ⟨x0, x1⟩ := zAy X;go_wp2_with fail
    refine (CP.out _ B).mono ?_;rintro e p ⟨m, g, j, i, rfl, s⟩;have z2 := s.2.size;obtain ⟨u', v', S1, S2, U, o1, o2, r, z, A⟩ := zCe s.1;simp only [List.cons.injEq, and_true] at U;obtain ⟨rfl, rfl⟩ := U;replace B := zAb B s.2;replace Y := zAa s.2 Y;replace V := zAa s.2 V;clear s CP X x0 x1;obtain ⟨I, M, H⟩ := zAg V;have lv := (ltH V);go_wp2_with fail
    have O := zAx p (.cells #[sL m c.1.length g, sL j c.2.length i] 37);have D := zAf p (.cells #[sL m c.1.length g, sL j c.2.length i] 37);replace B := zAb B D;replace Y := zAa D Y;replace V := zAa D V;replace o1 := zBQ (.cells #[sL m c.1.length g, sL j c.2.length i] 37) o1;replace o2 := zBQ (.cells #[sL m c.1.length g, sL j c.2.length i] 37) o2;have e3 : (p.alloc (.cells #[sL m c.1.length g, sL j c.2.length i] 37)).heap.size = p.heap.size + 1 := by simp
    clear D I M H lv;generalize p.alloc (.cells #[sL m c.1.length g, sL j c.2.length i] 37) = w3 at B Y V O o1 o2 e3 ⊢;refine (R.out _ B).mono ?_;rintro e w4 ⟨rfl, f⟩;have z4 := f.size;replace B := zAb B f;replace Y := zAa f Y;replace V := zAa f V;replace O := zAa f O;replace o1 := zBu.own_keep o1 (zAh f);replace o2 := zA5.own_keep o2 (zAh f);clear f R;obtain ⟨I, M, H⟩ := zAg V;obtain ⟨N, o⟩ := zAy O;go_wp2_with fail
    clear I M H N o;obtain ⟨a9, c9, e9, J⟩ := zIv o1;simp only [Value.slice.injEq, true_and] at e9;obtain ⟨rfl, rfl⟩ := e9;refine (y.out _ _ _ _ _ J).mono ?_;rintro e w5 ⟨rfl, f⟩;have z5 := f.size;replace B := zAb B f;replace Y := zAa f Y;replace O := zAa f O;replace o1 := zBu.own_keep o1 (zAh f);replace o2 := zA5.own_keep o2 (zAh f);obtain ⟨y0, y1⟩ := zAy Y;obtain ⟨f0, f1⟩ := zBW Y;obtain ⟨N, o⟩ := zAy O;have ly := (ltH Y);have lo := (ltH O);have HK : Hid _ := aI o1 (aI o2 (aI Y B));have HA : Hid _ := aI r (aI z A);clear o1 o2 O Y V B r z A f J y;go_wp2;obtain ⟨o1, o2, Y, B⟩ := HK.out;obtain ⟨r, z, A⟩ := HA.out;obtain ⟨r0, r1⟩ := zBb (zAK (.cells #[nI p1, nI p2] 126) (put2 (a := sL m c.1.length g) (b := sL j c.2.length i) Y));refine bodyPost_ret (v := .tuple #[.agg #[sL m c.1.length g, sL j c.2.length i], .bool false]) (by simp [results, Tryz.results105, go_sem, r0, r1]) rfl ⟨m, g, j, i, rfl, madeR_on (zFH (w.heap.size + 1 + 1) (by omega) o1 o2 (fun k h => ?_) (fun k h => ?_) A B) (zAf _ _)⟩
    ·have := (r k h).1;have := (r k h).2;exact ⟨by omega, by omega⟩
    ·have := (z k h).1;have := (z k h).2;exact ⟨by omega, by omega⟩
   | some fi =>
    obtain ⟨uw, jA⟩ := put_lt F;obtain ⟨hp, T, BA, pA, rA, GA⟩ := zDy n l;obtain ⟨t1, t2, t3, t4, t5, t6, t7⟩ := zKi n l;rw [zDW n K F];rw [F] at y;have yA : fi < (zAm c l).length := (List.getElem?_eq_some_iff.1 jA).1;have vA : ((c.1.set (zAE c l) ((zAm c l).set fi (l, st, d))).getD 0 []).length = (zAm c l).length := by
     rw [List.getD_eq_getElem?_getD, List.getElem?_set];by_cases h0 : zAE c l = 0
     ·rw [if_pos h0, if_pos GA];simp
     ·rw [if_neg h0, t5];simp only [Option.getD_some];omega
    have S : Hid _ := aI T (aI jA (aI k1 (aI pA (aI t2 (aI vA (aI yA t6))))));have YA : Hid (zAJ (zBs c l) ((zAm c l).length : Int) = true) := by unfold Hid; rw [t1]; exact t3
    show Calls Tryz.prog 105 _ w fun e w' => ∃ m g j i, e = .returned (.tuple #[.agg #[sL m (c.1.set (zAE c l) ((zAm c l).set fi (l, st, d))).length g, sL j (c.2.set (zAE c l) (zCU (zBs c l) (zAm c l).length fi)).length i], .bool true]) ∧ zAX zAA w w' [sL m (c.1.set (zAE c l) ((zAm c l).set fi (l, st, d))).length g, sL j (c.2.set (zAE c l) (zCU (zBs c l) (zAm c l).length fi)).length i] (c.1.set (zAE c l) ((zAm c l).set fi (l, st, d)), c.2.set (zAE c l) (zCU (zBs c l) (zAm c l).length fi))
    rw [List.length_set, List.length_set];clear n C k1 k3 L gA T jA hp BA pA rA GA t1 t2 t3 t4 t5 t6 t7 F vA yA;generalize zAm c l = row at *;generalize zBs c l = tr at *;generalize zAE c l = sn at *;rw [show zGc (some fi) = (fi : Int) from rfl] at y;go_enter Tryz.func105, Tryz.ntmps105;go_wp2_with fail
    generalize ((w.alloc (.cells #[sL a c.1.length cap, sL b c.2.length cp] 37)).alloc (.cells #[nI l, nI st, sL ad d.length cpw] 39)).alloc (.cells #[sL none 0 0, sL none 0 0] 37) = W0 at X V Y B e0 ⊢;refine (q.out _ B).mono ?_;rintro e w1 ⟨rfl, f⟩;have z1 := f.size;replace B := zAb B f;replace Y := zAa f Y;replace V := zAa f V;replace X := zAa f X;clear f q;obtain ⟨x0, x1⟩ := zAy X;go_wp2_with fail
    refine (CP.out _ B).mono ?_;rintro e p ⟨m, g, j, i, rfl, s⟩;have z2 := s.2.size;obtain ⟨u', v', S1, S2, U, o1, o2, r, z, A⟩ := zCe s.1;simp only [List.cons.injEq, and_true] at U;obtain ⟨rfl, rfl⟩ := U;replace B := zAb B s.2;replace Y := zAa s.2 Y;replace V := zAa s.2 V;clear s CP X x0 x1;obtain ⟨I, M, H⟩ := zAg V;have lv := (ltH V);go_wp2_with fail
    have O := zAx p (.cells #[sL m c.1.length g, sL j c.2.length i] 37);have D := zAf p (.cells #[sL m c.1.length g, sL j c.2.length i] 37);replace B := zAb B D;replace Y := zAa D Y;replace V := zAa D V;replace o1 := zBQ (.cells #[sL m c.1.length g, sL j c.2.length i] 37) o1;replace o2 := zBQ (.cells #[sL m c.1.length g, sL j c.2.length i] 37) o2;have e3 : (p.alloc (.cells #[sL m c.1.length g, sL j c.2.length i] 37)).heap.size = p.heap.size + 1 := by simp
    clear D I M H lv;generalize p.alloc (.cells #[sL m c.1.length g, sL j c.2.length i] 37) = w3 at B Y V O o1 o2 e3 ⊢;refine (R.out _ B).mono ?_;rintro e w4 ⟨rfl, f⟩;have z4 := f.size;replace B := zAb B f;replace Y := zAa f Y;replace V := zAa f V;replace O := zAa f O;replace o1 := zBu.own_keep o1 (zAh f);replace o2 := zA5.own_keep o2 (zAh f);clear f R;obtain ⟨I, M, H⟩ := zAg V;obtain ⟨N, o⟩ := zAy O;go_wp2_with fail
    clear I M H N o;obtain ⟨a9, c9, e9, J⟩ := zIv o1;simp only [Value.slice.injEq, true_and] at e9;obtain ⟨rfl, rfl⟩ := e9;refine (y.out _ _ _ _ _ J).mono ?_;rintro e w5 ⟨rfl, f⟩;have z5 := f.size;replace B := zAb B f;replace Y := zAa f Y;replace V := zAa f V;replace O := zAa f O;replace o1 := zBu.own_keep o1 (zAh f);replace o2 := zA5.own_keep o2 (zAh f);clear f J y;obtain ⟨I, M, H⟩ := zAg V;obtain ⟨N, o⟩ := zAy O;have lv := (ltH V);have lo := (ltH O);go_wp2_with fail
    clear I M H N o lv lo;have Z := zAx w5 (.cells #[nI (sn : Int), nI (fi : Int)] 126);have bz := zAf w5 (.cells #[nI (sn : Int), nI (fi : Int)] 126);have z6 : (w5.alloc (.cells #[nI (sn : Int), nI (fi : Int)] 126)).heap.size = w5.heap.size + 1 := by simp
    replace B := zAb B bz;replace Y := zAa bz Y;replace V := zAa bz V;replace O := zAa bz O;replace o1 := zBu.own_keep o1 (zAh bz);replace o2 := zA5.own_keep o2 (zAh bz);clear bz;generalize w5.alloc (.cells #[nI (sn : Int), nI (fi : Int)] 126) = w6 at B Y V O Z o1 o2 z6 ⊢;refine (zEM S1 _ _ c.1 sn fi row uw l st d ad cpw w6 o1 S.out.1 S.out.2.1 (by have := S.out.2.2.1; omega) (by have := S.out.2.2.2.1; omega) i1 i2 (HD.out _ B) hdl).mono ?_;rintro e w7 ⟨rfl, M1, E⟩;have z7 := E.size;have nS : ∀ x, ¬ (w1.heap.size ≤ x ∧ x < p.heap.size) → ¬ Old w6 S1 x := fun x hx h => hx ⟨(r x h.1).1, (r x h.1).2⟩;replace O := (E.block _ (by omega) (nS p.heap.size (by omega))).trans O;replace Z := (E.block _ (by omega) (nS w5.heap.size (by omega))).trans Z;replace Y := (E.block _ (by omega) (nS (w.heap.size + 1 + 1) (by omega))).trans Y;replace o2 := zAN o2 E (fun x G h2 => A x h2.1 G);replace B := E.below B (fun x h => by have := (r x h.1).1; omega) (by omega);clear E nS V o1;obtain ⟨N, o⟩ := zAy O;obtain ⟨q0, q1⟩ := zAy Z;go_wp2_with fail
    clear N o q0 q1;obtain ⟨a9, c9, e9, bA⟩ := zIv M1;simp only [Value.slice.injEq] at e9;obtain ⟨rfl, -, rfl⟩ := e9;have EA : 0 < (c.1.set sn (row.set fi (l, st, d))).length := by rw [List.length_set]; exact S.out.2.2.2.2.2.2.2
    obtain ⟨b0, o0, aj, cj, rfl, fA, -, -, -⟩ := zDj bA (List.getElem?_eq_getElem EA);have TA : ((c.1.set sn (row.set fi (l, st, d)))[0]).length = row.length := by
     have h9 := S.out.2.2.2.2.2.1;rw [List.getD_eq_getElem?_getD, List.getElem?_eq_getElem EA] at h9;exact h9
    rw [TA] at fA;refine (zIy S2 b0 o0 c.1.length g _ c.2 sn fi row.length tr aj cj w7 S.out.2.2.2.2.2.2.2 fA o2 S.out.2.2.2.2.1 (by unfold maxLen; omega) YA.out S.out.2.2.2.2.2.2.1).mono ?_;rintro e w8 ⟨rfl, N2, g9, qA, AB, E⟩;have z8 := E.size;have r9 := z g9 qA;have aB := r9.1;have SA := r9.2;have nS : ∀ x, ¬ (w1.heap.size ≤ x ∧ x < p.heap.size) → ¬ (x = g9) := fun x hx h => hx (by rw [h]; exact ⟨aB, SA⟩);replace O := (E.block _ (by omega) (nS p.heap.size (by omega))).trans O;replace Y := (E.block _ (by omega) (nS (w.heap.size + 1 + 1) (by omega))).trans Y
    replace M1 := zAN M1 E (fun x G h2 => by
     have e : x = g9 := h2;subst e;rcases G with G | G
     ·exact A _ G.1 qA
     ·have := G.1
      omega)
    replace B := E.below B (fun x h => by have e : x = g9 := h; omega) (by omega);clear E nS o2 fA bA Z;obtain ⟨y0, y1⟩ := zAy Y;obtain ⟨f0, f1⟩ := zBW Y;obtain ⟨N, o⟩ := zAy O;have HK : Hid _ := aI M1 (aI N2 (aI Y B));have HA : Hid _ := aI r (aI z A);clear M1 N2 O Y B r z A;go_wp2;obtain ⟨o1, o2, Y, B⟩ := HK.out;obtain ⟨r, z, A⟩ := HA.out;obtain ⟨r0, r1⟩ := zBb (put2 (a := sL (some ⟨b0, o0, none⟩) c.1.length g) (b := sL j c.2.length i) Y);refine bodyPost_ret (v := .tuple #[.agg #[sL (some ⟨b0, o0, none⟩) c.1.length g, sL j c.2.length i], .bool true]) (by simp [results, Tryz.results105, go_sem, r0, r1]) rfl ⟨_, g, j, i, rfl, zFH (w.heap.size + 1 + 1) (by omega) o1 o2 (fun k h => ?_) (fun k h => ?_) (fun k h ht => ?_) B⟩
    ·rcases h with h | h
     ·have := (r k h.1).1;have := (r k h.1).2;exact ⟨by omega, by omega⟩
     ·exact ⟨by omega, by omega⟩
    ·have := (z k h).1;have := (z k h).2;exact ⟨by omega, by omega⟩
    ·rcases h with h | h
     ·exact A k h.1 ht
     ·have := (z k ht).2;omega
theorem zFV (cs us : List Value) (c : zAu) (u : zAT) (w : World) (h : zAA.rd w cs c) (hu : zAR.rd w us u) (hl : u.2.2.length ≤ 1048576) :
    Calls Tryz.prog 105 #[zBh cs, zBh us] w fun e i => ∃ ds, e = .returned (.tuple #[zBh ds, .bool (zB1 c u).2]) ∧ zAX zAA w i ds (zB1 c u).1 := by
 obtain ⟨a, d, b, p, rfl, l, j, m, k, g, v⟩ := zAH h;obtain ⟨o, f, rfl, q, n, k1, k2, r⟩ := zAL hu;refine (zHw a b c d p u.1 u.2.1 u.2.2 o f w g v (Nat.le_trans l j) (Nat.le_trans m k) (zGq g) q n r hl).mono ?_;rintro e i ⟨av, cv, bv, dv, rfl, s⟩;exact ⟨_, rfl, s⟩
theorem zGS (cs : List Value) (c : zAu) (k : Int) (w : World) (h : zAA.rd w cs c) :
    Calls Tryz.prog 125 #[zBh cs, nI k] w fun e g => ∃ us, e = .returned (.tuple #[zBh us, nI (zDU c k).2]) ∧ zAX zAR w g us (zDU c k).1 := by
 obtain ⟨a, d, b, n, rfl, j, i, m, l, f, o⟩ := zAH h;refine (zIq a b c d n k w f o (Nat.le_trans j i) (Nat.le_trans m l) (zGq f)).mono ?_;rintro e g ⟨av, cv, rfl, p⟩;exact ⟨_, rfl, p⟩
theorem zIC (cs : List Value) (c : zAu) (w : World) (h : zAA.rd w cs c) :
    Calls Tryz.prog 64 #[zBh cs] w fun e w' => e = .returned (.bool (okB isL zAJ c)) ∧ Bl w w' := by
 obtain ⟨a, d, b, l, rfl, i, g, k, j, f, m⟩ := zAH h;exact zDk a b c d l w f m (Nat.le_trans i g) (Nat.le_trans k j) (zGq f)
theorem zFI (cs : List Value) (c : zAu) (k : Int) (w : World) (hok : OkC isL zAJ c) (h : zAA.rd w cs c) :
    Calls Tryz.prog 95 #[zBh cs, nI k] w fun e w' => e = .returned (.tuple #[.agg #[nI (zCr c k).1, nI (zCr c k).2.1], .bool (zCr c k).2.2]) ∧ Bl w w' := by
 obtain ⟨a, d, b, g, rfl, l1, l2, m1, m2, f, r2⟩ := zAH h;exact zEo a b c d g k w hok f
theorem zJy (cs : List Value) (c : zAu) (w : World) (hok : OkC isL zAJ c) (h : zAA.rd w cs c) :
    Calls Tryz.prog 69 #[zBh cs] w fun e g => ∃ ds, e = .returned (zBh ds) ∧ zAX zAA w g ds c := by
 obtain ⟨a, f, b, l, rfl, l1, l2, m1, m2, k, o⟩ := zAH h;obtain ⟨p, m, j, d⟩ := zMV hok;obtain ⟨s1, s2, i⟩ := zIw hok;refine (zEN a b c f l m w k o p j d (by omega) (fun row hr u hu => (i row hr).2 u hu)).mono ?_;rintro e g ⟨av, cv, bv, dv, rfl, n⟩;exact ⟨_, rfl, n⟩
theorem zGT (us : List Value) (u : zAT) (w : World) (h : zAR.rd w us u) (hl : u.2.2.length ≤ 1048576) :
    Calls Tryz.prog 71 #[zBh us] w fun e b => ∃ ds, e = .returned (zBh ds) ∧ zAX zAR w b ds u := by
 obtain ⟨f, a, rfl, c, d, k1, k2, g⟩ := zAL h;refine (zDS u.1 u.2.1 u.2.2 f a w c d g hl).mono ?_;rintro e b ⟨av, cv, rfl, i⟩;exact ⟨_, rfl, i⟩
theorem zHI (w : World) : Calls Tryz.prog 103 #[] w fun e a => ∃ ds, e = .returned (zBh ds) ∧ zAX zAR w a ds zAF := by
 refine (zEr w).mono ?_;rintro e a ⟨av, cv, rfl, b⟩;exact ⟨_, rfl, b⟩
theorem zGU (w : World) : Calls Tryz.prog 59 #[] w fun e a => ∃ ds, e = .returned (zBh ds) ∧ zAX zAR w a ds zAF := by
 refine (zKp w).mono ?_;rintro e a ⟨av, cv, rfl, b⟩;exact ⟨_, rfl, b⟩
theorem zGV (us : List Value) (u : zAT) (w : World) (h : zAR.rd w us u) (hl : u.2.2.length ≤ 1048576) :
    Calls Tryz.prog 56 #[zBh us] w fun e b => ∃ ds, e = .returned (zBh ds) ∧ zAX zAR w b ds u := by
 obtain ⟨f, a, rfl, c, d, k1, k2, g⟩ := zAL h;refine (zDT u.1 u.2.1 u.2.2 f a w c d g hl).mono ?_;rintro e b ⟨av, cv, rfl, i⟩;exact ⟨_, rfl, i⟩
theorem l6Copy_u (cs : List Value) (c : zAu) (w : World) (hok : OkC isL zAJ c) (h : zAA.rd w cs c) :
    Calls Tryz.prog 55 #[zBh cs] w fun e f => ∃ ds, e = .returned (zBh ds) ∧ zAX zAA w f ds c := by
 obtain ⟨a, d, b, j, rfl, l1, l2, m1, m2, i, l⟩ := zAH h;obtain ⟨s1, s2, g⟩ := zIw hok;refine (zLU a b c d j w i l (by omega) (by omega) g).mono ?_;rintro e f ⟨av, cv, bv, dv, rfl, k⟩;exact ⟨_, rfl, k⟩
theorem zD0 (cs : List Value) (c : zAu) (k : Int) (w : World) (hok : OkC isL zAJ c) (h : zAA.rd w cs c) :
    Calls Tryz.prog 54 #[zBh cs, nI k] w fun e w' => e = .returned (nI (zGc (atC c k))) ∧ Bl w w' := by
 obtain ⟨a, d, b, g, rfl, l1, l2, m1, m2, f, r2⟩ := zAH h;exact zFD a b c d g k w hok f
abbrev ofS (s : CoreS) : zAD := (s.cache, s.prog, s.at_, s.phase, s.held, s.told)
abbrev toS (x : zAD) : CoreS := ⟨x.1, x.2.1, x.2.2.1, x.2.2.2.1, x.2.2.2.2.1, x.2.2.2.2.2⟩
theorem zK2 {c : zAu} (h : OkC isL zAJ c) (u : zAT) : zI5 c u = (if (zB1 c u).2 then some (zB1 c u).1 else none) := by
 unfold zI5;cases a : zBi isL u
 ·rw [zFz h a]; rfl
 ·cases b : zB2 c u.1 with
  | none => rw [zDp h b]; rfl
  | some i => rw [zDW h a b]
theorem zN3 {c : zAu} (h : OkC isL zAJ c) (u : zAT) (hn : (zB1 c u).2 = false) : (zB1 c u).1 = c := by
 cases a : zBi isL u
 ·rw [zFz h a]
 ·cases b : zB2 c u.1 with
  | none => rw [zDp h b]
  | some i => rw [zDW h a b] at hn; cases hn
theorem zN4 {c : zAu} (h : OkC isL zAJ c) (k : Int) : (zDU c k).1 = zAC c k := zEC h k
def badP {α : Type} (p : α → Bool) (xs : List α) : Int := match xs.findIdx? (fun u => !p u) with
 | some i => (i : Int)
 | none => -1
theorem badP_at {α : Type} {p : α → Bool} {xs : List α} {k : Nat} {u : α} (hu : xs[k]? = some u) (hp : p u = false) (hno : ∀ j v, j < k → xs[j]? = some v → p v = true) : badP p xs = (k : Int) := by
 have a := (List.getElem?_eq_some_iff.1 hu).1;have : xs.findIdx? (fun u => !p u) = some k := by
  rw [List.findIdx?_eq_some_iff_getElem];refine ⟨a, ?_, fun j hj => ?_⟩
  ·rw [List.getElem?_eq_getElem a] at hu;cases hu;simp [hp]
  ·have := hno j _ hj (List.getElem?_eq_getElem (by omega));simp [this]
 unfold badP;rw [this]
theorem zN5 {α : Type} {p : α → Bool} {xs : List α} (hno : ∀ (j : Nat) (v : α), xs[j]? = some v → p v = true) : badP p xs = -1 := by
 have : xs.findIdx? (fun u => !p u) = none := by
  rw [List.findIdx?_eq_none_iff];intro u a;obtain ⟨j, b⟩ := List.getElem?_of_mem a;simp [hno j u b]
 unfold badP;rw [this]
theorem badP_all {α : Type} (p : α → Bool) (xs : List α) : xs.all p = decide (badP p xs < 0) := by
 cases h : xs.all p
 ·have b : ¬ ∀ x ∈ xs, p x = true := fun hh => by rw [List.all_eq_true.2 hh] at h; cases h
  cases a : xs.findIdx? (fun u => !p u) with
  | none =>
   rw [List.findIdx?_eq_none_iff] at a;exact (b fun x hx => by have := a x hx; simpa using this).elim
  | some i => simp [badP, a]
 ·rw [zN5 fun j v hv => List.all_eq_true.1 h v (List.mem_of_getElem? hv)];rfl
theorem zMc (x : OpD) (w : World) :
    Calls Tryz.prog 92 #[.agg #[nI x.1, nI x.2.1, nI x.2.2.1, nI x.2.2.2]] w fun e w' => e = .returned (.bool (!zBN x)) ∧ Bl w w' := by
 have B := zAf w (.cells #[nI x.1, nI x.2.1, nI x.2.2.1, nI x.2.2.2] 85);have a : Hid (∀ W, Calls Tryz.prog 93 #[.agg #[nI x.1, nI x.2.1, nI x.2.2.1, nI x.2.2.2]] W fun e w' => e = .returned (.bool (zBN x)) ∧ Bl W w') := fun W => zBS x.1 x.2.1 x.2.2.1 x.2.2.2 W;generalize zBN x = q at a ⊢;go_enter Tryz.func92, Tryz.ntmps92;go_wp2_with fail
 generalize w.alloc (.cells #[nI x.1, nI x.2.1, nI x.2.2.1, nI x.2.2.2] 85) = W0 at B ⊢;refine (a.out _).mono ?_;rintro e w1 ⟨rfl, b⟩;go_wp2;go_ret
 exact ⟨rfl, zAb B b⟩
theorem zID (a : Option Addr) (xs : List OpD) (cap : Nat) (w : World) (h : zBg opR w a xs) (hm : xs.length ≤ maxLen) :
    Calls Tryz.prog 115 #[sL a xs.length cap, .func (.func 92) #[] #[]] w fun e w' => e = .returned (nI (badP zBN xs)) ∧ Bl w w' := by
 have F : xs.length ≤ 9223372036854775807 := hm;have E : Hid (∀ W, Bl w W → zBg opR W a xs) := fun W f => zA7 h fun k s => f.block k s;clear h hm;go_enter Tryz.func115, Tryz.ntmps115;go_wp2;go_loopw [8] (fun i wr => ∃ k : Nat, k ≤ xs.length ∧ i = nI k ∧ (∀ j v, j < k → xs[j]? = some v → zBN v = true) ∧ Bl w wr) (fun i _ => xs.length - (intOf i).toNat)
 case atStart => exact ⟨0, Nat.zero_le _, rfl, fun j v hj => by omega, Below.refl _ _⟩
 case round =>
  obtain ⟨k, s, rfl, d, c⟩ := hrel;by_cases m : k < xs.length
  ·have r : (k : Int) < (xs.length : Int) := by omega
   obtain ⟨x, o⟩ : ∃ x, xs[k]? = some x := ⟨_, List.getElem?_eq_getElem m⟩;obtain ⟨b, D, rfl, p, z, A, q, -⟩ := zEt (E.out _ c) o;have l := zMc x wr;have y : Hid (xs[k]? = some x) := o;clear o;cases f : zBN x
   ·have n : Hid (badP zBN xs = k) := badP_at y.out f d;rw [f] at l;go_wp2_with fail
    refine l.mono ?_;rintro e B ⟨rfl, g⟩;replace c := zAb c g;clear g p z A q;go_wp2;go_ret
    exact ⟨zAV n.out.symm, c⟩
   ·rw [f] at l;go_wp2_with fail
    refine l.mono ?_;rintro e B ⟨rfl, g⟩;replace c := zAb c g;clear g p z A q;go_wp2;go_roundw
    case rel =>
     refine ⟨k + 1, by omega, by go_num, fun j v hj hv => ?_, c⟩;by_cases C : j < k
     ·exact d j v C hv
     ·have : j = k := by omega
      subst this;rw [y.out] at hv;cases hv;exact f
    case measure => simp [intOf]; omega
  ·have n : Hid (badP zBN xs = -1) := zN5 fun j v hv => d j v (by have := (List.getElem?_eq_some_iff.1 hv).1; omega) hv;go_wp2;go_ret
   exact ⟨zAV n.out.symm, c⟩
theorem zGe (a : Option Addr) (xs : List OpD) (cap : Nat) (w : World) (h : zBg opR w a xs) (hm : xs.length ≤ maxLen) :
    Calls Tryz.prog 91 #[sL a xs.length cap, .func (.func 92) #[] #[]] w fun e w' => e = .returned (.bool (!xs.all zBN)) ∧ Bl w w' := by
 have c := zID a xs cap w h hm;have b := badP_all zBN xs;clear h hm;generalize badP zBN xs = q at c b;generalize xs.all zBN = y at b ⊢;subst b;by_cases g : q < 0
 ·have f : ¬ (0 ≤ q) := by omega
  go_enter Tryz.func91, Tryz.ntmps91;go_wp2_with fail
  refine c.mono ?_;rintro e i ⟨rfl, d⟩;go_wp2;go_ret
  exact ⟨by simp [g], d⟩
 ·have f : 0 ≤ q := by omega
  go_enter Tryz.func91, Tryz.ntmps91;go_wp2_with fail
  refine c.mono ?_;rintro e i ⟨rfl, d⟩;go_wp2;go_ret
  exact ⟨by simp [g], d⟩
def zMd (xs : List OpD) : Bool := decide (xs.length ≤ 30) && xs.all zBN
theorem zIE (a : Option Addr) (xs : List OpD) (cap : Nat) (w : World) (h : zBg opR w a xs) (hm : xs.length ≤ maxLen) :
    Calls Tryz.prog 65 #[sL a xs.length cap] w fun e w' => e = .returned (.bool (zMd xs)) ∧ Bl w w' := by
 have c := zGe a xs cap w h hm;have g : xs.length ≤ 9223372036854775807 := hm;unfold zMd;generalize xs.all zBN = y at c ⊢;clear h hm;by_cases f : xs.length ≤ 30
 ·have b : (xs.length : Int) ≤ 30 := by omega
  go_enter Tryz.func65, Tryz.ntmps65;go_wp2_with fail
  refine c.mono ?_;rintro e w1 ⟨rfl, d⟩;go_wp2;go_ret
  exact ⟨by simp [f], d⟩
 ·have b : ¬ ((xs.length : Int) ≤ 30) := by omega
  go_enter Tryz.func65, Tryz.ntmps65;go_wp2;go_ret
  exact ⟨by simp, Below.refl _ _⟩
end Go.Proofs.YtmdhblhdfcocjaaGreatDoor
