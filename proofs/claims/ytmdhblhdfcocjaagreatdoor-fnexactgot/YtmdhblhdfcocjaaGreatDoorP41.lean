import Derived.Test.YtmdhblhdfcocjaaGreatDoorP00Box
import Derived.Test.YtmdhblhdfcocjaaGreatDoorP35
import Derived.Test.YtmdhblhdfcocjaaGreatDoorP38
import Derived.Test.YtmdhblhdfcocjaaGreatDoorP39
import Derived.Test.YtmdhblhdfcocjaaGreatDoorP40
import Derived.Test.YtmdhblhdfcocjaaGreatDoorP34
namespace Go.Proofs.YtmdhblhdfcocjaaGreatDoor
set_option maxHeartbeats 8000000
set_option maxRecDepth 20000
open Go.ChangeShapes Go.WideShapes Go.ChangeAt Go.RowKit
set_option linter.unusedVariables false
theorem zHN (S : zAW) (g : Nat) (cs ns : List Value) (x : zAD) (m : zB5) (w : World) (ho : zAn.own w S cs x) (hS : ∀ k, S k → k < w.heap.size) (hg : ¬ S g) (hbox : w.heap[g]? = some (.cells cs.toArray 41 (0, 0))) (hm : zBy.rd w ns m) (hk : zAY x = true) (hkd : zBm m = 6 ∨ zBm m = 7) :
    Calls Tryz.prog 58 #[.pointer (some ⟨g, 0, none⟩), zBh ns] w fun e w' => zHy S g w (ofS (zAI (toS x) 0 m).1) (zAI (toS x) 0 m).2 e w' := by
 have p := zB4 hk;cases a : atC x.1 (zAt m) with
 | none =>
  by_cases o : x.2.2.2.1 = 1 ∧ x.2.2.2.2.1.1 = zAt m ∧ x.2.2.2.2.1.2.1 ≠ 0
  ·obtain ⟨d, f, l⟩ := o;obtain ⟨-, r, -⟩ := zCE p d;have s : 1 ≤ x.2.2.2.2.1.2.1 := by
    rcases r with q | q
    ·exact absurd q.1 l
    ·have := (zB0 q).2.1.1;exact this
   by_cases b : 2 ≤ x.2.2.2.2.1.2.1
   ·have e : zAI (toS x) 0 m = (toS (x.1, x.2.1, x.2.2.1, x.2.2.2.1, (m.2.2.2.2.1, 0, []), x.2.2.2.2.2), msg 2 0 4 8 m.2.2.2.2.1 x.2.2.2.2.1.2.2 1) := by
      unfold zAI;dsimp only
      rw [a];dsimp only
      rw [if_pos ⟨d, f, l⟩, if_pos b];rfl
    rw [e];exact zH1 S g cs ns x m w ho hS hg hbox hm hk a d f b
   ·have i : x.2.2.2.2.1.2.1 = 1 := by omega
    by_cases n : zBm m = 6
    ·have e : zAI (toS x) 0 m = (toS x, msg 2 0 4 9 m.2.2.2.2.1 [] 0) := by
       unfold zAI;dsimp only
       rw [a];dsimp only
       rw [if_pos ⟨d, f, l⟩, if_neg b, if_pos n];rfl
     rw [e];exact zHz S g cs ns x m w ho hS hg hbox hm hk a d f i n
    ·have e : zAI (toS x) 0 m = (toS (x.1, x.2.1, x.2.2.1, x.2.2.2.1, (m.2.2.2.2.1, 0, []), x.2.2.2.2.2), msg 2 0 4 9 m.2.2.2.2.1 [] 1) := by
       unfold zAI;dsimp only
       rw [a];dsimp only
       rw [if_pos ⟨d, f, l⟩, if_neg b, if_neg n];rfl
     rw [e];exact zH0 S g cs ns x m w ho hS hg hbox hm hk a d f i n
  ·have e : zAI (toS x) 0 m = (toS x, msg 2 0 4 9 m.2.2.2.2.1 [] 1) := by
     unfold zAI;dsimp only
     rw [a];dsimp only
     rw [if_neg o];rfl
   rw [e];exact zIG S g cs ns x m w ho hS hg hbox hm hk a o
 | some j =>
  by_cases c : zBm m = 7
  ·by_cases b : 2 ≤ (zAC x.1 (zAt m)).2.1
   ·have e : zAI (toS x) 0 m = (toS (zDZ x.1 (zAt m) zAF, x.2), msg 2 0 4 8 m.2.2.2.2.1 (zAC x.1 (zAt m)).2.2 1) := by
      unfold zAI;dsimp only
      rw [a];dsimp only
      rw [if_pos c, if_pos b, if_pos b, zGY];rfl
    rw [e];exact zJ9 S g cs ns x m w ho hS hg hbox hm hk j a b c
   ·have e : zAI (toS x) 0 m = (toS (zDZ x.1 (zAt m) zAF, x.2), msg 2 0 4 9 m.2.2.2.2.1 [] 1) := by
      unfold zAI;dsimp only
      rw [a];dsimp only
      rw [if_pos c, if_neg b, if_neg b, zGY];rfl
    rw [e];exact zJ8 S g cs ns x m w ho hS hg hbox hm hk j a b c
  ·by_cases b : 2 ≤ (zAC x.1 (zAt m)).2.1
   ·have e : zAI (toS x) 0 m = (toS (zDZ x.1 (zAt m) ((zAC x.1 (zAt m)).1, 1, (zAC x.1 (zAt m)).2.2), x.2), msg 2 0 4 8 m.2.2.2.2.1 (zAC x.1 (zAt m)).2.2 0) := by
      unfold zAI;dsimp only
      rw [a];dsimp only
      rw [if_neg c, if_pos b, if_pos b, if_pos b];rfl
    rw [e];exact zJ7 S g cs ns x m w ho hS hg hbox hm hk j a b c
   ·have e : zAI (toS x) 0 m = (toS (x.1, x.2), msg 2 0 4 9 m.2.2.2.2.1 [] 0) := by
      unfold zAI;dsimp only
      rw [a];dsimp only
      rw [if_neg c, if_neg b, if_neg b, if_neg b];rfl
    rw [e];exact zJ6 S g cs ns x m w ho hS hg hbox hm hk j a b c
theorem zLv {w : World} {S : zAW} {am : zB5} {na : Option Addr} {nc : Nat} {id : Int} (h : zBy.own w S [nI am.1, nI am.2.1, nI am.2.2.1, nI am.2.2.2.1, nI am.2.2.2.2.1, sL na am.2.2.2.2.2.1.length nc, nI am.2.2.2.2.2.2] am) (hi : zBk id) : zBy.own w S [nI am.1, nI id, nI am.2.2.1, nI am.2.2.2.1, nI am.2.2.2.2.1, sL na am.2.2.2.2.2.1.length nc, nI am.2.2.2.2.2.2] (am.1, id, am.2.2) := by
 obtain ⟨v, e, c, i1, b, a, d, f, o⟩ := zKu h;simp only [List.cons.injEq, true_and, and_true] at e;obtain rfl := e;exact zBR c hi b a d f o
theorem zLw (c : CoreS) (id : Int) (m : zB5) : zAI c id m = ((zAI c 0 m).1, ((zAI c 0 m).2.1, id, (zAI c 0 m).2.2.2)) := by
 unfold zAI;dsimp only
 cases atC c.cache (zAt m) with
 | none =>
  dsimp only
  split
  ·split
   ·rfl
   ·split <;> rfl
  ·rfl
 | some j =>
  dsimp only
  split <;> rfl
theorem zKG (S : zAW) (g : Nat) (cs ns : List Value) (x : zAD) (id : Int) (m : zB5) (w : World) (ho : zAn.own w S cs x) (D : ∀ k, S k → k < w.heap.size) (L : ¬ S g) (hbox : w.heap[g]? = some (.cells cs.toArray 41 (0, 0))) (hm : zBy.rd w ns m) (hk : zAY x = true) (hid : zBk id) (hkd : m.2.2.2.1 = 6) (hb : zAP m.2.2.2.2.1 0 15 = true) :
    Calls Tryz.prog 25 #[.pointer (some ⟨g, 0, none⟩), nI id, zBh ns] w fun e w' => GtP S g w (ofS (zAI (toS x) 0 m).1) [((zAI (toS x) 0 m).2.1, id, (zAI (toS x) 0 m).2.2.2)] 1 e w' := by
 have n : Hid (∀ W, Bl w W → Calls Tryz.prog 58 #[.pointer (some ⟨g, 0, none⟩), zBh ns] W fun e w' => zHy S g W (ofS (zAI (toS x) 0 m).1) (zAI (toS x) 0 m).2 e w') := fun W hb => zHN S g cs ns x m W (zAn.own_keep ho (zAh hb)) (fun j z => Nat.lt_of_lt_of_le (D j z) hb.size) L (zAa hb hbox) (zAM hm hb) hk (.inl hkd);obtain ⟨y9, s⟩ : ∃ y9, y9 = ofS (zAI (toS x) 0 m).1 := ⟨_, rfl⟩;obtain ⟨a, y⟩ : ∃ a, a = (zAI (toS x) 0 m).2 := ⟨_, rfl⟩;rw [← s, ← y] at n;rw [← s, ← y];clear s y;obtain ⟨ma, mc, rfl, JA, eA, sA, kA, LA, lA, -, -, -⟩ := zBB hm;obtain ⟨v0, v1, v2, v5, v6, v7, v8, S0, S1, S4, S5, rfl, i2, i3, o0, o1, o4, o5, dA, bA, KA, U, CA, OA, GA, IA, FA, fA⟩ := zBc ho;have r0 := zAA.own_rd o0;obtain ⟨a0, c0, b0, d0, e0, -⟩ := zAH r0;simp only [List.cons.injEq, and_true] at e0;obtain ⟨rfl, rfl⟩ := e0;obtain ⟨a1, c1, e1, -⟩ := zBX.own_rd o1;simp only [List.cons.injEq, and_true] at e1;obtain rfl := e1;have r4 := zAR.own_rd o4;obtain ⟨a4, c4, e4, pA, oA, -, -, q4⟩ := zAL r4;simp only [List.cons.injEq, and_true] at e4;obtain ⟨rfl, rfl, rfl⟩ := e4;obtain ⟨a5, c5, e5, -⟩ := zA5.own_rd o5;simp only [List.cons.injEq, and_true] at e5;obtain rfl := e5;have HO : Hid (∀ W, Bl w W → zAn.own W S [sL a0 x.1.1.length c0, sL b0 x.1.2.length d0, sL a1 x.2.1.length c1, nI x.2.2.1, nI x.2.2.2.1, nI x.2.2.2.2.1.1, nI x.2.2.2.2.1.2.1, sL a4 x.2.2.2.2.1.2.2.length c4, sL a5 x.2.2.2.2.2.length c5] x) := fun W hb => zAn.own_keep ho (zAh hb);have aA : Hid _ := aI D L;have G : w.heap[g]? = some (.cells #[sL a0 x.1.1.length c0, sL b0 x.1.2.length d0, sL a1 x.2.1.length c1, nI x.2.2.1, nI x.2.2.2.1, nI x.2.2.2.2.1.1, nI x.2.2.2.2.1.2.1, sL a4 x.2.2.2.2.1.2.2.length c4, sL a5 x.2.2.2.2.2.length c5] 41 (0, 0)) := hbox;have gl := (ltH G);rw [aE] at n;have zA : Hid (∀ W, Calls Tryz.prog 23 #[nI m.2.2.2.2.1, nI 0, nI 15] W fun e w' => e = .returned (.bool true) ∧ Bl W w') := fun W => (zAZ m.2.2.2.2.1 0 15 W).mono fun e w' ⟨q, r⟩ => ⟨by rw [q, hb], zFj r⟩;obtain ⟨c, p, RB, ph, h, t⟩ := x;simp only at *
 clear ho D L r0 r4 q4 o0 o1 o4 o5 dA bA KA U CA OA GA IA FA fA i2 i3 pA oA hm hbox JA eA sA kA LA lA hb hk HO;have z6 : (m.2.2.2.1 == 6) = true := by simp [hkd]
 clear hkd;rw [aE];have B := Below.refl w.heap.size w;go_enter Tryz.func25, Tryz.ntmps25;go_upto_region 1 with fail
 generalize b : w.alloc _ = u1w;have N := boxH b;have i := boxB b;have zN := boxL b;clear b;replace B := zAb B i;replace G := zAa i G;clear i;have IB := lE zN;have OB := lE zN.symm;clear zN;obtain ⟨Gc0, Gc1, Gc2, Gc3, Gc4, Gc5, Gc6, Gc7, Gc8⟩ := zAc G;have Glt := (ltH G);obtain ⟨Nc0, Nc1, Nc2, Nc3, Nc4, Nc5, Nc6⟩ := zAe N;have Nlt := (ltH N);go_upto_region 2 with fail
 clear Gc0 Gc1 Gc2 Gc3 Gc4 Gc5 Gc6 Gc7 Gc8 Glt Nc0 Nc1 Nc2 Nc3 Nc4 Nc5 Nc6 Nlt;have Zo : zCp zBp (w.heap.size + 1) (w.heap.size + 1 + 1) (u1w.alloc (.cells #[] 46)) [sL (some ⟨w.heap.size + 1, 0, none⟩) 0 0] [] := by
  have q := zC3 (e := 46) (R := zBy) u1w;rw [show u1w.heap.size = w.heap.size + 1 from by omega] at q;exact aI (zBp.own_mono q (fun k z => by have z2 : k = w.heap.size + 1 := z; exact ⟨by omega, by omega⟩)) (by rw [zAp]; omega)
 have i := zAf u1w (.cells #[] 46);have T := zAp u1w (.cells #[] 46);replace B := zAb B i;replace G := zAa i G;replace N := zAa i N;clear i;generalize u1w.alloc (.cells #[] 46) = u2w at B G N Zo T ⊢;have BB := lE T;have GB := lE T.symm;clear T;obtain ⟨Gc0, Gc1, Gc2, Gc3, Gc4, Gc5, Gc6, Gc7, Gc8⟩ := zAc G;have Glt := (ltH G);obtain ⟨Nc0, Nc1, Nc2, Nc3, Nc4, Nc5, Nc6⟩ := zAe N;have Nlt := (ltH N);go_wp2_with fail
 clear Gc0 Gc1 Gc2 Gc3 Gc4 Gc5 Gc6 Gc7 Gc8 Glt Nc0 Nc1 Nc2 Nc3 Nc4 Nc5 Nc6 Nlt;refine (zA.out _).mono ?_;rintro e mA ⟨rfl, A⟩;have fB : u2w.heap.size ≤ mA.heap.size := A.size;replace B := zAb B A;replace G := zAa A G;replace N := zAa A N;replace Zo := zA6 Zo A;clear A;obtain ⟨Gc0, Gc1, Gc2, Gc3, Gc4, Gc5, Gc6, Gc7, Gc8⟩ := zAc G;have Glt := (ltH G);obtain ⟨Nc0, Nc1, Nc2, Nc3, Nc4, Nc5, Nc6⟩ := zAe N;have Nlt := (ltH N);go_wp2_with fail
 clear Gc0 Gc1 Gc2 Gc3 Gc4 Gc5 Gc6 Gc7 Gc8 Glt Nc0 Nc1 Nc2 Nc3 Nc4 Nc5 Nc6 Nlt;refine (n.out _ B).mono ?_;rintro e d ⟨ds, ms, rfl, F, C, I, ch⟩;obtain ⟨J, O, rfl, AB, CB, MB, SB, UB, LB, -, -, -⟩ := zBB (zBy.own_rd C);rw [aE];have HB := B.size;have sB := ch.size;have E : Chg (fun j => S j ∨ j = g) w d := (zIJ B).trans ch;have HZ : Hid _ := aI F (aI C (aI I E));clear F C I E ch B G N Zo;go_upto_region 8 with fail
 generalize f : d.alloc _ = wk;have K := boxH f;have l := boxB f;have Z := boxL f;clear f;have zB := lE Z;have yB := lE Z.symm;clear Z;obtain ⟨nA, BA, DA, qA, rA, iA, MA⟩ := zAe K;obtain ⟨jA, gA, EA, X, V, Y, HA⟩ := zB8 K;have DB := (ltH K);have HW : Hid _ := aI K l;clear K l;go_wp2;clear nA BA DA qA rA iA MA jA gA EA X V Y HA;obtain ⟨K, l⟩ := HW.out;obtain ⟨F, C, I, E⟩ := HZ.out;obtain ⟨D, L⟩ := aA.out;have H : (zAo wk d.heap.size 1 [nI id]).heap.size = wk.heap.size := zAj _ _ _;have M := zAf (zAo wk d.heap.size 1 [nI id]) (.cells #[nI a.1, nI id, nI a.2.2.1, nI a.2.2.2.1, nI a.2.2.2.2.1, sL J a.2.2.2.2.2.1.length O, nI a.2.2.2.2.2.2] 46);have al := zAp (zAo wk d.heap.size 1 [nI id]) (.cells #[nI a.1, nI id, nI a.2.2.1, nI a.2.2.2.1, nI a.2.2.2.2.1, sL J a.2.2.2.2.2.1.length O, nI a.2.2.2.2.2.2] 46);have CO := zAn.own_keep (zAs (g := d.heap.size) (o := 1) (vs := [nI id]) (zAn.own_keep F (zAh l)) (fun q => by rcases q with q | q; (have := D _ q; omega); omega)) (zAh M);have OM := zFJ (e := 46) (R := zBy) (by decide) (zAs (g := d.heap.size) (o := 1) (vs := [nI id]) (zBy.own_keep (zLv C hid) (zAh l)) (fun q => by have := q.2; omega)) (fun j q => by rw [H]; have := q.2; omega);rw [H] at OM;have GR := zAa M (zAk (g := d.heap.size) (o := 1) (vs := [nI id]) (zAa l I) (by omega));have CC : Chg (fun j => S j ∨ j = g) w ((zAo wk d.heap.size 1 [nI id]).alloc (.cells #[nI a.1, nI id, nI a.2.2.1, nI a.2.2.2.1, nI a.2.2.2.2.1, sL J a.2.2.2.2.2.1.length O, nI a.2.2.2.2.2.2] 46)) := (zBf (E.trans (zA9 l)) (by omega)).trans (zA9 M);have FQ : GtP S g w y9 [(a.1, id, a.2.2)] 1 (.returned (.tuple #[sL (some ⟨wk.heap.size, 0, none⟩) 1 1, nI 1])) ((zAo wk d.heap.size 1 [nI id]).alloc (.cells #[nI a.1, nI id, nI a.2.2.1, nI a.2.2.2.1, nI a.2.2.2.2.1, sL J a.2.2.2.2.2.1.length O, nI a.2.2.2.2.2.2] 46)) := ⟨ds, _, rfl, zAn.own_mono CO (fun j q => by rw [al, H]; rcases q with q | q; exact .inl q; exact .inr ⟨by omega, by omega⟩), zBp.own_mono OM (fun j q => by refine ⟨?_, ?_⟩; (rcases q with q | q; (have := q.1; omega); omega); (rw [al, H]; rcases q with q | q; (have := q.2; omega); omega)), GR, CC⟩;simp only [zA0, zA3] at FQ;clear CO OM GR CC M al H K l F C I E;refine bodyPost_ret (v := .tuple #[sL (some ⟨wk.heap.size, 0, none⟩) 1 1, nI 1]) (by simp [results, Tryz.results25, go_sem]) rfl ?_;exact FQ
theorem zKH (S : zAW) (g : Nat) (cs ns : List Value) (x : zAD) (id : Int) (m : zB5) (w : World) (ho : zAn.own w S cs x) (D : ∀ k, S k → k < w.heap.size) (L : ¬ S g) (hbox : w.heap[g]? = some (.cells cs.toArray 41 (0, 0))) (hm : zBy.rd w ns m) (hk : zAY x = true) (hid : zBk id) (hkd : m.2.2.2.1 = 7) (hb : zAP m.2.2.2.2.1 0 15 = true) :
    Calls Tryz.prog 25 #[.pointer (some ⟨g, 0, none⟩), nI id, zBh ns] w fun e w' => GtP S g w (ofS (zAI (toS x) 0 m).1) [((zAI (toS x) 0 m).2.1, id, (zAI (toS x) 0 m).2.2.2)] 1 e w' := by
 have n : Hid (∀ W, Bl w W → Calls Tryz.prog 58 #[.pointer (some ⟨g, 0, none⟩), zBh ns] W fun e w' => zHy S g W (ofS (zAI (toS x) 0 m).1) (zAI (toS x) 0 m).2 e w') := fun W hb => zHN S g cs ns x m W (zAn.own_keep ho (zAh hb)) (fun j z => Nat.lt_of_lt_of_le (D j z) hb.size) L (zAa hb hbox) (zAM hm hb) hk (.inr hkd);obtain ⟨y9, s⟩ : ∃ y9, y9 = ofS (zAI (toS x) 0 m).1 := ⟨_, rfl⟩;obtain ⟨a, y⟩ : ∃ a, a = (zAI (toS x) 0 m).2 := ⟨_, rfl⟩;rw [← s, ← y] at n;rw [← s, ← y];clear s y;obtain ⟨ma, mc, rfl, JA, eA, sA, kA, LA, lA, -, -, -⟩ := zBB hm;obtain ⟨v0, v1, v2, v5, v6, v7, v8, S0, S1, S4, S5, rfl, i2, i3, o0, o1, o4, o5, dA, bA, KA, U, CA, OA, GA, IA, FA, fA⟩ := zBc ho;have r0 := zAA.own_rd o0;obtain ⟨a0, c0, b0, d0, e0, -⟩ := zAH r0;simp only [List.cons.injEq, and_true] at e0;obtain ⟨rfl, rfl⟩ := e0;obtain ⟨a1, c1, e1, -⟩ := zBX.own_rd o1;simp only [List.cons.injEq, and_true] at e1;obtain rfl := e1;have r4 := zAR.own_rd o4;obtain ⟨a4, c4, e4, pA, oA, -, -, q4⟩ := zAL r4;simp only [List.cons.injEq, and_true] at e4;obtain ⟨rfl, rfl, rfl⟩ := e4;obtain ⟨a5, c5, e5, -⟩ := zA5.own_rd o5;simp only [List.cons.injEq, and_true] at e5;obtain rfl := e5;have HO : Hid (∀ W, Bl w W → zAn.own W S [sL a0 x.1.1.length c0, sL b0 x.1.2.length d0, sL a1 x.2.1.length c1, nI x.2.2.1, nI x.2.2.2.1, nI x.2.2.2.2.1.1, nI x.2.2.2.2.1.2.1, sL a4 x.2.2.2.2.1.2.2.length c4, sL a5 x.2.2.2.2.2.length c5] x) := fun W hb => zAn.own_keep ho (zAh hb);have aA : Hid _ := aI D L;have G : w.heap[g]? = some (.cells #[sL a0 x.1.1.length c0, sL b0 x.1.2.length d0, sL a1 x.2.1.length c1, nI x.2.2.1, nI x.2.2.2.1, nI x.2.2.2.2.1.1, nI x.2.2.2.2.1.2.1, sL a4 x.2.2.2.2.1.2.2.length c4, sL a5 x.2.2.2.2.2.length c5] 41 (0, 0)) := hbox;have gl := (ltH G);rw [aE] at n;have zA : Hid (∀ W, Calls Tryz.prog 23 #[nI m.2.2.2.2.1, nI 0, nI 15] W fun e w' => e = .returned (.bool true) ∧ Bl W w') := fun W => (zAZ m.2.2.2.2.1 0 15 W).mono fun e w' ⟨q, r⟩ => ⟨by rw [q, hb], zFj r⟩;obtain ⟨c, p, RB, ph, h, t⟩ := x;simp only at *
 clear ho D L r0 r4 q4 o0 o1 o4 o5 dA bA KA U CA OA GA IA FA fA i2 i3 pA oA hm hbox JA eA sA kA LA lA hb hk HO;have z6 : (m.2.2.2.1 == 6) = false := by simp [hkd]
 have z7 : (m.2.2.2.1 == 7) = true := by simp [hkd]
 clear hkd;rw [aE];have B := Below.refl w.heap.size w;go_enter Tryz.func25, Tryz.ntmps25;go_upto_region 1 with fail
 generalize b : w.alloc _ = u1w;have N := boxH b;have i := boxB b;have zN := boxL b;clear b;replace B := zAb B i;replace G := zAa i G;clear i;have IB := lE zN;have OB := lE zN.symm;clear zN;obtain ⟨Gc0, Gc1, Gc2, Gc3, Gc4, Gc5, Gc6, Gc7, Gc8⟩ := zAc G;have Glt := (ltH G);obtain ⟨Nc0, Nc1, Nc2, Nc3, Nc4, Nc5, Nc6⟩ := zAe N;have Nlt := (ltH N);go_upto_region 2 with fail
 clear Gc0 Gc1 Gc2 Gc3 Gc4 Gc5 Gc6 Gc7 Gc8 Glt Nc0 Nc1 Nc2 Nc3 Nc4 Nc5 Nc6 Nlt;have Zo : zCp zBp (w.heap.size + 1) (w.heap.size + 1 + 1) (u1w.alloc (.cells #[] 46)) [sL (some ⟨w.heap.size + 1, 0, none⟩) 0 0] [] := by
  have q := zC3 (e := 46) (R := zBy) u1w;rw [show u1w.heap.size = w.heap.size + 1 from by omega] at q;exact aI (zBp.own_mono q (fun k z => by have z2 : k = w.heap.size + 1 := z; exact ⟨by omega, by omega⟩)) (by rw [zAp]; omega)
 have i := zAf u1w (.cells #[] 46);have T := zAp u1w (.cells #[] 46);replace B := zAb B i;replace G := zAa i G;replace N := zAa i N;clear i;generalize u1w.alloc (.cells #[] 46) = u2w at B G N Zo T ⊢;have BB := lE T;have GB := lE T.symm;clear T;obtain ⟨Gc0, Gc1, Gc2, Gc3, Gc4, Gc5, Gc6, Gc7, Gc8⟩ := zAc G;have Glt := (ltH G);obtain ⟨Nc0, Nc1, Nc2, Nc3, Nc4, Nc5, Nc6⟩ := zAe N;have Nlt := (ltH N);go_wp2_with fail
 clear Gc0 Gc1 Gc2 Gc3 Gc4 Gc5 Gc6 Gc7 Gc8 Glt Nc0 Nc1 Nc2 Nc3 Nc4 Nc5 Nc6 Nlt;refine (zA.out _).mono ?_;rintro e mA ⟨rfl, A⟩;have fB : u2w.heap.size ≤ mA.heap.size := A.size;replace B := zAb B A;replace G := zAa A G;replace N := zAa A N;replace Zo := zA6 Zo A;clear A;obtain ⟨Gc0, Gc1, Gc2, Gc3, Gc4, Gc5, Gc6, Gc7, Gc8⟩ := zAc G;have Glt := (ltH G);obtain ⟨Nc0, Nc1, Nc2, Nc3, Nc4, Nc5, Nc6⟩ := zAe N;have Nlt := (ltH N);go_wp2_with fail
 clear Gc0 Gc1 Gc2 Gc3 Gc4 Gc5 Gc6 Gc7 Gc8 Glt Nc0 Nc1 Nc2 Nc3 Nc4 Nc5 Nc6 Nlt;refine (n.out _ B).mono ?_;rintro e d ⟨ds, ms, rfl, F, C, I, ch⟩;obtain ⟨J, O, rfl, AB, CB, MB, SB, UB, LB, -, -, -⟩ := zBB (zBy.own_rd C);rw [aE];have HB := B.size;have sB := ch.size;have E : Chg (fun j => S j ∨ j = g) w d := (zIJ B).trans ch;have HZ : Hid _ := aI F (aI C (aI I E));clear F C I E ch B G N Zo;go_upto_region 8 with fail
 generalize f : d.alloc _ = wk;have K := boxH f;have l := boxB f;have Z := boxL f;clear f;have zB := lE Z;have yB := lE Z.symm;clear Z;obtain ⟨nA, BA, DA, qA, rA, iA, MA⟩ := zAe K;obtain ⟨jA, gA, EA, X, V, Y, HA⟩ := zB8 K;have DB := (ltH K);have HW : Hid _ := aI K l;clear K l;go_wp2;clear nA BA DA qA rA iA MA jA gA EA X V Y HA;obtain ⟨K, l⟩ := HW.out;obtain ⟨F, C, I, E⟩ := HZ.out;obtain ⟨D, L⟩ := aA.out;have H : (zAo wk d.heap.size 1 [nI id]).heap.size = wk.heap.size := zAj _ _ _;have M := zAf (zAo wk d.heap.size 1 [nI id]) (.cells #[nI a.1, nI id, nI a.2.2.1, nI a.2.2.2.1, nI a.2.2.2.2.1, sL J a.2.2.2.2.2.1.length O, nI a.2.2.2.2.2.2] 46);have al := zAp (zAo wk d.heap.size 1 [nI id]) (.cells #[nI a.1, nI id, nI a.2.2.1, nI a.2.2.2.1, nI a.2.2.2.2.1, sL J a.2.2.2.2.2.1.length O, nI a.2.2.2.2.2.2] 46);have CO := zAn.own_keep (zAs (g := d.heap.size) (o := 1) (vs := [nI id]) (zAn.own_keep F (zAh l)) (fun q => by rcases q with q | q; (have := D _ q; omega); omega)) (zAh M);have OM := zFJ (e := 46) (R := zBy) (by decide) (zAs (g := d.heap.size) (o := 1) (vs := [nI id]) (zBy.own_keep (zLv C hid) (zAh l)) (fun q => by have := q.2; omega)) (fun j q => by rw [H]; have := q.2; omega);rw [H] at OM;have GR := zAa M (zAk (g := d.heap.size) (o := 1) (vs := [nI id]) (zAa l I) (by omega));have CC : Chg (fun j => S j ∨ j = g) w ((zAo wk d.heap.size 1 [nI id]).alloc (.cells #[nI a.1, nI id, nI a.2.2.1, nI a.2.2.2.1, nI a.2.2.2.2.1, sL J a.2.2.2.2.2.1.length O, nI a.2.2.2.2.2.2] 46)) := (zBf (E.trans (zA9 l)) (by omega)).trans (zA9 M);have FQ : GtP S g w y9 [(a.1, id, a.2.2)] 1 (.returned (.tuple #[sL (some ⟨wk.heap.size, 0, none⟩) 1 1, nI 1])) ((zAo wk d.heap.size 1 [nI id]).alloc (.cells #[nI a.1, nI id, nI a.2.2.1, nI a.2.2.2.1, nI a.2.2.2.2.1, sL J a.2.2.2.2.2.1.length O, nI a.2.2.2.2.2.2] 46)) := ⟨ds, _, rfl, zAn.own_mono CO (fun j q => by rw [al, H]; rcases q with q | q; exact .inl q; exact .inr ⟨by omega, by omega⟩), zBp.own_mono OM (fun j q => by refine ⟨?_, ?_⟩; (rcases q with q | q; (have := q.1; omega); omega); (rw [al, H]; rcases q with q | q; (have := q.2; omega); omega)), GR, CC⟩;simp only [zA0, zA3] at FQ;clear CO OM GR CC M al H K l F C I E;refine bodyPost_ret (v := .tuple #[sL (some ⟨wk.heap.size, 0, none⟩) 1 1, nI 1]) (by simp [results, Tryz.results25, go_sem]) rfl ?_;exact FQ
end Go.Proofs.YtmdhblhdfcocjaaGreatDoor
