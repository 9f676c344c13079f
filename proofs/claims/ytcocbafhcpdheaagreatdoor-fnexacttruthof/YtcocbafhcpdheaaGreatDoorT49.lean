import Derived.Test.YtcocbafhcpdheaaGreatDoorT00Box
import Derived.Test.YtcocbafhcpdheaaGreatDoorT48
namespace Go.Proofs.YtcocbafhcpdheaaGreatDoor
set_option maxHeartbeats 16000000
set_option maxRecDepth 20000
open Go.ChangeShapes Go.WideShapes Go.ChangeAt Go.RowKit
set_option linter.unusedVariables false
theorem zOX (cs : List Value) (x : zA2) (w : World) (h : zCr.rd w cs x) (hbk : zAX.bk x ≤ 1048576) :
    Calls Tryz.prog 49 #[zBq cs] w fun e w' => e = .returned (.bool (zFj x)) ∧ Below w.heap.size w w' := by
 rw [← fab_eq];exact zHx cs x w h hbk
variable {α : Type}
set_option linter.unusedSimpArgs false
theorem zIA {α : Type} {e : TypeId} {R : Rep α} (w : World) (cur : Array Value) (n : Nat) (hm : n ≤ maxLen) (hs : cur.size = n * R.size) : zAI (slR e R) w (w.alloc (.cells cur e)) [.slice (some ⟨w.heap.size, 0, none⟩) 0 n] [] := by
 refine ⟨⟨_, [], fun _ => False, rfl, World.ownsRow_made (base := 0) (e := e) (size := R.size) w cur n (Nat.zero_le _) hm hs, fun g hg => ?_, fun _ h => h.elim, rfl⟩, zAf w _⟩;simp [Value.ownBlock] at hg
 subst hg;exact ⟨⟨Nat.le_refl _, by simp⟩, fun h => h⟩
theorem zMW (a : Addr) (xs : List Int) (cap : Nat) (w : World) (h : zDr w (some a) xs) (hm : xs.length ≤ 1048576) :
    Calls Tryz.prog 53 #[.slice (some a) xs.length cap] w fun e w' => ∃ v, e = .returned v ∧ zIJ w w' v xs := by
 obtain ⟨A, s, m, n, l⟩ := info_parts Tryz.infoI;have i : (w.alloc (.cells #[] 2)).ownsRow w.heap.size 2 1 (.slice (some ⟨w.heap.size, 0, none⟩) 0 0) 0 [] := World.ownsRow_lit _ #[] 0 (Nat.le_refl _) (Nat.zero_le _) rfl;go_enter Tryz.func53, Tryz.ntmps53;go_wp2_with (at_builtin; refine wpList_append_own _ rfl _ _ 37 rfl w.heap.size 2 A (.int .i64 0) 1 8 Tryz.underlying37 s m n l rfl (by decide) _ _ _ rfl i a xs.length cap (xs.map (Value.int .i64)) rfl (by simp) ?c1 ?c2 ?c3 ?c4 ?c5 ?_)
 case c1 =>
  intro j u D;obtain ⟨f, rfl⟩ := List.getElem?_eq_some_iff.1 D;simp at f
  rcases h with rfl | ⟨b, k, p, y⟩
  ·simp at f
  simp only [Option.some.injEq] at p;subst p;have r := y j f;rw [show (⟨b, k, none⟩ : Addr).add j = ⟨b, k + j, none⟩ from by simp [Addr.add], World.cell?_alloc_past _ _ _ (World.block_lt_of_cell? w _ r), r];simp [List.getD_eq_getElem?_getD, f]
 case c2 => intro u o; simp at o; obtain ⟨x, _, rfl⟩ := o; rfl
 case c3 => unfold maxLen; omega
 case c4 => omega
 case c5 => simp
 ·intro q B d c g;have z : q ≠ .slice none 0 0 := g;have C : Hid (zIJ w B q xs) := zHN d c z;clear d c g i;go_wp2;go_ret
  exact ⟨_, rfl, C.out⟩
theorem zMX (cap : Nat) (w : World) : Calls Tryz.prog 53 #[.slice none 0 cap] w fun e w' => ∃ v, e = .returned v ∧ zAI zA0 w w' [v] [] := by
 obtain ⟨f, b, c, g, d⟩ := info_parts Tryz.infoI;have a : (w.alloc (.cells #[] 2)).ownsRow w.heap.size 2 1 (.slice (some ⟨w.heap.size, 0, none⟩) 0 0) 0 [] := World.ownsRow_lit _ #[] 0 (Nat.le_refl _) (Nat.zero_le _) rfl;go_enter Tryz.func53, Tryz.ntmps53;go_wp2_with (at_builtin; refine zCK rfl _ _ 37 rfl w.heap.size 2 f 1 Tryz.underlying37 b cap _ _ _ rfl a rfl ?_)
 go_ret
 exact ⟨_, rfl, zDe w⟩
theorem zMY (a : Option Addr) (xs : List Int) (cap : Nat) (w : World) (h : zA4 zAG w a xs) (hm : xs.length ≤ 1048576) :
    Calls Tryz.prog 53 #[.slice a xs.length cap] w fun e w' => ∃ v, e = .returned v ∧ zAI zA0 w w' [v] xs := by
 cases a with
 | some ad => exact (zMW ad xs cap w (zBv h) hm).mono fun e w' ⟨v, h1, h2⟩ => ⟨v, h1, zDF h2 (zHO h)⟩
 | none =>
  rcases h with rfl | ⟨b, d, c, f, _⟩
  ·exact zMX cap w
  ·cases f
theorem zCL {α : Type} {Q : Rep α} {w u wr : World} {cs : List Value} {xs : α} (B : Below w.heap.size w u) (M : zAI Q u wr cs xs) : zAI Q w wr cs xs :=
 ⟨Q.own_mono M.1 (zAZ B.size (Nat.le_refl _)), zAa B M.2⟩
theorem zOY (x : zA2) (a1 : Option Addr) (c1 : Nat) (b1 : Option Addr) (d1 : Nat) (a2 : Option Addr) (c2 : Nat) (a3 : Option Addr) (c3 : Nat) (b3 : Option Addr) (d3 : Nat) (a4 : Option Addr) (c4 : Nat) (a5 : Option Addr) (c5 : Nat) (w : World) (R : FabRd w x a1 c1 b1 d1 a2 c2 a3 c3 b3 d3 a4 c4 a5 c5) (h : zCr.rd w [.int .i64 x.1.1, .int .i64 x.1.2.1, .int .i64 x.1.2.2.1, .int .i64 x.1.2.2.2, .slice a1 x.2.1.1.length c1, .slice b1 x.2.1.2.length d1, .slice a2 x.2.2.1.length c2, .slice a3 x.2.2.2.1.1.length c3, .int .i64 x.2.2.2.1.2.1, .bool x.2.2.2.1.2.2.1, .slice b3 x.2.2.2.1.2.2.2.length d3, .slice a4 x.2.2.2.2.1.length c4, .slice a5 x.2.2.2.2.2.length c5] x) (hbk : zAX.bk x ≤ 1048576) (k : Int) :
    Calls Tryz.prog 27 #[.agg #[.int .i64 x.1.1, .int .i64 x.1.2.1, .int .i64 x.1.2.2.1, .int .i64 x.1.2.2.2, .slice a1 x.2.1.1.length c1, .slice b1 x.2.1.2.length d1, .slice a2 x.2.2.1.length c2, .slice a3 x.2.2.2.1.1.length c3, .int .i64 x.2.2.2.1.2.1, .bool x.2.2.2.1.2.2.1, .slice b3 x.2.2.2.1.2.2.2.length d3, .slice a4 x.2.2.2.2.1.length c4, .slice a5 x.2.2.2.2.2.length c5], .int .i64 k] w fun e w' => e = .returned (.bool (zI4 x k)) ∧ Below w.heap.size w w' := by
 have g : Hid _ := fun (W : World) (hb : Below w.heap.size w W) => zOX [.int .i64 x.1.1, .int .i64 x.1.2.1, .int .i64 x.1.2.2.1, .int .i64 x.1.2.2.2, .slice a1 x.2.1.1.length c1, .slice b1 x.2.1.2.length d1, .slice a2 x.2.2.1.length c2, .slice a3 x.2.2.2.1.1.length c3, .int .i64 x.2.2.2.1.2.1, .bool x.2.2.2.1.2.2.1, .slice b3 x.2.2.2.1.2.2.2.length d3, .slice a4 x.2.2.2.2.1.length c4, .slice a5 x.2.2.2.2.2.length c5] x W (zAr h hb) hbk;unfold zI4;clear R h;generalize zFj x = q1 at g ⊢;have B := Below.refl w.heap.size w;go_enter Tryz.func27, Tryz.ntmps27;go_upto_region 1 with fail
 generalize a : w.alloc _ = u1w;have F := boxH a;have i := boxB a;have j := boxL a;clear a;replace B := zAa B i;clear i;clear j;obtain ⟨Fc0, Fc1, Fc2, Fc3, Fc4, Fc5, Fc6, Fc7, Fc8, Fc9, Fc10, Fc11, Fc12⟩ := zAd F;have Flt := (ltH F);go_wp2_with fail
 clear Fc0 Fc1 Fc2 Fc3 Fc4 Fc5 Fc6 Fc7 Fc8 Fc9 Fc10 Fc11 Fc12 Flt;refine (g.out _ B).mono ?_;rintro e m ⟨rfl, c⟩;replace B := zAa B c;replace F := zAb c F;clear c;cases q1
 ·skip
  obtain ⟨Fc0, Fc1, Fc2, Fc3, Fc4, Fc5, Fc6, Fc7, Fc8, Fc9, Fc10, Fc11, Fc12⟩ := zAd F;have Flt := (ltH F);have b : Hid _ := B;clear B F;go_wp2;go_ret
  exact ⟨by simp, b.out⟩
 ·by_cases f : 0 ≤ k
  ·by_cases d : k < x.1.2.2.2
   ·skip
    obtain ⟨Fc0, Fc1, Fc2, Fc3, Fc4, Fc5, Fc6, Fc7, Fc8, Fc9, Fc10, Fc11, Fc12⟩ := zAd F;have Flt := (ltH F);have b : Hid _ := B;clear B F;go_wp2;go_ret
    exact ⟨by simp [f, d], b.out⟩
   ·skip
    obtain ⟨Fc0, Fc1, Fc2, Fc3, Fc4, Fc5, Fc6, Fc7, Fc8, Fc9, Fc10, Fc11, Fc12⟩ := zAd F;have Flt := (ltH F);have b : Hid _ := B;clear B F;go_wp2;go_ret
    exact ⟨by simp [f, d], b.out⟩
  ·have l : k < 0 := by omega
   obtain ⟨Fc0, Fc1, Fc2, Fc3, Fc4, Fc5, Fc6, Fc7, Fc8, Fc9, Fc10, Fc11, Fc12⟩ := zAd F;have Flt := (ltH F);have b : Hid _ := B;clear B F;go_wp2;go_ret
   exact ⟨by simp; omega, b.out⟩
theorem zLK {l k : Int} : (decide (0 ≤ k) && decide (k < l)) = zD7 l k := by
 unfold zD7 zA8;rw [← Bool.decide_and];exact decide_eq_decide.2 (by omega)
theorem zGY {w : World} {x : zA2} {a1 b1 a2 a3 b3 a4 a5 : Option Addr} {c1 d1 c2 c3 d3 c4 c5 : Nat} (R : FabRd w x a1 c1 b1 d1 a2 c2 a3 c3 b3 d3 a4 c4 a5 c5) : zA4 zA0 w a1 x.2.1.1 ∧ x.2.1.1.length ≤ maxLen := by
 obtain ⟨v0, v1, e, ⟨a, c, b, f, d, q⟩, -⟩ := zDi R.house;simp only [List.cons.injEq, and_true] at e b;obtain ⟨rfl, rfl⟩ := e;simp only [Value.slice.injEq] at b;obtain ⟨rfl, -, rfl⟩ := b;exact ⟨q, Nat.le_trans f d⟩
theorem zJP {w : World} {u : zBi} {v0 v1 v2 v3 v4 v8 : Value} {ia : Option Addr} {ic : Nat} {z5 z6 : Value} (h : zAB.rd w [v0, v1, v2, v3, v4, z5, z6, .slice ia u.2.2.2.2.1.2.2.length ic, v8] u) : zA4 zAG w ia u.2.2.2.2.1.2.2 := by
 obtain ⟨y0, y1, y2, y5, y6, y7, y8, e, r0, r1, i2, i3, a, r5⟩ := zC7 h;simp only [List.cons.injEq, and_true] at e;obtain ⟨-, -, -, -, -, rfl, rfl, rfl, -⟩ := e;obtain ⟨ad, b, e, -, -, -, -, q⟩ := zBz a;simp only [List.cons.injEq, and_true, Value.slice.injEq] at e;obtain ⟨-, -, rfl, -⟩ := e;exact q
theorem ent_in {w : World} {cs : List Value} {u : zAW} (h : zBT.rd w cs u) : zAN u.1 := by
 obtain ⟨a, c, -, b, -⟩ := zFM h;exact b
theorem msg_at {w : World} {cs : List Value} {m : zDy} (h : zBL.rd w cs m) : ∃ (na : Option Addr) (nc : Nat), cs = [.int .i64 m.1, .int .i64 m.2.1, .int .i64 m.2.2.1, .int .i64 m.2.2.2.1, .int .i64 m.2.2.2.2.1, .slice na m.2.2.2.2.2.1.length nc, .int .i64 m.2.2.2.2.2.2] ∧ m.2.2.2.2.2.1.length ≤ nc ∧ nc ≤ maxLen ∧ zA4 zAG w na m.2.2.2.2.2.1 := by
 obtain ⟨a, c, e, -, -, -, -, -, -, d, b, q⟩ := zFO h;exact ⟨a, c, e, d, b, q⟩
def zGZ (x : zA2) (o k : Int) : Bool := if 0 ≤ o then (match x.2.2.1[o.toNat]? with
 | some u => zGg k u
 | none => false) else false
theorem zKV {x : zA2} {on : Nat} {k : Int} {u : zBi} (h : x.2.2.1[on]? = some u) : zGZ x on k = zGg k u := by
 unfold zGZ;rw [if_pos (by omega), Int.toNat_natCast, h]
theorem zOZ {x : zA2} {o k : Int} (h : zGZ x o k = false) (ho : o < (x.2.2.1.length : Int)) : zGh x o k = zHv x o k := by
 unfold zGh;by_cases b : 0 ≤ o
 ·obtain ⟨a, rfl⟩ : ∃ a : Nat, o = a := ⟨o.toNat, by omega⟩;obtain ⟨u, c⟩ : ∃ u, x.2.2.1[a]? = some u := ⟨_, List.getElem?_eq_getElem (by omega)⟩;rw [zKV c] at h;rw [if_pos b, Int.toNat_natCast, c];simp only
  rw [if_neg (by rw [h]; exact Bool.false_ne_true)]
 ·rw [if_neg b]
theorem held_yes {x : zA2} {o k : Int} {t : List Int} (h : zGZ x o k = true) (ht : t = zGh x o k) : ∃ (a : Nat) (u : zBi), o = a ∧ x.2.2.1[a]? = some u ∧ t = u.2.2.2.2.1.2.2 := by
 by_cases c : 0 ≤ o
 ·obtain ⟨a, rfl⟩ : ∃ a : Nat, o = a := ⟨o.toNat, by omega⟩;cases b : x.2.2.1[a]? with
  | none =>
   unfold zGZ at h;rw [if_pos c, Int.toNat_natCast, b] at h;cases h
  | some u =>
   rw [zKV b] at h;refine ⟨a, u, rfl, b, ?_⟩;rw [ht];unfold zGh;rw [if_pos c, Int.toNat_natCast, b];simp only
   rw [if_pos h]
 ·unfold zGZ at h;rw [if_neg c] at h;cases h
theorem zMZ (x : zA2) (a1 : Option Addr) (c1 : Nat) (b1 : Option Addr) (d1 : Nat) (a2 : Option Addr) (c2 : Nat) (a3 : Option Addr) (c3 : Nat) (b3 : Option Addr) (d3 : Nat) (a4 : Option Addr) (c4 : Nat) (a5 : Option Addr) (c5 : Nat) (w : World) (R : FabRd w x a1 c1 b1 d1 a2 c2 a3 c3 b3 d3 a4 c4 a5 c5) (hf : zFj x = true) (hbk : zAX.bk x ≤ 1048576) (k : Int) (hk0 : 0 ≤ k) (hk1 : k < x.1.2.2.2) :
    Calls Tryz.prog 52 #[.agg #[.int .i64 x.1.1, .int .i64 x.1.2.1, .int .i64 x.1.2.2.1, .int .i64 x.1.2.2.2, .slice a1 x.2.1.1.length c1, .slice b1 x.2.1.2.length d1, .slice a2 x.2.2.1.length c2, .slice a3 x.2.2.2.1.1.length c3, .int .i64 x.2.2.2.1.2.1, .bool x.2.2.2.1.2.2.1, .slice b3 x.2.2.2.1.2.2.2.length d3, .slice a4 x.2.2.2.2.1.length c4, .slice a5 x.2.2.2.2.2.length c5], .int .i64 k] w fun e w' => ∃ v, e = .returned v ∧ zAI zA0 w w' [v] (zB5 x k) := by
 have RR : Hid (∀ W, Below w.heap.size w W → FabRd W x a1 c1 b1 d1 a2 c2 a3 c3 b3 d3 a4 c4 a5 c5) := fun W hb => zBP R hb;have YA : Hid (∀ u, u ∈ x.2.2.1 → OkC isL zAH u.1) := fun u hu => zI5 hf hu;obtain ⟨⟨nB, CB⟩, lB, -⟩ := zJM hf;obtain ⟨⟨gB, XA⟩, IB⟩ := zJN hf;have pB := zOO hf;have GA : Hid (∀ e, e ∈ x.2.1.2 → e.1 < (x.2.2.1.length : Int)) := fun e he => by have := zLI hf he; omega
 have bA : Hid _ := hbk;obtain ⟨b, rfl⟩ : ∃ b : Nat, k = b := ⟨k.toNat, by omega⟩;have AB : b < x.2.1.2.length := by omega
 have RB : (b : Int) < (x.2.1.2.length : Int) := by omega
 have qB : b < x.2.1.1.length := by omega
 have dC : (b : Int) < (x.2.1.1.length : Int) := by omega
 have sC : x.2.2.2.2.1.length ≤ 9223372036854775807 := R.netl;have SB : x.2.2.1.length ≤ 4 := by omega
 have B := Below.refl w.heap.size w;clear R hf hbk hk1 pB lB IB nB CB gB XA;go_enter Tryz.func52, Tryz.ntmps52;go_upto_region 1 with fail
 generalize J : w.alloc _ = u1w;have F := boxH J;have bz := boxB J;have zF := boxL J;clear J;replace B := zAa B bz;clear bz;clear zF;go_wp2;go_loopw [5] (fun i wr => ∃ j : Nat, j ≤ x.2.2.1.length ∧ i = .int .i64 j ∧ NoP (zF0 b) x.2.2.1 j ∧ Below w.heap.size w wr ∧ wr.heap[w.heap.size]? = some (.cells #[.int .i64 x.1.1, .int .i64 x.1.2.1, .int .i64 x.1.2.2.1, .int .i64 x.1.2.2.2, .slice a1 x.2.1.1.length c1, .slice b1 x.2.1.2.length d1, .slice a2 x.2.2.1.length c2, .slice a3 x.2.2.2.1.1.length c3, .int .i64 x.2.2.2.1.2.1, .bool x.2.2.2.1.2.2.1, .slice b3 x.2.2.2.1.2.2.2.length d3, .slice a4 x.2.2.2.2.1.length c4, .slice a5 x.2.2.2.2.2.length c5] 50 (0, 0))) (fun i _ => x.2.2.1.length - (intOf i).toNat)
 case atStart => exact ⟨0, Nat.zero_le _, rfl, fun i v hi => by omega, B, F⟩
 case round =>
  clear B F;obtain ⟨j, hj, rfl, p, f, F⟩ := hrel;obtain ⟨p0, p1, p2, p3, p4, p5, p6, p7, p8, p9, C, D, G⟩ := zAd F;by_cases aA : j < x.2.2.1.length
  ·have KA : (j : Int) < (x.2.2.1.length : Int) := by omega
   obtain ⟨u, r⟩ : ∃ u, x.2.2.1[j]? = some u := ⟨_, List.getElem?_eq_getElem aA⟩;have I := List.mem_of_getElem? r;obtain ⟨bb, pA, cs, ra, c, a⟩ := zAy (RR.out w (Below.refl _ _)).cores r;have HC := l17Has_u cs u b w wr (YA.out u I) c f;obtain ⟨ga, gc, gb, gd, ha, hc, ia, ic, ja, jc, rfl⟩ := zBd c;rw [show zBq _ = .agg _ from rfl] at HC;replace a := fun i v h => zAe f (a i v h) (zAk (a i v h));obtain ⟨x0, x1, x2, x3, x4, x5, x6, x7, x8⟩ := cellsAt9 a rfl;subst ra;have z : (zCc u.1 b).2.2.length ≤ 1048576 := Nat.le_trans (zLH (YA.out u I) b) (Nat.le_trans (zI6 I).1 bA.out);have HX : Hid _ := r;have n : Hid _ := p;have A : Hid _ := F;clear a c r I p F;go_wp2_with fail
   clear x0 x1 x2 x3 x4 x5 x6 x7 x8 p0 p1 p2 p3 p4 p5 p6 p7 p8 p9 C D G;refine HC.mono ?_;rintro e w9 ⟨us, rfl, hr, bq⟩;clear HC;have UA := hr w9 (zAa f bq);obtain ⟨ea, ec, rfl, -, i1, -, -, -⟩ := zBz UA;rw [show zBq _ = .agg _ from rfl];have NA : Hid (∀ W', Below w.heap.size w W' → zA4 zAG W' ea (zCc u.1 b).2.2) := fun W' hb => by
    obtain ⟨yC, oC, e9, -, -, -, -, q⟩ := zBz (hr W' hb);simp only [List.cons.injEq, and_true, Value.slice.injEq] at e9;obtain ⟨-, -, rfl, -⟩ := e9;exact q
   replace f := zAa f bq;have F := zAb bq A.out;clear hr UA bq A;have g : Hid (zF0 b u = true → zB5 x b = (zCc u.1 b).2.2) := fun U => by unfold zB5; rw [zGV HX.out U n.out]
   have N : zF0 b u = decide (2 ≤ (zCc u.1 b).2.1) := rfl;generalize zCc u.1 b = y at NA g z N i1 ⊢;go_upto_region 5 with fail
   have V := zAf w9 (.cells #[.int .i64 y.1, .int .i64 y.2.1, .slice ea y.2.2.length ec] 88);generalize T : w9.alloc _ = wz;have Y := boxH T;clear T;replace f := zAa f V;replace F := zAb V F;obtain ⟨y0, y1, y2⟩ := zAJ Y;by_cases U : 2 ≤ y.2.1
   ·have E : Hid (zB5 x b = y.2.2) := g.out (by rw [N]; exact decide_eq_true U);have s : Hid _ := f;clear F n g N Y V f;go_wp2_with fail
    refine (zEC ea y.2.2 ec _ (NA.out _ s.out) z).mono ?_;rintro e w5 ⟨v5, rfl, M⟩;have HM : Hid (zAI zA0 w w5 [v5] (zB5 x b)) := by
     unfold Hid;rw [E.out];exact zCL s.out M
    clear M;go_wp2;go_ret
    exact ⟨_, rfl, HM.out⟩
   ·have HE : Hid _ := zI7 n.out HX.out (by rw [N]; exact decide_eq_false U);have fA : Hid _ := And.intro f F;clear F n g N Y V f;go_wp2;go_roundw
    case rel => exact ⟨j + 1, by omega, by go_num, HE.out, fA.out⟩
    case measure => simp [intOf]; omega
  ·have HD : Hid (x.2.2.1.find? (zF0 b) = none) := zGW fun i v hv => p i v (by have := (List.getElem?_eq_some_iff.1 hv).1; omega) hv;have AC : ¬ ((j : Int) < (x.2.2.1.length : Int)) := by omega
   obtain ⟨en, Z⟩ : ∃ en, x.2.1.2[b]? = some en := ⟨_, List.getElem?_eq_getElem AB⟩;have g : Hid (zB5 x b = zGh x en.1 b) := by
    unfold Hid zB5 zON;rw [HD.out, Int.toNat_natCast, Z]
   have eB := GA.out en (List.mem_of_getElem? Z);obtain ⟨be, oe, ce, VA, L, K⟩ := zAy (RR.out _ f).book Z;obtain ⟨ga, gc, rfl⟩ := zDK L;have e0 := K 0 _ rfl;rw [show oe + (b * zBT.size + 0) = oe + b * 8 from rfl] at e0;have i0 : zAN en.1 := (ent_in L);rw [VA] at p5;clear VA;have A : Hid _ := F;clear p K L Z HD F aA hj GA;generalize en.1 = o at g eB e0 i0;go_upto_region 8 with fail
   clear e0 p0 p1 p2 p3 p4 p5 p6 p7 p8 p9 C D G;have F := A.out;clear A;obtain ⟨p0, p1, p2, p3, p4, p5, p6, p7, p8, p9, C, D, G⟩ := zAd F;go_cut [59] (fun q wx => q = .bool (zGZ x o b) ∧ Below w.heap.size w wx ∧ wx.heap[w.heap.size]? = some (.cells #[.int .i64 x.1.1, .int .i64 x.1.2.1, .int .i64 x.1.2.2.1, .int .i64 x.1.2.2.2, .slice a1 x.2.1.1.length c1, .slice b1 x.2.1.2.length d1, .slice a2 x.2.2.1.length c2, .slice a3 x.2.2.2.1.1.length c3, .int .i64 x.2.2.2.1.2.1, .bool x.2.2.2.1.2.2.1, .slice b3 x.2.2.2.1.2.2.2.length d3, .slice a4 x.2.2.2.2.1.length c4, .slice a5 x.2.2.2.2.2.length c5] 50 (0, 0)))
   case first =>
    by_cases ho : 0 ≤ o
    ·obtain ⟨on, rfl⟩ : ∃ on : Nat, o = on := ⟨o.toNat, by omega⟩;have TA : on < x.2.2.1.length := by omega
     have FA : (on : Int) < (x.2.2.1.length : Int) := by omega
     obtain ⟨u, r⟩ : ∃ u, x.2.2.1[on]? = some u := ⟨_, List.getElem?_eq_getElem TA⟩;obtain ⟨bb, pA, cs, ra, c, a⟩ := zAy (RR.out _ f).cores r;obtain ⟨ga, gc, gb, gd, ha, hc, ia, ic, ja, jc, rfl⟩ := zBd c;obtain ⟨x0, x1, x2, x3, x4, x5, x6, x7, x8⟩ := cellsAt9 a rfl;subst ra;have HQ : Hid (zGZ x on b = zGg b u) := zKV r;have A : Hid _ := And.intro f F;clear a c r f F;by_cases X : u.2.2.2.2.1.1 = (b : Int)
     ·by_cases h2 : 2 ≤ u.2.2.2.2.1.2.1
      ·go_wp2_with fail
       go_meet
       exact ⟨by rw [HQ.out]; simp [zGg, X, h2], A.out⟩
      ·go_wp2_with fail
       go_meet
       exact ⟨by rw [HQ.out]; simp [zGg, X, h2], A.out⟩
     ·go_wp2_with fail
      go_meet
      exact ⟨by rw [HQ.out]; simp [zGg, X], A.out⟩
    ·have HQ : Hid (zGZ x o b = false) := by unfold Hid zGZ; rw [if_neg ho]
     have A : Hid _ := And.intro f F;clear f F;go_wp2_with fail
     go_meet
     exact ⟨by rw [HQ.out], A.out⟩
   case rest =>
    clear f F p0 p1 p2 p3 p4 p5 p6 p7 p8 p9 C D G;obtain ⟨rfl, f, F⟩ := hcut;generalize wc = W3 at f F ⊢;cases hq : zGZ x o b
    ·have E : Hid (zB5 x b = zHv x o b) := by unfold Hid; rw [g.out, zOZ hq (by omega)]
     clear g hq;go_wp2;go_loopw [8] (fun i wr => ∃ j : Nat, j ≤ x.2.2.2.2.1.length ∧ i = .int .i64 j ∧ NoP (zHc o b) x.2.2.2.2.1 j ∧ Below w.heap.size w wr ∧ wr.heap[w.heap.size]? = some (.cells #[.int .i64 x.1.1, .int .i64 x.1.2.1, .int .i64 x.1.2.2.1, .int .i64 x.1.2.2.2, .slice a1 x.2.1.1.length c1, .slice b1 x.2.1.2.length d1, .slice a2 x.2.2.1.length c2, .slice a3 x.2.2.2.1.1.length c3, .int .i64 x.2.2.2.1.2.1, .bool x.2.2.2.1.2.2.1, .slice b3 x.2.2.2.1.2.2.2.length d3, .slice a4 x.2.2.2.2.1.length c4, .slice a5 x.2.2.2.2.2.length c5] 50 (0, 0))) (fun i _ => x.2.2.2.2.1.length - (intOf i).toNat)
     case atStart => exact ⟨0, Nat.zero_le _, rfl, fun i v hi => by omega, f, F⟩
     case round =>
      clear f F;obtain ⟨j, hj, rfl, p, f, F⟩ := hrel;obtain ⟨p0, p1, p2, p3, p4, p5, p6, p7, p8, p9, C, D, G⟩ := zAd F;by_cases aA : j < x.2.2.2.2.1.length
      ·have KA : (j : Int) < (x.2.2.2.2.1.length : Int) := by omega
       obtain ⟨m, r⟩ : ∃ m, x.2.2.2.2.1[j]? = some m := ⟨_, List.getElem?_eq_getElem aA⟩;obtain ⟨bb, pA, cs, ra, c, a⟩ := zAy (RR.out _ f).net r;obtain ⟨na, nc, rfl, l1, l2, l⟩ := msg_at c;obtain ⟨x0, x1, x2, x3, x4, x5, x6⟩ := cellsAt7 a rfl;subst ra;have aC : m.2.2.2.2.2.1.length ≤ 9223372036854775807 := Nat.le_trans l1 l2;have z : m.2.2.2.2.2.1.length ≤ 1048576 := Nat.le_trans (net_bk (List.mem_of_getElem? r)) bA.out;have HX : Hid _ := r;have n : Hid _ := p;have HA : Hid _ := l;have A : Hid _ := F;clear a c r p F l l1 l2;go_upto_region 14 with fail
       clear x0 x1 x2 x3 x4 x5 x6 p0 p1 p2 p3 p4 p5 p6 p7 p8 p9 C D G;have F := A.out;clear A;have V := zAf wr (.cells #[.int .i64 m.1, .int .i64 m.2.1, .int .i64 m.2.2.1, .int .i64 m.2.2.2.1, .int .i64 m.2.2.2.2.1, .slice na m.2.2.2.2.2.1.length nc, .int .i64 m.2.2.2.2.2.2] 119);generalize T : wr.alloc _ = wz;have Y := boxH T;clear T;replace f := zAa f V;replace F := zAb V F;have l : Hid (zA4 zAG wz na m.2.2.2.2.2.1) := zAm HA.out V;obtain ⟨y0, y1, y2, y3, y4, y5, y6⟩ := zAQ Y;have A : Hid _ := And.intro f (And.intro F (And.intro Y l.out));clear f F Y V HA l;go_cut [105] (fun q wx => q = .bool (zHc o b m) ∧ wx = wz)
       case first =>
        by_cases h8 : m.2.2.2.1 = 8
        ·by_cases h4 : m.2.2.2.2.1 = (b : Int)
         ·by_cases h5 : 0 < m.2.2.2.2.2.1.length
          ·have lA : (0 : Int) < (m.2.2.2.2.2.1.length : Int) := by omega
           by_cases X : m.2.1 = o
           ·go_wp2_with fail
            go_meet
            exact ⟨by simp [zHc, h8, h4, h5, X], rfl⟩
           ·go_wp2_with fail
            go_meet
            exact ⟨by simp [zHc, h8, h4, h5, X], rfl⟩
          ·have lA : ¬ (0 : Int) < (m.2.2.2.2.2.1.length : Int) := by omega
           go_wp2_with fail
           go_meet
           exact ⟨by simp [zHc, h5], rfl⟩
         ·go_wp2_with fail
          go_meet
          exact ⟨by simp [zHc, h4], rfl⟩
        ·by_cases h3 : m.2.2.2.1 = 3
         ·by_cases h4 : m.2.2.2.2.1 = (b : Int)
          ·by_cases h5 : 0 < m.2.2.2.2.2.1.length
           ·have lA : (0 : Int) < (m.2.2.2.2.2.1.length : Int) := by omega
            by_cases X : m.2.1 = o
            ·go_wp2_with fail
             go_meet
             exact ⟨by simp [zHc, h3, h4, h5, X], rfl⟩
            ·go_wp2_with fail
             go_meet
             exact ⟨by simp [zHc, h3, h4, h5, X], rfl⟩
           ·have lA : ¬ (0 : Int) < (m.2.2.2.2.2.1.length : Int) := by omega
            go_wp2_with fail
            go_meet
            exact ⟨by simp [zHc, h5], rfl⟩
          ·go_wp2_with fail
           go_meet
           exact ⟨by simp [zHc, h4], rfl⟩
         ·go_wp2_with fail
          go_meet
          exact ⟨by simp [zHc, h8, h3], rfl⟩
       case rest =>
        obtain ⟨rfl, rfl⟩ := hcut;obtain ⟨f, F, Y, l⟩ := A.out;cases hq : zHc o b m
        ·have HE : Hid _ := zI7 n.out HX.out hq;have fA : Hid _ := And.intro f F;clear F Y l f y0 y1 y2 y3 y4 y5 y6 n;go_wp2;go_roundw
         case rel => exact ⟨j + 1, by omega, by go_num, HE.out, fA.out⟩
         case measure => simp [intOf]; omega
        ·have S : Hid (zB5 x b = m.2.2.2.2.2.1) := by unfold Hid; rw [E.out]; unfold zHv; rw [zGV HX.out hq n.out]
         have O : Hid _ := l;have s : Hid _ := f;clear F Y l f n;go_wp2_with fail
         refine (zEC na m.2.2.2.2.2.1 nc _ O.out z).mono ?_;rintro e w5 ⟨v5, rfl, M⟩;have HM : Hid (zAI zA0 w w5 [v5] (zB5 x b)) := by
          unfold Hid;rw [S.out];exact zCL s.out M
         clear M;go_wp2;go_ret
         exact ⟨_, rfl, HM.out⟩
      ·have HN : Hid (x.2.2.2.2.1.find? (zHc o b) = none) := zGW fun i v hv => p i v (by have := (List.getElem?_eq_some_iff.1 hv).1; omega) hv;have KB : ¬ ((j : Int) < (x.2.2.2.2.1.length : Int)) := by omega
       obtain ⟨d, U⟩ : ∃ d, x.2.1.1[b]? = some d := ⟨_, List.getElem?_eq_getElem qB⟩;have S : Hid (zB5 x b = d) := by
        unfold Hid;rw [E.out];unfold zHv;rw [HN.out, Int.toNat_natCast, List.getD_eq_getElem?_getD, U];rfl
       obtain ⟨bm, om, cm, mB, ⟨aj, cj, rfl, -, -, dA⟩, H⟩ := zAy (zGY (RR.out _ f)).1 U;have m0 := H 0 _ rfl;rw [show om + (b * zA0.size + 0) = om + b from by rw [show zA0.size = 1 from rfl]; omega] at m0;have z : d.length ≤ 1048576 := Nat.le_trans (mem_bk (List.mem_of_getElem? U)) bA.out;subst mB;have O : Hid _ := dA;have s : Hid _ := f;clear H dA U p F HN f;go_wp2_with fail
       refine (zEC aj d cj _ O.out z).mono ?_;rintro e w5 ⟨v5, rfl, M⟩;have HM : Hid (zAI zA0 w w5 [v5] (zB5 x b)) := by
        unfold Hid;rw [S.out];exact zCL s.out M
       clear M;go_wp2;go_ret
       exact ⟨_, rfl, HM.out⟩
    ·obtain ⟨on, u, rfl, r, E⟩ := held_yes hq g.out;have TA := (List.getElem?_eq_some_iff.1 r).1;have FA : (on : Int) < (x.2.2.1.length : Int) := by omega
     obtain ⟨bb, pA, cs, ra, c, a⟩ := zAy (RR.out _ f).cores r;have z : u.2.2.2.2.1.2.2.length ≤ 1048576 := Nat.le_trans (zI6 (List.mem_of_getElem? r)).2 bA.out;obtain ⟨ga, gc, gb, gd, ha, hc, ia, ic, ja, jc, rfl⟩ := zBd c;have O : Hid _ := zJP c;obtain ⟨x0, x1, x2, x3, x4, x5, x6, x7, x8⟩ := cellsAt9 a rfl;subst ra;obtain ⟨p0, p1, p2, p3, p4, p5, p6, p7, p8, p9, C, D, G⟩ := zAd F;have s : Hid _ := f;have S : Hid _ := E;clear a c r F f g hq E;go_wp2_with fail
     refine (zEC ia u.2.2.2.2.1.2.2 ic _ O.out z).mono ?_;rintro e w5 ⟨v5, rfl, M⟩;have HM : Hid (zAI zA0 w w5 [v5] (zB5 x b)) := by
      unfold Hid;rw [S.out];exact zCL s.out M
     clear M;go_wp2;go_ret
     exact ⟨_, rfl, HM.out⟩
end Go.Proofs.YtcocbafhcpdheaaGreatDoor
