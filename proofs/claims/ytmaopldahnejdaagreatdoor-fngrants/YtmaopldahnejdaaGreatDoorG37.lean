import Derived.Test.YtmaopldahnejdaaGreatDoorG00Box
import Derived.Test.YtmaopldahnejdaaGreatDoorG36
namespace Go.Proofs.YtmaopldahnejdaaGreatDoor
set_option maxHeartbeats 8000000
set_option maxRecDepth 20000
open Go.ChangeShapes Go.WideShapes Go.ChangeAt Go.RowKit
set_option linter.unusedVariables false
abbrev DE (B g : Nat) (w wr : World) (rb mb : Nat) (f0 f1 : Int) (f2 : Bool) (f3 f4 f5 f6 : Int) (d : List Int) (av : Option Addr) (cv : Nat) : Prop :=
 DrC zB6 48 B g w wr rb mb [.int .i64 0, .int .i64 0, .bool false, .int .i64 0, .int .i64 0, .int .i64 0, .int .i64 0, .slice none 0 0] [.int .i64 f0, .int .i64 f1, .bool f2, .int .i64 f3, .int .i64 f4, .int .i64 f5, .int .i64 f6, .slice av d.length cv] (f0, f1, f2, f3, f4, f5, f6, d)
theorem zLN {B g rb mb : Nat} {w wr : World} {f0 f1 f3 f4 f5 f6 : Int} {f2 : Bool} {d : List Int} {av : Option Addr} {cv : Nat} {x : Int} (h : DE B g w wr rb mb f0 f1 f2 f3 f4 f5 f6 d av cv) (hx : zA4 x) : DE B g w (wr.setCell ⟨mb, 0, none⟩ (nI x)) rb mb x f1 f2 f3 f4 f5 f6 d av cv := by
 obtain ⟨v, e, n0, f, a, b, i, c, -⟩ := zC8 h.own;exact zF5 h rfl (zB3 hx f a b i c (zDy h.own))
theorem zLO {B g rb mb : Nat} {w wr : World} {f0 f1 f3 f4 f5 f6 : Int} {f2 : Bool} {d : List Int} {av : Option Addr} {cv : Nat} {x : Int} (h : DE B g w wr rb mb f0 f1 f2 f3 f4 f5 f6 d av cv) (hx : zA4 x) : DE B g w (wr.setCell ⟨mb, 1, none⟩ (nI x)) rb mb f0 x f2 f3 f4 f5 f6 d av cv := by
 obtain ⟨v, e, a, n1, b, c, i, f, -⟩ := zC8 h.own;exact zF5 h rfl (zB3 a hx b c i f (zDy h.own))
theorem zLP {B g rb mb : Nat} {w wr : World} {f0 f1 f3 f4 f5 f6 : Int} {f2 : Bool} {d : List Int} {av : Option Addr} {cv : Nat} {x : Bool} (h : DE B g w wr rb mb f0 f1 f2 f3 f4 f5 f6 d av cv) : DE B g w (wr.setCell ⟨mb, 2, none⟩ (.bool x)) rb mb f0 f1 x f3 f4 f5 f6 d av cv := by
 obtain ⟨v, e, a, i, b, c, j, f, -⟩ := zC8 h.own;exact zF5 h rfl (zB3 a i b c j f (zDy h.own))
theorem zJk {B g rb mb : Nat} {w wr : World} {f0 f1 f3 f4 f5 f6 : Int} {f2 : Bool} {d : List Int} {av : Option Addr} {cv : Nat} {x : Int} (h : DE B g w wr rb mb f0 f1 f2 f3 f4 f5 f6 d av cv) (hx : zA4 x) : DE B g w (wr.setCell ⟨mb, 3, none⟩ (nI x)) rb mb f0 f1 f2 x f4 f5 f6 d av cv := by
 obtain ⟨v, e, a, f, n3, b, i, c, -⟩ := zC8 h.own;exact zF5 h rfl (zB3 a f hx b i c (zDy h.own))
theorem zEF {B g rb mb : Nat} {w wr : World} {f0 f1 f3 f4 f5 f6 : Int} {f2 : Bool} {d : List Int} {av : Option Addr} {cv : Nat} {x : Int} (h : DE B g w wr rb mb f0 f1 f2 f3 f4 f5 f6 d av cv) (hx : zA4 x) : DE B g w (wr.setCell ⟨mb, 4, none⟩ (nI x)) rb mb f0 f1 f2 f3 x f5 f6 d av cv := by
 obtain ⟨v, e, a, f, b, n4, i, c, -⟩ := zC8 h.own;exact zF5 h rfl (zB3 a f b hx i c (zDy h.own))
theorem zCG {B g rb mb : Nat} {w wr : World} {f0 f1 f3 f4 f5 f6 : Int} {f2 : Bool} {d : List Int} {av : Option Addr} {cv : Nat} {x : Int} (h : DE B g w wr rb mb f0 f1 f2 f3 f4 f5 f6 d av cv) (hx : zA4 x) : DE B g w (wr.setCell ⟨mb, 5, none⟩ (nI x)) rb mb f0 f1 f2 f3 f4 x f6 d av cv := by
 obtain ⟨v, e, a, i, b, c, n5, f, -⟩ := zC8 h.own;exact zF5 h rfl (zB3 a i b c hx f (zDy h.own))
theorem zLQ {B g rb mb : Nat} {w wr : World} {f0 f1 f3 f4 f5 f6 : Int} {f2 : Bool} {d : List Int} {av : Option Addr} {cv : Nat} {x : Int} (h : DE B g w wr rb mb f0 f1 f2 f3 f4 f5 f6 d av cv) (hx : zA4 x) : DE B g w (wr.setCell ⟨mb, 6, none⟩ (nI x)) rb mb f0 f1 f2 f3 f4 f5 x d av cv := by
 obtain ⟨v, e, a, f, b, c, i, n6, -⟩ := zC8 h.own;exact zF5 h rfl (zB3 a f b c i hx (zDy h.own))
theorem zJl {B g rb mb : Nat} {w wr : World} {f0 f1 f3 f4 f5 f6 : Int} {f2 : Bool} {d d2 : List Int} {av a2 : Option Addr} {cv c2 : Nat} (h : DE B g w wr rb mb f0 f1 f2 f3 f4 f5 f6 d av cv) (ho : zAm.own wr (fun k => rb < k ∧ k < wr.heap.size ∧ k ≠ mb) [sL a2 d2.length c2] d2) : DE B g w (wr.setCell ⟨mb, 7, none⟩ (sL a2 d2.length c2)) rb mb f0 f1 f2 f3 f4 f5 f6 d2 a2 c2 := by
 obtain ⟨v, e, a, i, b, c, j, f, -⟩ := zC8 h.own;exact zF5 h rfl (zB3 a i b c j f ho)
def zJM (B g : Nat) (w : World) (e : Ending) (w' : World) : Prop :=
 ∃ f0 f1 f2 f3 f4 f5 f6 d av cv, e = .returned (.agg #[.int .i64 f0, .int .i64 f1, .bool f2, .int .i64 f3, .int .i64 f4, .int .i64 f5, .int .i64 f6, .slice av d.length cv]) ∧ d.length ≤ 3 ∧ DrewR zB6 B g w w' [.int .i64 f0, .int .i64 f1, .bool f2, .int .i64 f3, .int .i64 f4, .int .i64 f5, .int .i64 f6, .slice av d.length cv] (f0, f1, f2, f3, f4, f5, f6, d)
theorem zKz {B g : Nat} {w w' : World} (h : Cur B w g) (hb : Bl w w') : Cur B w' g := zB5 (S := fun _ => False) h ⟨hb.os, hb.tape, hb.output, hb.size, fun k hk _ => hb.block k hk⟩ (fun k hk => hk.elim) (Nat.le_trans h.1 (Nat.le_of_lt (zBX h)))
theorem zBE {B g rb mb : Nat} {w wr : World} {f0 f1 f3 f4 f5 f6 : Int} {f2 : Bool} {d : List Int} {av : Option Addr} {cv : Nat} {a : Act} (h : DE B g w wr rb mb f0 f1 f2 f3 f4 f5 f6 d av cv) (hd : d.length ≤ 3) (ha : a.tmps[2]? = some (.pointer (some ⟨rb, 0, none⟩))) (hdf : a.defers = []) :
    bodyPost Tryz.prog Tryz.f110 (fun e w' => zJM B g w e w') Exit.ret a ((((((((wr.setCell ⟨rb, 0, none⟩ (nI f0)).setCell ⟨rb, 1, none⟩ (nI f1)).setCell ⟨rb, 2, none⟩ (.bool f2)).setCell ⟨rb, 3, none⟩ (nI f3)).setCell ⟨rb, 4, none⟩ (nI f4)).setCell ⟨rb, 5, none⟩ (nI f5)).setCell ⟨rb, 6, none⟩ (nI f6)).setCell ⟨rb, 7, none⟩ (sL av d.length cv)) := by
 obtain ⟨n, j, f, k, c, l, o, i⟩ := zAk (zKN (y0 := nI f0) (y1 := nI f1) (y2 := .bool f2) (y3 := nI f3) (y4 := nI f4) (y5 := nI f5) (y6 := nI f6) (y7 := sL av d.length cv) h.res);have m : Chg (fun b => b = rb) wr ((((((((wr.setCell ⟨rb, 0, none⟩ (nI f0)).setCell ⟨rb, 1, none⟩ (nI f1)).setCell ⟨rb, 2, none⟩ (.bool f2)).setCell ⟨rb, 3, none⟩ (nI f3)).setCell ⟨rb, 4, none⟩ (nI f4)).setCell ⟨rb, 5, none⟩ (nI f5)).setCell ⟨rb, 6, none⟩ (nI f6)).setCell ⟨rb, 7, none⟩ (sL av d.length cv)) := (((((((zAO).trans zAO).trans zAO).trans zAO).trans zAO).trans zAO).trans zAO).trans zAO;generalize ((((((((wr.setCell ⟨rb, 0, none⟩ (nI f0)).setCell ⟨rb, 1, none⟩ (nI f1)).setCell ⟨rb, 2, none⟩ (.bool f2)).setCell ⟨rb, 3, none⟩ (nI f3)).setCell ⟨rb, 4, none⟩ (nI f4)).setCell ⟨rb, 5, none⟩ (nI f5)).setCell ⟨rb, 6, none⟩ (nI f6)).setCell ⟨rb, 7, none⟩ (sL av d.length cv)) = W at n j f k c l o i m ⊢;exact bodyPost_ret (v := .agg #[nI f0, nI f1, .bool f2, nI f3, nI f4, nI f5, nI f6, sL av d.length cv]) (by simp [results, Tryz.results110, go_sem, ha, n, j, f, k, c, l, o, i]) hdf ⟨f0, f1, f2, f3, f4, f5, f6, d, av, cv, rfl, hd, zEE h m⟩
theorem zGt (B g : Nat) (w : World) (hcur : Cur B w g) :
    Calls Tryz.prog 110 #[.pointer (some ⟨g, 0, none⟩)] w fun e w' => zJM B g w e w' := by
 have MA := zBX hcur;have cB := hcur.1;have X0 := zAw w (.cells #[nI 0, nI 0, .bool false, nI 0, nI 0, nI 0, nI 0, sL none 0 0] 48);have G0 := zAg w (.cells #[nI 0, nI 0, .bool false, nI 0, nI 0, nI 0, nI 0, sL none 0 0] 48);have C0 := zAQ hcur (.cells #[nI 0, nI 0, .bool false, nI 0, nI 0, nI 0, nI 0, sL none 0 0] 48);go_enter Tryz.func110, Tryz.ntmps110;go_wp2_with fail
 generalize w.alloc (.cells #[nI 0, nI 0, .bool false, nI 0, nI 0, nI 0, nI 0, sL none 0 0] 48) = W0 at X0 G0 C0 ⊢;refine (zDV _).mono ?_;rintro e w1 ⟨rfl, b1⟩;replace X0 := zAb b1 X0;replace C0 := zKz C0 b1;replace G0 := zAa G0 b1;clear b1;go_wp2_with fail
 have NA := (ltH X0);have D := dc_of (db_new (R := zB6) (t := 48) (cs := [nI (-1), nI 0, .bool false, nI 0, nI 0, nI 0, nI 0, sL none 0 0]) (x := newE) (zBp G0) C0 X0 (zB3 i64_m zBN zBN zBN zBN zBN (zD3 _ _)) (Nat.le_refl _) (by omega) MA);generalize w1.alloc (.cells #[nI (-1), nI 0, .bool false, nI 0, nI 0, nI 0, nI 0, sL none 0 0] 48) = W1 at D ⊢;generalize w1.heap.size = mb at D ⊢;clear X0 G0 C0 NA;replace D : DE B g w W1 w.heap.size mb (-1) 0 false 0 0 0 0 [] none 0 := D;have fA : ([] : List Int).length ≤ 3 := by decide
 have C := D.cur;refine (zBy B g 2 _ C (by omega) (by omega)).mono ?_;rintro e v1 ⟨b, rfl, l, j⟩;replace D := zAZ D j l;clear C j l;cases b
 ·skip
  obtain ⟨p, m1, Z, m, N, m5, s, m7⟩ := zAk D.box;obtain ⟨Y, H, A, X, E, G, V, J⟩ := zA3 D.box;obtain ⟨r, S, O, I, q, F, U, v⟩ := zAk D.res;obtain ⟨M, L, T, K, z, n, o, q7⟩ := zA3 D.res;have f := D.lt;have c : ¬ w.heap.size = mb := by omega
  have d : ¬ mb = w.heap.size := by omega
  go_wp2_with fail
  clear p m1 Z m N m5 s m7 Y H A X E G V J r S O I q F U v M L T K z n o q7 f c d;have C := D.cur;refine (zAp B g 16 _ C (by omega) (by omega)).mono ?_;rintro e v2 ⟨y, rfl, y0, y1, l, j⟩;replace D := zAZ D j l;clear C j l;have hy : zA4 y := zBe (by omega) (by omega);have i : Hid _ := zLO D hy;obtain ⟨p, m1, Z, m, N, m5, s, m7⟩ := zAk D.box;obtain ⟨Y, H, A, X, E, G, V, J⟩ := zA3 D.box;obtain ⟨r, S, O, I, q, F, U, v⟩ := zAk D.res;obtain ⟨M, L, T, K, z, n, o, q7⟩ := zA3 D.res;have f := D.lt;have c : ¬ w.heap.size = mb := by omega
  have d : ¬ mb = w.heap.size := by omega
  clear D;go_wp2_with fail
  have D := i.out;clear i p m1 Z m N m5 s m7 Y H A X E G V J r S O I q F U v M L T K z n o q7 f c d;have C := D.cur;refine (zBy B g 2 _ C (by omega) (by omega)).mono ?_;rintro e v3 ⟨b, rfl, l, j⟩;replace D := zAZ D j l;clear C j l;cases b
  ·have hd := fA;have i : Hid _ := D;have HE : Hid (∀ a : Act, _ → _ → _) := fun a ha hdf => zBE (a := a) i.out hd ha hdf;obtain ⟨p, m1, Z, m, N, m5, s, m7⟩ := zAk D.box;obtain ⟨Y, H, A, X, E, G, V, J⟩ := zA3 D.box;obtain ⟨r, S, O, I, q, F, U, v⟩ := zAk D.res;obtain ⟨M, L, T, K, z, n, o, q7⟩ := zA3 D.res;have f := D.lt;have c : ¬ w.heap.size = mb := by omega
   have d : ¬ mb = w.heap.size := by omega
   clear D;go_wp2;exact HE.out _ rfl rfl
  ·skip
   have i : Hid _ := zLP (x := true) D;obtain ⟨p, m1, Z, m, N, m5, s, m7⟩ := zAk D.box;obtain ⟨Y, H, A, X, E, G, V, J⟩ := zA3 D.box;obtain ⟨r, S, O, I, q, F, U, v⟩ := zAk D.res;obtain ⟨M, L, T, K, z, n, o, q7⟩ := zA3 D.res;have f := D.lt;have c : ¬ w.heap.size = mb := by omega
   have d : ¬ mb = w.heap.size := by omega
   clear D;go_wp2_with fail
   have D := i.out;clear i p m1 Z m N m5 s m7 Y H A X E G V J r S O I q F U v M L T K z n o q7 f c d;have C := D.cur;refine (zAp B g 4 _ C (by omega) (by omega)).mono ?_;rintro e v4 ⟨kd, rfl, RA, JA, l, j⟩;replace D := zAZ D j l;clear C j l;have hk : zA4 (1 + kd) := zBe (by omega) (by omega);have i : Hid _ := zJk D hk;obtain ⟨p, m1, Z, m, N, m5, s, m7⟩ := zAk D.box;obtain ⟨Y, H, A, X, E, G, V, J⟩ := zA3 D.box;obtain ⟨r, S, O, I, q, F, U, v⟩ := zAk D.res;obtain ⟨M, L, T, K, z, n, o, q7⟩ := zA3 D.res;have f := D.lt;have c : ¬ w.heap.size = mb := by omega
   have d : ¬ mb = w.heap.size := by omega
   clear D;go_wp2_with fail
   have D := i.out;clear i p m1 Z m N m5 s m7 Y H A X E G V J r S O I q F U v M L T K z n o q7 f c d;have C := D.cur;refine (zAp B g 4 _ C (by omega) (by omega)).mono ?_;rintro e v5 ⟨fr, rfl, VA, TA, l, j⟩;replace D := zAZ D j l;clear C j l;have qA : zA4 fr := zBe (by omega) (by omega);have i : Hid _ := zEF D qA;obtain ⟨p, m1, Z, m, N, m5, s, m7⟩ := zAk D.box;obtain ⟨Y, H, A, X, E, G, V, J⟩ := zA3 D.box;obtain ⟨r, S, O, I, q, F, U, v⟩ := zAk D.res;obtain ⟨M, L, T, K, z, n, o, q7⟩ := zA3 D.res;have f := D.lt;have c : ¬ w.heap.size = mb := by omega
   have d : ¬ mb = w.heap.size := by omega
   clear D;go_wp2_with fail
   have D := i.out;clear i p m1 Z m N m5 s m7 Y H A X E G V J r S O I q F U v M L T K z n o q7 f c d;have C := D.cur;refine (zAp B g 4 _ C (by omega) (by omega)).mono ?_;rintro e v6 ⟨lf, rfl, FA, LA, l, j⟩;replace D := zAZ D j l;clear C j l;have gA : zA4 lf := zBe (by omega) (by omega);have jA : zA4 (lf + 1) := zBe (by omega) (by omega);have i5 : zA4 5 := zBe (by omega) (by omega);obtain rfl | rfl | rfl | rfl : kd = 0 ∨ kd = 1 ∨ kd = 2 ∨ kd = 3 := by omega
   ·have hd := fA;have i : Hid _ := zCG D gA;have HE : Hid (∀ a : Act, _ → _ → _) := fun a ha hdf => zBE (a := a) i.out hd ha hdf;obtain ⟨p, m1, Z, m, N, m5, s, m7⟩ := zAk D.box;obtain ⟨Y, H, A, X, E, G, V, J⟩ := zA3 D.box;obtain ⟨r, S, O, I, q, F, U, v⟩ := zAk D.res;obtain ⟨M, L, T, K, z, n, o, q7⟩ := zA3 D.res;have f := D.lt;have c : ¬ w.heap.size = mb := by omega
    have d : ¬ mb = w.heap.size := by omega
    clear D;go_wp2;exact HE.out _ rfl rfl
   ·have hd := fA;have i : Hid _ := zCG D gA;have HE : Hid (∀ a : Act, _ → _ → _) := fun a ha hdf => zBE (a := a) i.out hd ha hdf;obtain ⟨p, m1, Z, m, N, m5, s, m7⟩ := zAk D.box;obtain ⟨Y, H, A, X, E, G, V, J⟩ := zA3 D.box;obtain ⟨r, S, O, I, q, F, U, v⟩ := zAk D.res;obtain ⟨M, L, T, K, z, n, o, q7⟩ := zA3 D.res;have f := D.lt;have c : ¬ w.heap.size = mb := by omega
    have d : ¬ mb = w.heap.size := by omega
    clear D;go_wp2;exact HE.out _ rfl rfl
   ·have hd := fA;have i : Hid _ := zCG (zEF (zCG D gA) i5) jA;have HE : Hid (∀ a : Act, _ → _ → _) := fun a ha hdf => zBE (a := a) i.out hd ha hdf;obtain ⟨p, m1, Z, m, N, m5, s, m7⟩ := zAk D.box;obtain ⟨Y, H, A, X, E, G, V, J⟩ := zA3 D.box;obtain ⟨r, S, O, I, q, F, U, v⟩ := zAk D.res;obtain ⟨M, L, T, K, z, n, o, q7⟩ := zA3 D.res;have f := D.lt;have c : ¬ w.heap.size = mb := by omega
    have d : ¬ mb = w.heap.size := by omega
    clear D;go_wp2;exact HE.out _ rfl rfl
   ·have hd := fA;have i : Hid _ := zCG (zEF (zCG D gA) i5) jA;obtain ⟨p, m1, Z, m, N, m5, s, m7⟩ := zAk D.box;obtain ⟨Y, H, A, X, E, G, V, J⟩ := zA3 D.box;obtain ⟨r, S, O, I, q, F, U, v⟩ := zAk D.res;obtain ⟨M, L, T, K, z, n, o, q7⟩ := zA3 D.res;have f := D.lt;have c : ¬ w.heap.size = mb := by omega
    have d : ¬ mb = w.heap.size := by omega
    clear D;go_wp2_with fail
    have D := i.out;clear i p m1 Z m N m5 s m7 Y H A X E G V J r S O I q F U v M L T K z n o q7 f c d;have C := D.cur;refine (zAp B g 4 _ C (by omega) (by omega)).mono ?_;rintro e v7 ⟨mk, rfl, OA, HA, l, j⟩;replace D := zAZ D j l;clear C j l;have mA : zA4 mk := zBe (by omega) (by omega);have i : Hid _ := zLQ D mA;obtain ⟨p, m1, Z, m, N, m5, s, m7⟩ := zAk D.box;obtain ⟨Y, H, A, X, E, G, V, J⟩ := zA3 D.box;obtain ⟨r, S, O, I, q, F, U, v⟩ := zAk D.res;obtain ⟨M, L, T, K, z, n, o, q7⟩ := zA3 D.res;have f := D.lt;have c : ¬ w.heap.size = mb := by omega
    have d : ¬ mb = w.heap.size := by omega
    clear D;go_wp2_with fail
    have D := i.out;clear i p m1 Z m N m5 s m7 Y H A X E G V J r S O I q F U v M L T K z n o q7 f c d;have C := D.cur;have f := D.lt;refine (zCi B g _ C).mono ?_;rintro e v8 ⟨gl, lx, ly, rfl, XA, oA, OL, l, j⟩;have SA := j.size;have EA := (zCX OL).2;replace D := zAZ D j l;have lA : zAm.own v8 (fun k => w.heap.size < k ∧ k < v8.heap.size ∧ k ≠ mb) [sL (some ⟨gl, 0, none⟩) ([lx, ly] : List Int).length 2] [lx, ly] := zGE OL ⟨by omega, by omega, by omega⟩ oA;have pA : ([lx, ly] : List Int).length ≤ 3 := by simp
    clear C j l f OL hd;have hd := pA;have i : Hid _ := zJl D lA;have HE : Hid (∀ a : Act, _ → _ → _) := fun a ha hdf => zBE (a := a) i.out hd ha hdf;obtain ⟨p, m1, Z, m, N, m5, s, m7⟩ := zAk D.box;obtain ⟨Y, H, A, X, E, G, V, J⟩ := zA3 D.box;obtain ⟨r, S, O, I, q, F, U, v⟩ := zAk D.res;obtain ⟨M, L, T, K, z, n, o, q7⟩ := zA3 D.res;have f := D.lt;have c : ¬ w.heap.size = mb := by omega
    have d : ¬ mb = w.heap.size := by omega
    clear D;go_wp2;exact HE.out _ rfl rfl
 ·skip
  obtain ⟨p, m1, Z, m, N, m5, s, m7⟩ := zAk D.box;obtain ⟨Y, H, A, X, E, G, V, J⟩ := zA3 D.box;obtain ⟨r, S, O, I, q, F, U, v⟩ := zAk D.res;obtain ⟨M, L, T, K, z, n, o, q7⟩ := zA3 D.res;have f := D.lt;have c : ¬ w.heap.size = mb := by omega
  have d : ¬ mb = w.heap.size := by omega
  go_wp2_with fail
  clear p m1 Z m N m5 s m7 Y H A X E G V J r S O I q F U v M L T K z n o q7 f c d;have C := D.cur;refine (zAp B g 4 _ C (by omega) (by omega)).mono ?_;rintro e v9 ⟨y, rfl, y0, y1, l, j⟩;replace D := zAZ D j l;clear C j l;have hy : zA4 y := zBe (by omega) (by omega);have i : Hid _ := zLN D hy;obtain ⟨p, m1, Z, m, N, m5, s, m7⟩ := zAk D.box;obtain ⟨Y, H, A, X, E, G, V, J⟩ := zA3 D.box;obtain ⟨r, S, O, I, q, F, U, v⟩ := zAk D.res;obtain ⟨M, L, T, K, z, n, o, q7⟩ := zA3 D.res;have f := D.lt;have c : ¬ w.heap.size = mb := by omega
  have d : ¬ mb = w.heap.size := by omega
  clear D;go_wp2_with fail
  have D := i.out;clear i p m1 Z m N m5 s m7 Y H A X E G V J r S O I q F U v M L T K z n o q7 f c d;have C := D.cur;refine (zBy B g 2 _ C (by omega) (by omega)).mono ?_;rintro e bB ⟨b, rfl, l, j⟩;replace D := zAZ D j l;clear C j l;cases b
  ·have hd := fA;have i : Hid _ := D;have HE : Hid (∀ a : Act, _ → _ → _) := fun a ha hdf => zBE (a := a) i.out hd ha hdf;obtain ⟨p, m1, Z, m, N, m5, s, m7⟩ := zAk D.box;obtain ⟨Y, H, A, X, E, G, V, J⟩ := zA3 D.box;obtain ⟨r, S, O, I, q, F, U, v⟩ := zAk D.res;obtain ⟨M, L, T, K, z, n, o, q7⟩ := zA3 D.res;have f := D.lt;have c : ¬ w.heap.size = mb := by omega
   have d : ¬ mb = w.heap.size := by omega
   clear D;go_wp2;exact HE.out _ rfl rfl
  ·skip
   have i : Hid _ := zLP (x := true) D;obtain ⟨p, m1, Z, m, N, m5, s, m7⟩ := zAk D.box;obtain ⟨Y, H, A, X, E, G, V, J⟩ := zA3 D.box;obtain ⟨r, S, O, I, q, F, U, v⟩ := zAk D.res;obtain ⟨M, L, T, K, z, n, o, q7⟩ := zA3 D.res;have f := D.lt;have c : ¬ w.heap.size = mb := by omega
   have d : ¬ mb = w.heap.size := by omega
   clear D;go_wp2_with fail
   have D := i.out;clear i p m1 Z m N m5 s m7 Y H A X E G V J r S O I q F U v M L T K z n o q7 f c d;have C := D.cur;refine (zAp B g 4 _ C (by omega) (by omega)).mono ?_;rintro e iB ⟨kd, rfl, RA, JA, l, j⟩;replace D := zAZ D j l;clear C j l;have hk : zA4 (1 + kd) := zBe (by omega) (by omega);have i : Hid _ := zJk D hk;obtain ⟨p, m1, Z, m, N, m5, s, m7⟩ := zAk D.box;obtain ⟨Y, H, A, X, E, G, V, J⟩ := zA3 D.box;obtain ⟨r, S, O, I, q, F, U, v⟩ := zAk D.res;obtain ⟨M, L, T, K, z, n, o, q7⟩ := zA3 D.res;have f := D.lt;have c : ¬ w.heap.size = mb := by omega
   have d : ¬ mb = w.heap.size := by omega
   clear D;go_wp2_with fail
   have D := i.out;clear i p m1 Z m N m5 s m7 Y H A X E G V J r S O I q F U v M L T K z n o q7 f c d;have C := D.cur;refine (zAp B g 4 _ C (by omega) (by omega)).mono ?_;rintro e jB ⟨fr, rfl, VA, TA, l, j⟩;replace D := zAZ D j l;clear C j l;have qA : zA4 fr := zBe (by omega) (by omega);have i : Hid _ := zEF D qA;obtain ⟨p, m1, Z, m, N, m5, s, m7⟩ := zAk D.box;obtain ⟨Y, H, A, X, E, G, V, J⟩ := zA3 D.box;obtain ⟨r, S, O, I, q, F, U, v⟩ := zAk D.res;obtain ⟨M, L, T, K, z, n, o, q7⟩ := zA3 D.res;have f := D.lt;have c : ¬ w.heap.size = mb := by omega
   have d : ¬ mb = w.heap.size := by omega
   clear D;go_wp2_with fail
   have D := i.out;clear i p m1 Z m N m5 s m7 Y H A X E G V J r S O I q F U v M L T K z n o q7 f c d;have C := D.cur;refine (zAp B g 4 _ C (by omega) (by omega)).mono ?_;rintro e fB ⟨lf, rfl, FA, LA, l, j⟩;replace D := zAZ D j l;clear C j l;have gA : zA4 lf := zBe (by omega) (by omega);have jA : zA4 (lf + 1) := zBe (by omega) (by omega);have i5 : zA4 5 := zBe (by omega) (by omega);obtain rfl | rfl | rfl | rfl : kd = 0 ∨ kd = 1 ∨ kd = 2 ∨ kd = 3 := by omega
   ·have hd := fA;have i : Hid _ := zCG D gA;have HE : Hid (∀ a : Act, _ → _ → _) := fun a ha hdf => zBE (a := a) i.out hd ha hdf;obtain ⟨p, m1, Z, m, N, m5, s, m7⟩ := zAk D.box;obtain ⟨Y, H, A, X, E, G, V, J⟩ := zA3 D.box;obtain ⟨r, S, O, I, q, F, U, v⟩ := zAk D.res;obtain ⟨M, L, T, K, z, n, o, q7⟩ := zA3 D.res;have f := D.lt;have c : ¬ w.heap.size = mb := by omega
    have d : ¬ mb = w.heap.size := by omega
    clear D;go_wp2;exact HE.out _ rfl rfl
   ·have hd := fA;have i : Hid _ := zCG D gA;have HE : Hid (∀ a : Act, _ → _ → _) := fun a ha hdf => zBE (a := a) i.out hd ha hdf;obtain ⟨p, m1, Z, m, N, m5, s, m7⟩ := zAk D.box;obtain ⟨Y, H, A, X, E, G, V, J⟩ := zA3 D.box;obtain ⟨r, S, O, I, q, F, U, v⟩ := zAk D.res;obtain ⟨M, L, T, K, z, n, o, q7⟩ := zA3 D.res;have f := D.lt;have c : ¬ w.heap.size = mb := by omega
    have d : ¬ mb = w.heap.size := by omega
    clear D;go_wp2;exact HE.out _ rfl rfl
   ·have hd := fA;have i : Hid _ := zCG (zEF (zCG D gA) i5) jA;have HE : Hid (∀ a : Act, _ → _ → _) := fun a ha hdf => zBE (a := a) i.out hd ha hdf;obtain ⟨p, m1, Z, m, N, m5, s, m7⟩ := zAk D.box;obtain ⟨Y, H, A, X, E, G, V, J⟩ := zA3 D.box;obtain ⟨r, S, O, I, q, F, U, v⟩ := zAk D.res;obtain ⟨M, L, T, K, z, n, o, q7⟩ := zA3 D.res;have f := D.lt;have c : ¬ w.heap.size = mb := by omega
    have d : ¬ mb = w.heap.size := by omega
    clear D;go_wp2;exact HE.out _ rfl rfl
   ·have hd := fA;have i : Hid _ := zCG (zEF (zCG D gA) i5) jA;obtain ⟨p, m1, Z, m, N, m5, s, m7⟩ := zAk D.box;obtain ⟨Y, H, A, X, E, G, V, J⟩ := zA3 D.box;obtain ⟨r, S, O, I, q, F, U, v⟩ := zAk D.res;obtain ⟨M, L, T, K, z, n, o, q7⟩ := zA3 D.res;have f := D.lt;have c : ¬ w.heap.size = mb := by omega
    have d : ¬ mb = w.heap.size := by omega
    clear D;go_wp2_with fail
    have D := i.out;clear i p m1 Z m N m5 s m7 Y H A X E G V J r S O I q F U v M L T K z n o q7 f c d;have C := D.cur;refine (zAp B g 4 _ C (by omega) (by omega)).mono ?_;rintro e dB ⟨mk, rfl, OA, HA, l, j⟩;replace D := zAZ D j l;clear C j l;have mA : zA4 mk := zBe (by omega) (by omega);have i : Hid _ := zLQ D mA;obtain ⟨p, m1, Z, m, N, m5, s, m7⟩ := zAk D.box;obtain ⟨Y, H, A, X, E, G, V, J⟩ := zA3 D.box;obtain ⟨r, S, O, I, q, F, U, v⟩ := zAk D.res;obtain ⟨M, L, T, K, z, n, o, q7⟩ := zA3 D.res;have f := D.lt;have c : ¬ w.heap.size = mb := by omega
    have d : ¬ mb = w.heap.size := by omega
    clear D;go_wp2_with fail
    have D := i.out;clear i p m1 Z m N m5 s m7 Y H A X E G V J r S O I q F U v M L T K z n o q7 f c d;have C := D.cur;have f := D.lt;refine (zCi B g _ C).mono ?_;rintro e AA ⟨gl, lx, ly, rfl, XA, oA, OL, l, j⟩;have SA := j.size;have EA := (zCX OL).2;replace D := zAZ D j l;have lA : zAm.own AA (fun k => w.heap.size < k ∧ k < AA.heap.size ∧ k ≠ mb) [sL (some ⟨gl, 0, none⟩) ([lx, ly] : List Int).length 2] [lx, ly] := zGE OL ⟨by omega, by omega, by omega⟩ oA;have pA : ([lx, ly] : List Int).length ≤ 3 := by simp
    clear C j l f OL hd;have hd := pA;have i : Hid _ := zJl D lA;have HE : Hid (∀ a : Act, _ → _ → _) := fun a ha hdf => zBE (a := a) i.out hd ha hdf;obtain ⟨p, m1, Z, m, N, m5, s, m7⟩ := zAk D.box;obtain ⟨Y, H, A, X, E, G, V, J⟩ := zA3 D.box;obtain ⟨r, S, O, I, q, F, U, v⟩ := zAk D.res;obtain ⟨M, L, T, K, z, n, o, q7⟩ := zA3 D.res;have f := D.lt;have c : ¬ w.heap.size = mb := by omega
    have d : ¬ mb = w.heap.size := by omega
    clear D;go_wp2;exact HE.out _ rfl rfl
theorem zBF {B g rb mb : Nat} {w wr : World} {f0 f1 f3 f4 f5 f6 : Int} {f2 : Bool} {d : List Int} {av : Option Addr} {cv : Nat} {a : Act} (h : DE B g w wr rb mb f0 f1 f2 f3 f4 f5 f6 d av cv) (hd : d.length ≤ 3) (ha : a.tmps[2]? = some (.pointer (some ⟨rb, 0, none⟩))) (hdf : a.defers = []) :
    bodyPost Tryz.prog Tryz.f78 (fun e w' => zJM B g w e w') Exit.ret a ((((((((wr.setCell ⟨rb, 0, none⟩ (nI f0)).setCell ⟨rb, 1, none⟩ (nI f1)).setCell ⟨rb, 2, none⟩ (.bool f2)).setCell ⟨rb, 3, none⟩ (nI f3)).setCell ⟨rb, 4, none⟩ (nI f4)).setCell ⟨rb, 5, none⟩ (nI f5)).setCell ⟨rb, 6, none⟩ (nI f6)).setCell ⟨rb, 7, none⟩ (sL av d.length cv)) := by
 obtain ⟨n, j, f, k, c, l, o, i⟩ := zAk (zKN (y0 := nI f0) (y1 := nI f1) (y2 := .bool f2) (y3 := nI f3) (y4 := nI f4) (y5 := nI f5) (y6 := nI f6) (y7 := sL av d.length cv) h.res);have m : Chg (fun b => b = rb) wr ((((((((wr.setCell ⟨rb, 0, none⟩ (nI f0)).setCell ⟨rb, 1, none⟩ (nI f1)).setCell ⟨rb, 2, none⟩ (.bool f2)).setCell ⟨rb, 3, none⟩ (nI f3)).setCell ⟨rb, 4, none⟩ (nI f4)).setCell ⟨rb, 5, none⟩ (nI f5)).setCell ⟨rb, 6, none⟩ (nI f6)).setCell ⟨rb, 7, none⟩ (sL av d.length cv)) := (((((((zAO).trans zAO).trans zAO).trans zAO).trans zAO).trans zAO).trans zAO).trans zAO;generalize ((((((((wr.setCell ⟨rb, 0, none⟩ (nI f0)).setCell ⟨rb, 1, none⟩ (nI f1)).setCell ⟨rb, 2, none⟩ (.bool f2)).setCell ⟨rb, 3, none⟩ (nI f3)).setCell ⟨rb, 4, none⟩ (nI f4)).setCell ⟨rb, 5, none⟩ (nI f5)).setCell ⟨rb, 6, none⟩ (nI f6)).setCell ⟨rb, 7, none⟩ (sL av d.length cv)) = W at n j f k c l o i m ⊢;exact bodyPost_ret (v := .agg #[nI f0, nI f1, .bool f2, nI f3, nI f4, nI f5, nI f6, sL av d.length cv]) (by simp [results, Tryz.results78, go_sem, ha, n, j, f, k, c, l, o, i]) hdf ⟨f0, f1, f2, f3, f4, f5, f6, d, av, cv, rfl, hd, zEE h m⟩
theorem zGA (B g : Nat) (w : World) (hcur : Cur B w g) :
    Calls Tryz.prog 78 #[.pointer (some ⟨g, 0, none⟩)] w fun e w' => zJM B g w e w' := by
 have sA := zBX hcur;have VA := hcur.1;have X0 := zAw w (.cells #[nI 0, nI 0, .bool false, nI 0, nI 0, nI 0, nI 0, sL none 0 0] 48);have G0 := zAg w (.cells #[nI 0, nI 0, .bool false, nI 0, nI 0, nI 0, nI 0, sL none 0 0] 48);have C0 := zAQ hcur (.cells #[nI 0, nI 0, .bool false, nI 0, nI 0, nI 0, nI 0, sL none 0 0] 48);go_enter Tryz.func78, Tryz.ntmps78;go_wp2_with fail
 generalize w.alloc (.cells #[nI 0, nI 0, .bool false, nI 0, nI 0, nI 0, nI 0, sL none 0 0] 48) = W0 at X0 G0 C0 ⊢;refine (zGt B g _ C0).mono ?_;rintro e w1 ⟨f0, f1, f2, f3, f4, f5, f6, d, av, cv, rfl, hd, DR⟩;have D := zLM (t := 48) DR (zBp G0) X0 (Nat.le_refl _) sA;clear DR C0 G0 X0;have HD : Hid _ := D;clear D;go_wp2_with fail
 have D := HD.out;clear HD;generalize w1.alloc (.cells #[nI f0, nI f1, .bool f2, nI f3, nI f4, nI f5, nI f6, sL av d.length cv] 48) = W1 at D ⊢;generalize w1.heap.size = mb at D ⊢;replace D : DE B g w W1 w.heap.size mb f0 f1 f2 f3 f4 f5 f6 d av cv := D;have C := D.cur;refine (zBy B g 8 _ C (by omega) (by omega)).mono ?_;rintro e v1 ⟨b, rfl, m, l⟩;replace D := zAZ D l m;clear C l m;cases b
 ·skip
  have HN : Hid _ := D;have HE : Hid (∀ a : Act, _ → _ → _) := fun a ha hdf => zBF (a := a) HN.out hd ha hdf;obtain ⟨r, m1, m2, o, S, m5, A, m7⟩ := zAk D.box;obtain ⟨s0, K, G, Z, H, J, Y, M⟩ := zA3 D.box;obtain ⟨z, U, T, L, s, I, X, E⟩ := zAk D.res;obtain ⟨R, O, V, N, F, p, q, q7⟩ := zA3 D.res;have i := D.lt;have c : ¬ w.heap.size = mb := by omega
  have f : ¬ mb = w.heap.size := by omega
  clear D;go_wp2;exact HE.out _ rfl rfl
 ·skip
  obtain ⟨r, m1, m2, o, S, m5, A, m7⟩ := zAk D.box;obtain ⟨s0, K, G, Z, H, J, Y, M⟩ := zA3 D.box;obtain ⟨z, U, T, L, s, I, X, E⟩ := zAk D.res;obtain ⟨R, O, V, N, F, p, q, q7⟩ := zA3 D.res;have i := D.lt;have c : ¬ w.heap.size = mb := by omega
  have f : ¬ mb = w.heap.size := by omega
  go_wp2_with fail
  clear r m1 m2 o S m5 A m7 s0 K G Z H J Y M z U T L s I X E R O V N F p q q7 i c f;have C := D.cur;refine (zAp B g 6 _ C (by omega) (by omega)).mono ?_;rintro e v2 ⟨k, rfl, k0, k1, m, l⟩;replace D := zAZ D l m;clear C l m;obtain rfl | rfl | rfl | rfl | rfl | rfl : k = 0 ∨ k = 1 ∨ k = 2 ∨ k = 3 ∨ k = 4 ∨ k = 5 := by omega
  ·skip
   obtain ⟨r, m1, m2, o, S, m5, A, m7⟩ := zAk D.box;obtain ⟨s0, K, G, Z, H, J, Y, M⟩ := zA3 D.box;obtain ⟨z, U, T, L, s, I, X, E⟩ := zAk D.res;obtain ⟨R, O, V, N, F, p, q, q7⟩ := zA3 D.res;have i := D.lt;have c : ¬ w.heap.size = mb := by omega
   have f : ¬ mb = w.heap.size := by omega
   have lA := zBX D.cur;go_wp2_with fail
   clear r m1 m2 o S m5 A m7 s0 K G Z H J Y M z U T L s I X E R O V N F p q q7 i c f;have C := zAQ D.cur (.cells #[nI (-2), nI 3, nI 4] 2);refine (zAp B g 3 _ C (by omega) (by omega)).mono ?_;rintro e v3 ⟨k, rfl, k0, k1, m, l⟩
   obtain ⟨y, hy, jA⟩ := zCd (n := 3) l lA k k0 k1 (by
    intro j hj;obtain rfl | rfl | rfl : j = 0 ∨ j = 1 ∨ j = 2 := by omega
    all_goals exact ⟨_, rfl, by decide, by decide⟩)
   replace D := zAZ (zJL D _) l m;clear C m l;have HN : Hid _ := zLN D jA;have HE : Hid (∀ a : Act, _ → _ → _) := fun a ha hdf => zBF (a := a) HN.out hd ha hdf;obtain ⟨r, m1, m2, o, S, m5, A, m7⟩ := zAk D.box;obtain ⟨s0, K, G, Z, H, J, Y, M⟩ := zA3 D.box;obtain ⟨z, U, T, L, s, I, X, E⟩ := zAk D.res;obtain ⟨R, O, V, N, F, p, q, q7⟩ := zA3 D.res;have i := D.lt;have c : ¬ w.heap.size = mb := by omega
   have f : ¬ mb = w.heap.size := by omega
   clear D;go_wp2;exact HE.out _ rfl rfl
  ·skip
   obtain ⟨r, m1, m2, o, S, m5, A, m7⟩ := zAk D.box;obtain ⟨s0, K, G, Z, H, J, Y, M⟩ := zA3 D.box;obtain ⟨z, U, T, L, s, I, X, E⟩ := zAk D.res;obtain ⟨R, O, V, N, F, p, q, q7⟩ := zA3 D.res;have i := D.lt;have c : ¬ w.heap.size = mb := by omega
   have f : ¬ mb = w.heap.size := by omega
   have lA := zBX D.cur;go_wp2_with fail
   clear r m1 m2 o S m5 A m7 s0 K G Z H J Y M z U T L s I X E R O V N F p q q7 i c f;have C := zAQ D.cur (.cells #[nI (-1), nI 15, nI 16] 2);refine (zAp B g 3 _ C (by omega) (by omega)).mono ?_;rintro e v4 ⟨k, rfl, k0, k1, m, l⟩
   obtain ⟨y, hy, jA⟩ := zCd (n := 3) l lA k k0 k1 (by
    intro j hj;obtain rfl | rfl | rfl : j = 0 ∨ j = 1 ∨ j = 2 := by omega
    all_goals exact ⟨_, rfl, by decide, by decide⟩)
   replace D := zAZ (zJL D _) l m;clear C m l;have HN : Hid _ := zLO D jA;have HE : Hid (∀ a : Act, _ → _ → _) := fun a ha hdf => zBF (a := a) HN.out hd ha hdf;obtain ⟨r, m1, m2, o, S, m5, A, m7⟩ := zAk D.box;obtain ⟨s0, K, G, Z, H, J, Y, M⟩ := zA3 D.box;obtain ⟨z, U, T, L, s, I, X, E⟩ := zAk D.res;obtain ⟨R, O, V, N, F, p, q, q7⟩ := zA3 D.res;have i := D.lt;have c : ¬ w.heap.size = mb := by omega
   have f : ¬ mb = w.heap.size := by omega
   clear D;go_wp2;exact HE.out _ rfl rfl
  ·skip
   obtain ⟨r, m1, m2, o, S, m5, A, m7⟩ := zAk D.box;obtain ⟨s0, K, G, Z, H, J, Y, M⟩ := zA3 D.box;obtain ⟨z, U, T, L, s, I, X, E⟩ := zAk D.res;obtain ⟨R, O, V, N, F, p, q, q7⟩ := zA3 D.res;have i := D.lt;have c : ¬ w.heap.size = mb := by omega
   have f : ¬ mb = w.heap.size := by omega
   go_wp2_with fail
   clear r m1 m2 o S m5 A m7 s0 K G Z H J Y M z U T L s I X E R O V N F p q q7 i c f;have C := D.cur;refine (zEl B g (-1) 7 _ C (by omega) (by omega) (by omega) (by omega)).mono ?_;rintro e v5 ⟨y, rfl, y0, y1, m, l⟩;replace D := zAZ D l m;clear C l m;have hy : zA4 y := zBe (by omega) (by omega);have HN : Hid _ := zJk D hy;have HE : Hid (∀ a : Act, _ → _ → _) := fun a ha hdf => zBF (a := a) HN.out hd ha hdf;obtain ⟨r, m1, m2, o, S, m5, A, m7⟩ := zAk D.box;obtain ⟨s0, K, G, Z, H, J, Y, M⟩ := zA3 D.box;obtain ⟨z, U, T, L, s, I, X, E⟩ := zAk D.res;obtain ⟨R, O, V, N, F, p, q, q7⟩ := zA3 D.res;have i := D.lt;have c : ¬ w.heap.size = mb := by omega
   have f : ¬ mb = w.heap.size := by omega
   clear D;go_wp2;exact HE.out _ rfl rfl
  ·skip
   obtain ⟨r, m1, m2, o, S, m5, A, m7⟩ := zAk D.box;obtain ⟨s0, K, G, Z, H, J, Y, M⟩ := zA3 D.box;obtain ⟨z, U, T, L, s, I, X, E⟩ := zAk D.res;obtain ⟨R, O, V, N, F, p, q, q7⟩ := zA3 D.res;have i := D.lt;have c : ¬ w.heap.size = mb := by omega
   have f : ¬ mb = w.heap.size := by omega
   go_wp2_with fail
   clear r m1 m2 o S m5 A m7 s0 K G Z H J Y M z U T L s I X E R O V N F p q q7 i c f;have C := D.cur;refine (zEl B g (-1) 8 _ C (by omega) (by omega) (by omega) (by omega)).mono ?_;rintro e v6 ⟨y, rfl, y0, y1, m, l⟩;replace D := zAZ D l m;clear C l m;have hy : zA4 y := zBe (by omega) (by omega);have HN : Hid _ := zEF D hy;have HE : Hid (∀ a : Act, _ → _ → _) := fun a ha hdf => zBF (a := a) HN.out hd ha hdf;obtain ⟨r, m1, m2, o, S, m5, A, m7⟩ := zAk D.box;obtain ⟨s0, K, G, Z, H, J, Y, M⟩ := zA3 D.box;obtain ⟨z, U, T, L, s, I, X, E⟩ := zAk D.res;obtain ⟨R, O, V, N, F, p, q, q7⟩ := zA3 D.res;have i := D.lt;have c : ¬ w.heap.size = mb := by omega
   have f : ¬ mb = w.heap.size := by omega
   clear D;go_wp2;exact HE.out _ rfl rfl
  ·skip
   obtain ⟨r, m1, m2, o, S, m5, A, m7⟩ := zAk D.box;obtain ⟨s0, K, G, Z, H, J, Y, M⟩ := zA3 D.box;obtain ⟨z, U, T, L, s, I, X, E⟩ := zAk D.res;obtain ⟨R, O, V, N, F, p, q, q7⟩ := zA3 D.res;have i := D.lt;have c : ¬ w.heap.size = mb := by omega
   have f : ¬ mb = w.heap.size := by omega
   go_wp2_with fail
   clear r m1 m2 o S m5 A m7 s0 K G Z H J Y M z U T L s I X E R O V N F p q q7 i c f;have C := D.cur;refine (zEl B g (-1) 7 _ C (by omega) (by omega) (by omega) (by omega)).mono ?_;rintro e v7 ⟨y, rfl, y0, y1, m, l⟩;replace D := zAZ D l m;clear C l m;have hy : zA4 y := zBe (by omega) (by omega);have HN : Hid _ := zCG D hy;have HE : Hid (∀ a : Act, _ → _ → _) := fun a ha hdf => zBF (a := a) HN.out hd ha hdf;obtain ⟨r, m1, m2, o, S, m5, A, m7⟩ := zAk D.box;obtain ⟨s0, K, G, Z, H, J, Y, M⟩ := zA3 D.box;obtain ⟨z, U, T, L, s, I, X, E⟩ := zAk D.res;obtain ⟨R, O, V, N, F, p, q, q7⟩ := zA3 D.res;have i := D.lt;have c : ¬ w.heap.size = mb := by omega
   have f : ¬ mb = w.heap.size := by omega
   clear D;go_wp2;exact HE.out _ rfl rfl
  ·skip
   obtain ⟨r, m1, m2, o, S, m5, A, m7⟩ := zAk D.box;obtain ⟨s0, K, G, Z, H, J, Y, M⟩ := zA3 D.box;obtain ⟨z, U, T, L, s, I, X, E⟩ := zAk D.res;obtain ⟨R, O, V, N, F, p, q, q7⟩ := zA3 D.res;have i := D.lt;have c : ¬ w.heap.size = mb := by omega
   have f : ¬ mb = w.heap.size := by omega
   go_wp2_with fail
   clear r m1 m2 o S m5 A m7 s0 K G Z H J Y M z U T L s I X E R O V N F p q q7 i c f;have C := D.cur;have i := D.lt;refine (zDg B g _ C).mono ?_;rintro e v8 ⟨v, xs, rfl, zA, nA, gl, cl, rfl, aB, OL, m, l⟩;have YA := l.size;have TA := (zCX OL).2;replace D := zAZ D l m;have qA : zAm.own v8 (fun k => w.heap.size < k ∧ k < v8.heap.size ∧ k ≠ mb) [sL (some ⟨gl, 0, none⟩) xs.length cl] xs := zGE OL ⟨by omega, by omega, by omega⟩ nA;clear C l m i OL hd;have hd := zA;have HN : Hid _ := zJl D qA;have HE : Hid (∀ a : Act, _ → _ → _) := fun a ha hdf => zBF (a := a) HN.out hd ha hdf;obtain ⟨r, m1, m2, o, S, m5, A, m7⟩ := zAk D.box;obtain ⟨s0, K, G, Z, H, J, Y, M⟩ := zA3 D.box;obtain ⟨z, U, T, L, s, I, X, E⟩ := zAk D.res;obtain ⟨R, O, V, N, F, p, q, q7⟩ := zA3 D.res;have i := D.lt;have c : ¬ w.heap.size = mb := by omega
   have f : ¬ mb = w.heap.size := by omega
   clear D;go_wp2;exact HE.out _ rfl rfl
theorem zIE {w : World} {a : Option Addr} {len : Nat} {zs : List Int} (h : Row8 w a len zs) (o : Obj) : Row8 (w.alloc o) a len zs := zKx h (zAg w o)
end Go.Proofs.YtmaopldahnejdaaGreatDoor
