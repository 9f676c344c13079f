import Derived.Test.YtcocbafhcpdheaaGreatDoorT00Box
import Derived.Test.YtcocbafhcpdheaaGreatDoorT18
namespace Go.Proofs.YtcocbafhcpdheaaGreatDoor
set_option maxHeartbeats 4000000
open Go.ChangeShapes Go.WideShapes Go.ChangeAt Go.RowKit
set_option linter.unusedVariables false
abbrev zC5 : Rep (List zBi) := slR 95 zAB
abbrev zBj : Mk (List zBi) := slM zBt
theorem zKz : zC2 Tryz.prog 28 zC5 := zBI Tryz.underlying28 (by kernel_rfl) (by decide) zMr
theorem zNZ : SzC 23 zC5 zBj zCk := by
 rintro O g d w ⟨a, H, rfl, Y, X, h⟩ h0 h1;show Calls Tryz.prog 23 #[.slice a g.length H, .int .i64 d] w _
 have bA : g.length ≤ 9223372036854775807 := Nat.le_trans Y X;have m : zBj.bk g = g.length + zA6 zBt g := rfl;clear Y X;by_cases hl : (g.length : Int) ≤ d
 ·have L : ¬ (d - (g.length : Int) < 0) := by omega
  have HB : Hid _ := m;have H0 : Hid (zA4 zAB w a g) := h;clear m h;go_enter Tryz.func23, Tryz.ntmps23;go_wp2;go_loopw [1, 5] (fun q i wr => ∃ k : Nat, k ≤ g.length ∧ i = .int .i64 k ∧ (zA6 zBt (g.take k) : Int) + g.length ≤ d ∧ q = .int .i64 (d - (g.length : Int) - zA6 zBt (g.take k)) ∧ Below w.heap.size w wr) (fun _ i _ => g.length - (intOf i).toNat)
  case atStart => exact ⟨0, Nat.zero_le _, rfl, by simp [zA6]; omega, by simp [zA6], Below.refl _ _⟩
  case round =>
   obtain ⟨k, Z, rfl, R, rfl, l⟩ := hrel;by_cases G : k < g.length
   ·have U : (k : Int) < (g.length : Int) := by omega
    obtain ⟨x, E⟩ : ∃ x, g[k]? = some x := ⟨_, List.getElem?_eq_getElem G⟩;have V := zAq H0.out fun k Z => l.block k Z;obtain ⟨b, f, O, rfl, j, c⟩ := zAy V E;have D : Hid (zAB.rd wr O x) := j;obtain ⟨v, o, A, y, p, B, z, n, r, C, rfl⟩ := zBd j;have x0 := c 0 _ rfl;have x1 := c 1 _ rfl;have x2 := c 2 _ rfl;have x3 := c 3 _ rfl;have x4 := c 4 _ rfl;have x5 := c 5 _ rfl;have x6 := c 6 _ rfl;have x7 := c 7 _ rfl;have x8 := c 8 _ rfl;rw [show f + (k * zAB.size + 0) = f + k * 9 from rfl] at x0;rw [show f + (k * zAB.size + 1) = f + k * 9 + 1 from rfl] at x1;rw [show f + (k * zAB.size + 2) = f + k * 9 + 2 from rfl] at x2;rw [show f + (k * zAB.size + 3) = f + k * 9 + 3 from rfl] at x3;rw [show f + (k * zAB.size + 4) = f + k * 9 + 4 from rfl] at x4;rw [show f + (k * zAB.size + 5) = f + k * 9 + 5 from rfl] at x5;rw [show f + (k * zAB.size + 6) = f + k * 9 + 6 from rfl] at x6;rw [show f + (k * zAB.size + 7) = f + k * 9 + 7 from rfl] at x7;rw [show f + (k * zAB.size + 8) = f + k * 9 + 8 from rfl] at x8;clear c j;have K : Hid _ := zCu (M := zBt) E;have I := zCm (M := zBt) E;clear E V;generalize zA6 zBt (g.take k) = T at R K I ⊢;by_cases S : (((zBt).bk x : Nat) : Int) ≤ d - (g.length : Int) - (T : Int)
    ·have oA : ¬ (d - (g.length : Int) - (T : Int) - (((zBt).bk x : Nat) : Int) < 0) := by omega
     have N : Hid (szI ((zBt).bk x) (d - (g.length : Int) - (T : Int)) = _) := zAF S;go_wp2_with (go_at_call 60; refine (zL4 [.slice v x.1.1.length o, .slice A x.1.2.length y, .slice p x.2.1.length B, .int .i64 x.2.2.1, .int .i64 x.2.2.2.1, .int .i64 x.2.2.2.2.1.1, .int .i64 x.2.2.2.2.1.2.1, .slice z x.2.2.2.2.1.2.2.length n, .slice r x.2.2.2.2.2.length C] x _ _ D.out (by omega) (by omega)).mono ?_; rintro e w' ⟨rfl, s⟩; replace l := zAa l s; clear s; rw [N.out])
     go_roundw
     case rel => exact ⟨k + 1, by omega, by go_num, by have := K.out; omega, by rw [K.out]; go_num, l⟩
     case measure => simp [intOf]; omega
    ·have N : Hid (szI ((zBt).bk x) (d - (g.length : Int) - (T : Int)) = _) := zAE S;have F : Hid (szI (zBj.bk g) d = -1) := by unfold Hid; rw [HB.out]; exact zAE (by omega)
     go_wp2_with (go_at_call 60; refine (zL4 [.slice v x.1.1.length o, .slice A x.1.2.length y, .slice p x.2.1.length B, .int .i64 x.2.2.1, .int .i64 x.2.2.2.1, .int .i64 x.2.2.2.2.1.1, .int .i64 x.2.2.2.2.1.2.1, .slice z x.2.2.2.2.1.2.2.length n, .slice r x.2.2.2.2.2.length C] x _ _ D.out (by omega) (by omega)).mono ?_; rintro e w' ⟨rfl, s⟩; replace l := zAa l s; clear s; rw [N.out])
     go_ret
     exact ⟨zAx F.out.symm, l⟩
   ·have J : k = g.length := by omega
    subst J;rw [List.take_length] at R ⊢;have F : Hid (szI (zBj.bk g) d = d - (g.length : Int) - (zA6 zBt g : Int)) := by unfold Hid; rw [HB.out, zAF (by omega)]; omega
    go_wp2;go_ret
    exact ⟨zAx F.out.symm, l⟩
 ·have L : d - (g.length : Int) < 0 := by omega
  rw [zAE (by omega)];clear m h;go_enter Tryz.func23, Tryz.ntmps23;go_wp2;go_ret
  exact ⟨rfl, Below.refl _ _⟩
theorem Tryz.infoCore : (Tryz.prog.info? 95).map (fun i => (i.zero, i.size, i.bytes)) = some (some (.agg #[.slice none 0 0, .slice none 0 0, .slice none 0 0, .int .i64 0, .int .i64 0, .int .i64 0, .int .i64 0, .slice none 0 0, .slice none 0 0]), 9, 152) := by kernel_rfl
theorem zOa : ToC 31 zC5 zBj zCk := by
 rintro cs g w ⟨a, r, rfl, l1, l2, h⟩ G;show Calls Tryz.prog 31 #[.slice a g.length r] w _
 have H : zBj.bk g = g.length + zA6 zBt g := rfl;have qA : g.length ≤ 1048576 := by omega
 have HB : Hid (zA6 zBt g ≤ 1048576) := by unfold Hid; omega
 have H0 : Hid (zA4 zAB w a g) := h;clear H G h l1 l2;have Y := zBW (P := Tryz.prog) 43 95 (.agg #[.slice none 0 0, .slice none 0 0, .slice none 0 0, .int .i64 0, .int .i64 0, .int .i64 0, .int .i64 0, .slice none 0 0, .slice none 0 0]) 9 152 Tryz.underlying43 Tryz.infoCore g.length (by omega) (by omega);go_enter Tryz.func31, Tryz.ntmps31;go_wp2;go_loopw [4] (fun i wr => ∃ k : Nat, k ≤ g.length ∧ i = .int .i64 k ∧ zLa 95 zAB w wr g.length (g.take k)) (fun i _ => g.length - (intOf i).toNat)
 case atStart => exact ⟨0, Nat.zero_le _, rfl, by simpa using zBV (e := 95) (R := zAB) (w0 := w) (n := g.length) (cs := madeCells #[.slice none 0 0, .slice none 0 0, .slice none 0 0, .int .i64 0, .int .i64 0, .int .i64 0, .int .i64 0, .slice none 0 0, .slice none 0 0] (g.length * 9)) (by unfold maxLen; omega) (by rw [size_madeCells]; rfl)⟩
 case round =>
  obtain ⟨k, hk, rfl, o⟩ := hrel;by_cases p : k < g.length
  ·have eA : (k : Int) < (g.length : Int) := by omega
   obtain ⟨x, q⟩ : ∃ x, g[k]? = some x := ⟨_, List.getElem?_eq_getElem p⟩;obtain ⟨b, f, cs, rfl, j, d⟩ := zAy (zAm H0.out (zCx o)) q;have Z : Hid (zAB.rd wr cs x) := j;obtain ⟨K, D, X, T, J, N, M, I, E, B, rfl⟩ := zBd j;have x0 := d 0 _ rfl;have x1 := d 1 _ rfl;have x2 := d 2 _ rfl;have x3 := d 3 _ rfl;have x4 := d 4 _ rfl;have x5 := d 5 _ rfl;have x6 := d 6 _ rfl;have x7 := d 7 _ rfl;have x8 := d 8 _ rfl;rw [show f + (k * zAB.size + 0) = f + k * 9 from rfl] at x0;rw [show f + (k * zAB.size + 1) = f + k * 9 + 1 from rfl] at x1;rw [show f + (k * zAB.size + 2) = f + k * 9 + 2 from rfl] at x2;rw [show f + (k * zAB.size + 3) = f + k * 9 + 3 from rfl] at x3;rw [show f + (k * zAB.size + 4) = f + k * 9 + 4 from rfl] at x4;rw [show f + (k * zAB.size + 5) = f + k * 9 + 5 from rfl] at x5;rw [show f + (k * zAB.size + 6) = f + k * 9 + 6 from rfl] at x6;rw [show f + (k * zAB.size + 7) = f + k * 9 + 7 from rfl] at x7;rw [show f + (k * zAB.size + 8) = f + k * 9 + 8 from rfl] at x8;have HX : Hid (zBt.bk x ≤ 1048576) := by unfold Hid; have := zBX zBt g q; have := HB.out; omega
   have FS : Hid (∀ w1 c, zAI zAB wr w1 c x → _) := fun w1 c G => zCt (w1 := w1) (c := c) o (by simp; omega) p G;have HP : Hid (g.take k ++ [x] = g.take (k + 1)) := by unfold Hid; rw [List.take_add_one, q]; rfl
   clear q j d Y o;go_wp2_with fail
   refine (toCore_u [.slice K x.1.1.length D, .slice X x.1.2.length T, .slice J x.2.1.length N, .int .i64 x.2.2.1, .int .i64 x.2.2.2.1, .int .i64 x.2.2.2.2.1.1, .int .i64 x.2.2.2.2.1.2.1, .slice M x.2.2.2.2.1.2.2.length I, .slice E x.2.2.2.2.2.length B] x _ Z.out HX.out).mono ?_;rintro e w1 ⟨ds, rfl, s⟩;obtain ⟨BA, oA, pA, rA, FA, IA, AA, CA, DA, vA, rfl⟩ := zBd (zAB.own_rd s.1);rw [show zBq _ = .agg _ from rfl];obtain ⟨l, m, v⟩ := FS.out _ _ s;obtain ⟨v0, A⟩ := l 0 (by decide);obtain ⟨v1, C⟩ := l 1 (by decide);obtain ⟨v2, U⟩ := l 2 (by decide);obtain ⟨v3, y⟩ := l 3 (by decide);obtain ⟨v4, O⟩ := l 4 (by decide);obtain ⟨v5, L⟩ := l 5 (by decide);obtain ⟨v6, S⟩ := l 6 (by decide);obtain ⟨v7, V⟩ := l 7 (by decide);obtain ⟨v8, z⟩ := l 8 (by decide);have z0 := m (k * 9);have z1 := m (k * 9 + 1);have z2 := m (k * 9 + 2);have z3 := m (k * 9 + 3);have z4 := m (k * 9 + 4);have z5 := m (k * 9 + 5);have z6 := m (k * 9 + 6);have z7 := m (k * 9 + 7);have z8 := m (k * 9 + 8);rw [show k * zAB.size + 0 = k * 9 from rfl] at A;rw [show k * zAB.size + 1 = k * 9 + 1 from rfl] at C;rw [show k * zAB.size + 2 = k * 9 + 2 from rfl] at U;rw [show k * zAB.size + 3 = k * 9 + 3 from rfl] at y;rw [show k * zAB.size + 4 = k * 9 + 4 from rfl] at O;rw [show k * zAB.size + 5 = k * 9 + 5 from rfl] at L;rw [show k * zAB.size + 6 = k * 9 + 6 from rfl] at S;rw [show k * zAB.size + 7 = k * 9 + 7 from rfl] at V;rw [show k * zAB.size + 8 = k * 9 + 8 from rfl] at z;rw [HP.out] at v;have HF : Hid _ := v;clear v s l m FS x0 x1 x2 x3 x4 x5 x6 x7 x8;go_wp2;go_roundw
   case rel => exact ⟨k + 1, by omega, by go_num, HF.out⟩
   case measure => simp [intOf]; omega
  ·have F : k = g.length := by omega
   subst F;rw [List.take_length] at o;have FE := zCD o rfl;clear o;go_wp2;go_ret
   exact ⟨[_], rfl, FE⟩
theorem zOb : EqC 40 zC5 zBj zCk := by
 rintro cs ds f w ⟨a1, c1, rfl, l1, l2, h1⟩ ⟨a2, c2, rfl, k1, k2, h2⟩ hm;show Calls Tryz.prog 40 #[.slice a1 f.length c1, .slice a2 f.length c2] w _
 have zA : zBj.bk f = f.length + zA6 zBt f := rfl;have y : f.length ≤ lot := by omega
 have HB : Hid (zA6 zBt f ≤ lot) := by unfold Hid; omega
 have H1 : Hid (∀ W, Below w.heap.size w W → zA4 zAB W a1 f) := fun W hb => zAq h1 fun k hk => hb.block k hk;have H2 : Hid (∀ W, Below w.heap.size w W → zA4 zAB W a2 f) := fun W hb => zAq h2 fun k hk => hb.block k hk;have TA : f.length ≤ 4398046511104 := y;clear zA hm h1 h2 l1 l2 k1 k2 y;go_enter Tryz.func40, Tryz.ntmps40;go_wp2;go_loopw [5] (fun i wr => ∃ k : Nat, k ≤ f.length ∧ i = .int .i64 k ∧ Below w.heap.size w wr) (fun i _ => f.length - (intOf i).toNat)
 case atStart => exact ⟨0, Nat.zero_le _, rfl, Below.refl _ _⟩
 case round =>
  obtain ⟨k, hk, rfl, o⟩ := hrel;by_cases HA : k < f.length
  ·have UA : (k : Int) < (f.length : Int) := by omega
   obtain ⟨x, hx⟩ : ∃ x, f[k]? = some x := ⟨_, List.getElem?_eq_getElem HA⟩;have HX : Hid (zBt.bk x ≤ lot) := by unfold Hid; have := zBX zBt f hx; have := HB.out; omega
   obtain ⟨m, a, IA, rfl, j, d⟩ := zAy (H1.out _ o) hx;have vA : Hid (∀ n : Cls (fun wx => Below wr.heap.size wr wx), zAB.rd n.w IA x) := fun n => zAr j n.h;obtain ⟨F, p, v, z, K, M, B, G, I, A, rfl⟩ := zBd j;have T := d 0 _ rfl;have s1 := d 1 _ rfl;have s2 := d 2 _ rfl;have s3 := d 3 _ rfl;have Z := d 4 _ rfl;have U := d 5 _ rfl;have R := d 6 _ rfl;have s7 := d 7 _ rfl;have s8 := d 8 _ rfl;rw [show a + (k * zAB.size + 0) = a + k * 9 from rfl] at T;rw [show a + (k * zAB.size + 1) = a + k * 9 + 1 from rfl] at s1;rw [show a + (k * zAB.size + 2) = a + k * 9 + 2 from rfl] at s2;rw [show a + (k * zAB.size + 3) = a + k * 9 + 3 from rfl] at s3;rw [show a + (k * zAB.size + 4) = a + k * 9 + 4 from rfl] at Z;rw [show a + (k * zAB.size + 5) = a + k * 9 + 5 from rfl] at U;rw [show a + (k * zAB.size + 6) = a + k * 9 + 6 from rfl] at R;rw [show a + (k * zAB.size + 7) = a + k * 9 + 7 from rfl] at s7;rw [show a + (k * zAB.size + 8) = a + k * 9 + 8 from rfl] at s8;clear d j;obtain ⟨g, b, NA, rfl, l, c⟩ := zAy (H2.out _ o) hx;have CA : Hid (∀ n : Cls (fun wx => Below wr.heap.size wr wx), zAB.rd n.w NA x) := fun n => zAr l n.h;obtain ⟨E, r, N, L, D, J, H, C, s, q, rfl⟩ := zBd l;have Y := c 0 _ rfl;have X := c 1 _ rfl;have t2 := c 2 _ rfl;have t3 := c 3 _ rfl;have S := c 4 _ rfl;have V := c 5 _ rfl;have t6 := c 6 _ rfl;have t7 := c 7 _ rfl;have O := c 8 _ rfl;rw [show b + (k * zAB.size + 0) = b + k * 9 from rfl] at Y;rw [show b + (k * zAB.size + 1) = b + k * 9 + 1 from rfl] at X;rw [show b + (k * zAB.size + 2) = b + k * 9 + 2 from rfl] at t2;rw [show b + (k * zAB.size + 3) = b + k * 9 + 3 from rfl] at t3;rw [show b + (k * zAB.size + 4) = b + k * 9 + 4 from rfl] at S;rw [show b + (k * zAB.size + 5) = b + k * 9 + 5 from rfl] at V;rw [show b + (k * zAB.size + 6) = b + k * 9 + 6 from rfl] at t6;rw [show b + (k * zAB.size + 7) = b + k * 9 + 7 from rfl] at t7;rw [show b + (k * zAB.size + 8) = b + k * 9 + 8 from rfl] at O;clear c l;have mA : ∀ n : Cls (fun wx => Below wr.heap.size wr wx), n.w.cell? ⟨m, a + k * 9, none⟩ = some (.slice F x.1.1.length p) := fun n => zAe n.h T (zAk T);have DA : ∀ n : Cls (fun wx => Below wr.heap.size wr wx), n.w.cell? ⟨m, a + k * 9 + 1, none⟩ = some (.slice v x.1.2.length z) := fun n => zAe n.h s1 (zAk s1);have MA : ∀ n : Cls (fun wx => Below wr.heap.size wr wx), n.w.cell? ⟨m, a + k * 9 + 2, none⟩ = some (.slice K x.2.1.length M) := fun n => zAe n.h s2 (zAk s2);have yA : ∀ n : Cls (fun wx => Below wr.heap.size wr wx), n.w.cell? ⟨m, a + k * 9 + 3, none⟩ = some (.int .i64 x.2.2.1) := fun n => zAe n.h s3 (zAk s3);have qA : ∀ n : Cls (fun wx => Below wr.heap.size wr wx), n.w.cell? ⟨m, a + k * 9 + 4, none⟩ = some (.int .i64 x.2.2.2.1) := fun n => zAe n.h Z (zAk Z);have BA : ∀ n : Cls (fun wx => Below wr.heap.size wr wx), n.w.cell? ⟨m, a + k * 9 + 5, none⟩ = some (.int .i64 x.2.2.2.2.1.1) := fun n => zAe n.h U (zAk U);have LA : ∀ n : Cls (fun wx => Below wr.heap.size wr wx), n.w.cell? ⟨m, a + k * 9 + 6, none⟩ = some (.int .i64 x.2.2.2.2.1.2.1) := fun n => zAe n.h R (zAk R);have pA : ∀ n : Cls (fun wx => Below wr.heap.size wr wx), n.w.cell? ⟨m, a + k * 9 + 7, none⟩ = some (.slice B x.2.2.2.2.1.2.2.length G) := fun n => zAe n.h s7 (zAk s7);have FA : ∀ n : Cls (fun wx => Below wr.heap.size wr wx), n.w.cell? ⟨m, a + k * 9 + 8, none⟩ = some (.slice I x.2.2.2.2.2.length A) := fun n => zAe n.h s8 (zAk s8);have sA : ∀ n : Cls (fun wx => Below wr.heap.size wr wx), n.w.cell? ⟨g, b + k * 9, none⟩ = some (.slice E x.1.1.length r) := fun n => zAe n.h Y (zAk Y);have rA : ∀ n : Cls (fun wx => Below wr.heap.size wr wx), n.w.cell? ⟨g, b + k * 9 + 1, none⟩ = some (.slice N x.1.2.length L) := fun n => zAe n.h X (zAk X);have OA : ∀ n : Cls (fun wx => Below wr.heap.size wr wx), n.w.cell? ⟨g, b + k * 9 + 2, none⟩ = some (.slice D x.2.1.length J) := fun n => zAe n.h t2 (zAk t2);have AA : ∀ n : Cls (fun wx => Below wr.heap.size wr wx), n.w.cell? ⟨g, b + k * 9 + 3, none⟩ = some (.int .i64 x.2.2.1) := fun n => zAe n.h t3 (zAk t3);have oA : ∀ n : Cls (fun wx => Below wr.heap.size wr wx), n.w.cell? ⟨g, b + k * 9 + 4, none⟩ = some (.int .i64 x.2.2.2.1) := fun n => zAe n.h S (zAk S);have nA : ∀ n : Cls (fun wx => Below wr.heap.size wr wx), n.w.cell? ⟨g, b + k * 9 + 5, none⟩ = some (.int .i64 x.2.2.2.2.1.1) := fun n => zAe n.h V (zAk V);have KA : ∀ n : Cls (fun wx => Below wr.heap.size wr wx), n.w.cell? ⟨g, b + k * 9 + 6, none⟩ = some (.int .i64 x.2.2.2.2.1.2.1) := fun n => zAe n.h t6 (zAk t6);have EA : ∀ n : Cls (fun wx => Below wr.heap.size wr wx), n.w.cell? ⟨g, b + k * 9 + 7, none⟩ = some (.slice H x.2.2.2.2.1.2.2.length C) := fun n => zAe n.h t7 (zAk t7);have JA : ∀ n : Cls (fun wx => Below wr.heap.size wr wx), n.w.cell? ⟨g, b + k * 9 + 8, none⟩ = some (.slice s x.2.2.2.2.2.length q) := fun n => zAe n.h O (zAk O);clear hx T s1 s2 s3 Z U R s7 s8 Y X t2 t3 S V t6 t7 O;go_wp2_with fail
   refine zAz (fun wx => Below wr.heap.size wr wx) (by kernel_rfl) (by kernel_rfl) ((Below.refl _ wr).drew) ?_;intro GA;repeat (quiet_step ((go_at_call 80; exact zAj (eqCore_u [.slice F x.1.1.length p, .slice v x.1.2.length z, .slice K x.2.1.length M, .int .i64 x.2.2.1, .int .i64 x.2.2.2.1, .int .i64 x.2.2.2.2.1.1, .int .i64 x.2.2.2.2.1.2.1, .slice B x.2.2.2.2.1.2.2.length G, .slice I x.2.2.2.2.2.length A] [.slice E x.1.1.length r, .slice N x.1.2.length L, .slice D x.2.1.length J, .int .i64 x.2.2.1, .int .i64 x.2.2.2.1, .int .i64 x.2.2.2.2.1.1, .int .i64 x.2.2.2.2.1.2.1, .slice H x.2.2.2.2.1.2.2.length C, .slice s x.2.2.2.2.2.length q] x _ (vA.out _) (CA.out _) HX.out) (fun w' hc bb => zAa hc bb))))
   refine wpQuiet_nil ?_;intro wx g;replace o := zAa o g;clear g GA mA DA MA yA qA BA LA pA FA sA rA OA AA oA nA KA EA JA;go_wp2;go_roundw
   case rel => exact ⟨k + 1, by omega, by go_num, o⟩
   case measure => simp [intOf]; omega
  ·go_wp2;go_ret
   exact ⟨rfl, o⟩
abbrev zBU := Bool × Int × Int × List Int
abbrev zAR : Rep zBU := zBp boolR (zBp zAG (zBp zAG zA0))
abbrev zBA : Mk zBU := zBm zED (zBm zBa (zBm zBa zAs))
abbrev zC0 : Rep (List zBU) := slR 165 zAR
abbrev zBB : Mk (List zBU) := slM zBA
theorem zMs : zC2 Tryz.prog 160 zAR :=
 zBf Tryz.underlying160 (by kernel_rfl) (zAu rfl (by kernel_rfl) (zF3 Tryz.underlying4) (zAu rfl (by kernel_rfl) zAD (zAu rfl (by kernel_rfl) zAD (zBC rfl (by kernel_rfl) zC9))))
theorem zK0 : zC2 Tryz.prog 29 zC0 := zBI Tryz.underlying29 (by kernel_rfl) (by decide) zMs
theorem zEn {w : World} {cs : List Value} {u : zBU} (h : zAR.rd w cs u) :
    ∃ a b, cs = [.bool u.1, .int .i64 u.2.1, .int .i64 u.2.2.1, .slice a u.2.2.2.length b] ∧ zAN u.2.1 ∧ zAN u.2.2.1 ∧ u.2.2.2.length ≤ b ∧ b ≤ maxLen ∧ zA4 zAG w a u.2.2.2 := by
 obtain ⟨c0, e0, rfl, rfl, c1, e1, rfl, ⟨rfl, f⟩, c2, e2, rfl, ⟨rfl, g⟩, ⟨a, b, rfl, d, i, c⟩⟩ := h;exact ⟨a, b, rfl, f, g, d, i, c⟩
theorem desc_own {w : World} {S : zBo} {cs : List Value} {u : zBU} (h : zAR.own w S cs u) :
    ∃ v, cs = [.bool u.1, .int .i64 u.2.1, .int .i64 u.2.2.1, v] ∧ zAN u.2.1 ∧ zAN u.2.2.1 ∧ zA0.own w S [v] u.2.2.2 := by
 obtain ⟨c0, e0, S0, T0, rfl, rfl, ⟨c1, e1, S1, T1, rfl, ⟨rfl, g⟩, ⟨c2, d, S2, T2, rfl, ⟨rfl, f⟩, a, p2, i, d2⟩, p1, c, d1⟩, p0, b, d0⟩ := h;have j := zA0.rd_len (zA0.own_rd a);obtain ⟨v, rfl⟩ : ∃ v, d = [v] := List.length_eq_one_iff.1 j;exact ⟨v, rfl, g, f, zA0.own_mono a (((i).trans c).trans b)⟩
theorem zL6 {w : World} {S : zBo} {f1 f2 : Int} {f0 : Bool} {d : List Int} {v : Value} (i1 : zAN f1) (i2 : zAN f2) (h : zA0.own w S [v] d) : zAR.own w S [.bool f0, .int .i64 f1, .int .i64 f2, v] (f0, f1, f2, d) :=
 ⟨[_], [_, _, _], fun _ => False, S, rfl, rfl, ⟨[_], [_, _], fun _ => False, S, rfl, ⟨rfl, i1⟩, ⟨[_], [_], fun _ => False, S, rfl, ⟨rfl, i2⟩, h, fun _ h => h.elim, Sub.refl _, fun _ h _ => h⟩, fun _ h => h.elim, Sub.refl _, fun _ h _ => h⟩, fun _ h => h.elim, Sub.refl _, fun _ h _ => h⟩
theorem zK1 (u : zBU) : zBA.bk u = zAs.bk u.2.2.2 := by
 show 0 + (0 + (0 + (zAs.bk u.2.2.2))) = _
 omega
theorem zA5 {w : World} {g : Nat} {x0 x1 x2 x3 : Value} {t : TypeId} (h : w.heap[g]? = some (.cells #[x0, x1, x2, x3] t (0, 0))) :
    w.cell? ⟨g, 0, none⟩ = some x0 ∧ w.cell? ⟨g, 1, none⟩ = some x1 ∧ w.cell? ⟨g, 2, none⟩ = some x2 ∧ w.cell? ⟨g, 3, none⟩ = some x3 :=
 ⟨by rw [cell_of_row w g 0 _ t (0, 0) h]; rfl, by rw [cell_of_row w g 1 _ t (0, 0) h]; rfl, by rw [cell_of_row w g 2 _ t (0, 0) h]; rfl, by rw [cell_of_row w g 3 _ t (0, 0) h]; rfl⟩
theorem froz_4 {w : World} {g : Nat} {cs : Array Value} {t : TypeId} (h : w.heap[g]? = some (.cells cs t (0, 0))) : w.frozen? ⟨g, 0, none⟩ = false ∧ w.frozen? ⟨g, 1, none⟩ = false ∧ w.frozen? ⟨g, 2, none⟩ = false ∧ w.frozen? ⟨g, 3, none⟩ = false :=
 ⟨frozen_of_row w g 0 _ t h, frozen_of_row w g 1 _ t h, frozen_of_row w g 2 _ t h, frozen_of_row w g 3 _ t h⟩
theorem put_4 {w : World} {g : Nat} {x0 y0 x1 y1 x2 y2 x3 y3 : Value} {t : TypeId} (h : w.heap[g]? = some (.cells #[x0, x1, x2, x3] t (0, 0))) :
    ((((w.setCell ⟨g, 0, none⟩ y0).setCell ⟨g, 1, none⟩ y1).setCell ⟨g, 2, none⟩ y2).setCell ⟨g, 3, none⟩ y3).heap[g]? = some (.cells #[y0, y1, y2, y3] t (0, 0)) := by
 have c : (w.setCell ⟨g, 0, none⟩ y0).heap[g]? = some (.cells #[y0, x1, x2, x3] t (0, 0)) := heap_setCell_same _ g 0 _ t y0 h;have d : ((w.setCell ⟨g, 0, none⟩ y0).setCell ⟨g, 1, none⟩ y1).heap[g]? = some (.cells #[y0, y1, x2, x3] t (0, 0)) := heap_setCell_same _ g 1 _ t y1 c;have a : (((w.setCell ⟨g, 0, none⟩ y0).setCell ⟨g, 1, none⟩ y1).setCell ⟨g, 2, none⟩ y2).heap[g]? = some (.cells #[y0, y1, y2, x3] t (0, 0)) := heap_setCell_same _ g 2 _ t y2 d;have b : ((((w.setCell ⟨g, 0, none⟩ y0).setCell ⟨g, 1, none⟩ y1).setCell ⟨g, 2, none⟩ y2).setCell ⟨g, 3, none⟩ y3).heap[g]? = some (.cells #[y0, y1, y2, y3] t (0, 0)) := heap_setCell_same _ g 3 _ t y3 a;exact b
theorem zHB (f1 f2 : Int) (f0 : Bool) (d : List Int) (a : Option Addr) (cap : Nat) (left : Int) (w : World) (h0 : 0 ≤ left) (h1 : left ≤ 1048576) (hm : d.length ≤ maxLen) :
    Calls Tryz.prog 111 #[.agg #[.bool f0, .int .i64 f1, .int .i64 f2, .slice a d.length cap], .int .i64 left] w fun e b => e = .returned (.int .i64 (szI (zBA.bk (f0, f1, f2, d)) left)) ∧ Below w.heap.size w b := by
 rw [zK1];show Calls Tryz.prog 111 _ w fun e b => e = .returned (.int .i64 (szI (zAs.bk d) left)) ∧ Below w.heap.size w b
 by_cases f : (zAs.bk d : Int) ≤ left
 ·have c : Hid (szI (zAs.bk d) left = _) := zAF f;have g : ¬ (left - (zAs.bk d : Int) < 0) := by omega
  go_enter Tryz.func111, Tryz.ntmps111;go_wp2_with (go_at_call 106; refine (zBg _ d _ _ _ h0 h1 hm).mono ?_; rintro e b ⟨rfl, rfl⟩; rw [c.out])
  go_ret
  exact ⟨zAx c.out.symm, zAf w _⟩
 ·have c : Hid (szI (zAs.bk d) left = _) := zAE f;go_enter Tryz.func111, Tryz.ntmps111;go_wp2_with (go_at_call 106; refine (zBg _ d _ _ _ h0 h1 hm).mono ?_; rintro e b ⟨rfl, rfl⟩; rw [c.out])
  go_ret
  exact ⟨zAx c.out.symm, zAf w _⟩
theorem zK2 (a : Option Addr) (xs : List zBU) (cap : Nat) (left : Int) (w : World) (h : zA4 zAR w a xs) (h0 : 0 ≤ left) (h1 : left ≤ 1048576) (hm : xs.length ≤ maxLen) :
    Calls Tryz.prog 61 #[.slice a xs.length cap, .int .i64 left] w fun e p => e = .returned (.int .i64 (szI ((slM zBA).bk xs) left)) ∧ Below w.heap.size w p := by
 have K : xs.length ≤ 9223372036854775807 := hm;have j : (slM zBA).bk xs = xs.length + zA6 zBA xs := rfl;clear hm;by_cases hl : (xs.length : Int) ≤ left
 ·have A : ¬ (left - (xs.length : Int) < 0) := by omega
  have J : Hid _ := j;have R : Hid (zA4 zAR w a xs) := h;clear j h;go_enter Tryz.func61, Tryz.ntmps61;go_wp2;go_loopw [1, 5] (fun q i wr => ∃ k : Nat, k ≤ xs.length ∧ i = .int .i64 k ∧ (zA6 zBA (xs.take k) : Int) + xs.length ≤ left ∧ q = .int .i64 (left - (xs.length : Int) - zA6 zBA (xs.take k)) ∧ Below w.heap.size w wr) (fun _ i _ => xs.length - (intOf i).toNat)
  case atStart => exact ⟨0, Nat.zero_le _, rfl, by simp [zA6]; omega, by simp [zA6], Below.refl _ _⟩
  case round =>
   obtain ⟨k, I, rfl, D, rfl, g⟩ := hrel;by_cases s : k < xs.length
   ·have F : (k : Int) < (xs.length : Int) := by omega
    obtain ⟨x, o⟩ : ∃ x, xs[k]? = some x := ⟨_, List.getElem?_eq_getElem s⟩;have G := zAq R.out fun k I => g.block k I;obtain ⟨b, d, cs, rfl, f, c⟩ := zAy G o;obtain ⟨ad, N, rfl, -, -, n, l, B⟩ := zEn f;have S := c 0 _ rfl;have O := c 1 _ rfl;have V := c 2 _ rfl;have U := c 3 _ rfl;rw [show d + (k * zAR.size + 0) = d + k * 4 from rfl] at S;rw [show d + (k * zAR.size + 1) = d + k * 4 + 1 from rfl] at O;rw [show d + (k * zAR.size + 2) = d + k * 4 + 2 from rfl] at V;rw [show d + (k * zAR.size + 3) = d + k * 4 + 3 from rfl] at U;have H : Hid (x.2.2.2.length ≤ maxLen) := Nat.le_trans n l;clear c f n l B;have z : Hid _ := zCu (M := zBA) o;have v := zCm (M := zBA) o;clear o G;generalize zA6 zBA (xs.take k) = T at D z v ⊢;by_cases E : (((zBA).bk x : Nat) : Int) ≤ left - (xs.length : Int) - (T : Int)
    ·have L : ¬ (left - (xs.length : Int) - (T : Int) - (((zBA).bk x : Nat) : Int) < 0) := by omega
     have C : Hid (szI ((zBA).bk x) (left - (xs.length : Int) - (T : Int)) = _) := zAF E;go_wp2_with (go_at_call 111; refine (zHB x.2.1 x.2.2.1 x.1 x.2.2.2 _ _ _ _ (by omega) (by omega) H.out).mono ?_; rintro e p ⟨rfl, m⟩; replace g := zAa g m; clear m; rw [C.out])
     go_roundw
     case rel => exact ⟨k + 1, by omega, by go_num, by have := z.out; omega, by rw [z.out]; go_num, g⟩
     case measure => simp [intOf]; omega
    ·have C : Hid (szI ((zBA).bk x) (left - (xs.length : Int) - (T : Int)) = _) := zAE E;have r : Hid (szI ((slM zBA).bk xs) left = -1) := by unfold Hid; rw [J.out]; exact zAE (by omega)
     go_wp2_with (go_at_call 111; refine (zHB x.2.1 x.2.2.1 x.1 x.2.2.2 _ _ _ _ (by omega) (by omega) H.out).mono ?_; rintro e p ⟨rfl, m⟩; replace g := zAa g m; clear m; rw [C.out])
     go_ret
     exact ⟨zAx r.out.symm, g⟩
   ·have y : k = xs.length := by omega
    subst y;rw [List.take_length] at D ⊢;have r : Hid (szI ((slM zBA).bk xs) left = left - (xs.length : Int) - (zA6 zBA xs : Int)) := by unfold Hid; rw [J.out, zAF (by omega)]; omega
    go_wp2;go_ret
    exact ⟨zAx r.out.symm, g⟩
 ·have A : left - (xs.length : Int) < 0 := by omega
  rw [zAE (by omega)];clear j h;go_enter Tryz.func61, Tryz.ntmps61;go_wp2;go_ret
  exact ⟨rfl, Below.refl _ _⟩
theorem zMt (f1 f2 : Int) (f0 : Bool) (d : List Int) (a : Option Addr) (cap : Nat) (w : World) (i1 : zAN f1) (i2 : zAN f2) (h : zA4 zAG w a d) (hm : zAs.bk d ≤ 1048576) :
    Calls Tryz.prog 117 #[.agg #[.bool f0, .int .i64 f1, .int .i64 f2, .slice a d.length cap]] w fun e w' => ∃ j l, e = .returned (.agg #[.bool f0, .int .i64 f1, .int .i64 f2, .slice j d.length l]) ∧ zAI zAR w w' [.bool f0, .int .i64 f1, .int .i64 f2, .slice j d.length l] (f0, f1, f2, d) := by
 have H : Hid (∀ W, Below w.heap.size w W → zA4 zAG W a d) := fun W hb => zAq h fun k hk => hb.block k hk;clear h;go_enter Tryz.func117, Tryz.ntmps117;go_wp2_with fail
 have p : Below w.heap.size w (((w.alloc (.cells #[.bool f0, .int .i64 f1, .int .i64 f2, .slice a d.length cap] 160)).alloc (.cells #[.bool false, .int .i64 0, .int .i64 0, .slice none 0 0] 165)).alloc (.cells #[.bool f0, .int .i64 f1, .int .i64 f2, .slice none 0 0] 165)) := (((Below.refl _ w).alloc (Nat.le_refl _) _).alloc (by simp) _).alloc (by simp; omega) _;have b := zA3 (.cells #[.bool f0, .int .i64 f1, .int .i64 f2, .slice none 0 0] 165) (zAn (w.alloc (.cells #[.bool f0, .int .i64 f1, .int .i64 f2, .slice a d.length cap] 160)) (.cells #[.bool false, .int .i64 0, .int .i64 0, .slice none 0 0] 165));have c := zAn ((w.alloc (.cells #[.bool f0, .int .i64 f1, .int .i64 f2, .slice a d.length cap] 160)).alloc (.cells #[.bool false, .int .i64 0, .int .i64 0, .slice none 0 0] 165)) (.cells #[.bool f0, .int .i64 f1, .int .i64 f2, .slice none 0 0] 165);have I : (((w.alloc (.cells #[.bool f0, .int .i64 f1, .int .i64 f2, .slice a d.length cap] 160)).alloc (.cells #[.bool false, .int .i64 0, .int .i64 0, .slice none 0 0] 165)).alloc (.cells #[.bool f0, .int .i64 f1, .int .i64 f2, .slice none 0 0] 165)).heap.size = w.heap.size + 1 + 1 + 1 := by simp
 have m := zA3 (.cells #[.bool f0, .int .i64 f1, .int .i64 f2, .slice none 0 0] 165) (zA3 (.cells #[.bool false, .int .i64 0, .int .i64 0, .slice none 0 0] 165) (zAn w (.cells #[.bool f0, .int .i64 f1, .int .i64 f2, .slice a d.length cap] 160)));rw [zAv] at b;rw [zAv, zAv] at c;generalize ((w.alloc (.cells #[.bool f0, .int .i64 f1, .int .i64 f2, .slice a d.length cap] 160)).alloc (.cells #[.bool false, .int .i64 0, .int .i64 0, .slice none 0 0] 165)).alloc (.cells #[.bool f0, .int .i64 f1, .int .i64 f2, .slice none 0 0] 165) = W0 at p m b c I ⊢;refine (zCn _ d _ _ (H.out _ p) hm).mono ?_;rintro e w1 ⟨v, rfl, n⟩;obtain ⟨j, l, rfl⟩ := zBx n.1;have f := n.2;have i := n.1;have q := zAa p f;replace m := zAb f m;replace b := zAb f b;replace c := zAb f c;obtain ⟨q0, q1, q2, q3⟩ := zA5 m;obtain ⟨y0, y1, y2, y3⟩ := zA5 c;obtain ⟨r, C, D, A⟩ := froz_4 c;obtain ⟨z0, z1, z2, z3⟩ := zA5 b;obtain ⟨g0, g1, g2, g3⟩ := froz_4 b;have B : Hid _ := And.intro b c;have G : Hid _ := i;clear m b c i n H;go_wp2;obtain ⟨b, c⟩ := B.out;have F := put_4 (y0 := .bool f0) (y1 := .int .i64 f1) (y2 := .int .i64 f2) (y3 := .slice j d.length l) (zAp (g := w.heap.size + 1 + 1) (o := 3) (v := .slice j d.length l) b (by omega));obtain ⟨s, E, z, y⟩ := zA5 F;refine bodyPost_ret (v := .agg #[.bool f0, .int .i64 f1, .int .i64 f2, .slice j d.length l]) (by simp [results, Tryz.results117, go_sem, s, E, z, y]) rfl ⟨j, l, rfl, zL6 i1 i2 ?_, ?_⟩
 ·refine zA0.own_mono (zAc (zAc (zAc (zAc (zAc (G.out) (fun h => by have := h.1; omega)) (fun h => by have := h.1; omega)) (fun h => by have := h.1; omega)) (fun h => by have := h.1; omega)) (fun h => by have := h.1; omega)) ?_;exact zAZ (by omega) (by simp)
 ·exact zAi (zAi (zAi (zAi (zAi (q) (by omega)) (by omega)) (by omega)) (by omega)) (by omega)
theorem Tryz.infoDesc : (Tryz.prog.info? 165).map (fun i => (i.zero, i.size, i.bytes)) = some (some (.agg #[.bool false, .int .i64 0, .int .i64 0, .slice none 0 0]), 4, 48) := by kernel_rfl
theorem zK3 (a : Option Addr) (xs : List zBU) (cap : Nat) (w : World) (h : zA4 zAR w a xs) (hm : zBB.bk xs ≤ 1048576) :
    Calls Tryz.prog 67 #[.slice a xs.length cap] w fun e w' => ∃ v, e = .returned v ∧ zAI zC0 w w' [v] xs := by
 have C : zBB.bk xs = xs.length + zA6 zBA xs := rfl;have V : xs.length ≤ 1048576 := by omega
 have HB : Hid (zA6 zBA xs ≤ 1048576) := by unfold Hid; omega
 have H0 : Hid (zA4 zAR w a xs) := h;clear C hm h;have E := zBW (P := Tryz.prog) 44 165 (.agg #[.bool false, .int .i64 0, .int .i64 0, .slice none 0 0]) 4 48 Tryz.underlying44 Tryz.infoDesc xs.length (by omega) (by omega);go_enter Tryz.func67, Tryz.ntmps67;go_wp2;go_loopw [4] (fun i wr => ∃ k : Nat, k ≤ xs.length ∧ i = .int .i64 k ∧ zLa 165 zAR w wr xs.length (xs.take k)) (fun i _ => xs.length - (intOf i).toNat)
 case atStart => exact ⟨0, Nat.zero_le _, rfl, by simpa using zBV (e := 165) (R := zAR) (w0 := w) (n := xs.length) (cs := madeCells #[.bool false, .int .i64 0, .int .i64 0, .slice none 0 0] (xs.length * 4)) (by unfold maxLen; omega) (by rw [size_madeCells]; rfl)⟩
 case round =>
  obtain ⟨k, hk, rfl, j⟩ := hrel;by_cases l : k < xs.length
  ·have G : (k : Int) < (xs.length : Int) := by omega
   obtain ⟨x, q⟩ : ∃ x, xs[k]? = some x := ⟨_, List.getElem?_eq_getElem l⟩;obtain ⟨b, f, cs, rfl, g, d⟩ := zAy (zAm H0.out (zCx j)) q;obtain ⟨U, X, rfl, L, I, y, r, o⟩ := zEn g;have N := d 0 _ rfl;have K := d 1 _ rfl;have S := d 2 _ rfl;have O := d 3 _ rfl;rw [show f + (k * zAR.size + 0) = f + k * 4 from rfl] at N;rw [show f + (k * zAR.size + 1) = f + k * 4 + 1 from rfl] at K;rw [show f + (k * zAR.size + 2) = f + k * 4 + 2 from rfl] at S;rw [show f + (k * zAR.size + 3) = f + k * 4 + 3 from rfl] at O;have Z : Hid (zAs.bk x.2.2.2 ≤ 1048576) := by unfold Hid; have := zBX zBA xs q; rw [zK1] at this; have := HB.out; omega
   have T : Hid (zA4 zAG wr U x.2.2.2) := o;have M : Hid _ := And.intro L I;have H : Hid (∀ w1 c, zAI zAR wr w1 c x → _) := fun w1 c hm => zCt (w1 := w1) (c := c) j (by simp; omega) l hm;have Y : Hid (xs.take k ++ [x] = xs.take (k + 1)) := by unfold Hid; rw [List.take_add_one, q]; rfl
   clear q g d E j y r o L I;go_wp2_with fail
   refine (zMt x.2.1 x.2.2.1 x.1 x.2.2.2 _ _ _ M.out.1 M.out.2 T.out Z.out).mono ?_;rintro e w1 ⟨av, cv, rfl, J⟩;obtain ⟨m, p, B⟩ := H.out _ _ J;obtain ⟨v0, F⟩ := m 0 (by decide);obtain ⟨v1, s⟩ := m 1 (by decide);obtain ⟨v2, A⟩ := m 2 (by decide);obtain ⟨v3, D⟩ := m 3 (by decide);have z0 := p (k * 4);have z1 := p (k * 4 + 1);have z2 := p (k * 4 + 2);have z3 := p (k * 4 + 3);rw [show k * zAR.size + 0 = k * 4 from rfl] at F;rw [show k * zAR.size + 1 = k * 4 + 1 from rfl] at s;rw [show k * zAR.size + 2 = k * 4 + 2 from rfl] at A;rw [show k * zAR.size + 3 = k * 4 + 3 from rfl] at D;rw [Y.out] at B;have HF : Hid _ := B;clear B J m p H N K S O;go_wp2;go_roundw
   case rel => exact ⟨k + 1, by omega, by go_num, HF.out⟩
   case measure => simp [intOf]; omega
  ·have z : k = xs.length := by omega
   subst z;rw [List.take_length] at j;have FE := zCD j rfl;clear j;go_wp2;go_ret
   exact ⟨_, rfl, FE⟩
theorem zMu (f1 f2 : Int) (f0 : Bool) (d : List Int) (a1 a2 : Option Addr) (c1 c2 : Nat) (w : World) (h1 : zA4 zAG w a1 d) (h2 : zA4 zAG w a2 d) (hm : zAs.bk d ≤ 1152921504606846976) :
    Calls Tryz.prog 137 #[.agg #[.bool f0, .int .i64 f1, .int .i64 f2, .slice a1 d.length c1], .agg #[.bool f0, .int .i64 f1, .int .i64 f2, .slice a2 d.length c2]] w fun e b => e = .returned (.bool true) ∧ Below w.heap.size w b := by
 have a : Hid (∀ o o', Below w.heap.size w ((w.alloc o).alloc o')) := fun o o' => zAa (zAf w o) (zAf _ o');have f : Hid (∀ W, Below w.heap.size w W → zA4 zAG W a1 d) := fun W hb => zAq h1 fun k hk => hb.block k hk;have c : Hid (∀ W, Below w.heap.size w W → zA4 zAG W a2 d) := fun W hb => zAq h2 fun k hk => hb.block k hk;clear h1 h2;go_enter Tryz.func137, Tryz.ntmps137;go_wp2_with fail
 refine (zCo a1 a2 d c1 c2 _ (f.out _ (a.out _ _)) (c.out _ (a.out _ _)) hm).mono ?_;rintro e b ⟨rfl, n, rfl⟩;go_wp2;go_ret
 exact ⟨rfl, zCG (a.out _ _) n⟩
theorem zK4 (a1 a2 : Option Addr) (xs : List zBU) (c1 c2 : Nat) (w : World) (h1 : zA4 zAR w a1 xs) (h2 : zA4 zAR w a2 xs) (hm : (slM zBA).bk xs ≤ 1152921504606846976) :
    Calls Tryz.prog 81 #[.slice a1 xs.length c1, .slice a2 xs.length c2] w fun e w' => e = .returned (.bool true) ∧ Below w.heap.size w w' := by
 have U : (slM zBA).bk xs = xs.length + zA6 zBA xs := rfl;have bA : xs.length ≤ 1152921504606846976 := by omega
 have HB : Hid (zA6 zBA xs ≤ 1152921504606846976) := by unfold Hid; omega
 have Z : Hid (∀ W, Below w.heap.size w W → zA4 zAR W a1 xs) := fun W hb => zAq h1 fun k R => hb.block k R;have H2 : Hid (∀ W, Below w.heap.size w W → zA4 zAR W a2 xs) := fun W hb => zAq h2 fun k R => hb.block k R;clear U hm h1 h2;go_enter Tryz.func81, Tryz.ntmps81;go_wp2;go_loopw [5] (fun i wr => ∃ k : Nat, k ≤ xs.length ∧ i = .int .i64 k ∧ Below w.heap.size w wr) (fun i _ => xs.length - (intOf i).toNat)
 case atStart => exact ⟨0, Nat.zero_le _, rfl, Below.refl _ _⟩
 case round =>
  obtain ⟨k, R, rfl, y⟩ := hrel;by_cases S : k < xs.length
  ·have Y : (k : Int) < (xs.length : Int) := by omega
   obtain ⟨x, O⟩ : ∃ x, xs[k]? = some x := ⟨_, List.getElem?_eq_getElem S⟩;have HX : Hid ((zBA).bk x ≤ 1152921504606846976) := by unfold Hid; have := zBX zBA xs O; have := HB.out; omega
   obtain ⟨N, a, cA, rfl, r, d⟩ := zAy (Z.out _ y) O;obtain ⟨A, J, rfl, -, -, -, -, B⟩ := zEn r;have g := d 0 _ rfl;have q := d 1 _ rfl;have j := d 2 _ rfl;have p := d 3 _ rfl;rw [show a + (k * zAR.size + 0) = a + k * 4 from rfl] at g;rw [show a + (k * zAR.size + 1) = a + k * 4 + 1 from rfl] at q;rw [show a + (k * zAR.size + 2) = a + k * 4 + 2 from rfl] at j;rw [show a + (k * zAR.size + 3) = a + k * 4 + 3 from rfl] at p;have T : Hid (∀ n : Cls (fun wx => Below wr.heap.size wr wx), zA4 zAG n.w A x.2.2.2) := fun n => zAm B n.h;clear d r B;obtain ⟨v, b, fA, rfl, s, c⟩ := zAy (H2.out _ y) O;obtain ⟨H, E, rfl, -, -, -, -, z⟩ := zEn s;have f := c 0 _ rfl;have o := c 1 _ rfl;have m := c 2 _ rfl;have l := c 3 _ rfl;rw [show b + (k * zAR.size + 0) = b + k * 4 from rfl] at f;rw [show b + (k * zAR.size + 1) = b + k * 4 + 1 from rfl] at o;rw [show b + (k * zAR.size + 2) = b + k * 4 + 2 from rfl] at m;rw [show b + (k * zAR.size + 3) = b + k * 4 + 3 from rfl] at l;have V : Hid (∀ n : Cls (fun wx => Below wr.heap.size wr wx), zA4 zAG n.w H x.2.2.2) := fun n => zAm z n.h;clear c s z;have M : ∀ n : Cls (fun wx => Below wr.heap.size wr wx), n.w.cell? ⟨N, a + k * 4, none⟩ = some (.bool x.1) := fun n => zAe n.h g (zAk g);have I : ∀ n : Cls (fun wx => Below wr.heap.size wr wx), n.w.cell? ⟨N, a + k * 4 + 1, none⟩ = some (.int .i64 x.2.1) := fun n => zAe n.h q (zAk q);have D : ∀ n : Cls (fun wx => Below wr.heap.size wr wx), n.w.cell? ⟨N, a + k * 4 + 2, none⟩ = some (.int .i64 x.2.2.1) := fun n => zAe n.h j (zAk j);have L : ∀ n : Cls (fun wx => Below wr.heap.size wr wx), n.w.cell? ⟨N, a + k * 4 + 3, none⟩ = some (.slice A x.2.2.2.length J) := fun n => zAe n.h p (zAk p);have C : ∀ n : Cls (fun wx => Below wr.heap.size wr wx), n.w.cell? ⟨v, b + k * 4, none⟩ = some (.bool x.1) := fun n => zAe n.h f (zAk f);have K : ∀ n : Cls (fun wx => Below wr.heap.size wr wx), n.w.cell? ⟨v, b + k * 4 + 1, none⟩ = some (.int .i64 x.2.1) := fun n => zAe n.h o (zAk o);have F : ∀ n : Cls (fun wx => Below wr.heap.size wr wx), n.w.cell? ⟨v, b + k * 4 + 2, none⟩ = some (.int .i64 x.2.2.1) := fun n => zAe n.h m (zAk m);have G : ∀ n : Cls (fun wx => Below wr.heap.size wr wx), n.w.cell? ⟨v, b + k * 4 + 3, none⟩ = some (.slice H x.2.2.2.length E) := fun n => zAe n.h l (zAk l);clear O g q j p f o m l;go_wp2_with fail
   refine zAz (fun wx => Below wr.heap.size wr wx) (by kernel_rfl) (by kernel_rfl) ((Below.refl _ wr).drew) ?_;intro X;repeat (quiet_step ((go_at_call 137; exact zAj (zMu x.2.1 x.2.2.1 x.1 x.2.2.2 _ _ _ _ _ (T.out _) (V.out _) (by have := HX.out; rw [zK1] at this; exact this)) (fun w' hc bb => zAa hc bb))))
   refine wpQuiet_nil ?_;intro wx v;replace y := zAa y v;clear v X M I D L C K F G;go_wp2;go_roundw
   case rel => exact ⟨k + 1, by omega, by go_num, y⟩
   case measure => simp [intOf]; omega
  ·go_wp2;go_ret
   exact ⟨rfl, y⟩
end Go.Proofs.YtcocbafhcpdheaaGreatDoor
