import Derived.Test.YtdamokokcdcedaaGreatDoorG00Box
import Derived.Test.YtdamokokcdcedaaGreatDoorG19
namespace Go.Proofs.YtdamokokcdcedaaGreatDoor
set_option maxHeartbeats 4000000
open Go.ChangeShapes Go.WideShapes Go.ChangeAt Go.RowKit
set_option linter.unusedVariables false
abbrev coresR : Rep (List CoreD) := slR 98 coreR
abbrev coresM : Mk (List CoreD) := slM coreM
theorem opens_cores : Opens Tryz.prog 28 coresR := opens_slice Tryz.underlying28 (by kernel_rfl) (by decide) opens_core
theorem szCores_u : SzC 20 coresR coresM cell1 := by
 rintro N f left w ⟨a, E, rfl, X, O, h⟩ h0 h1;show Calls Tryz.prog 20 #[sL a f.length E, nI left] w _
 have jA : f.length ≤ 9223372036854775807 := Nat.le_trans X O;have l : coresM.bk f = f.length + sumbk coreM f := rfl;clear X O;by_cases hl : (f.length : Int) ≤ left
 ·have J : ¬ (left - (f.length : Int) < 0) := by omega
  have Z : Hid _ := l;have H0 : Hid (SlRd coreR w a f) := h;clear l h;go_enter Tryz.func20, Tryz.ntmps20;go_wp2;go_loopw [1, 5] (fun q i wr => ∃ k : Nat, k ≤ f.length ∧ i = nI k ∧ (sumbk coreM (f.take k) : Int) + f.length ≤ left ∧ q = nI (left - (f.length : Int) - sumbk coreM (f.take k)) ∧ Bl w wr) (fun _ i _ => f.length - (intOf i).toNat)
  case atStart => exact ⟨0, Nat.zero_le _, rfl, by simp [sumbk]; omega, by simp [sumbk], Below.refl _ _⟩
  case round =>
   obtain ⟨k, S, rfl, U, rfl, j⟩ := hrel;by_cases K : k < f.length
   ·have V : (k : Int) < (f.length : Int) := by omega
    obtain ⟨x, D⟩ : ∃ x, f[k]? = some x := ⟨_, List.getElem?_eq_getElem K⟩;have Y := slrd_keep H0.out fun k S => j.block k S;obtain ⟨b, d, N, rfl, g, c⟩ := slrd_at Y D;have A : Hid (coreR.rd wr N x) := g;obtain ⟨o, v, C, m, B, z, y, r, n, p, rfl⟩ := core_shape g;have x0 := c 0 _ rfl;have x1 := c 1 _ rfl;have x2 := c 2 _ rfl;have x3 := c 3 _ rfl;have x4 := c 4 _ rfl;have x5 := c 5 _ rfl;have x6 := c 6 _ rfl;have x7 := c 7 _ rfl;have x8 := c 8 _ rfl;rw [show d + (k * coreR.size + 0) = d + k * 9 from rfl] at x0;rw [show d + (k * coreR.size + 1) = d + k * 9 + 1 from rfl] at x1;rw [show d + (k * coreR.size + 2) = d + k * 9 + 2 from rfl] at x2;rw [show d + (k * coreR.size + 3) = d + k * 9 + 3 from rfl] at x3;rw [show d + (k * coreR.size + 4) = d + k * 9 + 4 from rfl] at x4;rw [show d + (k * coreR.size + 5) = d + k * 9 + 5 from rfl] at x5;rw [show d + (k * coreR.size + 6) = d + k * 9 + 6 from rfl] at x6;rw [show d + (k * coreR.size + 7) = d + k * 9 + 7 from rfl] at x7;rw [show d + (k * coreR.size + 8) = d + k * 9 + 8 from rfl] at x8;clear c g;have F : Hid _ := sumbk_step (M := coreM) D;have H := sumbk_get (M := coreM) D;clear D Y;generalize sumbk coreM (f.take k) = T at U F H ⊢;by_cases R : (((coreM).bk x : Nat) : Int) ≤ left - (f.length : Int) - (T : Int)
    ·have fA : ¬ (left - (f.length : Int) - (T : Int) - (((coreM).bk x : Nat) : Int) < 0) := by omega
     have G : Hid (szI ((coreM).bk x) (left - (f.length : Int) - (T : Int)) = _) := szI_yes R;go_wp2_with (go_at_call 62; refine (szCore_u [sL o x.1.1.length v, sL C x.1.2.length m, sL B x.2.1.length z, nI x.2.2.1, nI x.2.2.2.1, nI x.2.2.2.2.1.1, nI x.2.2.2.2.1.2.1, sL y x.2.2.2.2.1.2.2.length r, sL n x.2.2.2.2.2.length p] x _ _ A.out (by omega) (by omega)).mono ?_; rintro e w' ⟨rfl, s⟩; replace j := below_step j s; clear s; rw [G.out])
     go_roundw
     case rel => exact ⟨k + 1, by omega, by go_num, by have := F.out; omega, by rw [F.out]; go_num, j⟩
     case measure => simp [intOf]; omega
    ·have G : Hid (szI ((coreM).bk x) (left - (f.length : Int) - (T : Int)) = _) := szI_no R;have I : Hid (szI (coresM.bk f) left = -1) := by unfold Hid; rw [Z.out]; exact szI_no (by omega)
     go_wp2_with (go_at_call 62; refine (szCore_u [sL o x.1.1.length v, sL C x.1.2.length m, sL B x.2.1.length z, nI x.2.2.1, nI x.2.2.2.1, nI x.2.2.2.2.1.1, nI x.2.2.2.2.1.2.1, sL y x.2.2.2.2.1.2.2.length r, sL n x.2.2.2.2.2.length p] x _ _ A.out (by omega) (by omega)).mono ?_; rintro e w' ⟨rfl, s⟩; replace j := below_step j s; clear s; rw [G.out])
     go_ret
     exact ⟨ret_int I.out.symm, j⟩
   ·have L : k = f.length := by omega
    subst L;rw [List.take_length] at U ⊢;have I : Hid (szI (coresM.bk f) left = left - (f.length : Int) - (sumbk coreM f : Int)) := by unfold Hid; rw [Z.out, szI_yes (by omega)]; omega
    go_wp2;go_ret
    exact ⟨ret_int I.out.symm, j⟩
 ·have J : left - (f.length : Int) < 0 := by omega
  rw [szI_no (by omega)];clear l h;go_enter Tryz.func20, Tryz.ntmps20;go_wp2;go_ret
  exact ⟨rfl, Below.refl _ _⟩
theorem Tryz.infoCore : (Tryz.prog.info? 98).map (fun i => (i.zero, i.size, i.bytes)) = some (some (.agg #[sL none 0 0, sL none 0 0, sL none 0 0, nI 0, nI 0, nI 0, nI 0, sL none 0 0, sL none 0 0]), 9, 152) := by kernel_rfl
theorem toCores_u : ToC 28 coresR coresM cell1 := by
 rintro cs g w ⟨a, y, rfl, l1, l2, h⟩ O;show Calls Tryz.prog 28 #[sL a g.length y] w _
 have Z : coresM.bk g = g.length + sumbk coreM g := rfl;have HA : g.length ≤ 1048576 := by omega
 have HB : Hid (sumbk coreM g ≤ 1048576) := by unfold Hid; omega
 have H0 : Hid (SlRd coreR w a g) := h;clear Z O h l1 l2;have N := run_make_wide (P := Tryz.prog) 42 98 (.agg #[sL none 0 0, sL none 0 0, sL none 0 0, nI 0, nI 0, nI 0, nI 0, sL none 0 0, sL none 0 0]) 9 152 Tryz.underlying42 Tryz.infoCore g.length (by omega) (by omega);go_enter Tryz.func28, Tryz.ntmps28;go_wp2;go_loopw [4] (fun i wr => ∃ k : Nat, k ≤ g.length ∧ i = nI k ∧ Fill 98 coreR w wr g.length (g.take k)) (fun i _ => g.length - (intOf i).toNat)
 case atStart => exact ⟨0, Nat.zero_le _, rfl, by simpa using fillR_start (e := 98) (R := coreR) (w0 := w) (n := g.length) (cs := madeCells #[sL none 0 0, sL none 0 0, sL none 0 0, nI 0, nI 0, nI 0, nI 0, sL none 0 0, sL none 0 0] (g.length * 9)) (by unfold maxLen; omega) (by rw [size_madeCells]; rfl)⟩
 case round =>
  obtain ⟨k, hk, rfl, o⟩ := hrel;by_cases p : k < g.length
  ·have fA : (k : Int) < (g.length : Int) := by omega
   obtain ⟨x, q⟩ : ∃ x, g[k]? = some x := ⟨_, List.getElem?_eq_getElem p⟩;obtain ⟨b, f, cs, rfl, j, d⟩ := slrd_at (slrd_next H0.out (fill_below o)) q;have V : Hid (coreR.rd wr cs x) := j;obtain ⟨M, I, C, r, K, z, U, v, F, G, rfl⟩ := core_shape j;have x0 := d 0 _ rfl;have x1 := d 1 _ rfl;have x2 := d 2 _ rfl;have x3 := d 3 _ rfl;have x4 := d 4 _ rfl;have x5 := d 5 _ rfl;have x6 := d 6 _ rfl;have x7 := d 7 _ rfl;have x8 := d 8 _ rfl;rw [show f + (k * coreR.size + 0) = f + k * 9 from rfl] at x0;rw [show f + (k * coreR.size + 1) = f + k * 9 + 1 from rfl] at x1;rw [show f + (k * coreR.size + 2) = f + k * 9 + 2 from rfl] at x2;rw [show f + (k * coreR.size + 3) = f + k * 9 + 3 from rfl] at x3;rw [show f + (k * coreR.size + 4) = f + k * 9 + 4 from rfl] at x4;rw [show f + (k * coreR.size + 5) = f + k * 9 + 5 from rfl] at x5;rw [show f + (k * coreR.size + 6) = f + k * 9 + 6 from rfl] at x6;rw [show f + (k * coreR.size + 7) = f + k * 9 + 7 from rfl] at x7;rw [show f + (k * coreR.size + 8) = f + k * 9 + 8 from rfl] at x8;have HX : Hid (coreM.bk x ≤ 1048576) := by unfold Hid; have := sumbk_ge coreM g q; have := HB.out; omega
   have FS : Hid (∀ w1 c, MadeR coreR wr w1 c x → _) := fun w1 c O => fillR_step (w1 := w1) (c := c) o (by simp; omega) p O;have HP : Hid (g.take k ++ [x] = g.take (k + 1)) := by unfold Hid; rw [List.take_add_one, q]; rfl
   clear q j d N o;go_wp2_with fail
   refine (toCore_u [sL M x.1.1.length I, sL C x.1.2.length r, sL K x.2.1.length z, nI x.2.2.1, nI x.2.2.2.1, nI x.2.2.2.2.1.1, nI x.2.2.2.2.1.2.1, sL U x.2.2.2.2.1.2.2.length v, sL F x.2.2.2.2.2.length G] x _ V.out HX.out).mono ?_;rintro e w1 ⟨ds, rfl, J⟩;obtain ⟨CA, BA, nA, DA, mA, EA, sA, vA, IA, FA, rfl⟩ := core_shape (coreR.own_rd J.1);rw [aE];obtain ⟨m, l, Y⟩ := FS.out _ _ J;obtain ⟨v0, H⟩ := m 0 (by decide);obtain ⟨v1, S⟩ := m 1 (by decide);obtain ⟨v2, A⟩ := m 2 (by decide);obtain ⟨v3, T⟩ := m 3 (by decide);obtain ⟨v4, s⟩ := m 4 (by decide);obtain ⟨v5, L⟩ := m 5 (by decide);obtain ⟨v6, X⟩ := m 6 (by decide);obtain ⟨v7, B⟩ := m 7 (by decide);obtain ⟨v8, E⟩ := m 8 (by decide);have z0 := l (k * 9);have z1 := l (k * 9 + 1);have z2 := l (k * 9 + 2);have z3 := l (k * 9 + 3);have z4 := l (k * 9 + 4);have z5 := l (k * 9 + 5);have z6 := l (k * 9 + 6);have z7 := l (k * 9 + 7);have z8 := l (k * 9 + 8);rw [show k * coreR.size + 0 = k * 9 from rfl] at H;rw [show k * coreR.size + 1 = k * 9 + 1 from rfl] at S;rw [show k * coreR.size + 2 = k * 9 + 2 from rfl] at A;rw [show k * coreR.size + 3 = k * 9 + 3 from rfl] at T;rw [show k * coreR.size + 4 = k * 9 + 4 from rfl] at s;rw [show k * coreR.size + 5 = k * 9 + 5 from rfl] at L;rw [show k * coreR.size + 6 = k * 9 + 6 from rfl] at X;rw [show k * coreR.size + 7 = k * 9 + 7 from rfl] at B;rw [show k * coreR.size + 8 = k * 9 + 8 from rfl] at E;rw [HP.out] at Y;have HF : Hid _ := Y;clear Y J m l FS x0 x1 x2 x3 x4 x5 x6 x7 x8;go_wp2;go_roundw
   case rel => exact ⟨k + 1, by omega, by go_num, HF.out⟩
   case measure => simp [intOf]; omega
  ·have D : k = g.length := by omega
   subst D;rw [List.take_length] at o;have FE := fillR_end o rfl;clear o;go_wp2;go_ret
   exact ⟨[_], rfl, FE⟩
theorem eqCores_u : EqC 42 coresR coresM cell1 := by
 rintro cs ds f w ⟨a1, c1, rfl, l1, l2, h1⟩ ⟨a2, c2, rfl, k1, k2, h2⟩ hm;show Calls Tryz.prog 42 #[sL a1 f.length c1, sL a2 f.length c2] w _
 have OA : coresM.bk f = f.length + sumbk coreM f := rfl;have M : f.length ≤ lot := by omega
 have HB : Hid (sumbk coreM f ≤ lot) := by unfold Hid; omega
 have H1 : Hid (∀ W, Bl w W → SlRd coreR W a1 f) := fun W hb => slrd_keep h1 fun k V => hb.block k V;have H2 : Hid (∀ W, Bl w W → SlRd coreR W a2 f) := fun W hb => slrd_keep h2 fun k V => hb.block k V;have XA : f.length ≤ 4398046511104 := M;clear OA hm h1 h2 l1 l2 k1 k2 M;go_enter Tryz.func42, Tryz.ntmps42;go_wp2;go_loopw [5] (fun i wr => ∃ k : Nat, k ≤ f.length ∧ i = nI k ∧ Bl w wr) (fun i _ => f.length - (intOf i).toNat)
 case atStart => exact ⟨0, Nat.zero_le _, rfl, Below.refl _ _⟩
 case round =>
  obtain ⟨k, V, rfl, o⟩ := hrel;by_cases vA : k < f.length
  ·have TA : (k : Int) < (f.length : Int) := by omega
   obtain ⟨x, hx⟩ : ∃ x, f[k]? = some x := ⟨_, List.getElem?_eq_getElem vA⟩;have HX : Hid (coreM.bk x ≤ lot) := by unfold Hid; have := sumbk_ge coreM f hx; have := HB.out; omega
   obtain ⟨m, a, BA, rfl, j, c⟩ := slrd_at (H1.out _ o) hx;have yA : Hid (∀ n : Cls (fun wx => Bl wr wx), coreR.rd n.w BA x) := fun n => rd_next j n.h;obtain ⟨G, F, q, I, p, K, z, A, N, L, rfl⟩ := core_shape j;have S := c 0 _ rfl;have s1 := c 1 _ rfl;have s2 := c 2 _ rfl;have s3 := c 3 _ rfl;have T := c 4 _ rfl;have s5 := c 5 _ rfl;have Z := c 6 _ rfl;have O := c 7 _ rfl;have X := c 8 _ rfl;rw [show a + (k * coreR.size + 0) = a + k * 9 from rfl] at S;rw [show a + (k * coreR.size + 1) = a + k * 9 + 1 from rfl] at s1;rw [show a + (k * coreR.size + 2) = a + k * 9 + 2 from rfl] at s2;rw [show a + (k * coreR.size + 3) = a + k * 9 + 3 from rfl] at s3;rw [show a + (k * coreR.size + 4) = a + k * 9 + 4 from rfl] at T;rw [show a + (k * coreR.size + 5) = a + k * 9 + 5 from rfl] at s5;rw [show a + (k * coreR.size + 6) = a + k * 9 + 6 from rfl] at Z;rw [show a + (k * coreR.size + 7) = a + k * 9 + 7 from rfl] at O;rw [show a + (k * coreR.size + 8) = a + k * 9 + 8 from rfl] at X;clear c j;obtain ⟨g, b, EA, rfl, l, d⟩ := slrd_at (H2.out _ o) hx;have GA : Hid (∀ n : Cls (fun wx => Bl wr wx), coreR.rd n.w EA x) := fun n => rd_next l n.h;obtain ⟨H, D, y, r, E, v, J, s, B, C, rfl⟩ := core_shape l;have Y := d 0 _ rfl;have t1 := d 1 _ rfl;have t2 := d 2 _ rfl;have t3 := d 3 _ rfl;have t4 := d 4 _ rfl;have t5 := d 5 _ rfl;have R := d 6 _ rfl;have t7 := d 7 _ rfl;have U := d 8 _ rfl;rw [show b + (k * coreR.size + 0) = b + k * 9 from rfl] at Y;rw [show b + (k * coreR.size + 1) = b + k * 9 + 1 from rfl] at t1;rw [show b + (k * coreR.size + 2) = b + k * 9 + 2 from rfl] at t2;rw [show b + (k * coreR.size + 3) = b + k * 9 + 3 from rfl] at t3;rw [show b + (k * coreR.size + 4) = b + k * 9 + 4 from rfl] at t4;rw [show b + (k * coreR.size + 5) = b + k * 9 + 5 from rfl] at t5;rw [show b + (k * coreR.size + 6) = b + k * 9 + 6 from rfl] at R;rw [show b + (k * coreR.size + 7) = b + k * 9 + 7 from rfl] at t7;rw [show b + (k * coreR.size + 8) = b + k * 9 + 8 from rfl] at U;clear d l;have sA : ∀ n : Cls (fun wx => Bl wr wx), n.w.cell? ⟨m, a + k * 9, none⟩ = some (sL G x.1.1.length F) := fun n => cell_keep n.h S (cell_lt S);have FA : ∀ n : Cls (fun wx => Bl wr wx), n.w.cell? ⟨m, a + k * 9 + 1, none⟩ = some (sL q x.1.2.length I) := fun n => cell_keep n.h s1 (cell_lt s1);have pA : ∀ n : Cls (fun wx => Bl wr wx), n.w.cell? ⟨m, a + k * 9 + 2, none⟩ = some (sL p x.2.1.length K) := fun n => cell_keep n.h s2 (cell_lt s2);have NA : ∀ n : Cls (fun wx => Bl wr wx), n.w.cell? ⟨m, a + k * 9 + 3, none⟩ = some (nI x.2.2.1) := fun n => cell_keep n.h s3 (cell_lt s3);have rA : ∀ n : Cls (fun wx => Bl wr wx), n.w.cell? ⟨m, a + k * 9 + 4, none⟩ = some (nI x.2.2.2.1) := fun n => cell_keep n.h T (cell_lt T);have HA : ∀ n : Cls (fun wx => Bl wr wx), n.w.cell? ⟨m, a + k * 9 + 5, none⟩ = some (nI x.2.2.2.2.1.1) := fun n => cell_keep n.h s5 (cell_lt s5);have CA : ∀ n : Cls (fun wx => Bl wr wx), n.w.cell? ⟨m, a + k * 9 + 6, none⟩ = some (nI x.2.2.2.2.1.2.1) := fun n => cell_keep n.h Z (cell_lt Z);have qA : ∀ n : Cls (fun wx => Bl wr wx), n.w.cell? ⟨m, a + k * 9 + 7, none⟩ = some (sL z x.2.2.2.2.1.2.2.length A) := fun n => cell_keep n.h O (cell_lt O);have LA : ∀ n : Cls (fun wx => Bl wr wx), n.w.cell? ⟨m, a + k * 9 + 8, none⟩ = some (sL N x.2.2.2.2.2.length L) := fun n => cell_keep n.h X (cell_lt X);have nA : ∀ n : Cls (fun wx => Bl wr wx), n.w.cell? ⟨g, b + k * 9, none⟩ = some (sL H x.1.1.length D) := fun n => cell_keep n.h Y (cell_lt Y);have AA : ∀ n : Cls (fun wx => Bl wr wx), n.w.cell? ⟨g, b + k * 9 + 1, none⟩ = some (sL y x.1.2.length r) := fun n => cell_keep n.h t1 (cell_lt t1);have JA : ∀ n : Cls (fun wx => Bl wr wx), n.w.cell? ⟨g, b + k * 9 + 2, none⟩ = some (sL E x.2.1.length v) := fun n => cell_keep n.h t2 (cell_lt t2);have MA : ∀ n : Cls (fun wx => Bl wr wx), n.w.cell? ⟨g, b + k * 9 + 3, none⟩ = some (nI x.2.2.1) := fun n => cell_keep n.h t3 (cell_lt t3);have DA : ∀ n : Cls (fun wx => Bl wr wx), n.w.cell? ⟨g, b + k * 9 + 4, none⟩ = some (nI x.2.2.2.1) := fun n => cell_keep n.h t4 (cell_lt t4);have zA : ∀ n : Cls (fun wx => Bl wr wx), n.w.cell? ⟨g, b + k * 9 + 5, none⟩ = some (nI x.2.2.2.2.1.1) := fun n => cell_keep n.h t5 (cell_lt t5);have oA : ∀ n : Cls (fun wx => Bl wr wx), n.w.cell? ⟨g, b + k * 9 + 6, none⟩ = some (nI x.2.2.2.2.1.2.1) := fun n => cell_keep n.h R (cell_lt R);have KA : ∀ n : Cls (fun wx => Bl wr wx), n.w.cell? ⟨g, b + k * 9 + 7, none⟩ = some (sL J x.2.2.2.2.1.2.2.length s) := fun n => cell_keep n.h t7 (cell_lt t7);have IA : ∀ n : Cls (fun wx => Bl wr wx), n.w.cell? ⟨g, b + k * 9 + 8, none⟩ = some (sL B x.2.2.2.2.2.length C) := fun n => cell_keep n.h U (cell_lt U);clear hx S s1 s2 s3 T s5 Z O X Y t1 t2 t3 t4 t5 R t7 U;go_wp2_with fail
   refine region_class (fun wx => Bl wr wx) (by kernel_rfl) (by kernel_rfl) ((Below.refl _ wr).drew) ?_;intro mA;repeat (quiet_step ((go_at_call 100; exact calls_class (eqCore_u [sL G x.1.1.length F, sL q x.1.2.length I, sL p x.2.1.length K, nI x.2.2.1, nI x.2.2.2.1, nI x.2.2.2.2.1.1, nI x.2.2.2.2.1.2.1, sL z x.2.2.2.2.1.2.2.length A, sL N x.2.2.2.2.2.length L] [sL H x.1.1.length D, sL y x.1.2.length r, sL E x.2.1.length v, nI x.2.2.1, nI x.2.2.2.1, nI x.2.2.2.2.1.1, nI x.2.2.2.2.1.2.1, sL J x.2.2.2.2.1.2.2.length s, sL B x.2.2.2.2.2.length C] x _ (yA.out _) (GA.out _) HX.out) (fun w' hc bb => below_step hc bb))))
   refine wpQuiet_nil ?_;intro wx g;replace o := below_step o g;clear g mA sA FA pA NA rA HA CA qA LA nA AA JA MA DA zA oA KA IA;go_wp2;go_roundw
   case rel => exact ⟨k + 1, by omega, by go_num, o⟩
   case measure => simp [intOf]; omega
  ·go_wp2;go_ret
   exact ⟨rfl, o⟩
abbrev DescD := Bool × Int × Int × List Int
abbrev descR : Rep DescD := prodR boolR (prodR intR (prodR intR intsR))
abbrev descM : Mk DescD := prodM boolM (prodM intM (prodM intM intsM))
abbrev descsR : Rep (List DescD) := slR 187 descR
abbrev descsM : Mk (List DescD) := slM descM
theorem opens_desc : Opens Tryz.prog 184 descR :=
 opens_struct Tryz.underlying184 (by kernel_rfl) (opensF_cons rfl (by kernel_rfl) (opens_bool Tryz.underlying4) (opensF_cons rfl (by kernel_rfl) opens_i64 (opensF_cons rfl (by kernel_rfl) opens_i64 (opensF_one rfl (by kernel_rfl) opens_ints))))
theorem opens_descs : Opens Tryz.prog 29 descsR := opens_slice Tryz.underlying29 (by kernel_rfl) (by decide) opens_desc
theorem desc_rd {w : World} {cs : List Value} {u : DescD} (h : descR.rd w cs u) :
    ∃ a b, cs = [.bool u.1, nI u.2.1, nI u.2.2.1, sL a u.2.2.2.length b] ∧ In64 u.2.1 ∧ In64 u.2.2.1 ∧ u.2.2.2.length ≤ b ∧ b ≤ maxLen ∧ SlRd intR w a u.2.2.2 := by
 obtain ⟨c0, e0, rfl, rfl, c1, e1, rfl, ⟨rfl, c⟩, c2, e2, rfl, ⟨rfl, i⟩, ⟨a, b, rfl, g, f, d⟩⟩ := h;exact ⟨a, b, rfl, c, i, g, f, d⟩
theorem desc_own {w : World} {S : Foot} {cs : List Value} {u : DescD} (h : descR.own w S cs u) :
    ∃ v, cs = [.bool u.1, nI u.2.1, nI u.2.2.1, v] ∧ In64 u.2.1 ∧ In64 u.2.2.1 ∧ intsR.own w S [v] u.2.2.2 := by
 obtain ⟨c0, e0, S0, T0, rfl, rfl, ⟨c1, e1, S1, T1, rfl, ⟨rfl, i⟩, ⟨c2, b, S2, T2, rfl, ⟨rfl, g⟩, a, p2, c, d2⟩, p1, f, d1⟩, p0, j, d0⟩ := h;have d := intsR.rd_len (intsR.own_rd a);obtain ⟨v, rfl⟩ : ∃ v, b = [v] := List.length_eq_one_iff.1 d;exact ⟨v, rfl, i, g, intsR.own_mono a (((c).trans f).trans j)⟩
theorem own_desc {w : World} {S : Foot} {f1 f2 : Int} {f0 : Bool} {d : List Int} {v : Value} (i1 : In64 f1) (i2 : In64 f2) (h : intsR.own w S [v] d) : descR.own w S [.bool f0, nI f1, nI f2, v] (f0, f1, f2, d) :=
 ⟨[_], [_, _, _], fun _ => False, S, rfl, rfl, ⟨[_], [_, _], fun _ => False, S, rfl, ⟨rfl, i1⟩, ⟨[_], [_], fun _ => False, S, rfl, ⟨rfl, i2⟩, h, fun _ h => h.elim, Sub.refl _, fun _ h _ => h⟩, fun _ h => h.elim, Sub.refl _, fun _ h _ => h⟩, fun _ h => h.elim, Sub.refl _, fun _ h _ => h⟩
theorem bk_desc (u : DescD) : descM.bk u = intsM.bk u.2.2.2 := by
 show 0 + (0 + (0 + (intsM.bk u.2.2.2))) = _
 omega
theorem cells_4 {w : World} {g : Nat} {x0 x1 x2 x3 : Value} {t : TypeId} (h : w.heap[g]? = some (.cells #[x0, x1, x2, x3] t (0, 0))) :
    w.cell? ⟨g, 0, none⟩ = some x0 ∧ w.cell? ⟨g, 1, none⟩ = some x1 ∧ w.cell? ⟨g, 2, none⟩ = some x2 ∧ w.cell? ⟨g, 3, none⟩ = some x3 :=
 ⟨by rw [cell_of_row w g 0 _ t (0, 0) h]; rfl, by rw [cell_of_row w g 1 _ t (0, 0) h]; rfl, by rw [cell_of_row w g 2 _ t (0, 0) h]; rfl, by rw [cell_of_row w g 3 _ t (0, 0) h]; rfl⟩
theorem froz_4 {w : World} {g : Nat} {cs : Array Value} {t : TypeId} (h : w.heap[g]? = some (.cells cs t (0, 0))) : w.frozen? ⟨g, 0, none⟩ = false ∧ w.frozen? ⟨g, 1, none⟩ = false ∧ w.frozen? ⟨g, 2, none⟩ = false ∧ w.frozen? ⟨g, 3, none⟩ = false :=
 ⟨frozen_of_row w g 0 _ t h, frozen_of_row w g 1 _ t h, frozen_of_row w g 2 _ t h, frozen_of_row w g 3 _ t h⟩
theorem put_4 {w : World} {g : Nat} {x0 y0 x1 y1 x2 y2 x3 y3 : Value} {t : TypeId} (h : w.heap[g]? = some (.cells #[x0, x1, x2, x3] t (0, 0))) :
    ((((w.setCell ⟨g, 0, none⟩ y0).setCell ⟨g, 1, none⟩ y1).setCell ⟨g, 2, none⟩ y2).setCell ⟨g, 3, none⟩ y3).heap[g]? = some (.cells #[y0, y1, y2, y3] t (0, 0)) := by
 have a : (w.setCell ⟨g, 0, none⟩ y0).heap[g]? = some (.cells #[y0, x1, x2, x3] t (0, 0)) := heap_setCell_same _ g 0 _ t y0 h;have c : ((w.setCell ⟨g, 0, none⟩ y0).setCell ⟨g, 1, none⟩ y1).heap[g]? = some (.cells #[y0, y1, x2, x3] t (0, 0)) := heap_setCell_same _ g 1 _ t y1 a;have b : (((w.setCell ⟨g, 0, none⟩ y0).setCell ⟨g, 1, none⟩ y1).setCell ⟨g, 2, none⟩ y2).heap[g]? = some (.cells #[y0, y1, y2, x3] t (0, 0)) := heap_setCell_same _ g 2 _ t y2 c;have d : ((((w.setCell ⟨g, 0, none⟩ y0).setCell ⟨g, 1, none⟩ y1).setCell ⟨g, 2, none⟩ y2).setCell ⟨g, 3, none⟩ y3).heap[g]? = some (.cells #[y0, y1, y2, y3] t (0, 0)) := heap_setCell_same _ g 3 _ t y3 b;exact d
theorem szDesc_rep (f1 f2 : Int) (f0 : Bool) (d : List Int) (a : Option Addr) (cap : Nat) (left : Int) (w : World) (h0 : 0 ≤ left) (h1 : left ≤ 1048576) (hm : d.length ≤ maxLen) :
    Calls Tryz.prog 125 #[.agg #[.bool f0, nI f1, nI f2, sL a d.length cap], nI left] w fun e b => e = .returned (nI (szI (descM.bk (f0, f1, f2, d)) left)) ∧ Bl w b := by
 rw [bk_desc];show Calls Tryz.prog 125 _ w fun e b => e = .returned (nI (szI (intsM.bk d) left)) ∧ Bl w b
 by_cases f : (intsM.bk d : Int) ≤ left
 ·have c : Hid (szI (intsM.bk d) left = _) := szI_yes f;have g : ¬ (left - (intsM.bk d : Int) < 0) := by omega
  go_enter Tryz.func125, Tryz.ntmps125;go_wp2_with (go_at_call 120; refine (szInt64S_rep _ d _ _ _ h0 h1 hm).mono ?_; rintro e b ⟨rfl, rfl⟩; rw [c.out])
  go_ret
  exact ⟨ret_int c.out.symm, box_below w _⟩
 ·have c : Hid (szI (intsM.bk d) left = _) := szI_no f;go_enter Tryz.func125, Tryz.ntmps125;go_wp2_with (go_at_call 120; refine (szInt64S_rep _ d _ _ _ h0 h1 hm).mono ?_; rintro e b ⟨rfl, rfl⟩; rw [c.out])
  go_ret
  exact ⟨ret_int c.out.symm, box_below w _⟩
theorem szDescS_rep (a : Option Addr) (xs : List DescD) (cap : Nat) (left : Int) (w : World) (h : SlRd descR w a xs) (h0 : 0 ≤ left) (h1 : left ≤ 1048576) (hm : xs.length ≤ maxLen) :
    Calls Tryz.prog 63 #[sL a xs.length cap, nI left] w fun e p => e = .returned (nI (szI ((slM descM).bk xs) left)) ∧ Bl w p := by
 have S : xs.length ≤ 9223372036854775807 := hm;have j : (slM descM).bk xs = xs.length + sumbk descM xs := rfl;clear hm;by_cases hl : (xs.length : Int) ≤ left
 ·have z : ¬ (left - (xs.length : Int) < 0) := by omega
  have J : Hid _ := j;have U : Hid (SlRd descR w a xs) := h;clear j h;go_enter Tryz.func63, Tryz.ntmps63;go_wp2;go_loopw [1, 5] (fun q i wr => ∃ k : Nat, k ≤ xs.length ∧ i = nI k ∧ (sumbk descM (xs.take k) : Int) + xs.length ≤ left ∧ q = nI (left - (xs.length : Int) - sumbk descM (xs.take k)) ∧ Bl w wr) (fun _ i _ => xs.length - (intOf i).toNat)
  case atStart => exact ⟨0, Nat.zero_le _, rfl, by simp [sumbk]; omega, by simp [sumbk], Below.refl _ _⟩
  case round =>
   obtain ⟨k, E, rfl, F, rfl, g⟩ := hrel;by_cases B : k < xs.length
   ·have G : (k : Int) < (xs.length : Int) := by omega
    obtain ⟨x, o⟩ : ∃ x, xs[k]? = some x := ⟨_, List.getElem?_eq_getElem B⟩;have I := slrd_keep U.out fun k E => g.block k E;obtain ⟨b, d, cs, rfl, f, c⟩ := slrd_at I o;obtain ⟨ad, V, rfl, -, -, l, n, A⟩ := desc_rd f;have K := c 0 _ rfl;have L := c 1 _ rfl;have N := c 2 _ rfl;have O := c 3 _ rfl;rw [show d + (k * descR.size + 0) = d + k * 4 from rfl] at K;rw [show d + (k * descR.size + 1) = d + k * 4 + 1 from rfl] at L;rw [show d + (k * descR.size + 2) = d + k * 4 + 2 from rfl] at N;rw [show d + (k * descR.size + 3) = d + k * 4 + 3 from rfl] at O;have H : Hid (x.2.2.2.length ≤ maxLen) := Nat.le_trans l n;clear c f l n A;have r : Hid _ := sumbk_step (M := descM) o;have v := sumbk_get (M := descM) o;clear o I;generalize sumbk descM (xs.take k) = T at F r v ⊢;by_cases D : (((descM).bk x : Nat) : Int) ≤ left - (xs.length : Int) - (T : Int)
    ·have R : ¬ (left - (xs.length : Int) - (T : Int) - (((descM).bk x : Nat) : Int) < 0) := by omega
     have s : Hid (szI ((descM).bk x) (left - (xs.length : Int) - (T : Int)) = _) := szI_yes D;go_wp2_with (go_at_call 125; refine (szDesc_rep x.2.1 x.2.2.1 x.1 x.2.2.2 _ _ _ _ (by omega) (by omega) H.out).mono ?_; rintro e p ⟨rfl, m⟩; replace g := below_step g m; clear m; rw [s.out])
     go_roundw
     case rel => exact ⟨k + 1, by omega, by go_num, by have := r.out; omega, by rw [r.out]; go_num, g⟩
     case measure => simp [intOf]; omega
    ·have s : Hid (szI ((descM).bk x) (left - (xs.length : Int) - (T : Int)) = _) := szI_no D;have y : Hid (szI ((slM descM).bk xs) left = -1) := by unfold Hid; rw [J.out]; exact szI_no (by omega)
     go_wp2_with (go_at_call 125; refine (szDesc_rep x.2.1 x.2.2.1 x.1 x.2.2.2 _ _ _ _ (by omega) (by omega) H.out).mono ?_; rintro e p ⟨rfl, m⟩; replace g := below_step g m; clear m; rw [s.out])
     go_ret
     exact ⟨ret_int y.out.symm, g⟩
   ·have C : k = xs.length := by omega
    subst C;rw [List.take_length] at F ⊢;have y : Hid (szI ((slM descM).bk xs) left = left - (xs.length : Int) - (sumbk descM xs : Int)) := by unfold Hid; rw [J.out, szI_yes (by omega)]; omega
    go_wp2;go_ret
    exact ⟨ret_int y.out.symm, g⟩
 ·have z : left - (xs.length : Int) < 0 := by omega
  rw [szI_no (by omega)];clear j h;go_enter Tryz.func63, Tryz.ntmps63;go_wp2;go_ret
  exact ⟨rfl, Below.refl _ _⟩
theorem toDesc_rep (f1 f2 : Int) (f0 : Bool) (d : List Int) (a : Option Addr) (cap : Nat) (w : World) (i1 : In64 f1) (i2 : In64 f2) (h : SlRd intR w a d) (hm : intsM.bk d ≤ 1048576) :
    Calls Tryz.prog 143 #[.agg #[.bool f0, nI f1, nI f2, sL a d.length cap]] w fun e w' => ∃ j l, e = .returned (.agg #[.bool f0, nI f1, nI f2, sL j d.length l]) ∧ MadeR descR w w' [.bool f0, nI f1, nI f2, sL j d.length l] (f0, f1, f2, d) := by
 have H : Hid (∀ W, Bl w W → SlRd intR W a d) := fun W hb => slrd_keep h fun k hk => hb.block k hk;clear h;go_enter Tryz.func143, Tryz.ntmps143;go_wp2_with fail
 have p : Bl w (((w.alloc (.cells #[.bool f0, nI f1, nI f2, sL a d.length cap] 184)).alloc (.cells #[.bool false, nI 0, nI 0, sL none 0 0] 187)).alloc (.cells #[.bool f0, nI f1, nI f2, sL none 0 0] 187)) := (((Below.refl _ w).alloc (Nat.le_refl _) _).alloc (by simp) _).alloc (by simp; omega) _;have b := heap_on (.cells #[.bool f0, nI f1, nI f2, sL none 0 0] 187) (heap_at (w.alloc (.cells #[.bool f0, nI f1, nI f2, sL a d.length cap] 184)) (.cells #[.bool false, nI 0, nI 0, sL none 0 0] 187));have c := heap_at ((w.alloc (.cells #[.bool f0, nI f1, nI f2, sL a d.length cap] 184)).alloc (.cells #[.bool false, nI 0, nI 0, sL none 0 0] 187)) (.cells #[.bool f0, nI f1, nI f2, sL none 0 0] 187);have F : (((w.alloc (.cells #[.bool f0, nI f1, nI f2, sL a d.length cap] 184)).alloc (.cells #[.bool false, nI 0, nI 0, sL none 0 0] 187)).alloc (.cells #[.bool f0, nI f1, nI f2, sL none 0 0] 187)).heap.size = w.heap.size + 1 + 1 + 1 := by simp
 have m := heap_on (.cells #[.bool f0, nI f1, nI f2, sL none 0 0] 187) (heap_on (.cells #[.bool false, nI 0, nI 0, sL none 0 0] 187) (heap_at w (.cells #[.bool f0, nI f1, nI f2, sL a d.length cap] 184)));rw [alloc_len] at b;rw [alloc_len, alloc_len] at c;generalize ((w.alloc (.cells #[.bool f0, nI f1, nI f2, sL a d.length cap] 184)).alloc (.cells #[.bool false, nI 0, nI 0, sL none 0 0] 187)).alloc (.cells #[.bool f0, nI f1, nI f2, sL none 0 0] 187) = W0 at p m b c F ⊢;refine (toInt64S_rep _ d _ _ (H.out _ p) hm).mono ?_;rintro e w1 ⟨v, rfl, n⟩;obtain ⟨j, l, rfl⟩ := slown_val n.1;have f := n.2;have i := n.1;have G := below_step p f;replace m := row_keep f m;replace b := row_keep f b;replace c := row_keep f c;obtain ⟨q0, q1, q2, q3⟩ := cells_4 m;obtain ⟨y0, y1, y2, y3⟩ := cells_4 c;obtain ⟨r, I, q, A⟩ := froz_4 c;obtain ⟨z0, z1, z2, z3⟩ := cells_4 b;obtain ⟨g0, g1, g2, g3⟩ := froz_4 b;have E : Hid _ := aI b c;have C : Hid _ := i;clear m b c i n H;go_wp2;obtain ⟨b, c⟩ := E.out;have B := put_4 (y0 := .bool f0) (y1 := nI f1) (y2 := nI f2) (y3 := sL j d.length l) (heap_setC (g := w.heap.size + 1 + 1) (o := 3) (v := sL j d.length l) b (by omega));obtain ⟨s, y, D, z⟩ := cells_4 B;refine bodyPost_ret (v := .agg #[.bool f0, nI f1, nI f2, sL j d.length l]) (by simp [results, Tryz.results143, go_sem, s, y, D, z]) rfl ⟨j, l, rfl, own_desc i1 i2 ?_, ?_⟩
 ·refine intsR.own_mono (own_setC (own_setC (own_setC (own_setC (own_setC (C.out) (fun h => by have := h.1; omega)) (fun h => by have := h.1; omega)) (fun h => by have := h.1; omega)) (fun h => by have := h.1; omega)) (fun h => by have := h.1; omega)) ?_;exact rng_sub (by omega) (by simp)
 ·exact below_setC (below_setC (below_setC (below_setC (below_setC (G) (by omega)) (by omega)) (by omega)) (by omega)) (by omega)
theorem Tryz.infoDesc : (Tryz.prog.info? 187).map (fun i => (i.zero, i.size, i.bytes)) = some (some (.agg #[.bool false, nI 0, nI 0, sL none 0 0]), 4, 48) := by kernel_rfl
theorem toDescS_rep (a : Option Addr) (xs : List DescD) (cap : Nat) (w : World) (h : SlRd descR w a xs) (hm : descsM.bk xs ≤ 1048576) :
    Calls Tryz.prog 80 #[sL a xs.length cap] w fun e w' => ∃ v, e = .returned v ∧ MadeR descsR w w' [v] xs := by
 have E : descsM.bk xs = xs.length + sumbk descM xs := rfl;have V : xs.length ≤ 1048576 := by omega
 have HB : Hid (sumbk descM xs ≤ 1048576) := by unfold Hid; omega
 have H0 : Hid (SlRd descR w a xs) := h;clear E hm h;have y := run_make_wide (P := Tryz.prog) 43 187 (.agg #[.bool false, nI 0, nI 0, sL none 0 0]) 4 48 Tryz.underlying43 Tryz.infoDesc xs.length (by omega) (by omega);go_enter Tryz.func80, Tryz.ntmps80;go_wp2;go_loopw [4] (fun i wr => ∃ k : Nat, k ≤ xs.length ∧ i = nI k ∧ Fill 187 descR w wr xs.length (xs.take k)) (fun i _ => xs.length - (intOf i).toNat)
 case atStart => exact ⟨0, Nat.zero_le _, rfl, by simpa using fillR_start (e := 187) (R := descR) (w0 := w) (n := xs.length) (cs := madeCells #[.bool false, nI 0, nI 0, sL none 0 0] (xs.length * 4)) (by unfold maxLen; omega) (by rw [size_madeCells]; rfl)⟩
 case round =>
  obtain ⟨k, hk, rfl, j⟩ := hrel;by_cases p : k < xs.length
  ·have K : (k : Int) < (xs.length : Int) := by omega
   obtain ⟨x, q⟩ : ∃ x, xs[k]? = some x := ⟨_, List.getElem?_eq_getElem p⟩;obtain ⟨b, f, cs, rfl, g, d⟩ := slrd_at (slrd_next H0.out (fill_below j)) q;obtain ⟨Y, dA, rfl, S, N, r, A, o⟩ := desc_rd g;have G := d 0 _ rfl;have H := d 1 _ rfl;have I := d 2 _ rfl;have J := d 3 _ rfl;rw [show f + (k * descR.size + 0) = f + k * 4 from rfl] at G;rw [show f + (k * descR.size + 1) = f + k * 4 + 1 from rfl] at H;rw [show f + (k * descR.size + 2) = f + k * 4 + 2 from rfl] at I;rw [show f + (k * descR.size + 3) = f + k * 4 + 3 from rfl] at J;have Z : Hid (intsM.bk x.2.2.2 ≤ 1048576) := by unfold Hid; have := sumbk_ge descM xs q; rw [bk_desc] at this; have := HB.out; omega
   have T : Hid (SlRd intR wr Y x.2.2.2) := o;have M : Hid _ := aI S N;have L : Hid (∀ w1 c, MadeR descR wr w1 c x → _) := fun w1 c hm => fillR_step (w1 := w1) (c := c) j (by simp; omega) p hm;have X : Hid (xs.take k ++ [x] = xs.take (k + 1)) := by unfold Hid; rw [List.take_add_one, q]; rfl
   clear q g d y j r A o S N;go_wp2_with fail
   refine (toDesc_rep x.2.1 x.2.2.1 x.1 x.2.2.2 _ _ _ M.out.1 M.out.2 T.out Z.out).mono ?_;rintro e w1 ⟨av, cv, rfl, O⟩;obtain ⟨m, l, D⟩ := L.out _ _ O;obtain ⟨v0, s⟩ := m 0 (by decide);obtain ⟨v1, z⟩ := m 1 (by decide);obtain ⟨v2, C⟩ := m 2 (by decide);obtain ⟨v3, B⟩ := m 3 (by decide);have z0 := l (k * 4);have z1 := l (k * 4 + 1);have z2 := l (k * 4 + 2);have z3 := l (k * 4 + 3);rw [show k * descR.size + 0 = k * 4 from rfl] at s;rw [show k * descR.size + 1 = k * 4 + 1 from rfl] at z;rw [show k * descR.size + 2 = k * 4 + 2 from rfl] at C;rw [show k * descR.size + 3 = k * 4 + 3 from rfl] at B;rw [X.out] at D;have HF : Hid _ := D;clear D O m l L G H I J;go_wp2;go_roundw
   case rel => exact ⟨k + 1, by omega, by go_num, HF.out⟩
   case measure => simp [intOf]; omega
  ·have F : k = xs.length := by omega
   subst F;rw [List.take_length] at j;have U := fillR_end j rfl;clear j;go_wp2;go_ret
   exact ⟨_, rfl, U⟩
theorem eqDesc_rep (f1 f2 : Int) (f0 : Bool) (d : List Int) (a1 a2 : Option Addr) (c1 c2 : Nat) (w : World) (h1 : SlRd intR w a1 d) (h2 : SlRd intR w a2 d) (hm : intsM.bk d ≤ 1152921504606846976) :
    Calls Tryz.prog 167 #[.agg #[.bool f0, nI f1, nI f2, sL a1 d.length c1], .agg #[.bool f0, nI f1, nI f2, sL a2 d.length c2]] w fun e b => e = .returned (.bool true) ∧ Bl w b := by
 have a : Hid (∀ o o', Bl w ((w.alloc o).alloc o')) := fun o o' => below_step (box_below w o) (box_below _ o');have f : Hid (∀ W, Bl w W → SlRd intR W a1 d) := fun W hb => slrd_keep h1 fun k hk => hb.block k hk;have c : Hid (∀ W, Bl w W → SlRd intR W a2 d) := fun W hb => slrd_keep h2 fun k hk => hb.block k hk;clear h1 h2;go_enter Tryz.func167, Tryz.ntmps167;go_wp2_with fail
 refine (eqInt64S_rep a1 a2 d c1 c2 _ (f.out _ (a.out _ _)) (c.out _ (a.out _ _)) hm).mono ?_;rintro e b ⟨rfl, n, rfl⟩;go_wp2;go_ret
 exact ⟨rfl, be_drewN (a.out _ _) n⟩
theorem eqDescS_rep (a1 a2 : Option Addr) (xs : List DescD) (c1 c2 : Nat) (w : World) (h1 : SlRd descR w a1 xs) (h2 : SlRd descR w a2 xs) (hm : (slM descM).bk xs ≤ 1152921504606846976) :
    Calls Tryz.prog 101 #[sL a1 xs.length c1, sL a2 xs.length c2] w fun e w' => e = .returned (.bool true) ∧ Bl w w' := by
 have X : (slM descM).bk xs = xs.length + sumbk descM xs := rfl;have aA : xs.length ≤ 1152921504606846976 := by omega
 have HB : Hid (sumbk descM xs ≤ 1152921504606846976) := by unfold Hid; omega
 have Z : Hid (∀ W, Bl w W → SlRd descR W a1 xs) := fun W hb => slrd_keep h1 fun k O => hb.block k O;have H2 : Hid (∀ W, Bl w W → SlRd descR W a2 xs) := fun W hb => slrd_keep h2 fun k O => hb.block k O;clear X hm h1 h2;go_enter Tryz.func101, Tryz.ntmps101;go_wp2;go_loopw [5] (fun i wr => ∃ k : Nat, k ≤ xs.length ∧ i = nI k ∧ Bl w wr) (fun i _ => xs.length - (intOf i).toNat)
 case atStart => exact ⟨0, Nat.zero_le _, rfl, Below.refl _ _⟩
 case round =>
  obtain ⟨k, O, rfl, y⟩ := hrel;by_cases V : k < xs.length
  ·have Y : (k : Int) < (xs.length : Int) := by omega
   obtain ⟨x, R⟩ : ∃ x, xs[k]? = some x := ⟨_, List.getElem?_eq_getElem V⟩;have HX : Hid ((descM).bk x ≤ 1152921504606846976) := by unfold Hid; have := sumbk_ge descM xs R; have := HB.out; omega
   obtain ⟨N, a, fA, rfl, r, c⟩ := slrd_at (Z.out _ y) R;obtain ⟨I, H, rfl, -, -, -, -, B⟩ := desc_rd r;have f := c 0 _ rfl;have p := c 1 _ rfl;have m := c 2 _ rfl;have g := c 3 _ rfl;rw [show a + (k * descR.size + 0) = a + k * 4 from rfl] at f;rw [show a + (k * descR.size + 1) = a + k * 4 + 1 from rfl] at p;rw [show a + (k * descR.size + 2) = a + k * 4 + 2 from rfl] at m;rw [show a + (k * descR.size + 3) = a + k * 4 + 3 from rfl] at g;have T : Hid (∀ n : Cls (fun wx => Bl wr wx), SlRd intR n.w I x.2.2.2) := fun n => slrd_next B n.h;clear c r B;obtain ⟨v, b, bA, rfl, s, d⟩ := slrd_at (H2.out _ y) R;obtain ⟨G, C, rfl, -, -, -, -, L⟩ := desc_rd s;have j := d 0 _ rfl;have l := d 1 _ rfl;have q := d 2 _ rfl;have o := d 3 _ rfl;rw [show b + (k * descR.size + 0) = b + k * 4 from rfl] at j;rw [show b + (k * descR.size + 1) = b + k * 4 + 1 from rfl] at l;rw [show b + (k * descR.size + 2) = b + k * 4 + 2 from rfl] at q;rw [show b + (k * descR.size + 3) = b + k * 4 + 3 from rfl] at o;have U : Hid (∀ n : Cls (fun wx => Bl wr wx), SlRd intR n.w G x.2.2.2) := fun n => slrd_next L n.h;clear d s L;have M : ∀ n : Cls (fun wx => Bl wr wx), n.w.cell? ⟨N, a + k * 4, none⟩ = some (.bool x.1) := fun n => cell_keep n.h f (cell_lt f);have A : ∀ n : Cls (fun wx => Bl wr wx), n.w.cell? ⟨N, a + k * 4 + 1, none⟩ = some (nI x.2.1) := fun n => cell_keep n.h p (cell_lt p);have E : ∀ n : Cls (fun wx => Bl wr wx), n.w.cell? ⟨N, a + k * 4 + 2, none⟩ = some (nI x.2.2.1) := fun n => cell_keep n.h m (cell_lt m);have D : ∀ n : Cls (fun wx => Bl wr wx), n.w.cell? ⟨N, a + k * 4 + 3, none⟩ = some (sL I x.2.2.2.length H) := fun n => cell_keep n.h g (cell_lt g);have K : ∀ n : Cls (fun wx => Bl wr wx), n.w.cell? ⟨v, b + k * 4, none⟩ = some (.bool x.1) := fun n => cell_keep n.h j (cell_lt j);have z : ∀ n : Cls (fun wx => Bl wr wx), n.w.cell? ⟨v, b + k * 4 + 1, none⟩ = some (nI x.2.1) := fun n => cell_keep n.h l (cell_lt l);have J : ∀ n : Cls (fun wx => Bl wr wx), n.w.cell? ⟨v, b + k * 4 + 2, none⟩ = some (nI x.2.2.1) := fun n => cell_keep n.h q (cell_lt q);have F : ∀ n : Cls (fun wx => Bl wr wx), n.w.cell? ⟨v, b + k * 4 + 3, none⟩ = some (sL G x.2.2.2.length C) := fun n => cell_keep n.h o (cell_lt o);clear R f p m g j l q o;go_wp2_with fail
   refine region_class (fun wx => Bl wr wx) (by kernel_rfl) (by kernel_rfl) ((Below.refl _ wr).drew) ?_;intro S;repeat (quiet_step ((go_at_call 167; exact calls_class (eqDesc_rep x.2.1 x.2.2.1 x.1 x.2.2.2 _ _ _ _ _ (T.out _) (U.out _) (by have := HX.out; rw [bk_desc] at this; exact this)) (fun w' hc bb => below_step hc bb))))
   refine wpQuiet_nil ?_;intro wx v;replace y := below_step y v;clear v S M A E D K z J F;go_wp2;go_roundw
   case rel => exact ⟨k + 1, by omega, by go_num, y⟩
   case measure => simp [intOf]; omega
  ·go_wp2;go_ret
   exact ⟨rfl, y⟩
end Go.Proofs.YtdamokokcdcedaaGreatDoor
