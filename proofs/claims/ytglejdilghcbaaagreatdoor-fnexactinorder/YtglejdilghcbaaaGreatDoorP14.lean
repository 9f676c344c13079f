import Derived.Test.YtglejdilghcbaaaGreatDoorP00Box
import Derived.Test.YtglejdilghcbaaaGreatDoorP13
namespace Go.Proofs.YtglejdilghcbaaaGreatDoor
set_option maxHeartbeats 4000000
open Go.ChangeShapes Go.WideShapes Go.ChangeAt Go.RowKit
set_option linter.unusedVariables false
abbrev eventsR : Rep (List EventD) := slR 71 eventR
abbrev eventsM : Mk (List EventD) := slM eventM
theorem opens_events : Opens Tryz.prog 33 eventsR := opens_slice Tryz.underlying33 (by kernel_rfl) (by decide) opens_event
theorem szEvents_u : SzC 13 eventsR eventsM cell1 := by
 rintro G f left w ⟨a, y, rfl, E, N, h⟩ h0 h1;show Calls Tryz.prog 13 #[sL a f.length y, nI left] w _
 have cA : f.length ≤ 9223372036854775807 := Nat.le_trans E N;have l : eventsM.bk f = f.length + sumbk eventM f := rfl;clear E N;by_cases hl : (f.length : Int) ≤ left
 ·have z : ¬ (left - (f.length : Int) < 0) := by omega
  have K : Hid _ := l;have H0 : Hid (SlRd eventR w a f) := h;clear l h;go_enter Tryz.func13, Tryz.ntmps13;go_wp2;go_loopw [1, 5] (fun q i wr => ∃ k : Nat, k ≤ f.length ∧ i = nI k ∧ (sumbk eventM (f.take k) : Int) + f.length ≤ left ∧ q = nI (left - (f.length : Int) - sumbk eventM (f.take k)) ∧ Bl w wr) (fun _ i _ => f.length - (intOf i).toNat)
  case atStart => exact ⟨0, Nat.zero_le _, rfl, by simp [sumbk]; omega, by simp [sumbk], Below.refl _ _⟩
  case round =>
   obtain ⟨k, L, rfl, I, rfl, j⟩ := hrel;by_cases v : k < f.length
   ·have F : (k : Int) < (f.length : Int) := by omega
    obtain ⟨x, r⟩ : ∃ x, f[k]? = some x := ⟨_, List.getElem?_eq_getElem v⟩;have J := slrd_keep H0.out fun k L => j.block k L;obtain ⟨b, d, G, rfl, g, c⟩ := slrd_at J r;have n : Hid (eventR.rd wr G x) := g;obtain ⟨p, o, rfl⟩ := event_shape g;have x0 := c 0 _ rfl;have S := c 1 _ rfl;have x2 := c 2 _ rfl;have R := c 3 _ rfl;have X := c 4 _ rfl;have U := c 5 _ rfl;have x6 := c 6 _ rfl;have Y := c 7 _ rfl;have Z := c 8 _ rfl;rw [show d + (k * eventR.size + 0) = d + k * 9 from rfl] at x0;rw [show d + (k * eventR.size + 1) = d + k * 9 + 1 from rfl] at S;rw [show d + (k * eventR.size + 2) = d + k * 9 + 2 from rfl] at x2;rw [show d + (k * eventR.size + 3) = d + k * 9 + 3 from rfl] at R;rw [show d + (k * eventR.size + 4) = d + k * 9 + 4 from rfl] at X;rw [show d + (k * eventR.size + 5) = d + k * 9 + 5 from rfl] at U;rw [show d + (k * eventR.size + 6) = d + k * 9 + 6 from rfl] at x6;rw [show d + (k * eventR.size + 7) = d + k * 9 + 7 from rfl] at Y;rw [show d + (k * eventR.size + 8) = d + k * 9 + 8 from rfl] at Z;clear c g;have D : Hid _ := sumbk_step (M := eventM) r;have s := sumbk_get (M := eventM) r;clear r J;generalize sumbk eventM (f.take k) = T at I D s ⊢;by_cases H : (((eventM).bk x : Nat) : Int) ≤ left - (f.length : Int) - (T : Int)
    ·have V : ¬ (left - (f.length : Int) - (T : Int) - (((eventM).bk x : Nat) : Int) < 0) := by omega
     have C : Hid (szI ((eventM).bk x) (left - (f.length : Int) - (T : Int)) = _) := szI_yes H;go_wp2_with (go_at_call 36; refine (szEvent_u [nI x.1, nI x.2.1.1, nI x.2.1.2.1, nI x.2.1.2.2.1, nI x.2.1.2.2.2, nI x.2.2.1, nI x.2.2.2.1, sL p x.2.2.2.2.1.length o, nI x.2.2.2.2.2] x _ _ n.out (by omega) (by omega)).mono ?_; rintro e O ⟨rfl, m⟩; replace j := below_step j m; clear m; rw [C.out])
     go_roundw
     case rel => exact ⟨k + 1, by omega, by go_num, by have := D.out; omega, by rw [D.out]; go_num, j⟩
     case measure => simp [intOf]; omega
    ·have C : Hid (szI ((eventM).bk x) (left - (f.length : Int) - (T : Int)) = _) := szI_no H;have B : Hid (szI (eventsM.bk f) left = -1) := by unfold Hid; rw [K.out]; exact szI_no (by omega)
     go_wp2_with (go_at_call 36; refine (szEvent_u [nI x.1, nI x.2.1.1, nI x.2.1.2.1, nI x.2.1.2.2.1, nI x.2.1.2.2.2, nI x.2.2.1, nI x.2.2.2.1, sL p x.2.2.2.2.1.length o, nI x.2.2.2.2.2] x _ _ n.out (by omega) (by omega)).mono ?_; rintro e O ⟨rfl, m⟩; replace j := below_step j m; clear m; rw [C.out])
     go_ret
     exact ⟨ret_int B.out.symm, j⟩
   ·have A : k = f.length := by omega
    subst A;rw [List.take_length] at I ⊢;have B : Hid (szI (eventsM.bk f) left = left - (f.length : Int) - (sumbk eventM f : Int)) := by unfold Hid; rw [K.out, szI_yes (by omega)]; omega
    go_wp2;go_ret
    exact ⟨ret_int B.out.symm, j⟩
 ·have z : left - (f.length : Int) < 0 := by omega
  rw [szI_no (by omega)];clear l h;go_enter Tryz.func13, Tryz.ntmps13;go_wp2;go_ret
  exact ⟨rfl, Below.refl _ _⟩
theorem Tryz.infoEvent : (Tryz.prog.info? 71).map (fun i => (i.zero, i.size, i.bytes)) = some (some (.agg #[nI 0, nI 0, nI 0, nI 0, nI 0, nI 0, nI 0, sL none 0 0, nI 0]), 9, 88) := by kernel_rfl
theorem toEvents_u : ToC 22 eventsR eventsM cell1 := by
 rintro cs g w ⟨a, J, rfl, l1, l2, h⟩ G;show Calls Tryz.prog 22 #[sL a g.length J] w _
 have C : eventsM.bk g = g.length + sumbk eventM g := rfl;have jA : g.length ≤ 1048576 := by omega
 have HB : Hid (sumbk eventM g ≤ 1048576) := by unfold Hid; omega
 have H0 : Hid (SlRd eventR w a g) := h;clear C G h l1 l2;have v := run_make_wide (P := Tryz.prog) 47 71 (.agg #[nI 0, nI 0, nI 0, nI 0, nI 0, nI 0, nI 0, sL none 0 0, nI 0]) 9 88 Tryz.underlying47 Tryz.infoEvent g.length (by omega) (by omega);go_enter Tryz.func22, Tryz.ntmps22;go_wp2;go_loopw [4] (fun i wr => ∃ k : Nat, k ≤ g.length ∧ i = nI k ∧ Fill 71 eventR w wr g.length (g.take k)) (fun i _ => g.length - (intOf i).toNat)
 case atStart => exact ⟨0, Nat.zero_le _, rfl, by simpa using fillR_start (e := 71) (R := eventR) (w0 := w) (n := g.length) (cs := madeCells #[nI 0, nI 0, nI 0, nI 0, nI 0, nI 0, nI 0, sL none 0 0, nI 0] (g.length * 9)) (by unfold maxLen; omega) (by rw [size_madeCells]; rfl)⟩
 case round =>
  obtain ⟨k, hk, rfl, o⟩ := hrel;by_cases p : k < g.length
  ·have S : (k : Int) < (g.length : Int) := by omega
   obtain ⟨x, q⟩ : ∃ x, g[k]? = some x := ⟨_, List.getElem?_eq_getElem p⟩;obtain ⟨b, f, cs, rfl, j, d⟩ := slrd_at (slrd_next H0.out (fill_below o)) q;have D : Hid (eventR.rd wr cs x) := j;obtain ⟨N, K, rfl⟩ := event_shape j;have X := d 0 _ rfl;have V := d 1 _ rfl;have x2 := d 2 _ rfl;have O := d 3 _ rfl;have U := d 4 _ rfl;have Y := d 5 _ rfl;have x6 := d 6 _ rfl;have Z := d 7 _ rfl;have x8 := d 8 _ rfl;rw [show f + (k * eventR.size + 0) = f + k * 9 from rfl] at X;rw [show f + (k * eventR.size + 1) = f + k * 9 + 1 from rfl] at V;rw [show f + (k * eventR.size + 2) = f + k * 9 + 2 from rfl] at x2;rw [show f + (k * eventR.size + 3) = f + k * 9 + 3 from rfl] at O;rw [show f + (k * eventR.size + 4) = f + k * 9 + 4 from rfl] at U;rw [show f + (k * eventR.size + 5) = f + k * 9 + 5 from rfl] at Y;rw [show f + (k * eventR.size + 6) = f + k * 9 + 6 from rfl] at x6;rw [show f + (k * eventR.size + 7) = f + k * 9 + 7 from rfl] at Z;rw [show f + (k * eventR.size + 8) = f + k * 9 + 8 from rfl] at x8;have HX : Hid (eventM.bk x ≤ 1048576) := by unfold Hid; have := sumbk_ge eventM g q; have := HB.out; omega
   have T : Hid (∀ w1 c, MadeR eventR wr w1 c x → _) := fun w1 c G => fillR_step (w1 := w1) (c := c) o (by simp; omega) p G;have HP : Hid (g.take k ++ [x] = g.take (k + 1)) := by unfold Hid; rw [List.take_add_one, q]; rfl
   clear q j d v o;go_wp2_with fail
   refine (toEvent_u [nI x.1, nI x.2.1.1, nI x.2.1.2.1, nI x.2.1.2.2.1, nI x.2.1.2.2.2, nI x.2.2.1, nI x.2.2.2.1, sL N x.2.2.2.2.1.length K, nI x.2.2.2.2.2] x _ D.out HX.out).mono ?_;rintro e w1 ⟨ds, rfl, E⟩;obtain ⟨oA, kA, rfl⟩ := event_shape (eventR.own_rd E.1);rw [aE];obtain ⟨l, m, z⟩ := T.out _ _ E;obtain ⟨v0, B⟩ := l 0 (by decide);obtain ⟨v1, M⟩ := l 1 (by decide);obtain ⟨v2, y⟩ := l 2 (by decide);obtain ⟨v3, r⟩ := l 3 (by decide);obtain ⟨v4, s⟩ := l 4 (by decide);obtain ⟨v5, H⟩ := l 5 (by decide);obtain ⟨v6, L⟩ := l 6 (by decide);obtain ⟨v7, I⟩ := l 7 (by decide);obtain ⟨v8, F⟩ := l 8 (by decide);have z0 := m (k * 9);have z1 := m (k * 9 + 1);have z2 := m (k * 9 + 2);have z3 := m (k * 9 + 3);have z4 := m (k * 9 + 4);have z5 := m (k * 9 + 5);have z6 := m (k * 9 + 6);have z7 := m (k * 9 + 7);have z8 := m (k * 9 + 8);rw [show k * eventR.size + 0 = k * 9 from rfl] at B;rw [show k * eventR.size + 1 = k * 9 + 1 from rfl] at M;rw [show k * eventR.size + 2 = k * 9 + 2 from rfl] at y;rw [show k * eventR.size + 3 = k * 9 + 3 from rfl] at r;rw [show k * eventR.size + 4 = k * 9 + 4 from rfl] at s;rw [show k * eventR.size + 5 = k * 9 + 5 from rfl] at H;rw [show k * eventR.size + 6 = k * 9 + 6 from rfl] at L;rw [show k * eventR.size + 7 = k * 9 + 7 from rfl] at I;rw [show k * eventR.size + 8 = k * 9 + 8 from rfl] at F;rw [HP.out] at z;have HF : Hid _ := z;clear z E l m T X V x2 O U Y x6 Z x8;go_wp2;go_roundw
   case rel => exact ⟨k + 1, by omega, by go_num, HF.out⟩
   case measure => simp [intOf]; omega
  ·have A : k = g.length := by omega
   subst A;rw [List.take_length] at o;have FE := fillR_end o rfl;clear o;go_wp2;go_ret
   exact ⟨[_], rfl, FE⟩
theorem eqEvents_u : EqC 30 eventsR eventsM cell1 := by
 rintro cs ds f w ⟨a1, c1, rfl, l1, l2, h1⟩ ⟨a2, c2, rfl, k1, k2, h2⟩ hm;show Calls Tryz.prog 30 #[sL a1 f.length c1, sL a2 f.length c2] w _
 have nA : eventsM.bk f = f.length + sumbk eventM f := rfl;have p : f.length ≤ lot := by omega
 have HB : Hid (sumbk eventM f ≤ lot) := by unfold Hid; omega
 have H1 : Hid (∀ W, Bl w W → SlRd eventR W a1 f) := fun W hb => slrd_keep h1 fun k S => hb.block k S;have H2 : Hid (∀ W, Bl w W → SlRd eventR W a2 f) := fun W hb => slrd_keep h2 fun k S => hb.block k S;have DA : f.length ≤ 4398046511104 := p;clear nA hm h1 h2 l1 l2 k1 k2 p;go_enter Tryz.func30, Tryz.ntmps30;go_wp2;go_loopw [5] (fun i wr => ∃ k : Nat, k ≤ f.length ∧ i = nI k ∧ Bl w wr) (fun i _ => f.length - (intOf i).toNat)
 case atStart => exact ⟨0, Nat.zero_le _, rfl, Below.refl _ _⟩
 case round =>
  obtain ⟨k, S, rfl, o⟩ := hrel;by_cases pA : k < f.length
  ·have zA : (k : Int) < (f.length : Int) := by omega
   obtain ⟨x, R⟩ : ∃ x, f[k]? = some x := ⟨_, List.getElem?_eq_getElem pA⟩;have HX : Hid (eventM.bk x ≤ lot) := by unfold Hid; have := sumbk_ge eventM f R; have := HB.out; omega
   obtain ⟨m, a, cA, rfl, l, c⟩ := slrd_at (H1.out _ o) R;have Y : Hid (∀ n : Cls (fun wx => Bl wr wx), eventR.rd n.w cA x) := fun n => rd_next l n.h;obtain ⟨v, q, rfl⟩ := event_shape l;have C := c 0 _ rfl;have y := c 1 _ rfl;have H := c 2 _ rfl;have O := c 3 _ rfl;have I := c 4 _ rfl;have G := c 5 _ rfl;have T := c 6 _ rfl;have L := c 7 _ rfl;have M := c 8 _ rfl;rw [show a + (k * eventR.size + 0) = a + k * 9 from rfl] at C;rw [show a + (k * eventR.size + 1) = a + k * 9 + 1 from rfl] at y;rw [show a + (k * eventR.size + 2) = a + k * 9 + 2 from rfl] at H;rw [show a + (k * eventR.size + 3) = a + k * 9 + 3 from rfl] at O;rw [show a + (k * eventR.size + 4) = a + k * 9 + 4 from rfl] at I;rw [show a + (k * eventR.size + 5) = a + k * 9 + 5 from rfl] at G;rw [show a + (k * eventR.size + 6) = a + k * 9 + 6 from rfl] at T;rw [show a + (k * eventR.size + 7) = a + k * 9 + 7 from rfl] at L;rw [show a + (k * eventR.size + 8) = a + k * 9 + 8 from rfl] at M;clear c l;obtain ⟨g, b, eA, rfl, j, d⟩ := slrd_at (H2.out _ o) R;have qA : Hid (∀ n : Cls (fun wx => Bl wr wx), eventR.rd n.w eA x) := fun n => rd_next j n.h;obtain ⟨s, r, rfl⟩ := event_shape j;have D := d 0 _ rfl;have J := d 1 _ rfl;have A := d 2 _ rfl;have z := d 3 _ rfl;have F := d 4 _ rfl;have K := d 5 _ rfl;have N := d 6 _ rfl;have B := d 7 _ rfl;have E := d 8 _ rfl;rw [show b + (k * eventR.size + 0) = b + k * 9 from rfl] at D;rw [show b + (k * eventR.size + 1) = b + k * 9 + 1 from rfl] at J;rw [show b + (k * eventR.size + 2) = b + k * 9 + 2 from rfl] at A;rw [show b + (k * eventR.size + 3) = b + k * 9 + 3 from rfl] at z;rw [show b + (k * eventR.size + 4) = b + k * 9 + 4 from rfl] at F;rw [show b + (k * eventR.size + 5) = b + k * 9 + 5 from rfl] at K;rw [show b + (k * eventR.size + 6) = b + k * 9 + 6 from rfl] at N;rw [show b + (k * eventR.size + 7) = b + k * 9 + 7 from rfl] at B;rw [show b + (k * eventR.size + 8) = b + k * 9 + 8 from rfl] at E;clear d j;have X : ∀ n : Cls (fun wx => Bl wr wx), n.w.cell? ⟨m, a + k * 9, none⟩ = some (nI x.1) := fun n => cell_keep n.h C (cell_lt C);have kA : ∀ n : Cls (fun wx => Bl wr wx), n.w.cell? ⟨m, a + k * 9 + 1, none⟩ = some (nI x.2.1.1) := fun n => cell_keep n.h y (cell_lt y);have U : ∀ n : Cls (fun wx => Bl wr wx), n.w.cell? ⟨m, a + k * 9 + 2, none⟩ = some (nI x.2.1.2.1) := fun n => cell_keep n.h H (cell_lt H);have lA : ∀ n : Cls (fun wx => Bl wr wx), n.w.cell? ⟨m, a + k * 9 + 3, none⟩ = some (nI x.2.1.2.2.1) := fun n => cell_keep n.h O (cell_lt O);have jA : ∀ n : Cls (fun wx => Bl wr wx), n.w.cell? ⟨m, a + k * 9 + 4, none⟩ = some (nI x.2.1.2.2.2) := fun n => cell_keep n.h I (cell_lt I);have oA : ∀ n : Cls (fun wx => Bl wr wx), n.w.cell? ⟨m, a + k * 9 + 5, none⟩ = some (nI x.2.2.1) := fun n => cell_keep n.h G (cell_lt G);have yA : ∀ n : Cls (fun wx => Bl wr wx), n.w.cell? ⟨m, a + k * 9 + 6, none⟩ = some (nI x.2.2.2.1) := fun n => cell_keep n.h T (cell_lt T);have bA : ∀ n : Cls (fun wx => Bl wr wx), n.w.cell? ⟨m, a + k * 9 + 7, none⟩ = some (sL v x.2.2.2.2.1.length q) := fun n => cell_keep n.h L (cell_lt L);have iA : ∀ n : Cls (fun wx => Bl wr wx), n.w.cell? ⟨m, a + k * 9 + 8, none⟩ = some (nI x.2.2.2.2.2) := fun n => cell_keep n.h M (cell_lt M);have V : ∀ n : Cls (fun wx => Bl wr wx), n.w.cell? ⟨g, b + k * 9, none⟩ = some (nI x.1) := fun n => cell_keep n.h D (cell_lt D);have Z : ∀ n : Cls (fun wx => Bl wr wx), n.w.cell? ⟨g, b + k * 9 + 1, none⟩ = some (nI x.2.1.1) := fun n => cell_keep n.h J (cell_lt J);have rA : ∀ n : Cls (fun wx => Bl wr wx), n.w.cell? ⟨g, b + k * 9 + 2, none⟩ = some (nI x.2.1.2.1) := fun n => cell_keep n.h A (cell_lt A);have aA : ∀ n : Cls (fun wx => Bl wr wx), n.w.cell? ⟨g, b + k * 9 + 3, none⟩ = some (nI x.2.1.2.2.1) := fun n => cell_keep n.h z (cell_lt z);have sA : ∀ n : Cls (fun wx => Bl wr wx), n.w.cell? ⟨g, b + k * 9 + 4, none⟩ = some (nI x.2.1.2.2.2) := fun n => cell_keep n.h F (cell_lt F);have gA : ∀ n : Cls (fun wx => Bl wr wx), n.w.cell? ⟨g, b + k * 9 + 5, none⟩ = some (nI x.2.2.1) := fun n => cell_keep n.h K (cell_lt K);have fA : ∀ n : Cls (fun wx => Bl wr wx), n.w.cell? ⟨g, b + k * 9 + 6, none⟩ = some (nI x.2.2.2.1) := fun n => cell_keep n.h N (cell_lt N);have mA : ∀ n : Cls (fun wx => Bl wr wx), n.w.cell? ⟨g, b + k * 9 + 7, none⟩ = some (sL s x.2.2.2.2.1.length r) := fun n => cell_keep n.h B (cell_lt B);have vA : ∀ n : Cls (fun wx => Bl wr wx), n.w.cell? ⟨g, b + k * 9 + 8, none⟩ = some (nI x.2.2.2.2.2) := fun n => cell_keep n.h E (cell_lt E);clear R C y H O I G T L M D J A z F K N B E;go_wp2_with fail
   refine region_class (fun wx => Bl wr wx) (by kernel_rfl) (by kernel_rfl) ((Below.refl _ wr).drew) ?_;intro dA;repeat (quiet_step ((go_at_call 67; exact calls_class (eqEvent_u [nI x.1, nI x.2.1.1, nI x.2.1.2.1, nI x.2.1.2.2.1, nI x.2.1.2.2.2, nI x.2.2.1, nI x.2.2.2.1, sL v x.2.2.2.2.1.length q, nI x.2.2.2.2.2] [nI x.1, nI x.2.1.1, nI x.2.1.2.1, nI x.2.1.2.2.1, nI x.2.1.2.2.2, nI x.2.2.1, nI x.2.2.2.1, sL s x.2.2.2.2.1.length r, nI x.2.2.2.2.2] x _ (Y.out _) (qA.out _) HX.out) (fun w' hc bb => below_step hc bb))))
   refine wpQuiet_nil ?_;intro wx g;replace o := below_step o g;clear g dA X kA U lA jA oA yA bA iA V Z rA aA sA gA fA mA vA;go_wp2;go_roundw
   case rel => exact ⟨k + 1, by omega, by go_num, o⟩
   case measure => simp [intOf]; omega
  ·go_wp2;go_ret
   exact ⟨rfl, o⟩
variable {α : Type}
theorem appR_sep {base : Nat} {e : TypeId} {R : Rep α} {S T : Foot} {w w2 : World} {o : Obj} {v v' : Value} {xs : List α} {c : List Value} {x : α} (hty : e ∉ R.tys) (h : (slR e R).own w S [v] xs) (y : R.own w T c x) (hd : Dis S T) (hSb : ∀ k, S k → base ≤ k) (hTb : ∀ k, T k → base ≤ k)
    (happ : ∀ b, w.ownsRow base e R.size v xs.length b → w2.ownsRow base e R.size v' (xs.length + 1) (b ++ c)) (hg : (w.alloc o).grownBy w2 v.ownBlock) :
    (slR e R).own w2 (rng base w2.heap.size) [v'] (xs ++ [x]) ∧ Chg (Old w S) w w2 := by
 obtain ⟨v1, b, G, B, H, d, s, C⟩ := own_old h;simp only [List.cons.injEq, and_true] at B;subst B;have m := happ b (row_base H fun g h => hSb g (d g h).1.1);have y := R.own_tight (own_old y);have lt := lown_tight C;have s2 : w.heap.size + 1 ≤ w2.heap.size := by have := hg.size; simpa using this
 have a : ∀ k, k < w.heap.size → v.ownBlock ≠ some k → w2.heap[k]? = w.heap[k]? := fun k hk l => by
  rw [hg.block k (by simp; omega) (fun e => l e.symm), Below.heap_alloc w o k hk]
 have D := lown_keep (w' := w2) lt fun k hk i => a k i (fun e => (d k e).2 hk.1);have E := R.own_keep (w' := w2) y fun k hk i => a k i (fun e => hd k (d k e).1.1 hk.1.1);refine ⟨⟨v', b ++ c, (fun k => (G k ∧ ∃ f t, t ∈ R.tys ∧ w.heap[k]? = some (.cells f t (0, 0))) ∨ (Old w T k ∧ ∃ f t, t ∈ R.tys ∧ w.heap[k]? = some (.cells f t (0, 0)))), rfl, by rw [List.length_append]; exact row_base m (fun _ _ => Nat.zero_le _), fun g hg' => ?_, ?_, lown_push D E ?_ (fun k h => .inl h) (fun k h => .inr h)⟩, ?_⟩
 ·obtain ⟨f, p⟩ := row_block m hg';have n := World.ownsRow.lt m g hg';refine ⟨⟨n.1, n.2⟩, ?_⟩;have q : (∃ f t, t ∈ R.tys ∧ w.heap[g]? = some (.cells f t (0, 0))) → v.ownBlock ≠ some g → False := by
   rintro ⟨z, t, F, A⟩ l;have i : g < w.heap.size := (ltH A);have := a g i l;rw [p, A] at this;simp at this
   rw [this.2] at hty;exact hty F
  rintro (⟨j, r⟩ | ⟨j, r⟩)
  ·exact q r (fun e => (d g e).2 j)
  ·exact q r (fun e => hd g (d g e).1.1 j.1)
 ·rintro k (⟨j, _⟩ | ⟨j, _⟩)
  ·exact ⟨hSb k (s k j).1, by have := (s k j).2; omega⟩
  ·exact ⟨hTb k j.1, by have := j.2; omega⟩
 ·rintro k ⟨j, _⟩ ⟨r, _⟩;exact hd k (s k j).1 r.1
 ·exact ⟨hg.os, hg.tape, hg.output, by omega, fun k hk hn => a k hk (fun e => hn (d k e).1)⟩
theorem wpList_push {P : Program} {w : World} {ops : Array Oper} {rest : List Oper} {o : Oper} {a : Act} {Q : Exit → Act → World → Prop} (hgd : o.guard = none) (s x : Operand) (t : TypeId)
    (ho : o.op = .call { callee := .builtin .append, args := #[s, x], argTypes := #[t, t] })
    (R : Rep α) (e : TypeId) (i : TypeInfo) (z : Value) (bytes : Nat) (ht : P.underlying t = some (.slice e)) (hi : P.info? e = some i) (hz : i.zero = some z) (hsize : i.size = R.size) (hby : i.bytes = bytes) (hzs : z.cells.size = R.size) (hsz : 0 < R.size) (hty : e ∉ R.tys)
    (base : Nat) (S T : Foot) (v : Value) (xs : List α) (c : List Value) (y : α) (cc : Nat) (hs : a.eval s = v) (qb : Nat) (hx : a.eval x = sL (some ⟨qb, 0, none⟩) 1 cc) (hq : qb = w.heap.size)
    (h : (slR e R).own w S [v] xs) (hy : R.own w T c y) (hd : Dis S T) (hSb : ∀ k, S k → base ≤ k) (hTb : ∀ k, T k → base ≤ k) (hb : base ≤ w.heap.size) (hone : ∀ u ∈ c, u.oneCell' = true) (hlen : xs.length + 1 ≤ maxLen) (hbytes : (xs.length + 1) * bytes ≤ 140737488355328)
    (k : ∀ n b w2, (slR e R).own w2 (rng base w2.heap.size) [sL (some ⟨n, 0, none⟩) (xs.length + 1) b] (xs ++ [y]) → Chg (Old w S) w w2 → wpList P ops Q rest (a.put o.dst (sL (some ⟨n, 0, none⟩) (xs.length + 1) b)) w2) :
    wpList P ops Q (o :: rest) a (w.alloc (.cells c.toArray e)) := by
 subst hq;have D := h;obtain ⟨v1, d, S', B, G, q, E, A⟩ := D;simp only [List.cons.injEq, and_true] at B;subst B;have j : w.ownsRow base e R.size v xs.length d := row_base G fun g hg => hSb g (q g hg).1;have p : (w.alloc (.cells c.toArray e)).ownsRow base e R.size v xs.length d := orow_keep j fun g hg => by
  have A := World.ownsRow.lt j g hg;rw [Below.heap_alloc _ _ _ A.2]
 have m : c.length = 1 * R.size := by rw [R.rd_len (R.own_rd hy)]; omega
 refine wpList_append_own (w.alloc (.cells c.toArray e)) hgd s x t ho base e i z R.size bytes ht hi hz hsize hby hzs hsz v xs.length d hs p ⟨w.heap.size, 0, none⟩ 1 cc c hx m (cells_news w c e) hone hlen hbytes (by simp; omega) ?_;intro v' w9 f l r;obtain ⟨n, b, rfl⟩ := owns_shape f;obtain ⟨C, F⟩ := appR_sep (base := base) (e := e) (R := R) hty h hy hd hSb hTb (fun rows2 hr2 => by rw [rows_unique hr2 j]; exact f) l;exact k _ _ _ C F
theorem run_append_zero {P : Program} {w : World} (base : Nat) (t ty e : TypeId) (i : TypeInfo) (size : Nat) (ht : P.underlying t = some (.slice e)) (hi : P.info? e = some i) (c : Nat)
    (v : Value) (n : Nat) (xs : List Value) (hown : w.ownsRow base e size v n xs) : (Builtin.append_ #[t, t] ty #[v, sL none 0 c]).run P w = .ok v w := by
 rcases hown.2 with ⟨rfl, rfl⟩ | ⟨g, d, b, rfl, _, _, a, _⟩
 ·simp [Builtin.append_, run_underlying ht, sizeOf, typeInfo, hi, Builtin.lenOf, Builtin.firstCells]
 ·simp [Builtin.append_, run_underlying ht, sizeOf, typeInfo, hi, Builtin.lenOf, Builtin.firstCells, a, storeCells]
theorem wpList_append_zero {P : Program} {w : World} {ops : Array Oper} {rest : List Oper} {o : Oper} {a : Act} {Q : Exit → Act → World → Prop} (hgd : o.guard = none) (s x : Operand) (t : TypeId)
    (ho : o.op = .call { callee := .builtin .append, args := #[s, x], argTypes := #[t, t] })
    (base : Nat) (e : TypeId) (i : TypeInfo) (size : Nat) (ht : P.underlying t = some (.slice e)) (hi : P.info? e = some i) (c : Nat)
    (v : Value) (n : Nat) (xs : List Value) (hs : a.eval s = v) (hown : w.ownsRow base e size v n xs) (hx : a.eval x = sL none 0 c)
    (h : wpList P ops Q rest (a.put o.dst v) w) : wpList P ops Q (o :: rest) a w := by
 refine wpList_plain hgd fun K hK => ?_;have b := run_append_zero (P := P) (w := w) base t o.type e i size ht hi c v n xs hown;unfold Oper.wp;simp [execOp, ho, resolve, invoke, builtin, hs, hx, b, Result.andThen]
 exact hK _ _ h
theorem made_nothing (w : World) : MadeR intsR w (w.alloc (.cells #[] 2)) [sL (some ⟨w.heap.size, 0, none⟩) 0 0] [] := by
 refine ⟨⟨_, [], fun _ => False, rfl, World.ownsRow_lit (base := 0) (e := 2) (size := 1) w #[] 0 (Nat.zero_le _) (Nat.zero_le _) rfl, fun g hg => ?_, fun _ h => h.elim, rfl⟩, box_below w _⟩;simp [Value.ownBlock] at hg
 subst hg;exact ⟨⟨Nat.le_refl _, by simp⟩, fun h => h⟩
theorem l1Copy_nil (cap : Nat) (w : World) : Calls Tryz.prog 46 #[sL none 0 cap] w fun e w' => ∃ v, e = .returned v ∧ MadeR intsR w w' [v] [] := by
 obtain ⟨g, c, f, b, d⟩ := info_parts Tryz.infoI;have a : (w.alloc (.cells #[] 2)).ownsRow w.heap.size 2 1 (sL (some ⟨w.heap.size, 0, none⟩) 0 0) 0 [] := World.ownsRow_lit _ #[] 0 (Nat.le_refl _) (Nat.zero_le _) rfl;go_enter Tryz.func46, Tryz.ntmps46;go_wp2_with (at_builtin; refine wpList_append_zero rfl _ _ 59 rfl w.heap.size 2 g 1 Tryz.underlying59 c cap _ _ _ rfl a rfl ?_)
 go_ret
 exact ⟨_, rfl, made_nothing w⟩
theorem l1Copy_rep (a : Option Addr) (xs : List Int) (cap : Nat) (w : World) (h : SlRd intR w a xs) (hm : xs.length ≤ 1048576) :
    Calls Tryz.prog 46 #[sL a xs.length cap] w fun e w' => ∃ v, e = .returned v ∧ MadeR intsR w w' [v] xs := by
 cases a with
 | some ad => exact (l1Copy_any ad xs cap w (reads_of h) hm).mono fun e w' ⟨v, h1, h2⟩ => ⟨v, h1, madeR_ints h2 (in64_of h)⟩
 | none =>
  rcases h with rfl | ⟨b, d, c, f, _⟩
  ·exact l1Copy_nil cap w
  ·cases f
set_option linter.unusedSimpArgs false
theorem below_by {B : Nat} {w0 w1 w2 : World} {S : Foot} (h : Below B w0 w1) (hB : B ≤ w1.heap.size) (n : Chg (Old w1 S) w1 w2) (hs : ∀ k, S k → B ≤ k) : Below B w0 w2 :=
 ⟨n.os.trans h.os, n.tape.trans h.tape, n.output.trans h.output, Nat.le_trans h.size n.size, fun j hj => (n.block j (Nat.lt_of_lt_of_le hj hB) (fun q => by have := hs j q.1; omega)).trans (h.block j hj)⟩
theorem wpList_pm {α : Type} {P : Program} {w0 wr w1 : World} {ops : Array Oper} {rest : List Oper} {o : Oper} {a : Act} {Q : Exit → Act → World → Prop} (hgd : o.guard = none) (s x : Operand) (t : TypeId)
    (ho : o.op = .call { callee := .builtin .append, args := #[s, x], argTypes := #[t, t] })
    (R : Rep α) (e : TypeId) (i : TypeInfo) (z : Value) (bytes : Nat) (ht : P.underlying t = some (.slice e)) (hi : P.info? e = some i) (hz : i.zero = some z) (hsize : i.size = R.size) (hby : i.bytes = bytes) (hzs : z.cells.size = R.size) (hsz : 0 < R.size) (hty : e ∉ R.tys)
    (v : Value) (xs : List α) (c : List Value) (y : α) (cc : Nat) (hs : a.eval s = v) (qb : Nat) (hx : a.eval x = sL (some ⟨qb, 0, none⟩) 1 cc) (hq : qb = w1.heap.size)
    (M : MadeR (slR e R) w0 wr [v] xs) (hb : Bl wr w1) (Y : R.own w1 (rng wr.heap.size w1.heap.size) c y) (hone : ∀ u ∈ c, u.oneCell' = true) (hlen : xs.length + 1 ≤ maxLen) (hbytes : (xs.length + 1) * bytes ≤ 140737488355328)
    (k : ∀ f b d, MadeR (slR e R) w0 d [sL (some ⟨f, 0, none⟩) (xs.length + 1) b] (xs ++ [y]) → Chg (rng w0.heap.size w1.heap.size) w1 d → wpList P ops Q rest (a.put o.dst (sL (some ⟨f, 0, none⟩) (xs.length + 1) b)) d) :
    wpList P ops Q (o :: rest) a (w1.alloc (.cells c.toArray e)) := by
 have l := M.2.size;have g := below_step M.2 hb;refine wpList_push hgd s x t ho R e i z bytes ht hi hz hsize hby hzs hsz hty w0.heap.size (rng w0.heap.size wr.heap.size) (rng wr.heap.size w1.heap.size) v xs c y cc hs qb hx hq (own_next M.1 hb) Y (rng_dis (.inl (Nat.le_refl _))) (fun k hk => hk.1) (fun k hk => Nat.le_trans l hk.1) g.size hone hlen hbytes ?_;intro f b d m j;exact k f b d ⟨m, below_by g g.size j (fun k hk => hk.1)⟩ (j.mono (fun k hk => ⟨hk.1.1, hk.2⟩))
theorem wordsC_any (a : Addr) (xs : List Int) (cap : Nat) (w : World) (h : Reads w (some a) xs) (hm : xs.length ≤ 1048576) :
    Calls Tryz.prog 163 #[sL (some a) xs.length cap] w fun e w' => ∃ v, e = .returned v ∧ Made w w' v xs := by
 obtain ⟨C, s, n, m, l⟩ := info_parts Tryz.infoI;have i : (w.alloc (.cells #[] 2)).ownsRow w.heap.size 2 1 (sL (some ⟨w.heap.size, 0, none⟩) 0 0) 0 [] := World.ownsRow_lit _ #[] 0 (Nat.le_refl _) (Nat.zero_le _) rfl;go_enter Tryz.func163, Tryz.ntmps163;go_wp2_with (at_builtin; refine wpList_append_own _ rfl _ _ 59 rfl w.heap.size 2 C (nI 0) 1 8 Tryz.underlying59 s n m l rfl (by decide) _ _ _ rfl i a xs.length cap (xs.map (Value.int .i64)) rfl (by simp) ?c1 ?c2 ?c3 ?c4 ?c5 ?_)
 case c1 =>
  intro j u y;obtain ⟨f, rfl⟩ := List.getElem?_eq_some_iff.1 y;simp at f
  rcases h with rfl | ⟨b, k, r, B⟩
  ·simp at f
  simp only [Option.some.injEq] at r;subst r;have q := B j f;rw [show (⟨b, k, none⟩ : Addr).add j = ⟨b, k + j, none⟩ from by simp [Addr.add], World.cell?_alloc_past _ _ _ (World.block_lt_of_cell? w _ q), q];simp [List.getD_eq_getElem?_getD, f]
 case c2 => intro u o; simp at o; obtain ⟨x, _, rfl⟩ := o; rfl
 case c3 => unfold maxLen; omega
 case c4 => omega
 case c5 => simp
 ·intro p D d c g;have A : p ≠ sL none 0 0 := g;have z : Hid (Made w D p xs) := made_app d c A;clear d c g i;go_wp2;go_ret
  exact ⟨_, rfl, z.out⟩
theorem wordsC_nil (cap : Nat) (w : World) : Calls Tryz.prog 163 #[sL none 0 cap] w fun e w' => ∃ v, e = .returned v ∧ MadeR intsR w w' [v] [] := by
 obtain ⟨g, c, f, b, d⟩ := info_parts Tryz.infoI;have a : (w.alloc (.cells #[] 2)).ownsRow w.heap.size 2 1 (sL (some ⟨w.heap.size, 0, none⟩) 0 0) 0 [] := World.ownsRow_lit _ #[] 0 (Nat.le_refl _) (Nat.zero_le _) rfl;go_enter Tryz.func163, Tryz.ntmps163;go_wp2_with (at_builtin; refine wpList_append_zero rfl _ _ 59 rfl w.heap.size 2 g 1 Tryz.underlying59 c cap _ _ _ rfl a rfl ?_)
 go_ret
 exact ⟨_, rfl, made_nothing w⟩
theorem wordsC_rep (a : Option Addr) (xs : List Int) (cap : Nat) (w : World) (h : SlRd intR w a xs) (hm : xs.length ≤ 1048576) :
    Calls Tryz.prog 163 #[sL a xs.length cap] w fun e w' => ∃ v, e = .returned v ∧ MadeR intsR w w' [v] xs := by
 cases a with
 | some ad => exact (wordsC_any ad xs cap w (reads_of h) hm).mono fun e w' ⟨v, h1, h2⟩ => ⟨v, h1, madeR_ints h2 (in64_of h)⟩
 | none =>
  rcases h with rfl | ⟨b, d, c, f, _⟩
  ·exact wordsC_nil cap w
  ·cases f
end Go.Proofs.YtglejdilghcbaaaGreatDoor
