import Derived.Test.YtdamokokcdcedaaGreatDoorE00Box
import Derived.Test.YtdamokokcdcedaaGreatDoorE10
import Derived.Test.YtdamokokcdcedaaGreatDoorE12
import Derived.Test.YtdamokokcdcedaaGreatDoorE13
namespace Go.Proofs.YtdamokokcdcedaaGreatDoor
set_option maxHeartbeats 2000000
set_option maxRecDepth 20000
open Go.ChangeShapes Go.WideShapes Go.ChangeAt Go.RowKit
set_option linter.unusedVariables false
variable {α : Type}
def setCs (w : World) (g : Nat) : Nat → List Value → World
 | _, [] => w
 | o, v :: vs => setCs (w.setCell ⟨g, o, none⟩ v) g (o + 1) vs
def putA (cs : Array Value) : Nat → List Value → Array Value
 | _, [] => cs
 | o, v :: vs => putA (cs.setIfInBounds o v) (o + 1) vs
theorem row_setCs {g : Nat} {t : TypeId} : ∀ (vs : List Value) (o : Nat) {w : World} {cs : Array Value}, w.heap[g]? = some (.cells cs t (0, 0)) → (setCs w g o vs).heap[g]? = some (.cells (putA cs o vs) t (0, 0))
 | [], _, _, _, h => h
 | v :: vs, o, w, cs, h => row_setCs vs (o + 1) (heap_setCell_same w g o cs t v h)
theorem chg_setCs {g : Nat} : ∀ (vs : List Value) (o : Nat) (w : World), Chg (fun k => k = g) w (setCs w g o vs)
 | [], _, w => Chg.refl _ w
 | v :: vs, o, w => (show Chg (fun k => k = g) w (w.setCell ⟨g, o, none⟩ v) from ⟨rfl, rfl, rfl, by simp, fun k hk hn => heap_setCell_other w ⟨g, o, none⟩ k v hn⟩).trans (chg_setCs vs (o + 1) _)
theorem below_setCs {a w : World} {B g o : Nat} {vs : List Value} (h : Below B a w) (hB : B ≤ w.heap.size) (hg : B ≤ g) : Below B a (setCs w g o vs) :=
 (chg_setCs vs o w).below h (fun k hk => by have : k = g := hk; omega) hB
theorem below_setCs0 {a w : World} {g o : Nat} {vs : List Value} (h : Bl a w) (hg : a.heap.size ≤ g) : Bl a (setCs w g o vs) := below_setCs h h.size hg
theorem own_setCs {R : Rep α} {w : World} {S : Foot} {cs : List Value} {x : α} {g o : Nat} {vs : List Value} (h : R.own w S cs x) (hg : ¬ S g) : R.own (setCs w g o vs) S cs x :=
 own_chg h (chg_setCs vs o w) fun k hk e => by have a : k = g := e; subst a; exact hg hk
theorem code_cores {c s y l : Int} (h : codeI c s y l = 0) : (1 ≤ c ∧ c ≤ 4) ∧ (1 ≤ l ∧ l ≤ 16) := by
 have a := code_zero h;refine ⟨?_, a.1⟩;unfold codeI at h;split at h
 ·rename_i q; simpa [betw] using q
 ·cases h
def coreIn (c k : Int) : Bool := betw k 0 (c - 1)
def agentIn (c k : Int) : Bool := decide (k = 4) || (decide (k = 5) || coreIn c k)
def lineIn (l k : Int) : Bool := betw k 0 (l - 1)
def wayIn (l : Int) (u : WayD) : Bool := decide (u.1 = -1) || lineIn l u.1
def msgIn (c l : Int) (m : MsgD) : Bool := agentIn c m.2.1 && (agentIn c m.2.2.1 && lineIn l m.2.2.2.2.1)
theorem line_in {c s y l k : Int} (h : codeI c s y l = 0) : lineB c s y l k = lineIn l k := lineB_eq h
theorem hasCore_any (c s y l k : Int) (w : World) (hc : codeI c s y l = 0) :
    Calls Tryz.prog 194 #[.agg #[nI c, nI s, nI y, nI l], nI k] w fun e w' => e = .returned (.bool (coreIn c k)) ∧ Bl w w' := by
 have i := (code_cores hc).1;have hw : IntKind.i64.wrap (c - 1) = c - 1 := by rw [IntKind.wrap_i64]; omega
 have b : Hid (∀ W, Calls Tryz.prog 156 #[nI k, nI 0, nI (c - 1)] W fun e w' => e = .returned (.bool (coreIn c k)) ∧ Bl W w') := fun W => (between_any k 0 (c - 1) W).mono fun e w' ⟨q, r⟩ => ⟨q, be_eq r⟩;generalize coreIn c k = q at b ⊢;clear hc i;have B := Below.refl w.heap.size w;go_enter Tryz.func194, Tryz.ntmps194;go_upto_region 1 with fail
 generalize a : w.alloc _ = u1w;have X := boxH a;have j := boxB a;have f := boxL a;clear a;replace B := below_step B j;clear j;have o := lE f;have n := lE f.symm;clear f;obtain ⟨Xc0, Xc1, Xc2, Xc3⟩ := cells_4 X;have Xlt := (ltH X);go_wp2_with fail
 clear Xc0 Xc1 Xc2 Xc3 Xlt;refine (b.out _).mono ?_;rintro e g ⟨rfl, d⟩;have m : u1w.heap.size ≤ g.heap.size := d.size;replace B := below_step B d;replace X := row_keep d X;clear d;obtain ⟨Xc0, Xc1, Xc2, Xc3⟩ := cells_4 X;have Xlt := (ltH X);have p : Hid _ := B;clear B X;go_wp2;go_ret
 exact ⟨rfl, p.out⟩
theorem hasAgent_any (c s y l k : Int) (w : World) (hc : codeI c s y l = 0) :
    Calls Tryz.prog 191 #[.agg #[nI c, nI s, nI y, nI l], nI k] w fun e w' => e = .returned (.bool (agentIn c k)) ∧ Bl w w' := by
 have n : Hid (∀ W, Calls Tryz.prog 194 #[.agg #[nI c, nI s, nI y, nI l], nI k] W fun e w' => e = .returned (.bool (coreIn c k)) ∧ Bl W w') := fun W => hasCore_any c s y l k W hc;unfold agentIn;generalize coreIn c k = q at n ⊢;clear hc;by_cases f : k = 4
 ·have v : (k == 4) = true := by simp [f]
  rw [show (decide (k = 4) || (decide (k = 5) || q)) = true from by simp [f]];clear f;have B := Below.refl w.heap.size w;go_enter Tryz.func191, Tryz.ntmps191;go_upto_region 1 with fail
  generalize a : w.alloc _ = u1w;have X := boxH a;have d := boxB a;have b := boxL a;clear a;replace B := below_step B d;clear d;have j := lE b;have i := lE b.symm;clear b;obtain ⟨Xc0, Xc1, Xc2, Xc3⟩ := cells_4 X;have Xlt := (ltH X);have m : Hid _ := B;clear B X;go_wp2;go_ret
  exact ⟨rfl, m.out⟩
 ·have v : (k == 4) = false := by simp [f]
  by_cases g : k = 5
  ·have z : (k == 5) = true := by simp [g]
   rw [show (decide (k = 4) || (decide (k = 5) || q)) = true from by simp [g]];clear f g;have B := Below.refl w.heap.size w;go_enter Tryz.func191, Tryz.ntmps191;go_upto_region 1 with fail
   generalize a : w.alloc _ = u1w;have X := boxH a;have d := boxB a;have b := boxL a;clear a;replace B := below_step B d;clear d;have j := lE b;have i := lE b.symm;clear b;obtain ⟨Xc0, Xc1, Xc2, Xc3⟩ := cells_4 X;have Xlt := (ltH X);have m : Hid _ := B;clear B X;go_wp2;go_ret
   exact ⟨rfl, m.out⟩
  ·have z : (k == 5) = false := by simp [g]
   rw [show (decide (k = 4) || (decide (k = 5) || q)) = q from by simp [f, g]];clear f g;have B := Below.refl w.heap.size w;go_enter Tryz.func191, Tryz.ntmps191;go_upto_region 1 with fail
   generalize a : w.alloc _ = u1w;have X := boxH a;have d := boxB a;have b := boxL a;clear a;replace B := below_step B d;clear d;have j := lE b;have i := lE b.symm;clear b;obtain ⟨Xc0, Xc1, Xc2, Xc3⟩ := cells_4 X;have Xlt := (ltH X);go_wp2_with fail
   clear Xc0 Xc1 Xc2 Xc3 Xlt;refine (n.out _).mono ?_;rintro e p ⟨rfl, o⟩;have r : u1w.heap.size ≤ p.heap.size := o.size;replace B := below_step B o;replace X := row_keep o X;clear o;obtain ⟨Xc0, Xc1, Xc2, Xc3⟩ := cells_4 X;have Xlt := (ltH X);have m : Hid _ := B;clear B X;go_wp2;go_ret
   exact ⟨rfl, m.out⟩
theorem fitsWay_any (c s y l : Int) (u : WayD) (ua : Option Addr) (uc : Nat) (w : World) (hc : codeI c s y l = 0) :
    Calls Tryz.prog 198 #[.agg #[nI c, nI s, nI y, nI l], .agg #[nI u.1, nI u.2.1, sL ua u.2.2.length uc]] w fun e w' => e = .returned (.bool (wayIn l u)) ∧ Bl w w' := by
 have k : Hid (∀ W, Calls Tryz.prog 212 #[.agg #[nI c, nI s, nI y, nI l], nI u.1] W fun e w' => e = .returned (.bool (lineIn l u.1)) ∧ Bl W w') := fun W => by rw [← line_in hc]; exact hasLine_any c s y l u.1 W
 unfold wayIn;generalize lineIn l u.1 = q at k ⊢;clear hc;by_cases i : u.1 = -1
 ·have A : (u.1 == -1) = true := by simp [i]
  rw [show (decide (u.1 = -1) || q) = true from by simp [i]];clear i;have B := Below.refl w.heap.size w;go_enter Tryz.func198, Tryz.ntmps198;go_upto_region 1 with fail
  generalize b : w.alloc _ = u1w;have X := boxH b;have d := boxB b;have f := boxL b;clear b;replace B := below_step B d;clear d;have o := lE f;have n := lE f.symm;clear f;generalize a : u1w.alloc _ = u2w;have V := boxH a;have d := boxB a;have g := boxL a;clear a;rw [show u1w.heap.size = w.heap.size + 1 from by omega] at V;replace B := below_step B d;replace X := row_keep d X;clear d;have p := lE g;have m := lE g.symm;clear g;obtain ⟨Xc0, Xc1, Xc2, Xc3⟩ := cells_4 X;have Xlt := (ltH X);obtain ⟨Vc0, Vc1, Vc2⟩ := cells_3 V;have Vlt := (ltH V);have v : Hid _ := B;clear B X V;go_wp2;go_ret
  exact ⟨rfl, v.out⟩
 ·have A : (u.1 == -1) = false := by simp [i]
  rw [show (decide (u.1 = -1) || q) = q from by simp [i]];clear i;have B := Below.refl w.heap.size w;go_enter Tryz.func198, Tryz.ntmps198;go_upto_region 1 with fail
  generalize b : w.alloc _ = u1w;have X := boxH b;have d := boxB b;have f := boxL b;clear b;replace B := below_step B d;clear d;have o := lE f;have n := lE f.symm;clear f;generalize a : u1w.alloc _ = u2w;have V := boxH a;have d := boxB a;have g := boxL a;clear a;rw [show u1w.heap.size = w.heap.size + 1 from by omega] at V;replace B := below_step B d;replace X := row_keep d X;clear d;have p := lE g;have m := lE g.symm;clear g;obtain ⟨Xc0, Xc1, Xc2, Xc3⟩ := cells_4 X;have Xlt := (ltH X);obtain ⟨Vc0, Vc1, Vc2⟩ := cells_3 V;have Vlt := (ltH V);go_wp2_with fail
  clear Xc0 Xc1 Xc2 Xc3 Xlt Vc0 Vc1 Vc2 Vlt;refine (k.out _).mono ?_;rintro e r ⟨rfl, j⟩;have z : u2w.heap.size ≤ r.heap.size := j.size;replace B := below_step B j;replace X := row_keep j X;replace V := row_keep j V;clear j;obtain ⟨Xc0, Xc1, Xc2, Xc3⟩ := cells_4 X;have Xlt := (ltH X);obtain ⟨Vc0, Vc1, Vc2⟩ := cells_3 V;have Vlt := (ltH V);have v : Hid _ := B;clear B X V;go_wp2;go_ret
  exact ⟨rfl, v.out⟩
theorem fitsLetter_any (c s y l : Int) (m : MsgD) (ma : Option Addr) (mc : Nat) (w : World) (hc : codeI c s y l = 0) :
    Calls Tryz.prog 153 #[.agg #[nI c, nI s, nI y, nI l], .agg #[nI m.1, nI m.2.1, nI m.2.2.1, nI m.2.2.2.1, nI m.2.2.2.2.1, sL ma m.2.2.2.2.2.1.length mc, nI m.2.2.2.2.2.2]] w fun e w' => e = .returned (.bool (msgIn c l m)) ∧ Bl w w' := by
 have q : Hid (∀ W, Calls Tryz.prog 191 #[.agg #[nI c, nI s, nI y, nI l], nI m.2.1] W fun e w' => e = .returned (.bool (agentIn c m.2.1)) ∧ Bl W w') := fun W => hasAgent_any c s y l m.2.1 W hc;have p : Hid (∀ W, Calls Tryz.prog 191 #[.agg #[nI c, nI s, nI y, nI l], nI m.2.2.1] W fun e w' => e = .returned (.bool (agentIn c m.2.2.1)) ∧ Bl W w') := fun W => hasAgent_any c s y l m.2.2.1 W hc;have z : Hid (∀ W, Calls Tryz.prog 212 #[.agg #[nI c, nI s, nI y, nI l], nI m.2.2.2.2.1] W fun e w' => e = .returned (.bool (lineIn l m.2.2.2.2.1)) ∧ Bl W w') := fun W => by rw [← line_in hc]; exact hasLine_any c s y l m.2.2.2.2.1 W
 unfold msgIn;generalize agentIn c m.2.1 = q1 at q ⊢;generalize agentIn c m.2.2.1 = q2 at p ⊢;generalize lineIn l m.2.2.2.2.1 = q3 at z ⊢;clear hc;have B := Below.refl w.heap.size w;go_enter Tryz.func153, Tryz.ntmps153;go_upto_region 1 with fail
 generalize d : w.alloc _ = u1w;have X := boxH d;have f := boxB d;have k := boxL d;clear d;replace B := below_step B f;clear f;have E := lE k;have C := lE k.symm;clear k;generalize b : u1w.alloc _ = u2w;have M := boxH b;have f := boxB b;have o := boxL b;clear b;rw [show u1w.heap.size = w.heap.size + 1 from by omega] at M;replace B := below_step B f;replace X := row_keep f X;clear f;have F := lE o;have D := lE o.symm;clear o;obtain ⟨Xc0, Xc1, Xc2, Xc3⟩ := cells_4 X;have Xlt := (ltH X);obtain ⟨Mc0, Mc1, Mc2, Mc3, Mc4, Mc5, Mc6⟩ := cells_7 M;have Mlt := (ltH M);go_wp2_with fail
 clear Xc0 Xc1 Xc2 Xc3 Xlt Mc0 Mc1 Mc2 Mc3 Mc4 Mc5 Mc6 Mlt;refine (q.out _).mono ?_;rintro e g ⟨rfl, a⟩;have A : u2w.heap.size ≤ g.heap.size := a.size;replace B := below_step B a;replace X := row_keep a X;replace M := row_keep a M;clear a;cases q1
 ·skip
  obtain ⟨Xc0, Xc1, Xc2, Xc3⟩ := cells_4 X;have Xlt := (ltH X);obtain ⟨Mc0, Mc1, Mc2, Mc3, Mc4, Mc5, Mc6⟩ := cells_7 M;have Mlt := (ltH M);have i : Hid _ := B;clear B X M;go_wp2;go_ret
  exact ⟨rfl, i.out⟩
 ·skip
  obtain ⟨Xc0, Xc1, Xc2, Xc3⟩ := cells_4 X;have Xlt := (ltH X);obtain ⟨Mc0, Mc1, Mc2, Mc3, Mc4, Mc5, Mc6⟩ := cells_7 M;have Mlt := (ltH M);go_wp2_with fail
  clear Xc0 Xc1 Xc2 Xc3 Xlt Mc0 Mc1 Mc2 Mc3 Mc4 Mc5 Mc6 Mlt;refine (p.out _).mono ?_;rintro e j ⟨rfl, a⟩;have v : g.heap.size ≤ j.heap.size := a.size;replace B := below_step B a;replace X := row_keep a X;replace M := row_keep a M;clear a;cases q2
  ·skip
   obtain ⟨Xc0, Xc1, Xc2, Xc3⟩ := cells_4 X;have Xlt := (ltH X);obtain ⟨Mc0, Mc1, Mc2, Mc3, Mc4, Mc5, Mc6⟩ := cells_7 M;have Mlt := (ltH M);have i : Hid _ := B;clear B X M;go_wp2;go_ret
   exact ⟨rfl, i.out⟩
  ·skip
   obtain ⟨Xc0, Xc1, Xc2, Xc3⟩ := cells_4 X;have Xlt := (ltH X);obtain ⟨Mc0, Mc1, Mc2, Mc3, Mc4, Mc5, Mc6⟩ := cells_7 M;have Mlt := (ltH M);go_wp2_with fail
   clear Xc0 Xc1 Xc2 Xc3 Xlt Mc0 Mc1 Mc2 Mc3 Mc4 Mc5 Mc6 Mlt;refine (z.out _).mono ?_;rintro e n ⟨rfl, a⟩;have r : j.heap.size ≤ n.heap.size := a.size;replace B := below_step B a;replace X := row_keep a X;replace M := row_keep a M;clear a;obtain ⟨Xc0, Xc1, Xc2, Xc3⟩ := cells_4 X;have Xlt := (ltH X);obtain ⟨Mc0, Mc1, Mc2, Mc3, Mc4, Mc5, Mc6⟩ := cells_7 M;have Mlt := (ltH M);have i : Hid _ := B;clear B X M;go_wp2;go_ret
   exact ⟨rfl, i.out⟩
end Go.Proofs.YtdamokokcdcedaaGreatDoor
