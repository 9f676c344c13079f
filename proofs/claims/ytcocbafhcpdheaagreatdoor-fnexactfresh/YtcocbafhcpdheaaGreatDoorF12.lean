import Derived.Test.YtcocbafhcpdheaaGreatDoorF00Box
import Derived.Test.YtcocbafhcpdheaaGreatDoorF07
import Derived.Test.YtcocbafhcpdheaaGreatDoorF11
namespace Go.Proofs.YtcocbafhcpdheaaGreatDoor
set_option maxHeartbeats 2000000
set_option maxRecDepth 20000
open Go.ChangeShapes Go.WideShapes Go.ChangeAt Go.RowKit
set_option linter.unusedVariables false
variable {α : Type}
def setCs (w : World) (g : Nat) : Nat → List Value → World
 | _, [] => w
 | o, v :: vs => setCs (w.setCell ⟨g, o, none⟩ v) g (o + 1) vs
def putA (cs : Array Value) : Nat → List Value → Array Value
 | _, [] => cs
 | o, v :: vs => putA (cs.setIfInBounds o v) (o + 1) vs
theorem row_setCs {g : Nat} {t : TypeId} : ∀ (vs : List Value) (o : Nat) {w : World} {cs : Array Value}, w.heap[g]? = some (.cells cs t (0, 0)) → (setCs w g o vs).heap[g]? = some (.cells (putA cs o vs) t (0, 0))
 | [], _, _, _, h => h
 | v :: vs, o, w, cs, h => row_setCs vs (o + 1) (heap_setCell_same w g o cs t v h)
theorem chg_setCs {g : Nat} : ∀ (vs : List Value) (o : Nat) (w : World), Chg (fun k => k = g) w (setCs w g o vs)
 | [], _, w => Chg.refl _ w
 | v :: vs, o, w => (show Chg (fun k => k = g) w (w.setCell ⟨g, o, none⟩ v) from ⟨rfl, rfl, rfl, by simp, fun k hk hn => heap_setCell_other w ⟨g, o, none⟩ k v hn⟩).trans (chg_setCs vs (o + 1) _)
theorem below_setCs {a w : World} {B g o : Nat} {vs : List Value} (h : Below B a w) (hB : B ≤ w.heap.size) (hg : B ≤ g) : Below B a (setCs w g o vs) :=
 (chg_setCs vs o w).below h (fun k hk => by have : k = g := hk; omega) hB
theorem below_setCs0 {a w : World} {g o : Nat} {vs : List Value} (h : Below a.heap.size a w) (hg : a.heap.size ≤ g) : Below a.heap.size a (setCs w g o vs) := below_setCs h h.size hg
theorem own_setCs {R : Rep α} {w : World} {S : Foot} {cs : List Value} {x : α} {g o : Nat} {vs : List Value} (h : R.own w S cs x) (hg : ¬ S g) : R.own (setCs w g o vs) S cs x :=
 own_chg h (chg_setCs vs o w) fun k hk e => by have e' : k = g := e; subst e'; exact hg hk
theorem code_cores {c s y l : Int} (h : codeI c s y l = 0) : (1 ≤ c ∧ c ≤ 4) ∧ (1 ≤ l ∧ l ≤ 16) := by
 have h2 := code_zero h;refine ⟨?_, h2.1⟩;unfold codeI at h;split at h
 ·rename_i q; simpa [betw] using q
 ·cases h
def coreIn (c k : Int) : Bool := betw k 0 (c - 1)
def agentIn (c k : Int) : Bool := decide (k = 4) || (decide (k = 5) || coreIn c k)
def lineIn (l k : Int) : Bool := betw k 0 (l - 1)
def wayIn (l : Int) (u : WayD) : Bool := decide (u.1 = -1) || lineIn l u.1
def msgIn (c l : Int) (m : MsgD) : Bool := agentIn c m.2.1 && (agentIn c m.2.2.1 && lineIn l m.2.2.2.2.1)
theorem line_in {c s y l k : Int} (h : codeI c s y l = 0) : lineB c s y l k = lineIn l k := lineB_eq h
theorem hasCore_any (c s y l k : Int) (w : World) (hc : codeI c s y l = 0) :
    Calls Tryz.prog 169 #[.agg #[.int .i64 c, .int .i64 s, .int .i64 y, .int .i64 l], .int .i64 k] w fun e w' => e = .returned (.bool (coreIn c k)) ∧ Below w.heap.size w w' := by
 have hcc := (code_cores hc).1;have hw : IntKind.i64.wrap (c - 1) = c - 1 := by rw [IntKind.wrap_i64]; omega
 have HBT : Hid (∀ W, Calls Tryz.prog 76 #[.int .i64 k, .int .i64 0, .int .i64 (c - 1)] W fun e w' => e = .returned (.bool (coreIn c k)) ∧ Below W.heap.size W w') := fun W => (between_any k 0 (c - 1) W).mono fun e w' ⟨q, r⟩ => ⟨q, be_eq r⟩;generalize coreIn c k = q at HBT ⊢;clear hc hcc;have B := Below.refl w.heap.size w;go_enter Tryz.func169, Tryz.ntmps169;go_upto_region 1 with fail
 generalize hu1w : w.alloc _ = u1w;have X := boxH hu1w;have bz := boxB hu1w;have zX := boxL hu1w;clear hu1w;replace B := below_step B bz;clear bz;have zXa := Nat.le_of_eq zX;have zXb := Nat.le_of_eq zX.symm;clear zX;obtain ⟨Xc0, Xc1, Xc2, Xc3⟩ := cells_4 X;have Xlt := (ltH X);go_wp2_with fail
 clear Xc0 Xc1 Xc2 Xc3 Xlt;refine (HBT.out _).mono ?_;rintro e u2w ⟨rfl, bq⟩;have tu2w : u1w.heap.size ≤ u2w.heap.size := bq.size;replace B := below_step B bq;replace X := row_keep bq X;clear bq;obtain ⟨Xc0, Xc1, Xc2, Xc3⟩ := cells_4 X;have Xlt := (ltH X);have HB : Hid _ := B;clear B X;go_wp2;go_ret
 exact ⟨rfl, HB.out⟩
theorem hasAgent_any (c s y l k : Int) (w : World) (hc : codeI c s y l = 0) :
    Calls Tryz.prog 165 #[.agg #[.int .i64 c, .int .i64 s, .int .i64 y, .int .i64 l], .int .i64 k] w fun e w' => e = .returned (.bool (agentIn c k)) ∧ Below w.heap.size w w' := by
 have HC1 : Hid (∀ W, Calls Tryz.prog 169 #[.agg #[.int .i64 c, .int .i64 s, .int .i64 y, .int .i64 l], .int .i64 k] W fun e w' => e = .returned (.bool (coreIn c k)) ∧ Below W.heap.size W w') := fun W => hasCore_any c s y l k W hc;unfold agentIn;generalize coreIn c k = q at HC1 ⊢;clear hc;by_cases h4 : k = 4
 ·have z4 : (k == 4) = true := by simp [h4]
  rw [show (decide (k = 4) || (decide (k = 5) || q)) = true from by simp [h4]];clear h4;have B := Below.refl w.heap.size w;go_enter Tryz.func165, Tryz.ntmps165;go_upto_region 1 with fail
  generalize hu1w : w.alloc _ = u1w;have X := boxH hu1w;have bz := boxB hu1w;have zX := boxL hu1w;clear hu1w;replace B := below_step B bz;clear bz;have zXa := Nat.le_of_eq zX;have zXb := Nat.le_of_eq zX.symm;clear zX;obtain ⟨Xc0, Xc1, Xc2, Xc3⟩ := cells_4 X;have Xlt := (ltH X);have HB : Hid _ := B;clear B X;go_wp2;go_ret
  exact ⟨rfl, HB.out⟩
 ·have z4 : (k == 4) = false := by simp [h4]
  by_cases h5 : k = 5
  ·have z5 : (k == 5) = true := by simp [h5]
   rw [show (decide (k = 4) || (decide (k = 5) || q)) = true from by simp [h5]];clear h4 h5;have B := Below.refl w.heap.size w;go_enter Tryz.func165, Tryz.ntmps165;go_upto_region 1 with fail
   generalize hu1w : w.alloc _ = u1w;have X := boxH hu1w;have bz := boxB hu1w;have zX := boxL hu1w;clear hu1w;replace B := below_step B bz;clear bz;have zXa := Nat.le_of_eq zX;have zXb := Nat.le_of_eq zX.symm;clear zX;obtain ⟨Xc0, Xc1, Xc2, Xc3⟩ := cells_4 X;have Xlt := (ltH X);have HB : Hid _ := B;clear B X;go_wp2;go_ret
   exact ⟨rfl, HB.out⟩
  ·have z5 : (k == 5) = false := by simp [h5]
   rw [show (decide (k = 4) || (decide (k = 5) || q)) = q from by simp [h4, h5]];clear h4 h5;have B := Below.refl w.heap.size w;go_enter Tryz.func165, Tryz.ntmps165;go_upto_region 1 with fail
   generalize hu1w : w.alloc _ = u1w;have X := boxH hu1w;have bz := boxB hu1w;have zX := boxL hu1w;clear hu1w;replace B := below_step B bz;clear bz;have zXa := Nat.le_of_eq zX;have zXb := Nat.le_of_eq zX.symm;clear zX;obtain ⟨Xc0, Xc1, Xc2, Xc3⟩ := cells_4 X;have Xlt := (ltH X);go_wp2_with fail
   clear Xc0 Xc1 Xc2 Xc3 Xlt;refine (HC1.out _).mono ?_;rintro e u2w ⟨rfl, bq⟩;have tu2w : u1w.heap.size ≤ u2w.heap.size := bq.size;replace B := below_step B bq;replace X := row_keep bq X;clear bq;obtain ⟨Xc0, Xc1, Xc2, Xc3⟩ := cells_4 X;have Xlt := (ltH X);have HB : Hid _ := B;clear B X;go_wp2;go_ret
   exact ⟨rfl, HB.out⟩
theorem fitsWay_any (c s y l : Int) (u : WayD) (ua : Option Addr) (uc : Nat) (w : World) (hc : codeI c s y l = 0) :
    Calls Tryz.prog 175 #[.agg #[.int .i64 c, .int .i64 s, .int .i64 y, .int .i64 l], .agg #[.int .i64 u.1, .int .i64 u.2.1, .slice ua u.2.2.length uc]] w fun e w' => e = .returned (.bool (wayIn l u)) ∧ Below w.heap.size w w' := by
 have HC1 : Hid (∀ W, Calls Tryz.prog 36 #[.agg #[.int .i64 c, .int .i64 s, .int .i64 y, .int .i64 l], .int .i64 u.1] W fun e w' => e = .returned (.bool (lineIn l u.1)) ∧ Below W.heap.size W w') := fun W => by rw [← line_in hc]; exact hasLine_any c s y l u.1 W
 unfold wayIn;generalize lineIn l u.1 = q at HC1 ⊢;clear hc;by_cases h4 : u.1 = -1
 ·have z4 : (u.1 == -1) = true := by simp [h4]
  rw [show (decide (u.1 = -1) || q) = true from by simp [h4]];clear h4;have B := Below.refl w.heap.size w;go_enter Tryz.func175, Tryz.ntmps175;go_upto_region 1 with fail
  generalize hu1w : w.alloc _ = u1w;have X := boxH hu1w;have bz := boxB hu1w;have zX := boxL hu1w;clear hu1w;replace B := below_step B bz;clear bz;have zXa := Nat.le_of_eq zX;have zXb := Nat.le_of_eq zX.symm;clear zX;generalize hu2w : u1w.alloc _ = u2w;have V := boxH hu2w;have bz := boxB hu2w;have zV := boxL hu2w;clear hu2w;rw [show u1w.heap.size = w.heap.size + 1 from by omega] at V;replace B := below_step B bz;replace X := row_keep bz X;clear bz;have zVa := Nat.le_of_eq zV;have zVb := Nat.le_of_eq zV.symm;clear zV;obtain ⟨Xc0, Xc1, Xc2, Xc3⟩ := cells_4 X;have Xlt := (ltH X);obtain ⟨Vc0, Vc1, Vc2⟩ := cells_3 V;have Vlt := (ltH V);have HB : Hid _ := B;clear B X V;go_wp2;go_ret
  exact ⟨rfl, HB.out⟩
 ·have z4 : (u.1 == -1) = false := by simp [h4]
  rw [show (decide (u.1 = -1) || q) = q from by simp [h4]];clear h4;have B := Below.refl w.heap.size w;go_enter Tryz.func175, Tryz.ntmps175;go_upto_region 1 with fail
  generalize hu1w : w.alloc _ = u1w;have X := boxH hu1w;have bz := boxB hu1w;have zX := boxL hu1w;clear hu1w;replace B := below_step B bz;clear bz;have zXa := Nat.le_of_eq zX;have zXb := Nat.le_of_eq zX.symm;clear zX;generalize hu2w : u1w.alloc _ = u2w;have V := boxH hu2w;have bz := boxB hu2w;have zV := boxL hu2w;clear hu2w;rw [show u1w.heap.size = w.heap.size + 1 from by omega] at V;replace B := below_step B bz;replace X := row_keep bz X;clear bz;have zVa := Nat.le_of_eq zV;have zVb := Nat.le_of_eq zV.symm;clear zV;obtain ⟨Xc0, Xc1, Xc2, Xc3⟩ := cells_4 X;have Xlt := (ltH X);obtain ⟨Vc0, Vc1, Vc2⟩ := cells_3 V;have Vlt := (ltH V);go_wp2_with fail
  clear Xc0 Xc1 Xc2 Xc3 Xlt Vc0 Vc1 Vc2 Vlt;refine (HC1.out _).mono ?_;rintro e u3w ⟨rfl, bq⟩;have tu3w : u2w.heap.size ≤ u3w.heap.size := bq.size;replace B := below_step B bq;replace X := row_keep bq X;replace V := row_keep bq V;clear bq;obtain ⟨Xc0, Xc1, Xc2, Xc3⟩ := cells_4 X;have Xlt := (ltH X);obtain ⟨Vc0, Vc1, Vc2⟩ := cells_3 V;have Vlt := (ltH V);have HB : Hid _ := B;clear B X V;go_wp2;go_ret
  exact ⟨rfl, HB.out⟩
theorem fitsLetter_any (c s y l : Int) (m : MsgD) (ma : Option Addr) (mc : Nat) (w : World) (hc : codeI c s y l = 0) :
    Calls Tryz.prog 129 #[.agg #[.int .i64 c, .int .i64 s, .int .i64 y, .int .i64 l], .agg #[.int .i64 m.1, .int .i64 m.2.1, .int .i64 m.2.2.1, .int .i64 m.2.2.2.1, .int .i64 m.2.2.2.2.1, .slice ma m.2.2.2.2.2.1.length mc, .int .i64 m.2.2.2.2.2.2]] w fun e w' => e = .returned (.bool (msgIn c l m)) ∧ Below w.heap.size w w' := by
 have H1 : Hid (∀ W, Calls Tryz.prog 165 #[.agg #[.int .i64 c, .int .i64 s, .int .i64 y, .int .i64 l], .int .i64 m.2.1] W fun e w' => e = .returned (.bool (agentIn c m.2.1)) ∧ Below W.heap.size W w') := fun W => hasAgent_any c s y l m.2.1 W hc;have H2 : Hid (∀ W, Calls Tryz.prog 165 #[.agg #[.int .i64 c, .int .i64 s, .int .i64 y, .int .i64 l], .int .i64 m.2.2.1] W fun e w' => e = .returned (.bool (agentIn c m.2.2.1)) ∧ Below W.heap.size W w') := fun W => hasAgent_any c s y l m.2.2.1 W hc;have H3 : Hid (∀ W, Calls Tryz.prog 36 #[.agg #[.int .i64 c, .int .i64 s, .int .i64 y, .int .i64 l], .int .i64 m.2.2.2.2.1] W fun e w' => e = .returned (.bool (lineIn l m.2.2.2.2.1)) ∧ Below W.heap.size W w') := fun W => by rw [← line_in hc]; exact hasLine_any c s y l m.2.2.2.2.1 W
 unfold msgIn;generalize agentIn c m.2.1 = q1 at H1 ⊢;generalize agentIn c m.2.2.1 = q2 at H2 ⊢;generalize lineIn l m.2.2.2.2.1 = q3 at H3 ⊢;clear hc;have B := Below.refl w.heap.size w;go_enter Tryz.func129, Tryz.ntmps129;go_upto_region 1 with fail
 generalize hu1w : w.alloc _ = u1w;have X := boxH hu1w;have bz := boxB hu1w;have zX := boxL hu1w;clear hu1w;replace B := below_step B bz;clear bz;have zXa := Nat.le_of_eq zX;have zXb := Nat.le_of_eq zX.symm;clear zX;generalize hu2w : u1w.alloc _ = u2w;have M := boxH hu2w;have bz := boxB hu2w;have zM := boxL hu2w;clear hu2w;rw [show u1w.heap.size = w.heap.size + 1 from by omega] at M;replace B := below_step B bz;replace X := row_keep bz X;clear bz;have zMa := Nat.le_of_eq zM;have zMb := Nat.le_of_eq zM.symm;clear zM;obtain ⟨Xc0, Xc1, Xc2, Xc3⟩ := cells_4 X;have Xlt := (ltH X);obtain ⟨Mc0, Mc1, Mc2, Mc3, Mc4, Mc5, Mc6⟩ := cells_7 M;have Mlt := (ltH M);go_wp2_with fail
 clear Xc0 Xc1 Xc2 Xc3 Xlt Mc0 Mc1 Mc2 Mc3 Mc4 Mc5 Mc6 Mlt;refine (H1.out _).mono ?_;rintro e u3w ⟨rfl, bq⟩;have tu3w : u2w.heap.size ≤ u3w.heap.size := bq.size;replace B := below_step B bq;replace X := row_keep bq X;replace M := row_keep bq M;clear bq;cases q1
 ·skip
  obtain ⟨Xc0, Xc1, Xc2, Xc3⟩ := cells_4 X;have Xlt := (ltH X);obtain ⟨Mc0, Mc1, Mc2, Mc3, Mc4, Mc5, Mc6⟩ := cells_7 M;have Mlt := (ltH M);have HB : Hid _ := B;clear B X M;go_wp2;go_ret
  exact ⟨rfl, HB.out⟩
 ·skip
  obtain ⟨Xc0, Xc1, Xc2, Xc3⟩ := cells_4 X;have Xlt := (ltH X);obtain ⟨Mc0, Mc1, Mc2, Mc3, Mc4, Mc5, Mc6⟩ := cells_7 M;have Mlt := (ltH M);go_wp2_with fail
  clear Xc0 Xc1 Xc2 Xc3 Xlt Mc0 Mc1 Mc2 Mc3 Mc4 Mc5 Mc6 Mlt;refine (H2.out _).mono ?_;rintro e u4w ⟨rfl, bq⟩;have tu4w : u3w.heap.size ≤ u4w.heap.size := bq.size;replace B := below_step B bq;replace X := row_keep bq X;replace M := row_keep bq M;clear bq;cases q2
  ·skip
   obtain ⟨Xc0, Xc1, Xc2, Xc3⟩ := cells_4 X;have Xlt := (ltH X);obtain ⟨Mc0, Mc1, Mc2, Mc3, Mc4, Mc5, Mc6⟩ := cells_7 M;have Mlt := (ltH M);have HB : Hid _ := B;clear B X M;go_wp2;go_ret
   exact ⟨rfl, HB.out⟩
  ·skip
   obtain ⟨Xc0, Xc1, Xc2, Xc3⟩ := cells_4 X;have Xlt := (ltH X);obtain ⟨Mc0, Mc1, Mc2, Mc3, Mc4, Mc5, Mc6⟩ := cells_7 M;have Mlt := (ltH M);go_wp2_with fail
   clear Xc0 Xc1 Xc2 Xc3 Xlt Mc0 Mc1 Mc2 Mc3 Mc4 Mc5 Mc6 Mlt;refine (H3.out _).mono ?_;rintro e u5w ⟨rfl, bq⟩;have tu5w : u4w.heap.size ≤ u5w.heap.size := bq.size;replace B := below_step B bq;replace X := row_keep bq X;replace M := row_keep bq M;clear bq;obtain ⟨Xc0, Xc1, Xc2, Xc3⟩ := cells_4 X;have Xlt := (ltH X);obtain ⟨Mc0, Mc1, Mc2, Mc3, Mc4, Mc5, Mc6⟩ := cells_7 M;have Mlt := (ltH M);have HB : Hid _ := B;clear B X M;go_wp2;go_ret
   exact ⟨rfl, HB.out⟩
end Go.Proofs.YtcocbafhcpdheaaGreatDoor
