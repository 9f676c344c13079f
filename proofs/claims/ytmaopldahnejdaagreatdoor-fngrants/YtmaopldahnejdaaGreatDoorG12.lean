import Derived.Test.YtmaopldahnejdaaGreatDoorG00Box
import Derived.Test.YtmaopldahnejdaaGreatDoorG11
import Derived.Maps.OwnSet
import Derived.DeepKeys4
import Derived.WideKeyEntry
import Derived.Orders
import Derived.Test.YtmaopldahnejdaaGreatDoorProg
import Derived.RowKit
import Derived.Deep.Cut
import Derived.Deep.CutBlock
import Derived.OwnWalk
namespace Go.Proofs.YtmaopldahnejdaaGreatDoor
set_option maxHeartbeats 4000000
set_option maxRecDepth 100000
open Go.ChangeShapes Go.WideShapes Go.ChangeAt Go.RowKit
set_option linter.unusedVariables false
def zDB (r f t : Int) : Bool := zA6 r 0 2 && (zA6 f 0 5 && zA6 t 0 5)
def zDY (d : List Int) : Bool := d.isEmpty || isL d
def zFB (u : zAS) : Bool := zDB u.1 u.2.1 u.2.2.1 && (zA6 u.2.2.2.1 1 15 && (zA6 u.2.2.2.2.1 0 15 && (zDY u.2.2.2.2.2.1 && zA6 u.2.2.2.2.2.2 0 15)))
theorem zJD {d : List Int} (h : d.length = 0) : zDY d = true := by
 have : d = [] := List.eq_nil_of_length_eq_zero h;subst this;rfl
theorem zIk {d : List Int} (h : ¬ d.length = 0) : zDY d = isL d := by
 cases d with
 | nil => exact (h rfl).elim
 | cons x r => rfl
theorem mb {r f t k l g : Int} {d : List Int} : zFB (r, f, t, k, l, d, g) = (zDB r f t && (zA6 k 1 15 && (zA6 l 0 15 && (zDY d && zA6 g 0 15)))) := rfl
theorem zCl (k : Int) (w : World) : Calls Tryz.prog 114 #[nI k] w fun e a => e = .returned (.bool (zA6 k 0 15)) ∧ a = w := by
 go_enter Tryz.func114, Tryz.ntmps114;go_wp2_with (go_at_call 91; refine (zA8 _ _ _ _).mono ?_; rintro e a ⟨rfl, rfl⟩)
 go_ret
 exact ⟨rfl, rfl⟩
theorem zIl (f0 f1 f2 f3 f4 f6 : Int) (d : List Int) (a : Option Addr) (cap : Nat) (w : World) :
    Calls Tryz.prog 113 #[.agg #[nI f0, nI f1, nI f2, nI f3, nI f4, sL a d.length cap, nI f6]] w fun e b => e = .returned (.bool (zDB f0 f1 f2)) ∧ Bl w b := by
 have c : Hid _ := zAg w;unfold zDB;cases h1 : zA6 f0 0 2
 ·go_enter Tryz.func113, Tryz.ntmps113;go_wp2_with (go_at_call 91; refine (zA8 _ _ _ _).mono ?_; rintro e b ⟨rfl, rfl⟩)
  go_ret
  exact ⟨rfl, c.out _⟩
 ·cases h2 : zA6 f1 0 5
  ·go_enter Tryz.func113, Tryz.ntmps113;go_wp2_with (go_at_call 91; refine (zA8 _ _ _ _).mono ?_; rintro e b ⟨rfl, rfl⟩)
   go_ret
   exact ⟨rfl, c.out _⟩
  ·go_enter Tryz.func113, Tryz.ntmps113;go_wp2_with (go_at_call 91; refine (zA8 _ _ _ _).mono ?_; rintro e b ⟨rfl, rfl⟩)
   go_ret
   exact ⟨rfl, c.out _⟩
theorem zH1 (f0 f1 f2 f3 f4 f6 : Int) (d : List Int) (a : Option Addr) (cap : Nat) (w : World) (h : zBv zBf w a d) :
    Calls Tryz.prog 87 #[.agg #[nI f0, nI f1, nI f2, nI f3, nI f4, sL a d.length cap, nI f6]] w fun e c => e = .returned (.bool (zFB (f0, f1, f2, f3, f4, d, f6))) ∧ Bl w c := by
 have f : Hid (∀ W, Calls Tryz.prog 113 #[.agg #[nI f0, nI f1, nI f2, nI f3, nI f4, sL a d.length cap, nI f6]] W fun e c => e = .returned (.bool (zDB f0 f1 f2)) ∧ Bl W c) := fun W => zIl f0 f1 f2 f3 f4 f6 d a cap W;have q : Hid (∀ W, Bl w W → Calls Tryz.prog 115 #[sL a d.length cap] W fun e c => e = .returned (.bool (isL d)) ∧ Bl W c) := fun W l => zCI a d cap W (zAM (zAt h l));have X := zAw w (.cells #[nI f0, nI f1, nI f2, nI f3, nI f4, sL a d.length cap, nI f6] 30);have B := zAg w (.cells #[nI f0, nI f1, nI f2, nI f3, nI f4, sL a d.length cap, nI f6] 30);clear h;rw [mb];cases z : zDB f0 f1 f2
 ·rw [z] at f;go_enter Tryz.func87, Tryz.ntmps87;go_wp2_with fail
  generalize w.alloc (.cells #[nI f0, nI f1, nI f2, nI f3, nI f4, sL a d.length cap, nI f6] 30) = W0 at X B ⊢;refine (f.out _).mono ?_;rintro e r ⟨rfl, b⟩;replace X := zAb b X;replace B := zAa B b;clear b f;obtain ⟨o, k, i, n, m, g, j⟩ := zAe X;go_wp2_with (first | (go_at_call 91; refine (zA8 _ _ _ _).mono ?_; rintro e c ⟨rfl, rfl⟩) | (go_at_call 114; refine (zCl _ _).mono ?_; rintro e c ⟨rfl, rfl⟩))
  go_ret
  exact ⟨rfl, B⟩
 ·rw [z] at f;cases h2 : zA6 f3 1 15
  ·clear q;go_enter Tryz.func87, Tryz.ntmps87;go_wp2_with fail
   generalize w.alloc (.cells #[nI f0, nI f1, nI f2, nI f3, nI f4, sL a d.length cap, nI f6] 30) = W0 at X B ⊢;refine (f.out _).mono ?_;rintro e r ⟨rfl, b⟩;replace X := zAb b X;replace B := zAa B b;clear b f;obtain ⟨o, k, i, n, m, g, j⟩ := zAe X;go_wp2_with (first | (go_at_call 91; refine (zA8 _ _ _ _).mono ?_; rintro e c ⟨rfl, rfl⟩) | (go_at_call 114; refine (zCl _ _).mono ?_; rintro e c ⟨rfl, rfl⟩))
   go_ret
   exact ⟨rfl, B⟩
  ·cases h3 : zA6 f4 0 15
   ·clear q;go_enter Tryz.func87, Tryz.ntmps87;go_wp2_with fail
    generalize w.alloc (.cells #[nI f0, nI f1, nI f2, nI f3, nI f4, sL a d.length cap, nI f6] 30) = W0 at X B ⊢;refine (f.out _).mono ?_;rintro e r ⟨rfl, b⟩;replace X := zAb b X;replace B := zAa B b;clear b f;obtain ⟨o, k, i, n, m, g, j⟩ := zAe X;go_wp2_with (first | (go_at_call 91; refine (zA8 _ _ _ _).mono ?_; rintro e c ⟨rfl, rfl⟩) | (go_at_call 114; refine (zCl _ _).mono ?_; rintro e c ⟨rfl, rfl⟩))
    go_ret
    exact ⟨rfl, B⟩
   ·by_cases p : d.length = 0
    ·have D : Hid (zDY d = true) := zJD p;rw [D.out];have s : d = [] := List.eq_nil_of_length_eq_zero p;clear q;cases E : zA6 f6 0 15
     ·subst s;go_enter Tryz.func87, Tryz.ntmps87;go_wp2_with fail
      generalize w.alloc (.cells #[nI f0, nI f1, nI f2, nI f3, nI f4, sL a ([] : List Int).length cap, nI f6] 30) = W0 at X B ⊢;refine (f.out _).mono ?_;rintro e r ⟨rfl, b⟩;replace X := zAb b X;replace B := zAa B b;clear b f;obtain ⟨o, k, i, n, m, g, j⟩ := zAe X;go_wp2_with (first | (go_at_call 91; refine (zA8 _ _ _ _).mono ?_; rintro e c ⟨rfl, rfl⟩) | (go_at_call 114; refine (zCl _ _).mono ?_; rintro e c ⟨rfl, rfl⟩))
      go_ret
      exact ⟨rfl, B⟩
     ·subst s;go_enter Tryz.func87, Tryz.ntmps87;go_wp2_with fail
      generalize w.alloc (.cells #[nI f0, nI f1, nI f2, nI f3, nI f4, sL a ([] : List Int).length cap, nI f6] 30) = W0 at X B ⊢;refine (f.out _).mono ?_;rintro e r ⟨rfl, b⟩;replace X := zAb b X;replace B := zAa B b;clear b f;obtain ⟨o, k, i, n, m, g, j⟩ := zAe X;go_wp2_with (first | (go_at_call 91; refine (zA8 _ _ _ _).mono ?_; rintro e c ⟨rfl, rfl⟩) | (go_at_call 114; refine (zCl _ _).mono ?_; rintro e c ⟨rfl, rfl⟩))
      go_ret
      exact ⟨rfl, B⟩
    ·rw [zIk p];have A : ¬ (d = []) := fun e => p (by rw [e]; rfl);have F : ¬ ((d.length : Int) = 0) := by omega
     have C : ((d.length : Int) == 0) = false := beq_false_of_ne F;cases y : isL d
     ·rw [y] at q;go_enter Tryz.func87, Tryz.ntmps87;go_wp2_with fail
      generalize w.alloc (.cells #[nI f0, nI f1, nI f2, nI f3, nI f4, sL a d.length cap, nI f6] 30) = W0 at X B ⊢;refine (f.out _).mono ?_;rintro e r ⟨rfl, b⟩;replace X := zAb b X;replace B := zAa B b;clear b f;obtain ⟨o, k, i, n, m, g, j⟩ := zAe X;go_wp2_with (first | (go_at_call 91; refine (zA8 _ _ _ _).mono ?_; rintro e c ⟨rfl, rfl⟩) | (go_at_call 114; refine (zCl _ _).mono ?_; rintro e c ⟨rfl, rfl⟩) | (go_at_call 115; refine (q.out _ B).mono ?_; rintro e v ⟨rfl, l⟩; replace X := zAb l X; replace B := zAa B l; clear l o k i n m g j; obtain ⟨o, k, i, n, m, g, j⟩ := zAe X))
      go_ret
      exact ⟨rfl, B⟩
     ·rw [y] at q;cases E : zA6 f6 0 15
      ·skip
       go_enter Tryz.func87, Tryz.ntmps87;go_wp2_with fail
       generalize w.alloc (.cells #[nI f0, nI f1, nI f2, nI f3, nI f4, sL a d.length cap, nI f6] 30) = W0 at X B ⊢;refine (f.out _).mono ?_;rintro e r ⟨rfl, b⟩;replace X := zAb b X;replace B := zAa B b;clear b f;obtain ⟨o, k, i, n, m, g, j⟩ := zAe X;go_wp2_with (first | (go_at_call 91; refine (zA8 _ _ _ _).mono ?_; rintro e c ⟨rfl, rfl⟩) | (go_at_call 114; refine (zCl _ _).mono ?_; rintro e c ⟨rfl, rfl⟩) | (go_at_call 115; refine (q.out _ B).mono ?_; rintro e v ⟨rfl, l⟩; replace X := zAb l X; replace B := zAa B l; clear l o k i n m g j; obtain ⟨o, k, i, n, m, g, j⟩ := zAe X))
       go_ret
       exact ⟨rfl, B⟩
      ·skip
       go_enter Tryz.func87, Tryz.ntmps87;go_wp2_with fail
       generalize w.alloc (.cells #[nI f0, nI f1, nI f2, nI f3, nI f4, sL a d.length cap, nI f6] 30) = W0 at X B ⊢;refine (f.out _).mono ?_;rintro e r ⟨rfl, b⟩;replace X := zAb b X;replace B := zAa B b;clear b f;obtain ⟨o, k, i, n, m, g, j⟩ := zAe X;go_wp2_with (first | (go_at_call 91; refine (zA8 _ _ _ _).mono ?_; rintro e c ⟨rfl, rfl⟩) | (go_at_call 114; refine (zCl _ _).mono ?_; rintro e c ⟨rfl, rfl⟩) | (go_at_call 115; refine (q.out _ B).mono ?_; rintro e v ⟨rfl, l⟩; replace X := zAb l X; replace B := zAa B l; clear l o k i n m g j; obtain ⟨o, k, i, n, m, g, j⟩ := zAe X))
       go_ret
       exact ⟨rfl, B⟩
theorem zEC (f0 f1 f2 f3 f4 f6 : Int) (d : List Int) (a : Option Addr) (cap : Nat) (w : World) (h : zBv zBf w a d) :
    Calls Tryz.prog 61 #[.agg #[nI f0, nI f1, nI f2, nI f3, nI f4, sL a d.length cap, nI f6]] w fun e c => e = .returned (.bool (zFB (f0, f1, f2, f3, f4, d, f6))) ∧ Bl w c := by
 have f : Hid (∀ W, Bl w W → Calls Tryz.prog 103 #[sL a d.length cap] W fun e c => e = .returned (.bool (isL d)) ∧ c = W) := fun W hb => zCJ a d cap W (zAM (zAt h hb));have B := zAg w (.cells #[nI f0, nI f1, nI f2, nI f3, nI f4, sL a d.length cap, nI f6] 30);clear h;cases p : zA6 f0 0 2
 ·clear f;have b : Hid (zFB (f0, f1, f2, f3, f4, d, f6) = false) := by unfold Hid; rw [mb]; unfold zDB; simp [p]
  go_enter Tryz.func61, Tryz.ntmps61;go_wp2_with (first | (go_at_call 58; refine (zAx _ _ _ _).mono ?_; rintro e c ⟨rfl, rfl⟩))
  go_ret
  exact ⟨zAJ b.out.symm, B⟩
 ·cases o : zA6 f1 0 5
  ·clear f;have b : Hid (zFB (f0, f1, f2, f3, f4, d, f6) = false) := by unfold Hid; rw [mb]; unfold zDB; simp [o]
   go_enter Tryz.func61, Tryz.ntmps61;go_wp2_with (first | (go_at_call 58; refine (zAx _ _ _ _).mono ?_; rintro e c ⟨rfl, rfl⟩))
   go_ret
   exact ⟨zAJ b.out.symm, B⟩
  ·cases q : zA6 f2 0 5
   ·clear f;have b : Hid (zFB (f0, f1, f2, f3, f4, d, f6) = false) := by unfold Hid; rw [mb]; unfold zDB; simp [q]
    go_enter Tryz.func61, Tryz.ntmps61;go_wp2_with (first | (go_at_call 58; refine (zAx _ _ _ _).mono ?_; rintro e c ⟨rfl, rfl⟩))
    go_ret
    exact ⟨zAJ b.out.symm, B⟩
   ·cases n : zA6 f4 0 15
    ·clear f;have b : Hid (zFB (f0, f1, f2, f3, f4, d, f6) = false) := by unfold Hid; rw [mb]; unfold zDB; simp [n]
     go_enter Tryz.func61, Tryz.ntmps61;go_wp2_with (first | (go_at_call 58; refine (zAx _ _ _ _).mono ?_; rintro e c ⟨rfl, rfl⟩))
     go_ret
     exact ⟨zAJ b.out.symm, B⟩
    ·by_cases g : d.length = 0
     ·have k : Hid (zDY d = true) := zJD g;have m : d = [] := List.eq_nil_of_length_eq_zero g;clear f;subst m;cases j : zA6 f3 1 15
      ·skip
       have b : Hid (zFB (f0, f1, f2, f3, f4, [], f6) = false) := by unfold Hid; rw [mb]; unfold zDB; simp [j]
       go_enter Tryz.func61, Tryz.ntmps61;go_wp2_with (first | (go_at_call 58; refine (zAx _ _ _ _).mono ?_; rintro e c ⟨rfl, rfl⟩))
       go_ret
       exact ⟨zAJ b.out.symm, B⟩
      ·cases i : zA6 f6 0 15
       ·skip
        have b : Hid (zFB (f0, f1, f2, f3, f4, [], f6) = false) := by unfold Hid; rw [mb]; unfold zDB; simp [i]
        go_enter Tryz.func61, Tryz.ntmps61;go_wp2_with (first | (go_at_call 58; refine (zAx _ _ _ _).mono ?_; rintro e c ⟨rfl, rfl⟩))
        go_ret
        exact ⟨zAJ b.out.symm, B⟩
       ·skip
        have b : Hid (zFB (f0, f1, f2, f3, f4, [], f6) = true) := by unfold Hid; rw [mb]; unfold zDB; simp [p, o, q, n, j, i, k.out]
        go_enter Tryz.func61, Tryz.ntmps61;go_wp2_with (first | (go_at_call 58; refine (zAx _ _ _ _).mono ?_; rintro e c ⟨rfl, rfl⟩))
        go_ret
        exact ⟨zAJ b.out.symm, B⟩
     ·have k : Hid (zDY d = isL d) := zIk g;have r : ¬ (d = []) := fun e => g (by rw [e]; rfl);have v : ¬ ((d.length : Int) = 0) := by omega
      have s : ((d.length : Int) == 0) = false := beq_false_of_ne v;cases l : isL d
      ·rw [l] at f;have b : Hid (zFB (f0, f1, f2, f3, f4, d, f6) = false) := by unfold Hid; rw [mb]; unfold zDB; simp [k.out, l]
       go_enter Tryz.func61, Tryz.ntmps61;go_wp2_with (first | (go_at_call 58; refine (zAx _ _ _ _).mono ?_; rintro e c ⟨rfl, rfl⟩) | (go_at_call 103; refine (f.out _ B).mono ?_; rintro e c ⟨rfl, rfl⟩))
       go_ret
       exact ⟨zAJ b.out.symm, B⟩
      ·rw [l] at f;cases j : zA6 f3 1 15
       ·skip
        have b : Hid (zFB (f0, f1, f2, f3, f4, d, f6) = false) := by unfold Hid; rw [mb]; unfold zDB; simp [j]
        go_enter Tryz.func61, Tryz.ntmps61;go_wp2_with (first | (go_at_call 58; refine (zAx _ _ _ _).mono ?_; rintro e c ⟨rfl, rfl⟩) | (go_at_call 103; refine (f.out _ B).mono ?_; rintro e c ⟨rfl, rfl⟩))
        go_ret
        exact ⟨zAJ b.out.symm, B⟩
       ·cases i : zA6 f6 0 15
        ·skip
         have b : Hid (zFB (f0, f1, f2, f3, f4, d, f6) = false) := by unfold Hid; rw [mb]; unfold zDB; simp [i]
         go_enter Tryz.func61, Tryz.ntmps61;go_wp2_with (first | (go_at_call 58; refine (zAx _ _ _ _).mono ?_; rintro e c ⟨rfl, rfl⟩) | (go_at_call 103; refine (f.out _ B).mono ?_; rintro e c ⟨rfl, rfl⟩))
         go_ret
         exact ⟨zAJ b.out.symm, B⟩
        ·skip
         have b : Hid (zFB (f0, f1, f2, f3, f4, d, f6) = true) := by unfold Hid; rw [mb]; unfold zDB; simp [p, o, q, n, j, i, k.out, l]
         go_enter Tryz.func61, Tryz.ntmps61;go_wp2_with (first | (go_at_call 58; refine (zAx _ _ _ _).mono ?_; rintro e c ⟨rfl, rfl⟩) | (go_at_call 103; refine (f.out _ B).mono ?_; rintro e c ⟨rfl, rfl⟩))
         go_ret
         exact ⟨zAJ b.out.symm, B⟩
open Go.ChangeShapes Go.WideShapes Go.RowKit
open Go.Maps (Keyed has_put_same has_put_other atKey_put_same atKey_put_other)
def MapV (P : Program) (k e : TypeId) (w : World) (b n : Nat) (f : Value → Option Int) : Prop :=
 ∃ D : DataW Unit, w.ownsMap P k (plainElem P e) b n D ∧ ∀ v l, keyOf P k v = some l → Maps.has D l = (f v).isSome ∧ D.atKey l (.lit (.int .i64 0)) = .lit (.int .i64 ((f v).getD 0))
open Classical in
noncomputable def putV (f : Value → Option Int) (v : Value) (x : Int) : Value → Option Int := fun u => if u = v then some x else f u
theorem zGg (f : Value → Option Int) (v : Value) (x : Int) : putV f v x v = some x := by simp [putV]
theorem zFo (f : Value → Option Int) {v u : Value} (x : Int) (h : u ≠ v) : putV f v x u = f u := by simp [putV, h]
section
variable {P : Program} {k e t : TypeId} {w : World} {b n : Nat} {f : Value → Option Int}
theorem zLl (w : World) (P : Program) (k e : TypeId) : MapV P k e (w.alloc (.map #[] 0)) w.heap.size 0 (fun _ => none) :=
 ⟨.map [], World.ownsMap_made w P k _, fun v l _ => ⟨rfl, rfl⟩⟩
theorem MapV.lt (h : MapV P k e w b n f) : b < w.heap.size := by obtain ⟨D, h, _⟩ := h; exact h.lt
theorem MapV.kept {w' : World} {row : Option Nat} (h : MapV P k e w b n f) (hg : w.grownBy w' row) (hne : some b ≠ row) : MapV P k e w' b n f := by
 obtain ⟨D, h, a⟩ := h; exact ⟨D, h.kept hg hne, a⟩
theorem MapV.alloc (h : MapV P k e w b n f) (o : Obj) : MapV P k e (w.alloc o) b n f := by obtain ⟨D, h, a⟩ := h; exact ⟨D, h.alloc o, a⟩
theorem MapV.drewN (h : MapV P k e w b n f) (q : Nat) : MapV P k e (w.drewN q) b n f := by
 obtain ⟨D, ⟨g, a, d, r⟩, c⟩ := h; exact ⟨D, ⟨g, a, d, r⟩, c⟩
theorem MapV.block {w' : World} (h : MapV P k e w b n f) (hb : w'.heap[b]? = w.heap[b]?) : MapV P k e w' b n f := by
 obtain ⟨D, ⟨g, a, c, r⟩, d⟩ := h; exact ⟨D, ⟨g, a, by rw [hb]; exact c, r⟩, d⟩
theorem MapV.below {w' : World} {m : Nat} (h : MapV P k e w b n f) (hB : Below m w w') (hm : b < m) : MapV P k e w' b n f := h.block (hB.block b hm)
theorem MapV.mono {n' : Nat} (h : MapV P k e w b n f) (hn : n ≤ n') : MapV P k e w b n' f := by obtain ⟨D, h, a⟩ := h; exact ⟨D, h.mono hn, a⟩
theorem MapV.congr {g : Value → Option Int} (h : MapV P k e w b n f) (hfg : ∀ v l, keyOf P k v = some l → f v = g v) : MapV P k e w b n g := by
 obtain ⟨D, h, a⟩ := h;exact ⟨D, h, fun v l hl => by rw [← hfg v l hl]; exact a v l hl⟩
theorem MapV.look (h : MapV P k e w b n f) (K : Keyed P k) (ht : P.underlying t = some (.map k e)) (he : P.underlying e = some (.int .i64)) (hz : (zeroValue e).run P w = .ok (nI 0) w) {v : Value} {l : Lit} (hl : keyOf P k v = some l) :
    (Instr.lookup t (.map (some b)) v false).run P w = .ok (nI ((f v).getD 0)) w := by
 obtain ⟨D, h, g⟩ := h;obtain ⟨c, d, a, _⟩ := h.lookup_int K ht he hz hl;rw [(g v l hl).2] at a;simp only [DataW.lit.injEq, Lit.int.injEq, true_and] at a;rw [d, a]
theorem MapV.put (h : MapV P k e w b n f) (K : Keyed P k) (ht : P.underlying t = some (.map k e)) (he : P.underlying e = some (.int .i64)) (hn : n < maxLen) {v : Value} {l : Lit} (hl : keyOf P k v = some l) {x : Int} (hx : (Lit.int .i64 x).wf = true) :
    ∃ c, (Instr.mapUpdate t (.map (some b)) v (nI x)).run P w = .ok () c ∧ MapV P k e c b (n + 1) (putV f v x) ∧ w.grownBy c (some b) := by
 obtain ⟨D, h, j⟩ := h;obtain ⟨c, d, i, o⟩ := h.update K ht hn hl (plainElem_int he hx);refine ⟨c, d, ⟨_, i, fun u l' hl' => ?_⟩, o⟩;by_cases g : u = v
 ·subst g;rw [hl] at hl';cases hl'
  rw [zGg, has_put_same h.isMap (K.key hl), atKey_put_same h.isMap (K.key hl)];exact ⟨rfl, rfl⟩
 ·have a : l' ≠ l := fun e => g (K.inj hl' (e ▸ hl));rw [zFo f x g, has_put_other a, atKey_put_other a];exact j u l' hl'
theorem MapV.wiped (h : MapV P k e w b n f) (ht : P.underlying t = some (.map k e)) (ty : TypeId) :
    ∃ w', (Builtin.clear_ #[t] ty #[.map (some b)]).run P w = .ok (.tuple #[]) w' ∧ MapV P k e w' b n (fun _ => none) ∧ w.grownBy w' (some b) := by
 obtain ⟨D, ⟨es, a, c, F, hs, rfl⟩, hf⟩ := h;refine ⟨ChangeMaps.setBlock w b (.map #[] a), ?_, ⟨.map [], ⟨#[], a, ChangeMaps.heap_setBlock_same c _, ⟨by simp, MapKept.stamped_empty a, by simp⟩, by simp, rfl⟩, fun v l _ => ⟨rfl, rfl⟩⟩, ⟨rfl, rfl, rfl, by simp [ChangeMaps.setBlock], fun i _ hi => ChangeMaps.heap_setBlock_other c _ (fun e => hi (by rw [e]))⟩⟩;simp [Builtin.clear_, run_underlying ht, MapKept.run_getObj_map c, MapKept.run_setObj_map _ c, Result.andThen, ChangeMaps.setBlock]
theorem MapV.entry (h : MapV P k e w b n f) (KL : WideMaps.KeyLaw P k) (ht : P.underlying t = some (.map k e)) (he : P.underlying e = some (.int .i64)) (hz : ∀ u : World, (zeroValue e).run P u = .ok (nI 0) u) (hn : n < maxLen) {v : Value} {l : Lit} (hl : keyOf P k v = some l) :
    ∃ (T : Value) (M : Nat) (w1 : World), (Instr.mapEntry t (.map (some b)) v).run P w = .ok (.tuple #[T, goInt M]) w1 ∧ w.grownBy w1 (some b) ∧ (Instr.lookup t (.map (some b)) v false).run P w1 = .ok (nI ((f v).getD 0)) w1 ∧
     ∀ x : Int, (Lit.int .i64 x).wf = true → ∃ w2, (Instr.entryStore t (.map (some b)) (goInt M) (nI x)).run P w1 = .ok () w2 ∧ MapV P k e w2 b (n + 1) (putV f v x) ∧ w.grownBy w2 (some b) := by
 have K := Keyed.of_law KL;have J := h;obtain ⟨D, ⟨r, c, o, F, hs, hD⟩, hf⟩ := h;obtain ⟨T, M, q, d, N, _, V⟩ := WideElems.entry_then_store KL ht hz o F hl;have I : (ChangeMaps.setBlock w b (.map q d)).heap[b]? = some (.map q d) := ChangeMaps.heap_setBlock_same o _;have g1 : w.grownBy (ChangeMaps.setBlock w b (.map q d)) (some b) := ⟨rfl, rfl, rfl, by simp [ChangeMaps.setBlock], fun i _ hi => ChangeMaps.heap_setBlock_other o _ (fun e => hi (by rw [e]))⟩;refine ⟨T, M, _, N, g1, ?_, fun x hx => ?_⟩
 ·-- the world zI9 the entry is a world zI9 a store of what was there, but for the element: looked up by the store's own law
  obtain ⟨B, m, g, p⟩ := V _ (nI ((f v).getD 0)) I;have Z := K.find w hl r.toList F.keys;rcases Z with ⟨C, L⟩ | ⟨j, E, C, L, X⟩
  ·have y : (Instr.mapEntry t (.map (some b)) v).run P w = .ok (.tuple #[nI 0, goInt c]) (ChangeMaps.setBlock w b (.map (r.push ⟨v, nI 0, c⟩) (c + 1))) := by
     simp [Instr.mapEntry, run_underlying ht, MapKept.run_getObj_map o, K.check w false hl, C, hz, MapKept.run_setObj_map _ o, Result.andThen, ChangeMaps.setBlock]
   rw [N] at y;simp only [Result.ok.injEq] at y;rw [y.2];have A := J.put K ht he hn hl (x := 0) (by decide);obtain ⟨R, S, U, _⟩ := A;have G : (Instr.mapUpdate t (.map (some b)) v (nI 0)).run P w = .ok () (ChangeMaps.setBlock w b (.map (r.push ⟨v, nI 0, c⟩) (c + 1))) := by
    simp [Instr.mapUpdate, run_underlying ht, MapKept.run_getObj_map o, K.check w false hl, C, MapKept.run_setObj_map _ o, Result.andThen, ChangeMaps.setBlock]
   rw [S] at G;simp only [Result.ok.injEq, true_and] at G;rw [← G];have H := U.look K ht he (hz _) hl;rw [zGg] at H;have O := J.look K ht he (hz _) hl;have s : (Instr.lookup t (.map (some b)) v false).run P w = .ok (nI 0) w := by
    simp [Instr.lookup, run_underlying ht, MapKept.run_getObj_map o, K.check w _ hl, C, hz, Result.andThen]
   rw [O] at s;simp only [Result.ok.injEq, Value.int.injEq, true_and, and_true] at s;rw [s];simpa using H
  ·have hj : r[j]? = some E := by simpa using L
   have z : r.modify j (fun e => { e with key := v }) = r := by
    apply Array.ext'
    rw [Array.toList_modify, ChangeMaps.modify_eq_set _ _ _ _ L];have : ({ E with key := v } : MapEntry) = E := by rw [← X]
    rw [this];exact WideElems.set_self _ _ _ L
   have y : (Instr.mapEntry t (.map (some b)) v).run P w = .ok (.tuple #[E.val, goInt E.born]) (ChangeMaps.setBlock w b (.map r c)) := by
    simp [Instr.mapEntry, run_underlying ht, MapKept.run_getObj_map o, K.check w false hl, C, hj, X, K.stays w hl, z, MapKept.run_setObj_map _ o, Result.andThen, ChangeMaps.setBlock]
   rw [N] at y;simp only [Result.ok.injEq] at y;rw [y.2];refine (J.block ?_).look K ht he (hz _) hl;rw [ChangeMaps.heap_setBlock_same o _, o]
 ·obtain ⟨B, m, g, p⟩ := V _ (nI x) I;obtain ⟨R, S, U, Y⟩ := J.put K ht he hn hl hx;rw [S] at p;simp only [Result.ok.injEq, true_and] at p;have G : ChangeMaps.setBlock (ChangeMaps.setBlock w b (.map q d)) b (.map B m) = R := by rw [p]; simp [ChangeMaps.setBlock]
  rw [G] at g;exact ⟨R, g, U, Y⟩
variable {ops : Array Oper} {rest : List Oper} {o : Oper} {a : Act} {Q : Exit → Act → World → Prop}
theorem zG5 (hg : o.guard = none) (m : Operand) (t : TypeId) (hop : o.op = Op.call { callee := Callee.builtin Builtin.clear, args := #[m], argTypes := #[t] })
    (h : MapV P k e w b n f) (ht : P.underlying t = some (.map k e)) (hm : a.eval m = .map (some b))
    (hK : ∀ c, MapV P k e c b n (fun _ => none) → w.grownBy c (some b) → wpList P ops Q rest (a.put o.dst (.tuple #[])) c) :
    wpList P ops Q (o :: rest) a w := by
 refine wpList_plain hg fun K' hK' => ?_;obtain ⟨c, d, i, g⟩ := h.wiped ht o.type;unfold Oper.wp;simp [execOp, hop, resolve, invoke, builtin, hm, d, Result.andThen]
 exact hK' _ _ (hK c i g)
end
#print axioms MapV.look
#print axioms zG5
open Go.Maps (Keyed)
theorem zIS : laidOutB Tryz.prog = true := by kernel_rfl
theorem zero2 (w : World) : (zeroValue 2).run Tryz.prog w = .ok (.int .i64 0) w := by kernel_rfl
def zDZ : Array Value := #[.bool false, .bool false, .bool false, .bool true, .bool false, .bool false, .bool true, .bool true, .bool false, .bool true, .bool true, .bool true]
def HoldT (w : World) : Prop := ∃ t fz, w.heap[0]? = some (.cells zDZ t fz)
theorem HoldT.lt {w : World} (h : HoldT w) : 0 < w.heap.size := by obtain ⟨t, fz, h⟩ := h; exact (ltH h)
theorem HoldT.below {w w' : World} {m : Nat} (h : HoldT w) (hB : Below m w w') (hm : 0 < m) : HoldT w' := by
 obtain ⟨t, a, h⟩ := h;exact ⟨t, a, (hB.block 0 hm).trans h⟩
theorem HoldT.goes {w w' : World} (h : HoldT w) (hB : Bl w w') : HoldT w' := h.below hB h.lt
theorem HoldT.grown {w w' : World} {b : Nat} (h : HoldT w) (hg : w.grownBy w' (some b)) (hb : 0 < b) : HoldT w' := by
 have a := h.lt;obtain ⟨t, c, h⟩ := h;exact ⟨t, c, (hg.block 0 a (by simp; omega)).trans h⟩
theorem HoldT.drewN {w : World} (h : HoldT w) (q : Nat) : HoldT (w.drewN q) := h
theorem HoldT.cells {w : World} (h : HoldT w) :
    w.cell? ⟨0, 0, none⟩ = some (.bool false) ∧ w.cell? ⟨0, 1, none⟩ = some (.bool false) ∧ w.cell? ⟨0, 2, none⟩ = some (.bool false) ∧
    w.cell? ⟨0, 3, none⟩ = some (.bool true) ∧ w.cell? ⟨0, 4, none⟩ = some (.bool false) ∧ w.cell? ⟨0, 5, none⟩ = some (.bool false) ∧
    w.cell? ⟨0, 6, none⟩ = some (.bool true) ∧ w.cell? ⟨0, 7, none⟩ = some (.bool true) ∧ w.cell? ⟨0, 8, none⟩ = some (.bool false) ∧
    w.cell? ⟨0, 9, none⟩ = some (.bool true) ∧ w.cell? ⟨0, 10, none⟩ = some (.bool true) ∧ w.cell? ⟨0, 11, none⟩ = some (.bool true) := by
 obtain ⟨t, fz, h⟩ := h;refine ⟨?_, ?_, ?_, ?_, ?_, ?_, ?_, ?_, ?_, ?_, ?_, ?_⟩ <;> (rw [cell_of_row w 0 _ _ _ _ h]; rfl)
abbrev hk (a b c : Bool) : Value := .agg #[.bool a, .bool b, .bool c]
theorem holdRow : (160 : TypeId) < Tryz.prog.types.size := of_decide_eq_true (by kernel_rfl)
theorem holdWide : (match Tryz.prog.underlying 160 with | some (.array _ _) | some (.struct _) => true | _ => false) = true := by kernel_rfl
theorem holdLaw : WideMaps.KeyLaw Tryz.prog 160 := deep_law_laid zIS (m := 2) (by omega) holdRow (by kernel_rfl) holdWide
theorem zIm : Keyed Tryz.prog 160 := Keyed.of_law holdLaw
theorem hk_key (a b c : Bool) : ∃ l, keyOf Tryz.prog 160 (hk a b c) = some l :=
 Option.isSome_iff_exists.1 (by cases a <;> cases b <;> cases c <;> kernel_rfl)
theorem zCC {B : Nat} {a w : World} (h : Below B a w) (q : Nat) : Below B a (w.drewN q) := ⟨h.os, h.tape, h.output, h.size, h.block⟩
abbrev Crowd (w : World) (b n : Nat) (f : Value → Option Int) : Prop := MapV Tryz.prog 160 2 w b n f
theorem Crowd.at {w : World} {b n : Nat} {f : Value → Option Int} (h : Crowd w b n f) (x y z : Bool) {c : Int} (e : (f (hk x y z)).getD 0 = c) :
    (Instr.lookup 163 (.map (some b)) (hk x y z) false).run Tryz.prog w = .ok (nI c) w := by
 obtain ⟨l, a⟩ := hk_key x y z;have := MapV.look h zIm Tryz.underlying163 Tryz.underlying2 (zero2 _) a;rwa [e] at this
theorem zLm {b n : Nat} {f : Value → Option Int} (w : World) (h : HoldT w) (hm : Crowd w b n f) (u2 u3 : Int) (e2 : (f (hk true true false)).getD 0 = u2) (e3 : (f (hk true true true)).getD 0 = u3) (lo : -9223372036854775808 ≤ u2 + u3) (hi : u2 + u3 ≤ 9223372036854775807) :
    Calls Tryz.prog 182 #[.map (some b)] w fun x w' => x = .returned (nI (u2 + u3)) ∧ w' = w.drewN 1 := by
 obtain ⟨c0, c1, c2, c3, c4, c5, c6, c7, c8, c9, c, a⟩ := h.cells;have l2 : (Instr.lookup 163 (.map (some b)) (hk true true false) false).run Tryz.prog w.drew = .ok (nI u2) w.drew := Crowd.at (hm.drewN 1) true true false e2;have l3 : (Instr.lookup 163 (.map (some b)) (hk true true true) false).run Tryz.prog w.drew = .ok (nI u3) w.drew := Crowd.at (hm.drewN 1) true true true e3;go_enter Tryz.func182, Tryz.ntmps182;go_wp2_with fail
 go_region
 all_goals
  go_wp2;go_ret
  exact ⟨rfl, rfl⟩
theorem zH2 {b n : Nat} {f : Value → Option Int} (w : World) (h : HoldT w) (hm : Crowd w b n f) (u1 u2 u3 : Int) (e1 : (f (hk true false false)).getD 0 = u1) (e2 : (f (hk true true false)).getD 0 = u2) (e3 : (f (hk true true true)).getD 0 = u3)
    (lo : -9223372036854775808 ≤ u2 + u3) (hi : u2 + u3 ≤ 9223372036854775807) (lo1 : -9223372036854775808 ≤ u1 + (u2 + u3)) (hi1 : u1 + (u2 + u3) ≤ 9223372036854775807) :
    Calls Tryz.prog 179 #[.map (some b)] w fun x w' => x = .returned (nI (u1 + (u2 + u3))) ∧ ∃ q, w' = w.drewN q := by
 obtain ⟨c0, c1, c2, c3, c4, c5, c6, c7, c8, c9, d, c⟩ := h.cells;have l1 : ∀ q, (Instr.lookup 163 (.map (some b)) (hk true false false) false).run Tryz.prog (w.drewN q) = .ok (nI u1) (w.drewN q) := fun q => Crowd.at (hm.drewN q) true false false e1;have C : ∀ q, Calls Tryz.prog 182 #[.map (some b)] (w.drewN q) fun x w' => x = .returned (nI (u2 + u3)) ∧ ∃ p, w' = (w.drewN q).drewN p := fun q =>
  (zLm (w.drewN q) (h.drewN q) (hm.drewN q) u2 u3 e2 e3 lo hi).mono fun x w' ⟨h1, h2⟩ => ⟨h1, 1, h2⟩
 generalize a : u2 + u3 = v at *;clear a;go_enter Tryz.func179, Tryz.ntmps179;go_wp2_with fail
 go_quiet (first | (go_at_call 182; exact Calls.quiet_of (C _)))
 go_wp2;go_ret
 exact ⟨rfl, _, rfl⟩
def zDu (wr : Bool) (o : Int) : Int := if o < 0 then -1 else if wr then 3 else if o = 0 then 2 else 1
theorem zIT (a b c d e f : Bool) (w : World) : (Op.equalIn 10000 160 (hk a b c) (hk d e f)).run Tryz.prog w = .ok (a == d && b == e && c == f) w := by
 cases a <;> cases b <;> cases c <;> cases d <;> cases e <;> cases f <;> kernel_rfl
theorem zH3 (w : World) : (Instr.index 161 (.agg #[.bool false, .bool false, .bool false, .bool true, .bool false, .bool false, .bool true, .bool true, .bool false, .bool true, .bool true, .bool true]) (nI 0)).run Tryz.prog w = .ok (hk false false false) w := by kernel_rfl
theorem zH4 (w : World) : (Instr.index 161 (.agg #[.bool false, .bool false, .bool false, .bool true, .bool false, .bool false, .bool true, .bool true, .bool false, .bool true, .bool true, .bool true]) (nI 1)).run Tryz.prog w = .ok (hk true false false) w := by kernel_rfl
theorem zH5 (w : World) : (Instr.index 161 (.agg #[.bool false, .bool false, .bool false, .bool true, .bool false, .bool false, .bool true, .bool true, .bool false, .bool true, .bool true, .bool true]) (nI 2)).run Tryz.prog w = .ok (hk true true false) w := by kernel_rfl
theorem zH6 (w : World) : (Instr.index 161 (.agg #[.bool false, .bool false, .bool false, .bool true, .bool false, .bool false, .bool true, .bool true, .bool false, .bool true, .bool true, .bool true]) (nI 3)).run Tryz.prog w = .ok (hk true true true) w := by kernel_rfl
theorem stateOf1 (w : World) (h : HoldT w) :
    Calls Tryz.prog 178 #[hk true false false] w fun x w' => x = .returned (nI 1) ∧ Bl w w' := by
 obtain ⟨c0, c1, c2, c3, c4, c5, c6, c7, c8, c9, b, a⟩ := h.cells;have hl := h.lt;have E := zIT;have i0 := zH3;have i1 := zH4;have i2 := zH5;have i3 := zH6;go_enter Tryz.func178, Tryz.ntmps178;go_wp2_with fail
 refine wp_loop_rounds 2 ?_;rw [rounds_succ];go_wp2;rw [rounds_succ];go_wp2;go_ret
 refine ⟨rfl, ?_⟩;repeat first
  | exact Below.refl _ _
  | refine Below.setCell ?_ (by simp <;> omega) _
  | refine Below.alloc ?_ (by simp <;> omega) _
  | refine Below.drew ?_
theorem stateOf2 (w : World) (h : HoldT w) :
    Calls Tryz.prog 178 #[hk true true false] w fun x w' => x = .returned (nI 2) ∧ Bl w w' := by
 obtain ⟨c0, c1, c2, c3, c4, c5, c6, c7, c8, c9, b, a⟩ := h.cells;have hl := h.lt;have E := zIT;have i0 := zH3;have i1 := zH4;have i2 := zH5;have i3 := zH6;go_enter Tryz.func178, Tryz.ntmps178;go_wp2_with fail
 refine wp_loop_rounds 3 ?_;rw [rounds_succ];go_wp2;rw [rounds_succ];go_wp2;rw [rounds_succ];go_wp2;go_ret
 refine ⟨rfl, ?_⟩;repeat first
  | exact Below.refl _ _
  | refine Below.setCell ?_ (by simp <;> omega) _
  | refine Below.alloc ?_ (by simp <;> omega) _
  | refine Below.drew ?_
theorem stateOf3 (w : World) (h : HoldT w) :
    Calls Tryz.prog 178 #[hk true true true] w fun x w' => x = .returned (nI 3) ∧ Bl w w' := by
 obtain ⟨c0, c1, c2, c3, c4, c5, c6, c7, c8, c9, b, a⟩ := h.cells;have hl := h.lt;have E := zIT;have i0 := zH3;have i1 := zH4;have i2 := zH5;have i3 := zH6;go_enter Tryz.func178, Tryz.ntmps178;go_wp2_with fail
 refine wp_loop_rounds 4 ?_;rw [rounds_succ];go_wp2;rw [rounds_succ];go_wp2;rw [rounds_succ];go_wp2;rw [rounds_succ];go_wp2;go_ret
 refine ⟨rfl, ?_⟩;repeat first
  | exact Below.refl _ _
  | refine Below.setCell ?_ (by simp <;> omega) _
  | refine Below.alloc ?_ (by simp <;> omega) _
  | refine Below.drew ?_
theorem zEj (wr : Bool) (o : Int) (w : World) (h : HoldT w) (ho : (Lit.int .i64 o).wf = true) :
    Calls Tryz.prog 175 #[.bool wr, nI o] w fun x w' => x = .returned (nI (zDu wr o)) ∧ Bl w w' := by
 by_cases d : o < 0
 ·go_enter Tryz.func175, Tryz.ntmps175;go_wp2;go_ret
  exact ⟨by simp [zDu, d], Below.refl _ _⟩
 have y := @run_makeMap Tryz.prog;have G : 0 ≤ o := by omega
 have s : o ≤ 9223372036854775807 := by simp [Lit.wf] at ho; omega
 obtain ⟨l, z⟩ := hk_key true false false;obtain ⟨f, r1, i, D⟩ := MapV.put (zLl w Tryz.prog 160 2) zIm Tryz.underlying163 Tryz.underlying2 (by decide) z ho;have k : Bl w (w.alloc (.map #[] 0)) := (Below.refl _ _).alloc (Nat.le_refl _) _;have a : Bl w f := k.grown D k.size (fun j hj => by cases hj; exact Nat.le_refl _);have A := h.lt;have n : putV (fun _ => none) (hk true false false) o (hk true true false) = none := zFo _ _ (by simp);have m : putV (fun _ => none) (hk true false false) o (hk true true true) = none := zFo _ _ (by simp);have p : putV (fun _ => none) (hk true false false) o (hk true false false) = some o := zGg _ _ _;obtain ⟨c0, c1, c2, c3, c4, c5, c6, c7, c8, c9, B, F⟩ := h.cells;cases wr
 ·by_cases g : o = 0
  ·subst g;go_enter Tryz.func175, Tryz.ntmps175;go_wp2_with fail
   refine (zH2 f (h.goes a) i 0 0 0 (by rw [p]; rfl) (by rw [n]; rfl) (by rw [m]; rfl) (by decide) (by decide) (by decide) (by decide)).mono ?_;rintro _ _ ⟨rfl, q, rfl⟩;go_wp2_with fail
   refine (stateOf2 _ ((h.goes a).drewN q)).mono ?_;rintro _ c ⟨rfl, b⟩;go_wp2;go_ret
   exact ⟨rfl, (zCC a q).trans (b.mono (zCC a q).size)⟩
  ·have v : (o == 0) = false := by simpa using g
   go_enter Tryz.func175, Tryz.ntmps175;go_wp2_with fail
   refine (zH2 f (h.goes a) i o 0 0 (by rw [p]; rfl) (by rw [n]; rfl) (by rw [m]; rfl) (by decide) (by decide) (by omega) (by omega)).mono ?_;rintro _ _ ⟨rfl, q, rfl⟩;rw [show o + (0 + 0) = o by omega];go_wp2_with fail
   refine (stateOf1 _ ((h.goes a).drewN q)).mono ?_;rintro _ c ⟨rfl, b⟩;go_wp2;go_ret
   exact ⟨by simp [zDu, d, g], (zCC a q).trans (b.mono (zCC a q).size)⟩
 ·obtain ⟨c, r2, C, r⟩ := MapV.wiped i Tryz.underlying163 0;have b : Bl w c := a.grown r a.size (fun j hj => by cases hj; exact Nat.le_refl _);go_enter Tryz.func175, Tryz.ntmps175;go_wp2_with fail
  refine (zH2 c (h.goes b) C 0 0 0 rfl rfl rfl (by decide) (by decide) (by decide) (by decide)).mono ?_;rintro _ _ ⟨rfl, q, rfl⟩;go_wp2_with fail
  refine (stateOf3 _ ((h.goes b).drewN q)).mono ?_;rintro _ w3 ⟨rfl, E⟩;go_wp2;go_ret
  exact ⟨by simp [zDu, d], (zCC b q).trans (E.mono (zCC b q).size)⟩
theorem zGh (wr : Bool) (o : Int) (w : World) :
    Calls Tryz.prog 151 #[.bool wr, nI o] w fun x w' => x = .returned (nI (zDu wr o)) ∧ w' = w := by
 by_cases a : o < 0
 ·go_enter Tryz.func151, Tryz.ntmps151;go_wp2;go_ret
  exact ⟨by simp [zDu, a], rfl⟩
 ·have c : 0 ≤ o := by omega
  cases wr
  ·by_cases b : o = 0
   ·subst b;go_enter Tryz.func151, Tryz.ntmps151;go_wp2;go_ret
    exact ⟨rfl, rfl⟩
   ·go_enter Tryz.func151, Tryz.ntmps151;go_wp2;go_ret
    exact ⟨by simp [zDu, a, b], rfl⟩
  ·go_enter Tryz.func151, Tryz.ntmps151;go_wp2;go_ret
   exact ⟨by simp [zDu, a], rfl⟩
end Go.Proofs.YtmaopldahnejdaaGreatDoor
