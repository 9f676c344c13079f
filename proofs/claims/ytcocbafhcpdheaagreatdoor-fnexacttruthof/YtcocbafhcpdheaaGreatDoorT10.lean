import Derived.Test.YtcocbafhcpdheaaGreatDoorT00Box
import Derived.WalkMore
import Derived.ScopeJumps
import Derived.Test.YtcocbafhcpdheaaGreatDoorT08
namespace Go.Proofs.YtcocbafhcpdheaaGreatDoor
set_option maxHeartbeats 2000000
open Go.ChangeShapes Go.WideShapes Go.ChangeAt Go.RowKit
theorem zCQ (k : Int) (w : World) : Calls Tryz.prog 199 #[.int .i64 k] w fun e a => e = .returned (.bool (okW k)) ∧ a = w := by
 go_enter Tryz.func199, Tryz.ntmps199;go_wp2_with (go_at_call 98; refine (zAo _ _ _ _).mono ?_; rintro e a ⟨rfl, rfl⟩)
 go_ret
 exact ⟨rfl, rfl⟩
theorem zDB (a : Option Addr) (n cap : Nat) (w : World) (hn : n ≠ 2) :
    Calls Tryz.prog 144 #[.slice a n cap] w fun e w' => e = .returned (.bool false) ∧ w' = w := by
 have b : ((n : Int) == 2) = false := by simp; omega
 go_enter Tryz.func144, Tryz.ntmps144;go_wp2;go_ret
 exact ⟨rfl, rfl⟩
theorem zHj (a : Option Addr) (x y : Int) (cap : Nat) (w : World) (h : zDr w a [x, y]) :
    Calls Tryz.prog 144 #[.slice a 2 cap] w fun e c => e = .returned (.bool (okW x && okW y)) ∧ c = w := by
 obtain ⟨b, d, rfl, c0, c1⟩ := zGx h;clear h;cases hx : okW x <;> cases hy : okW y
 all_goals
  go_enter Tryz.func144, Tryz.ntmps144;go_wp2_with (go_at_call 199; refine (zCQ _ _).mono ?_; rintro e c ⟨rfl, rfl⟩)
  go_ret
  exact ⟨rfl, rfl⟩
theorem zB4 (a : Option Addr) (xs : List Int) (cap : Nat) (w : World) (h : zDr w a xs) :
    Calls Tryz.prog 144 #[.slice a xs.length cap] w fun e w' => e = .returned (.bool (isL xs)) ∧ w' = w := by
 match xs with
 | [x, y] => exact zHj a x y cap w h
 | [] => exact zDB a 0 cap w (by simp)
 | [_] => exact zDB a 1 cap w (by simp)
 | _ :: _ :: _ :: r => exact zDB a (r.length + 1 + 1 + 1) cap w (by omega)
def orI (s i : Int) : Int := bits BinOp.or IntKind.i64 s (2 ^ i.toNat)
def andNotI (s i : Int) : Int := bits BinOp.andNot IntKind.i64 s (2 ^ i.toNat)
def withI (s i : Int) : Int := if setB s then (if zHP i then orI s i else s) else -1
def withoutI (s i : Int) : Int := if setB s then (if zHP i then andNotI s i else s) else -1
def zET (n : Int) : Bool := decide (n = 1 ∨ n = 2 ∨ n = 4)
theorem zCB (n : Int) (w : World) :
    Calls Tryz.prog 159 #[.int .i64 n] w fun e w' => e = .returned (.bool (zET n)) ∧ w' = w := by
 go_enter Tryz.func159, Tryz.ntmps159;go_wp2
 all_goals go_ret
 all_goals refine ⟨zAl ?_, rfl⟩
 all_goals first | (simp_all [zET]; done) | (rw [Bool.eq_iff_iff]; simp [zET]; omega)
theorem zEj (n : Int) (w : World) :
    Calls Tryz.prog 140 #[.int .i64 n] w fun e w' => e = .returned (.bool (zET n)) ∧ w' = w := by
 go_enter Tryz.func140, Tryz.ntmps140;go_wp2
 all_goals go_ret
 all_goals refine ⟨zAl ?_, rfl⟩
 all_goals first | (simp_all [zET]; done) | (rw [Bool.eq_iff_iff]; simp [zET]; omega)
def zAH (t n : Int) : Bool := decide ((n = 1 ∧ t = 0) ∨ (n = 2 ∧ 0 ≤ t ∧ t ≤ 1) ∨ (n = 4 ∧ 0 ≤ t ∧ t ≤ 7))
theorem zMg (w : World) : Calls Tryz.prog 283 #[.int .i64 1] w fun e w' => e = .returned (.int .i64 0) ∧ w' = w := by
 go_enter Tryz.func283, Tryz.ntmps283;go_wp2;go_ret
 exact ⟨rfl, rfl⟩
theorem zMh (w : World) : Calls Tryz.prog 283 #[.int .i64 2] w fun e w' => e = .returned (.int .i64 1) ∧ w' = w := by
 go_enter Tryz.func283, Tryz.ntmps283;go_wp2;go_ret
 exact ⟨rfl, rfl⟩
theorem zMi (w : World) : Calls Tryz.prog 283 #[.int .i64 4] w fun e w' => e = .returned (.int .i64 7) ∧ w' = w := by
 go_enter Tryz.func283, Tryz.ntmps283;go_wp2;go_ret
 exact ⟨rfl, rfl⟩
theorem zEH (t n : Int) (w : World) :
    Calls Tryz.prog 264 #[.int .i64 t, .int .i64 n] w fun e a => e = .returned (.bool (zAH t n)) ∧ a = w := by
 cases h : zET n
 ·have H : Hid (zAH t n = false) := by
    unfold Hid;simp [zET] at h
    simp [zAH]
    omega
  go_enter Tryz.func264, Tryz.ntmps264;go_wp2_with (go_at_call 159; refine (zCB _ _).mono ?_; rintro e a ⟨rfl, rfl⟩)
  go_ret
  exact ⟨zAl H.out.symm, rfl⟩
 ·have b : n = 1 ∨ n = 2 ∨ n = 4 := by simpa [zET] using h
  rcases b with rfl | rfl | rfl
  ·have H : Hid (zAH t 1 = zA8 t 0 0) := by
     unfold Hid;rw [Bool.eq_iff_iff];simp [zAH, zA8]
     omega
   go_enter Tryz.func264, Tryz.ntmps264
   go_wp2_with (first
    | (go_at_call 159; refine (zCB _ _).mono ?_; rintro e a ⟨rfl, rfl⟩)
    | (go_at_call 283; refine (zMg _).mono ?_; rintro e a ⟨rfl, rfl⟩)
    | (go_at_call 76; refine (zAw _ _ _ _).mono ?_; rintro e a ⟨rfl, rfl⟩))
   go_ret
   exact ⟨zAl H.out.symm, rfl⟩
  ·have H : Hid (zAH t 2 = zA8 t 0 1) := by
     unfold Hid;rw [Bool.eq_iff_iff];simp [zAH, zA8]
   go_enter Tryz.func264, Tryz.ntmps264
   go_wp2_with (first
    | (go_at_call 159; refine (zCB _ _).mono ?_; rintro e a ⟨rfl, rfl⟩)
    | (go_at_call 283; refine (zMh _).mono ?_; rintro e a ⟨rfl, rfl⟩)
    | (go_at_call 76; refine (zAw _ _ _ _).mono ?_; rintro e a ⟨rfl, rfl⟩))
   go_ret
   exact ⟨zAl H.out.symm, rfl⟩
  ·have H : Hid (zAH t 4 = zA8 t 0 7) := by
     unfold Hid;rw [Bool.eq_iff_iff];simp [zAH, zA8]
   go_enter Tryz.func264, Tryz.ntmps264
   go_wp2_with (first
    | (go_at_call 159; refine (zCB _ _).mono ?_; rintro e a ⟨rfl, rfl⟩)
    | (go_at_call 283; refine (zMi _).mono ?_; rintro e a ⟨rfl, rfl⟩)
    | (go_at_call 76; refine (zAw _ _ _ _).mono ?_; rintro e a ⟨rfl, rfl⟩))
   go_ret
   exact ⟨zAl H.out.symm, rfl⟩
theorem zEI (t n : Int) (w : World) :
    Calls Tryz.prog 200 #[.int .i64 t, .int .i64 n] w fun e a => e = .returned (.bool (zAH t n)) ∧ a = w := by
 by_cases b : n = 1
 ·subst b;have H : Hid (zAH t 1 = (t == 0)) := by
   unfold Hid;rw [Bool.eq_iff_iff];simp [zAH]
  go_enter Tryz.func200, Tryz.ntmps200;go_wp2_with fail
  go_ret
  exact ⟨zAl H.out.symm, rfl⟩
 by_cases d : n = 2
 ·subst d;have H : Hid (zAH t 2 = zA8 t 0 1) := by
   unfold Hid;rw [Bool.eq_iff_iff];simp [zAH, zA8]
  go_enter Tryz.func200, Tryz.ntmps200;go_wp2_with (go_at_call 98; refine (zAo _ _ _ _).mono ?_; rintro e a ⟨rfl, rfl⟩)
  go_ret
  exact ⟨zAl H.out.symm, rfl⟩
 by_cases c : n = 4
 ·subst c;have H : Hid (zAH t 4 = zA8 t 0 7) := by
   unfold Hid;rw [Bool.eq_iff_iff];simp [zAH, zA8]
  go_enter Tryz.func200, Tryz.ntmps200;go_wp2_with (go_at_call 98; refine (zAo _ _ _ _).mono ?_; rintro e a ⟨rfl, rfl⟩)
  go_ret
  exact ⟨zAl H.out.symm, rfl⟩
 have H : Hid (zAH t n = false) := by
  unfold Hid;simp [zAH]
  omega
 go_enter Tryz.func200, Tryz.ntmps200;go_wp2_with fail
 go_ret
 exact ⟨zAl H.out.symm, rfl⟩
end Go.Proofs.YtcocbafhcpdheaaGreatDoor
namespace Go
end Go
namespace Go.Proofs.YtcocbafhcpdheaaGreatDoor
open Go.ChangeShapes Go.WideShapes Go.ChangeAt Go.RowKit
theorem zLv {t n : Int} (h : zAH t n = true) : n = 1 ∨ n = 2 ∨ n = 4 := by
 simp [zAH] at h
 omega
def goI (t n : Int) : Int := if n = 1 then 0 else if n = 2 then t else 2 * (t % 2) + t / 2 ^ (1 + t % 2).toNat % 2
def viI (t n : Int) : Int := if zAH t n then goI t n else -1
open Go.ChangeShapes Go.WideShapes Go.ChangeAt Go.RowKit Go.Shelf
set_option linter.unusedVariables false
theorem zBD (k : Int) (w : World) : Calls Tryz.prog 229 #[.int .i64 k] w fun e a => e = .returned (.bool (zA8 k 0 15)) ∧ a = w := by
 go_enter Tryz.func229, Tryz.ntmps229;go_wp2_with (go_at_call 76; refine (zAw _ _ _ _).mono ?_; rintro e a ⟨rfl, rfl⟩)
 go_ret
 exact ⟨rfl, rfl⟩
def zHk (l s : Int) (n : Nat) : Bool := decide (l = -1 ∧ s = 0 ∧ n = 0)
theorem zJc (u : zC3) : zHk u.1 u.2.1 u.2.2.length = zB3 u := by
 simp [zHk, zB3]
theorem zDQ (l s : Int) (a : Option Addr) (n cap : Nat) (w : World) (hn : n ≤ maxLen) :
    Calls Tryz.prog 104 #[.agg #[.int .i64 l, .int .i64 s, .slice a n cap]] w fun e w' => e = .returned (.bool (zHk l s n)) ∧ Below w.heap.size w w' := by
 have j : n ≤ 9223372036854775807 := hn;clear hn;by_cases b : l = -1
 ·by_cases c : s = 0
  ·by_cases d : n = 0
   ·have H : Hid (zHk l s n = true) := by simp [Hid, zHk, b, c, d]
    subst b c d;go_enter Tryz.func104, Tryz.ntmps104;go_wp2;go_ret
    exact ⟨zAl H.out.symm, zAf w _⟩
   ·have H : Hid (zHk l s n = false) := by simp [Hid, zHk, d]
    have f : ((n : Int) == 0) = false := by simp; omega
    subst b c;go_enter Tryz.func104, Tryz.ntmps104;go_wp2;go_ret
    exact ⟨zAl H.out.symm, zAf w _⟩
  ·have H : Hid (zHk l s n = false) := by simp [Hid, zHk, c]
   have i : (s == 0) = false := by simpa using c
   subst b;go_enter Tryz.func104, Tryz.ntmps104;go_wp2;go_ret
   exact ⟨zAl H.out.symm, zAf w _⟩
 ·have H : Hid (zHk l s n = false) := by simp [Hid, zHk, b]
  have g : (l == -1) = false := by simpa using b
  go_enter Tryz.func104, Tryz.ntmps104;go_wp2;go_ret
  exact ⟨zAl H.out.symm, zAf w _⟩
theorem zEU (l s : Int) (a : Option Addr) (n cap : Nat) (w : World) (hn : n ≤ maxLen) :
    Calls Tryz.prog 148 #[.agg #[.int .i64 l, .int .i64 s, .slice a n cap]] w fun e w' => e = .returned (.bool (zHk l s n)) ∧ Below w.heap.size w w' := by
 have j : n ≤ 9223372036854775807 := hn;clear hn;by_cases b : l = -1
 ·by_cases c : s = 0
  ·by_cases d : n = 0
   ·have H : Hid (zHk l s n = true) := by simp [Hid, zHk, b, c, d]
    subst b c d;go_enter Tryz.func148, Tryz.ntmps148;go_wp2;go_ret
    exact ⟨zAl H.out.symm, zAf w _⟩
   ·have H : Hid (zHk l s n = false) := by simp [Hid, zHk, d]
    have f : ((n : Int) == 0) = false := by simp; omega
    subst b c;go_enter Tryz.func148, Tryz.ntmps148;go_wp2;go_ret
    exact ⟨zAl H.out.symm, zAf w _⟩
  ·have H : Hid (zHk l s n = false) := by simp [Hid, zHk, c]
   have i : (s == 0) = false := by simpa using c
   subst b;go_enter Tryz.func148, Tryz.ntmps148;go_wp2;go_ret
   exact ⟨zAl H.out.symm, zAf w _⟩
 ·have H : Hid (zHk l s n = false) := by simp [Hid, zHk, b]
  have g : (l == -1) = false := by simpa using b
  go_enter Tryz.func148, Tryz.ntmps148;go_wp2;go_ret
  exact ⟨zAl H.out.symm, zAf w _⟩
theorem zKn (ln : List Int → Bool) (u : zC3) : zCC ln u = (zA8 u.1 0 15 && (zA8 u.2.1 1 3 && ln u.2.2)) := by
 simp [zCC, zA8, Bool.decide_and]
theorem zEk (l s : Int) (d : List Int) (a : Option Addr) (cap : Nat) (w : World) (h : zA4 zAG w a d) :
    Calls Tryz.prog 248 #[.agg #[.int .i64 l, .int .i64 s, .slice a d.length cap]] w fun e b => e = .returned (.bool (zCC isL (l, s, d))) ∧ Below w.heap.size w b := by
 rw [zKn];have c : Hid _ := zAf w;have g : Hid (∀ o, zDr (w.alloc o) a d) := fun o => zBv (zAm h (zAf w o));clear h;cases h1 : zA8 l 0 15
 ·go_enter Tryz.func248, Tryz.ntmps248;go_wp2_with (go_at_call 229; refine (zBD _ _).mono ?_; rintro e b ⟨rfl, rfl⟩)
  go_ret
  exact ⟨rfl, c.out _⟩
 ·cases h2 : zA8 s 1 3
  ·go_enter Tryz.func248, Tryz.ntmps248
   go_wp2_with (first
    | (go_at_call 229; refine (zBD _ _).mono ?_; rintro e b ⟨rfl, rfl⟩)
    | (go_at_call 76; refine (zAw _ _ _ _).mono ?_; rintro e b ⟨rfl, rfl⟩))
   go_ret
   exact ⟨rfl, c.out _⟩
  ·go_enter Tryz.func248, Tryz.ntmps248
   go_wp2_with (first
    | (go_at_call 229; refine (zBD _ _).mono ?_; rintro e b ⟨rfl, rfl⟩)
    | (go_at_call 76; refine (zAw _ _ _ _).mono ?_; rintro e b ⟨rfl, rfl⟩)
    | (go_at_call 224; refine (zBK _ d _ _ (g.out _)).mono ?_; rintro e b ⟨rfl, f⟩))
   go_ret
   exact ⟨rfl, zAa (c.out _) f⟩
theorem zF5 (l s : Int) (d : List Int) (a : Option Addr) (cap : Nat) (w : World) (h : zA4 zAG w a d) :
    Calls Tryz.prog 149 #[.agg #[.int .i64 l, .int .i64 s, .slice a d.length cap]] w fun e b => e = .returned (.bool (zCC isL (l, s, d))) ∧ Below w.heap.size w b := by
 rw [zKn];have c : Hid _ := zAf w;have f : Hid (∀ o, zDr (w.alloc o) a d) := fun o => zBv (zAm h (zAf w o));clear h;cases h1 : zA8 l 0 15
 ·go_enter Tryz.func149, Tryz.ntmps149;go_wp2_with (go_at_call 98; refine (zAo _ _ _ _).mono ?_; rintro e b ⟨rfl, rfl⟩)
  go_ret
  exact ⟨rfl, c.out _⟩
 ·cases h2 : zA8 s 1 3
  ·go_enter Tryz.func149, Tryz.ntmps149;go_wp2_with (go_at_call 98; refine (zAo _ _ _ _).mono ?_; rintro e b ⟨rfl, rfl⟩)
   go_ret
   exact ⟨rfl, c.out _⟩
  ·go_enter Tryz.func149, Tryz.ntmps149
   go_wp2_with (first
    | (go_at_call 98; refine (zAo _ _ _ _).mono ?_; rintro e b ⟨rfl, rfl⟩)
    | (go_at_call 144; refine (zB4 _ d _ _ (f.out _)).mono ?_; rintro e b ⟨rfl, rfl⟩))
   go_ret
   exact ⟨rfl, c.out _⟩
theorem zGk (b off s cap : Nat) (v : Value) (b1 : Option Addr) (n1 c1 : Nat) (hv : v = .slice b1 n1 c1) (a1 : Option Addr) (m cp : Nat) (w : World) (hs : 0 < s) (h : w.cell? ⟨b, off, none⟩ = some (.slice a1 m cp)) :
    Calls Tryz.prog 218 #[.agg #[.slice (some ⟨b, off, none⟩) s cap, v]] w fun e w' => e = .returned (.int .i64 m) ∧ Below w.heap.size w w' := by
 subst hv;have a := World.block_lt_of_cell? w _ h;simp only at a
 have c : Hid _ := zAf w;go_enter Tryz.func218, Tryz.ntmps218;go_wp2;go_ret
 exact ⟨rfl, c.out _⟩
theorem zJd (a : Option Addr) (s cap : Nat) (v : Value) (b1 : Option Addr) (n1 c1 : Nat) (hv : v = .slice b1 n1 c1) (line : Int) (w : World) (hs : s = 1 ∨ s = 2 ∨ s = 4) (h0 : 0 ≤ line) :
    Calls Tryz.prog 236 #[.agg #[.slice a s cap, v], .int .i64 line] w fun e w' => e = .returned (.int .i64 (line % (s : Int))) ∧ Below w.heap.size w w' := by
 subst hv;have b : Hid _ := zAf w;rcases hs with rfl | rfl | rfl
 all_goals
  go_enter Tryz.func236, Tryz.ntmps236;go_wp2;go_ret
  exact ⟨zAx (by omega), b.out _⟩
def zB8 (c : zA7) : Nat := (c.1.getD 0 []).length
def zFm (c : zA7) (i : Nat) : Prop := ∀ row t, c.1[i]? = some row → c.2[i]? = some t → row.length = zB8 c ∧ zAH t (zB8 c) = true
def zHV (c : zA7) : Prop := zET c.1.length = true ∧ c.2.length = c.1.length ∧ ∀ i, i < c.1.length → zFm c i
open Classical in
noncomputable def zD5 (c : zA7) : Bool := decide (zHV c)
theorem zG4 {c : zA7} (h : zHV c) : zD5 c = true := by simp [zD5, h]
theorem zGl {c : zA7} (h : ¬ zHV c) : zD5 c = false := by simp [zD5, h]
theorem zAK {w : World} {g : Nat} {x y : Value} {t : TypeId} (h : w.heap[g]? = some (.cells #[x, y] t (0, 0))) :
    w.cell? ⟨g, 0, none⟩ = some x ∧ w.cell? ⟨g, 1, none⟩ = some y := zBE h
theorem zAJ {w : World} {g : Nat} {x y z : Value} {t : TypeId} (h : w.heap[g]? = some (.cells #[x, y, z] t (0, 0))) :
    w.cell? ⟨g, 0, none⟩ = some x ∧ w.cell? ⟨g, 1, none⟩ = some y ∧ w.cell? ⟨g, 2, none⟩ = some z :=
 ⟨by rw [cell_of_row w g 0 _ t (0, 0) h]; rfl, by rw [cell_of_row w g 1 _ t (0, 0) h]; rfl, by rw [cell_of_row w g 2 _ t (0, 0) h]; rfl⟩
theorem zDV {w : World} {a : Option Addr} {xs : List (List zC3)} {j : Nat} {row : List zC3} (h : zA4 zBh w a xs) (hx : xs[j]? = some row) :
    ∃ b d i g, a = some ⟨b, d, none⟩ ∧ w.cell? ⟨b, d + j, none⟩ = some (.slice i row.length g) ∧ row.length ≤ g ∧ g ≤ maxLen ∧ zA4 zBu w i row := by
 obtain ⟨b, d, c, rfl, ⟨i, g, rfl, m, n, l⟩, f⟩ := zAy h hx;have k := f 0 _ rfl;rw [show j * zBh.size + 0 = j from Nat.mul_one j] at k;exact ⟨b, d, i, g, rfl, k, m, n, l⟩
theorem int_at {w : World} {a : Option Addr} {xs : List Int} {j : Nat} {x : Int} (h : zA4 zAG w a xs) (hx : xs[j]? = some x) :
    ∃ b d, a = some ⟨b, d, none⟩ ∧ w.cell? ⟨b, d + j, none⟩ = some (.int .i64 x) := by
 obtain ⟨b, d, c, rfl, ⟨rfl, _⟩, f⟩ := zAy h hx;have g := f 0 _ rfl;rw [show j * zAG.size + 0 = j from Nat.mul_one j] at g;exact ⟨b, d, rfl, g⟩
theorem zKo (a b : Option Addr) (c : zA7) (cap cp : Nat) (w : World) (h1 : zA4 zBh w a c.1) (h2 : zA4 zAG w b c.2) (m1 : c.1.length ≤ maxLen) (m2 : c.2.length ≤ maxLen) (m3 : ∀ f ∈ c.1, f.length ≤ maxLen) :
    Calls Tryz.prog 234 #[.agg #[.slice a c.1.length cap, .slice b c.2.length cp]] w fun e g => e = .returned (.bool (zD5 c)) ∧ Below w.heap.size w g := by
 have VA : c.1.length ≤ 9223372036854775807 := m1;have fB : c.2.length ≤ 9223372036854775807 := m2;have HB : Hid _ := zAf w;cases O : zET c.1.length
 ·have H : Hid (zD5 c = false) := zGl fun h => by rw [h.1] at O; cases O
  clear h1 h2 m1 m2 m3;go_enter Tryz.func234, Tryz.ntmps234;go_wp2_with (go_at_call 159; refine (zCB _ _).mono ?_; rintro e g ⟨rfl, rfl⟩; rw [O])
  go_ret
  exact ⟨zAl H.out.symm, HB.out _⟩
 by_cases hl : c.2.length = c.1.length
 ·rw [hl];have HP : Hid (zET c.1.length = true) := O;have HM : Hid (∀ f ∈ c.1, f.length ≤ maxLen) := m3;have r : 0 < c.1.length := by simp [zET] at O; omega
  have S : c.1[0]? = some (c.1.getD 0 []) := by rw [List.getD_eq_getElem?_getD, List.getElem?_eq_getElem r]; rfl
  have R : (c.1.getD 0 []).length ≤ maxLen := m3 _ (List.mem_of_getElem? S);obtain ⟨p, o, T, U, rfl, D, -, -, -⟩ := zDV h1 S;have H1 : Hid _ := h1;have H2 : Hid _ := h2;have E : Hid (c.2.length = c.1.length) := hl;have M : Hid ((c.1.getD 0 []).length = zB8 c) := rfl;have G0 : Hid (w.cell? ⟨p, o + 0, none⟩ = some (.slice T (c.1.getD 0 []).length U)) := D;clear h1 h2 m1 m2 m3 S hl D;generalize (c.1.getD 0 []).length = m at R M G0;go_enter Tryz.func234, Tryz.ntmps234;go_wp2_with (go_at_call 159; refine (zCB _ _).mono ?_; rintro e g ⟨rfl, rfl⟩; rw [O])
  generalize J : w.alloc _ = W0;have X0 := boxH J;have B0 := boxB J;clear J;go_loopw [22] (fun i wr => ∃ k : Nat, k ≤ c.1.length ∧ i = .int .i64 k ∧ (∀ j, j < k → zFm c j) ∧ Below w.heap.size w wr ∧ wr.heap[w.heap.size]? = some (.cells #[.slice (some ⟨p, o, none⟩) c.1.length cap, .slice b c.1.length cp] 92 (0, 0))) (fun i _ => c.1.length - (intOf i).toNat)
  case atStart => exact ⟨0, Nat.zero_le _, rfl, fun j hj => by omega, B0, X0⟩
  case round =>
   clear B0 X0;obtain ⟨k, hk, rfl, G, F, X⟩ := hrel;by_cases iA : k < c.1.length
   ·have CA : (k : Int) < (c.1.length : Int) := by omega
    obtain ⟨f, l⟩ : ∃ f, c.1[k]? = some f := ⟨_, List.getElem?_eq_getElem iA⟩;obtain ⟨t, ht⟩ : ∃ t, c.2[k]? = some t := ⟨_, List.getElem?_eq_getElem (by have := E.out; omega)⟩;obtain ⟨_, _, ak, ck, e1, N, -, -, -⟩ := zDV H1.out l;cases e1;obtain ⟨B, z, rfl, L⟩ := int_at H2.out ht;have kA : f.length ≤ maxLen := HM.out _ (List.mem_of_getElem? l);have l1 := zAk N;have l2 := zAk L;have KW : Hid (∀ g, Below w.heap.size w g → g.cell? ⟨p, o, none⟩ = some (.slice T m U) ∧ g.cell? ⟨p, o + k, none⟩ = some (.slice ak f.length ck) ∧ g.cell? ⟨B, z + k, none⟩ = some (.int .i64 t)) :=
     fun g hb => ⟨zAe hb G0.out l1, zAe hb N l1, zAe hb L l2⟩
    have HR : Hid (∀ r' t', c.1[k]? = some r' → c.2[k]? = some t' → r' = f ∧ t' = t) := fun r' t' h h' => by rw [l] at h; rw [ht] at h'; cases h; cases h'; exact ⟨rfl, rfl⟩
    have HF : Hid (¬ zFm c k → zD5 c = false) := fun h => zGl fun s => h (s.2.2 k iA);have HN : Hid (zFm c k → f.length = m ∧ zAH t m = true) := fun h => by have := h f t l ht; rwa [← M.out] at this
    have HY : Hid (f.length = m → zAH t m = true → zFm c k) := fun e1 e2 r' t' h h' => by obtain ⟨rfl, rfl⟩ := HR.out r' t' h h'; rw [← M.out]; exact ⟨e1, e2⟩
    have EA : f.length ≤ 9223372036854775807 := kA;have aB : m ≤ 9223372036854775807 := R;clear N L l ht kA R G0;have n0 : ∀ n : Cls (fun wx => Below w.heap.size w wx ∧ wx.heap[w.heap.size]? = some (.cells #[.slice (some ⟨p, o, none⟩) c.1.length cap, .slice (some ⟨B, z, none⟩) c.1.length cp] 92 (0, 0))), n.w.cell? ⟨w.heap.size, 0, none⟩ = some (.slice (some ⟨p, o, none⟩) c.1.length cap) := fun n => (zAK n.h.2).1;have n1 : ∀ n : Cls (fun wx => Below w.heap.size w wx ∧ wx.heap[w.heap.size]? = some (.cells #[.slice (some ⟨p, o, none⟩) c.1.length cap, .slice (some ⟨B, z, none⟩) c.1.length cp] 92 (0, 0))), n.w.cell? ⟨w.heap.size, 1, none⟩ = some (.slice (some ⟨B, z, none⟩) c.1.length cp) := fun n => (zAK n.h.2).2;have D : ∀ n : Cls (fun wx => Below w.heap.size w wx ∧ wx.heap[w.heap.size]? = some (.cells #[.slice (some ⟨p, o, none⟩) c.1.length cap, .slice (some ⟨B, z, none⟩) c.1.length cp] 92 (0, 0))), n.w.cell? ⟨p, o, none⟩ = some (.slice T m U) := fun n => (KW.out _ n.h.1).1;have L : ∀ n : Cls (fun wx => Below w.heap.size w wx ∧ wx.heap[w.heap.size]? = some (.cells #[.slice (some ⟨p, o, none⟩) c.1.length cap, .slice (some ⟨B, z, none⟩) c.1.length cp] 92 (0, 0))), n.w.cell? ⟨B, z + k, none⟩ = some (.int .i64 t) := fun n => (KW.out _ n.h.1).2.2;obtain ⟨-, N, -⟩ := KW.out _ F;by_cases hm : f.length = m
    ·have NA : ((f.length : Int) == (m : Int)) = true := by simp [hm]
     cases C : zAH t m
     ·have q : Hid (∀ w, Calls Tryz.prog 264 #[.int .i64 t, .int .i64 m] w fun e g => e = .returned (.bool false) ∧ g = w) := fun w => by have := zEH t m w; rwa [C] at this
      go_wp2_with fail
      refine zAz (fun wx => Below w.heap.size w wx ∧ wx.heap[w.heap.size]? = some (.cells #[.slice (some ⟨p, o, none⟩) c.1.length cap, .slice (some ⟨B, z, none⟩) c.1.length cp] 92 (0, 0))) (by kernel_rfl) (by kernel_rfl) ⟨F.drew, X⟩ ?_;intro y;repeat (quiet_step (first | (go_at_call 218; exact zAj (zGk p o c.1.length cap _ _ _ _ rfl T m U _ r (D _)) (fun g hc bb => ⟨zAa hc.1 bb, zAb bb hc.2⟩)) | (go_at_call 264; exact zAY (q.out _))))
      refine wpQuiet_nil ?_;rintro wx ⟨v, I⟩;clear n0 n1 D L N F X y;go_wp2;go_ret
      exact ⟨zAl (HF.out fun h => by have := (HN.out h).2; rw [C] at this; cases this).symm, v⟩
     ·have q : Hid (∀ w, Calls Tryz.prog 264 #[.int .i64 t, .int .i64 m] w fun e g => e = .returned (.bool true) ∧ g = w) := fun w => by have := zEH t m w; rwa [C] at this
      go_wp2_with fail
      refine zAz (fun wx => Below w.heap.size w wx ∧ wx.heap[w.heap.size]? = some (.cells #[.slice (some ⟨p, o, none⟩) c.1.length cap, .slice (some ⟨B, z, none⟩) c.1.length cp] 92 (0, 0))) (by kernel_rfl) (by kernel_rfl) ⟨F.drew, X⟩ ?_;intro y;repeat (quiet_step (first | (go_at_call 218; exact zAj (zGk p o c.1.length cap _ _ _ _ rfl T m U _ r (D _)) (fun g hc bb => ⟨zAa hc.1 bb, zAb bb hc.2⟩)) | (go_at_call 264; exact zAY (q.out _))))
      refine wpQuiet_nil ?_;rintro wx ⟨v, I⟩;clear n0 n1 D L N F X y;go_wp2;go_roundw
      case rel =>
       refine ⟨k + 1, by omega, by go_num, fun j hj => ?_, v, I⟩;by_cases he : j < k
       ·exact G j he
       ·have : j = k := by omega
        subst this;exact HY.out hm C
      case measure => simp [intOf]; omega
    ·have nA : ((f.length : Int) != (m : Int)) = true := by simp; omega
     go_wp2_with fail
     refine zAz (fun wx => Below w.heap.size w wx ∧ wx.heap[w.heap.size]? = some (.cells #[.slice (some ⟨p, o, none⟩) c.1.length cap, .slice (some ⟨B, z, none⟩) c.1.length cp] 92 (0, 0))) (by kernel_rfl) (by kernel_rfl) ⟨F.drew, X⟩ ?_;intro y;iterate 5 (quiet_step ((go_at_call 218; exact zAj (zGk p o c.1.length cap _ _ _ _ rfl T m U _ r (D _)) (fun g hc bb => ⟨zAa hc.1 bb, zAb bb hc.2⟩))))
     clear nA;refine wpQuiet_step (fun K hK => ?_);go_simp
     refine zCp K _ ?_;intro A hA;refine hK A ?_;clear hK K;have eA : A.tmps[32]? = some (.bool true) := by rw [hA]; rfl
     refine zAg (b := false) (d := 32) eA rfl rfl rfl (by decide) ?_;intro A0 e0 gA;clear eA;refine zAg (b := false) (d := 32) gA rfl rfl rfl (by decide) ?_;intro A1 e1 jA;clear gA;refine zAg (b := false) (d := 32) jA rfl rfl rfl (by decide) ?_;intro A2 e2 V;clear jA;refine zAg (b := false) (d := 32) V rfl rfl rfl (by decide) ?_;intro A3 e3 Y;clear V;refine zAg (b := false) (d := 32) Y rfl rfl rfl (by decide) ?_;intro A4 e4 dA;clear Y;refine zAg (b := false) (d := 32) dA rfl rfl rfl (by decide) ?_;intro A5 e5 Z;clear dA;refine zAg (b := false) (d := 32) Z rfl rfl rfl (by decide) ?_;intro A6 e6 bA;clear Z;refine zAg (b := false) (d := 32) bA rfl rfl rfl (by decide) ?_;intro A7 e7 fA;clear bA;refine zAg (b := false) (d := 32) fA rfl rfl rfl (by decide) ?_;intro A8 e8 HA;clear fA;subst e8 e7 e6 e5 e4 e3 e2 e1 e0;subst hA;refine wpQuiet_step (fun K hK => ?_);go_simp
     refine hK _ ?_;clear hK K;refine wpQuiet_nil ?_;rintro wx ⟨v, I⟩;clear n0 n1 D L N F X y;go_wp2;go_ret
     exact ⟨zAl (HF.out fun h => hm (HN.out h).1).symm, v⟩
   ·have cA : k = c.1.length := by omega
    have H : Hid (zD5 c = true) := zG4 ⟨HP.out, E.out, by rw [← cA]; exact G⟩;subst cA;go_wp2;go_ret
    exact ⟨zAl H.out.symm, F⟩
 ·have H : Hid (zD5 c = false) := zGl fun h => hl h.2.1;have TA : ((c.2.length : Int) == (c.1.length : Int)) = false := by simp; omega
  clear h1 h2 m1 m2 m3;go_enter Tryz.func234, Tryz.ntmps234;go_wp2_with (go_at_call 159; refine (zCB _ _).mono ?_; rintro e g ⟨rfl, rfl⟩; rw [O])
  go_ret
  exact ⟨zAl H.out.symm, HB.out _⟩
end Go.Proofs.YtcocbafhcpdheaaGreatDoor
