import Derived.Test.YtcocbafhcpdheaaGreatDoorT00Box
import Derived.Test.YtcocbafhcpdheaaGreatDoorT36
namespace Go.Proofs.YtcocbafhcpdheaaGreatDoor
set_option maxHeartbeats 2000000
set_option maxRecDepth 20000
open Go.ChangeShapes Go.WideShapes Go.ChangeAt Go.RowKit
set_option linter.unusedVariables false
def zIF (xs : List zDy) : Bool := decide (xs.length ≤ 60) && xs.all zD4
def badI (xs : List zDy) : Int := match xs.findIdx? (fun u => !zD4 u) with
 | some i => (i : Int)
 | none => -1
theorem bad_at {xs : List zDy} {k : Nat} {u : zDy} (hu : xs[k]? = some u) (hp : zD4 u = false) (hno : ∀ j v, j < k → xs[j]? = some v → zD4 v = true) : badI xs = (k : Int) := by
 have a := (List.getElem?_eq_some_iff.1 hu).1;have : xs.findIdx? (fun u => !zD4 u) = some k := by
  rw [List.findIdx?_eq_some_iff_getElem];refine ⟨a, ?_, fun j hj => ?_⟩
  ·rw [List.getElem?_eq_getElem a] at hu;cases hu;simp [hp]
  ·have := hno j _ hj (List.getElem?_eq_getElem (by omega));simp [this]
 unfold badI;rw [this]
theorem zOJ {xs : List zDy} (hno : ∀ (j : Nat) (v : zDy), xs[j]? = some v → zD4 v = true) : badI xs = -1 := by
 have : xs.findIdx? (fun u => !zD4 u) = none := by
  rw [List.findIdx?_eq_none_iff];intro u b;obtain ⟨j, a⟩ := List.getElem?_of_mem b;simp [hno j u a]
 unfold badI;rw [this]
theorem zKO (xs : List zDy) : xs.all zD4 = decide (badI xs < 0) := by
 cases h : xs.all zD4
 ·have b : ¬ ∀ x ∈ xs, zD4 x = true := fun hh => by rw [List.all_eq_true.2 hh] at h; cases h
  cases a : xs.findIdx? (fun u => !zD4 u) with
  | none =>
   rw [List.findIdx?_eq_none_iff] at a;exact (b fun x hx => by have := a x hx; simpa using this).elim
  | some i => simp [badI, a]
 ·rw [zOJ fun j v hv => List.all_eq_true.1 h v (List.mem_of_getElem? hv)];rfl
theorem zMN (f0 f1 f2 f3 f4 f6 : Int) (d : List Int) (a : Option Addr) (cap : Nat) (w : World) (h : zA4 zAG w a d) :
    Calls Tryz.prog 187 #[.agg #[.int .i64 f0, .int .i64 f1, .int .i64 f2, .int .i64 f3, .int .i64 f4, .slice a d.length cap, .int .i64 f6]] w fun e w' => e = .returned (.bool (!zD4 (f0, f1, f2, f3, f4, d, f6))) ∧ Below w.heap.size w w' := by
 have B := zAf w (.cells #[.int .i64 f0, .int .i64 f1, .int .i64 f2, .int .i64 f3, .int .i64 f4, .slice a d.length cap, .int .i64 f6] 119);have b : Hid _ := fun (W : World) (hb : Below w.heap.size w W) => zIz f0 f1 f2 f3 f4 f6 d a cap W (zAm h hb);generalize zD4 (f0, f1, f2, f3, f4, d, f6) = q at b ⊢;clear h;go_enter Tryz.func187, Tryz.ntmps187;go_wp2_with fail
 generalize w.alloc (.cells #[.int .i64 f0, .int .i64 f1, .int .i64 f2, .int .i64 f3, .int .i64 f4, .slice a d.length cap, .int .i64 f6] 119) = W0 at B ⊢;refine (b.out _ B).mono ?_;rintro e w1 ⟨rfl, c⟩;go_wp2;go_ret
 exact ⟨rfl, zAa B c⟩
theorem zJF (a : Option Addr) (xs : List zDy) (cap : Nat) (w : World) (h : zA4 zBL w a xs) (hm : xs.length ≤ maxLen) :
    Calls Tryz.prog 227 #[.slice a xs.length cap, .func (.func 187) #[] #[]] w fun e w' => e = .returned (.int .i64 (badI xs)) ∧ Below w.heap.size w w' := by
 have N : xs.length ≤ 9223372036854775807 := hm;have O : Hid (∀ W, Below w.heap.size w W → zA4 zBL W a xs) := fun W o => zAq h fun k M => o.block k M;clear h hm;go_enter Tryz.func227, Tryz.ntmps227;go_wp2;go_loopw [8] (fun i wr => ∃ k : Nat, k ≤ xs.length ∧ i = .int .i64 k ∧ (∀ j v, j < k → xs[j]? = some v → zD4 v = true) ∧ Below w.heap.size w wr) (fun i _ => xs.length - (intOf i).toNat)
 case atStart => exact ⟨0, Nat.zero_le _, rfl, fun j v hj => by omega, Below.refl _ _⟩
 case round =>
  obtain ⟨k, M, rfl, n, g⟩ := hrel;by_cases z : k < xs.length
  ·have K : (k : Int) < (xs.length : Int) := by omega
   obtain ⟨x, C⟩ : ∃ x, xs[k]? = some x := ⟨_, List.getElem?_eq_getElem z⟩;obtain ⟨b, d, cs, rfl, f, c⟩ := zAy (O.out _ g) C;obtain ⟨D, m, rfl, -, -, -, -, -, -, B, s, r⟩ := zFO f;have G := c 0 _ rfl;have E := c 1 _ rfl;have I := c 2 _ rfl;have H := c 3 _ rfl;have J := c 4 _ rfl;have y := c 5 _ rfl;have F := c 6 _ rfl;rw [show d + (k * zBL.size + 0) = d + k * 7 from rfl] at G;rw [show d + (k * zBL.size + 1) = d + k * 7 + 1 from rfl] at E;rw [show d + (k * zBL.size + 2) = d + k * 7 + 2 from rfl] at I;rw [show d + (k * zBL.size + 3) = d + k * 7 + 3 from rfl] at H;rw [show d + (k * zBL.size + 4) = d + k * 7 + 4 from rfl] at J;rw [show d + (k * zBL.size + 5) = d + k * 7 + 5 from rfl] at y;rw [show d + (k * zBL.size + 6) = d + k * 7 + 6 from rfl] at F;clear c f B s;have p := zMN x.1 x.2.1 x.2.2.1 x.2.2.2.1 x.2.2.2.2.1 x.2.2.2.2.2.2 x.2.2.2.2.2.1 D m wr r;have L : Hid (xs[k]? = some x) := C;clear C r;cases o : zD4 x
   ·have A : Hid (badI xs = k) := bad_at L.out o n;have l : Hid (Calls Tryz.prog 187 #[.agg #[.int .i64 x.1, .int .i64 x.2.1, .int .i64 x.2.2.1, .int .i64 x.2.2.2.1, .int .i64 x.2.2.2.2.1, .slice D x.2.2.2.2.2.1.length m, .int .i64 x.2.2.2.2.2.2]] wr fun e w' => e = .returned (.bool true) ∧ Below wr.heap.size wr w') := by rw [show zD4 (x.1, x.2.1, x.2.2.1, x.2.2.2.1, x.2.2.2.2.1, x.2.2.2.2.2.1, x.2.2.2.2.2.2) = zD4 x from rfl, o] at p; exact p
    clear p;go_wp2_with fail
    refine l.out.mono ?_;rintro e S ⟨rfl, q⟩;replace g := zAa g q;clear q G E I H J y F;go_wp2;go_ret
    exact ⟨zAx A.out.symm, g⟩
   ·have l : Hid (Calls Tryz.prog 187 #[.agg #[.int .i64 x.1, .int .i64 x.2.1, .int .i64 x.2.2.1, .int .i64 x.2.2.2.1, .int .i64 x.2.2.2.2.1, .slice D x.2.2.2.2.2.1.length m, .int .i64 x.2.2.2.2.2.2]] wr fun e w' => e = .returned (.bool false) ∧ Below wr.heap.size wr w') := by rw [show zD4 (x.1, x.2.1, x.2.2.1, x.2.2.2.1, x.2.2.2.2.1, x.2.2.2.2.2.1, x.2.2.2.2.2.2) = zD4 x from rfl, o] at p; exact p
    clear p;go_wp2_with fail
    refine l.out.mono ?_;rintro e S ⟨rfl, q⟩;replace g := zAa g q;clear q G E I H J y F;go_wp2;go_roundw
    case rel =>
     refine ⟨k + 1, by omega, by go_num, fun j v hj hv => ?_, g⟩;by_cases R : j < k
     ·exact n j v R hv
     ·have : j = k := by omega
      subst this;rw [L.out] at hv;cases hv;exact o
    case measure => simp [intOf]; omega
  ·have A : Hid (badI xs = -1) := zOJ fun j v hv => n j v (by have := (List.getElem?_eq_some_iff.1 hv).1; omega) hv;go_wp2;go_ret
   exact ⟨zAx A.out.symm, g⟩
theorem zGO (a : Option Addr) (xs : List zDy) (cap : Nat) (w : World) (h : zA4 zBL w a xs) (hm : xs.length ≤ maxLen) :
    Calls Tryz.prog 186 #[.slice a xs.length cap, .func (.func 187) #[] #[]] w fun e w' => e = .returned (.bool (!xs.all zD4)) ∧ Below w.heap.size w w' := by
 have d := zJF a xs cap w h hm;have b := zKO xs;clear h hm;generalize badI xs = q at d b;generalize xs.all zD4 = y at b ⊢;subst b;by_cases g : q < 0
 ·have f : ¬ (0 ≤ q) := by omega
  go_enter Tryz.func186, Tryz.ntmps186;go_wp2_with fail
  refine d.mono ?_;rintro e i ⟨rfl, c⟩;go_wp2;go_ret
  exact ⟨by simp [g], c⟩
 ·have f : 0 ≤ q := by omega
  go_enter Tryz.func186, Tryz.ntmps186;go_wp2_with fail
  refine d.mono ?_;rintro e i ⟨rfl, c⟩;go_wp2;go_ret
  exact ⟨by simp [g], c⟩
theorem zI0 (a : Option Addr) (xs : List zDy) (cap : Nat) (w : World) (h : zA4 zBL w a xs) (hm : xs.length ≤ maxLen) :
    Calls Tryz.prog 127 #[.slice a xs.length cap] w fun e w' => e = .returned (.bool (zIF xs)) ∧ Below w.heap.size w w' := by
 have c := zGO a xs cap w h hm;have d : xs.length ≤ 9223372036854775807 := hm;unfold zIF;generalize xs.all zD4 = y at c ⊢;clear h hm;by_cases g : xs.length ≤ 60
 ·have b : (xs.length : Int) ≤ 60 := by omega
  go_enter Tryz.func127, Tryz.ntmps127;go_wp2_with fail
  refine c.mono ?_;rintro e w1 ⟨rfl, f⟩;go_wp2;go_ret
  exact ⟨by simp [g], f⟩
 ·have b : ¬ ((xs.length : Int) ≤ 60) := by omega
  go_enter Tryz.func127, Tryz.ntmps127;go_wp2;go_ret
  exact ⟨by simp, Below.refl _ _⟩
theorem zI1 (a : Option Addr) (xs : List zDy) (cap : Nat) (w : World) (h : zA4 zBL w a xs) (hm : xs.length ≤ maxLen) :
    Calls Tryz.prog 93 #[.slice a xs.length cap] w fun e w' => e = .returned (.bool (zIF xs)) ∧ Below w.heap.size w w' := by
 have R : xs.length ≤ 9223372036854775807 := hm;have S : Hid (∀ W, Below w.heap.size w W → zA4 zBL W a xs) := fun W o => zAq h fun k N => o.block k N;clear h hm;by_cases O : xs.length ≤ 60
 ·have E : ¬ ((60 : Int) < (xs.length : Int)) := by omega
  go_enter Tryz.func93, Tryz.ntmps93;go_wp2;go_loopw [3] (fun i wr => ∃ k : Nat, k ≤ xs.length ∧ i = .int .i64 k ∧ (∀ j v, j < k → xs[j]? = some v → zD4 v = true) ∧ Below w.heap.size w wr) (fun i _ => xs.length - (intOf i).toNat)
  case atStart => exact ⟨0, Nat.zero_le _, rfl, fun j v hj => by omega, Below.refl _ _⟩
  case round =>
   obtain ⟨k, N, rfl, n, g⟩ := hrel;by_cases A : k < xs.length
   ·have L : (k : Int) < (xs.length : Int) := by omega
    obtain ⟨x, C⟩ : ∃ x, xs[k]? = some x := ⟨_, List.getElem?_eq_getElem A⟩;obtain ⟨b, d, cs, rfl, f, c⟩ := zAy (S.out _ g) C;obtain ⟨D, m, rfl, -, -, -, -, -, -, B, y, s⟩ := zFO f;have H := c 0 _ rfl;have F := c 1 _ rfl;have J := c 2 _ rfl;have I := c 3 _ rfl;have K := c 4 _ rfl;have z := c 5 _ rfl;have G := c 6 _ rfl;rw [show d + (k * zBL.size + 0) = d + k * 7 from rfl] at H;rw [show d + (k * zBL.size + 1) = d + k * 7 + 1 from rfl] at F;rw [show d + (k * zBL.size + 2) = d + k * 7 + 2 from rfl] at J;rw [show d + (k * zBL.size + 3) = d + k * 7 + 3 from rfl] at I;rw [show d + (k * zBL.size + 4) = d + k * 7 + 4 from rfl] at K;rw [show d + (k * zBL.size + 5) = d + k * 7 + 5 from rfl] at z;rw [show d + (k * zBL.size + 6) = d + k * 7 + 6 from rfl] at G;clear c f B y;have p := zKN x.1 x.2.1 x.2.2.1 x.2.2.2.1 x.2.2.2.2.1 x.2.2.2.2.2.2 x.2.2.2.2.2.1 D m wr s;have M : Hid (xs[k]? = some x) := C;clear C s;cases o : zD4 x
    ·have r : Hid (zIF xs = false) := by
       unfold Hid zIF;rw [zKO, bad_at M.out o n];simp
     have l : Hid (Calls Tryz.prog 145 #[.agg #[.int .i64 x.1, .int .i64 x.2.1, .int .i64 x.2.2.1, .int .i64 x.2.2.2.1, .int .i64 x.2.2.2.2.1, .slice D x.2.2.2.2.2.1.length m, .int .i64 x.2.2.2.2.2.2]] wr fun e w' => e = .returned (.bool false) ∧ Below wr.heap.size wr w') := by rw [show zD4 (x.1, x.2.1, x.2.2.1, x.2.2.2.1, x.2.2.2.2.1, x.2.2.2.2.2.1, x.2.2.2.2.2.2) = zD4 x from rfl, o] at p; exact p
     clear p;go_wp2_with fail
     refine l.out.mono ?_;rintro e U ⟨rfl, q⟩;replace g := zAa g q;clear q H F J I K z G;go_wp2;go_ret
     exact ⟨zAl r.out.symm, g⟩
    ·have l : Hid (Calls Tryz.prog 145 #[.agg #[.int .i64 x.1, .int .i64 x.2.1, .int .i64 x.2.2.1, .int .i64 x.2.2.2.1, .int .i64 x.2.2.2.2.1, .slice D x.2.2.2.2.2.1.length m, .int .i64 x.2.2.2.2.2.2]] wr fun e w' => e = .returned (.bool true) ∧ Below wr.heap.size wr w') := by rw [show zD4 (x.1, x.2.1, x.2.2.1, x.2.2.2.1, x.2.2.2.2.1, x.2.2.2.2.2.1, x.2.2.2.2.2.2) = zD4 x from rfl, o] at p; exact p
     clear p;go_wp2_with fail
     refine l.out.mono ?_;rintro e U ⟨rfl, q⟩;replace g := zAa g q;clear q H F J I K z G;go_wp2;go_roundw
     case rel =>
      refine ⟨k + 1, by omega, by go_num, fun j v hj hv => ?_, g⟩;by_cases T : j < k
      ·exact n j v T hv
      ·have : j = k := by omega
       subst this;rw [M.out] at hv;cases hv;exact o
     case measure => simp [intOf]; omega
   ·have r : Hid (zIF xs = true) := by
      unfold Hid zIF;rw [zKO, zOJ fun j v hv => n j v (by have := (List.getElem?_eq_some_iff.1 hv).1; omega) hv];simp [O]
    go_wp2;go_ret
    exact ⟨zAl r.out.symm, g⟩
 ·have r : Hid (zIF xs = false) := by unfold Hid zIF; simp [O]
  have E : (60 : Int) < (xs.length : Int) := by omega
  go_enter Tryz.func93, Tryz.ntmps93;go_wp2;go_ret
  exact ⟨zAl r.out.symm, Below.refl _ _⟩
structure FabRd (w : World) (x : zA2) (a1 : Option Addr) (c1 : Nat) (b1 : Option Addr) (d1 : Nat) (a2 : Option Addr) (c2 : Nat) (a3 : Option Addr) (c3 : Nat) (b3 : Option Addr) (d3 : Nat) (a4 : Option Addr) (c4 : Nat) (a5 : Option Addr) (c5 : Nat) : Prop where
 house : zBF.rd w [.slice a1 x.2.1.1.length c1, .slice b1 x.2.1.2.length d1] x.2.1
 book : zA4 zBT w b1 x.2.1.2
 bookl : x.2.1.2.length ≤ maxLen
 cores : zA4 zAB w a2 x.2.2.1
 coresl : x.2.2.1.length ≤ maxLen
 dma : zFA.rd w [.slice a3 x.2.2.2.1.1.length c3, .int .i64 x.2.2.2.1.2.1, .bool x.2.2.2.1.2.2.1, .slice b3 x.2.2.2.1.2.2.2.length d3] x.2.2.2.1
 descs : zA4 zAR w a3 x.2.2.2.1.1
 descsl : x.2.2.2.1.1.length ≤ maxLen
 net : zA4 zBL w a4 x.2.2.2.2.1
 netl : x.2.2.2.2.1.length ≤ maxLen
 evs : zA4 zA9 w a5 x.2.2.2.2.2
 evsl : x.2.2.2.2.2.length ≤ maxLen
theorem zI2 {w : World} {cs : List Value} {x : zA2} (h : zCr.rd w cs x) : ∃ (d : Option Addr) (m : Nat) (b : Option Addr) (a : Nat) (c : Option Addr) (p : Nat) (n : Option Addr) (l : Nat) (g : Option Addr) (j : Nat) (k : Option Addr) (o : Nat) (f : Option Addr) (i : Nat), cs = [.int .i64 x.1.1, .int .i64 x.1.2.1, .int .i64 x.1.2.2.1, .int .i64 x.1.2.2.2, .slice d x.2.1.1.length m, .slice b x.2.1.2.length a, .slice c x.2.2.1.length p, .slice n x.2.2.2.1.1.length l, .int .i64 x.2.2.2.1.2.1, .bool x.2.2.2.1.2.2.1, .slice g x.2.2.2.1.2.2.2.length j, .slice k x.2.2.2.2.1.length o, .slice f x.2.2.2.2.2.length i] ∧ FabRd w x d m b a c p n l g j k o f i := by
 obtain ⟨v0, v1, v2, v3, v4, v5, v6, v7, v8, v9, eA, cA, dA, rfl, L, z, R, v, Z, M⟩ := zDH h;obtain ⟨B, -⟩ := zJY L;simp only [List.cons.injEq, and_true] at B;obtain ⟨rfl, rfl, rfl, rfl⟩ := B;obtain ⟨u0, u1, C, ⟨d, m, q, -, -, -⟩, ⟨b, a, D, S, N, q2⟩⟩ := zDi z;simp only [List.cons.injEq, and_true] at C q D;obtain ⟨rfl, rfl⟩ := C;obtain rfl := q;obtain rfl := D;obtain ⟨c, p, y, J, X, O⟩ := R;simp only [List.cons.injEq, and_true] at y;obtain rfl := y;obtain ⟨z0, z3, E, ⟨n, l, s, G, K, Y⟩, -, -, ⟨g, j, r, -, -, -⟩⟩ := zFN v;simp only [List.cons.injEq, and_true] at E s r;obtain ⟨rfl, rfl, rfl, rfl⟩ := E;obtain rfl := s;obtain rfl := r;obtain ⟨k, o, A, H, T, U⟩ := Z;simp only [List.cons.injEq, and_true] at A;obtain rfl := A;obtain ⟨f, i, F, t1, V, I⟩ := M;simp only [List.cons.injEq, and_true] at F;obtain rfl := F;exact ⟨d, m, b, a, c, p, n, l, g, j, k, o, f, i, rfl, ⟨z, q2, Nat.le_trans S N, O, Nat.le_trans J X, v, Y, Nat.le_trans G K, U, Nat.le_trans H T, I, Nat.le_trans t1 V⟩⟩
theorem zBP {w W : World} {x : zA2} {a1 b1 a2 a3 b3 a4 a5 : Option Addr} {c1 d1 c2 c3 d3 c4 c5 : Nat} (h : FabRd w x a1 c1 b1 d1 a2 c2 a3 c3 b3 d3 a4 c4 a5 c5) (hb : Below w.heap.size w W) : FabRd W x a1 c1 b1 d1 a2 c2 a3 c3 b3 d3 a4 c4 a5 c5 :=
 ⟨zAr h.house hb, zAm h.book hb, h.bookl, zAm h.cores hb, h.coresl, zAr h.dma hb, zAm h.descs hb, h.descsl, zAm h.net hb, h.netl, zAm h.evs hb, h.evsl⟩
def zDl (x : zA2) : Bool := zCe x.2.1 && (decide ((x.2.1.2.length : Int) = x.1.2.2.2) && x.2.1.2.all (zJC x.1.1))
noncomputable def zDm (x : zA2) : Bool := decide ((x.2.2.1.length : Int) = x.1.1) && x.2.2.1.all (zD1 x.1.1 x.1.2.1 x.1.2.2.1 x.1.2.2.2)
def zGP (x : zA2) : Bool := zIF x.2.2.2.2.1 && x.2.2.2.2.1.all (zIi x.1.1 x.1.2.2.2)
theorem zMO (x : zA2) (a1 : Option Addr) (c1 : Nat) (b1 : Option Addr) (d1 : Nat) (a2 : Option Addr) (c2 : Nat) (a3 : Option Addr) (c3 : Nat) (b3 : Option Addr) (d3 : Nat) (a4 : Option Addr) (c4 : Nat) (a5 : Option Addr) (c5 : Nat) (w : World) (hc : zBe x.1.1 x.1.2.1 x.1.2.2.1 x.1.2.2.2 = 0) (R : FabRd w x a1 c1 b1 d1 a2 c2 a3 c3 b3 d3 a4 c4 a5 c5) :
    Calls Tryz.prog 74 #[.agg #[.int .i64 x.1.1, .int .i64 x.1.2.1, .int .i64 x.1.2.2.1, .int .i64 x.1.2.2.2, .slice a1 x.2.1.1.length c1, .slice b1 x.2.1.2.length d1, .slice a2 x.2.2.1.length c2, .slice a3 x.2.2.2.1.1.length c3, .int .i64 x.2.2.2.1.2.1, .bool x.2.2.2.1.2.2.1, .slice b3 x.2.2.2.1.2.2.2.length d3, .slice a4 x.2.2.2.2.1.length c4, .slice a5 x.2.2.2.2.2.length c5]] w fun e w' => e = .returned (.bool (zGP x)) ∧ Below w.heap.size w w' := by
 have j : Hid _ := fun (W : World) (hb : Below w.heap.size w W) => zI0 a4 x.2.2.2.2.1 c4 W (zAm R.net hb) R.netl
 have k : Hid _ := fun (W : World) (hb : Below w.heap.size w W) => zOI a4 x.2.2.2.2.1 c4 W (zAm R.net hb) R.netl (fun u cs V hu hv hr => by
  obtain ⟨o, q, rfl⟩ := zFw hr
  exact zHr x.1.1 x.1.2.1 x.1.2.2.1 x.1.2.2.2 u o q V hc)
 unfold zGP;generalize zIF x.2.2.2.2.1 = q1 at j ⊢;generalize x.2.2.2.2.1.all (zIi x.1.1 x.1.2.2.2) = q2 at k ⊢;clear hc R;have B := Below.refl w.heap.size w;go_enter Tryz.func74, Tryz.ntmps74;go_upto_region 1 with fail
 generalize a : w.alloc _ = u1w;have F := boxH a;have l := boxB a;have d := boxL a;clear a;replace B := zAa B l;clear l;have p := Nat.le_of_eq d;have n := Nat.le_of_eq d.symm;clear d;obtain ⟨Fc0, Fc1, Fc2, Fc3, Fc4, Fc5, Fc6, Fc7, Fc8, Fc9, Fc10, Fc11, Fc12⟩ := zAd F;have Flt := (ltH F);go_wp2_with fail
 clear Fc0 Fc1 Fc2 Fc3 Fc4 Fc5 Fc6 Fc7 Fc8 Fc9 Fc10 Fc11 Fc12 Flt;refine (j.out _ B).mono ?_;rintro e c ⟨rfl, b⟩;have i : u1w.heap.size ≤ c.heap.size := b.size;replace B := zAa B b;replace F := zAb b F;clear b;cases q1
 ·skip
  obtain ⟨Fc0, Fc1, Fc2, Fc3, Fc4, Fc5, Fc6, Fc7, Fc8, Fc9, Fc10, Fc11, Fc12⟩ := zAd F;have Flt := (ltH F);have g : Hid _ := B;clear B F;go_wp2;go_ret
  exact ⟨rfl, g.out⟩
 ·skip
  obtain ⟨Fc0, Fc1, Fc2, Fc3, Fc4, Fc5, Fc6, Fc7, Fc8, Fc9, Fc10, Fc11, Fc12⟩ := zAd F;have Flt := (ltH F);go_wp2_with fail
  clear Fc0 Fc1 Fc2 Fc3 Fc4 Fc5 Fc6 Fc7 Fc8 Fc9 Fc10 Fc11 Fc12 Flt;refine (k.out _ B).mono ?_;rintro e f ⟨rfl, b⟩;have m : c.heap.size ≤ f.heap.size := b.size;replace B := zAa B b;replace F := zAb b F;clear b;obtain ⟨Fc0, Fc1, Fc2, Fc3, Fc4, Fc5, Fc6, Fc7, Fc8, Fc9, Fc10, Fc11, Fc12⟩ := zAd F;have Flt := (ltH F);have g : Hid _ := B;clear B F;go_wp2;go_ret
  exact ⟨rfl, g.out⟩
theorem zJG (x : zA2) (a1 : Option Addr) (c1 : Nat) (b1 : Option Addr) (d1 : Nat) (a2 : Option Addr) (c2 : Nat) (a3 : Option Addr) (c3 : Nat) (b3 : Option Addr) (d3 : Nat) (a4 : Option Addr) (c4 : Nat) (a5 : Option Addr) (c5 : Nat) (w : World) (hc : zBe x.1.1 x.1.2.1 x.1.2.2.1 x.1.2.2.2 = 0) (R : FabRd w x a1 c1 b1 d1 a2 c2 a3 c3 b3 d3 a4 c4 a5 c5) (hh : Hold w) :
    Calls Tryz.prog 72 #[.agg #[.int .i64 x.1.1, .int .i64 x.1.2.1, .int .i64 x.1.2.2.1, .int .i64 x.1.2.2.2, .slice a1 x.2.1.1.length c1, .slice b1 x.2.1.2.length d1, .slice a2 x.2.2.1.length c2, .slice a3 x.2.2.2.1.1.length c3, .int .i64 x.2.2.2.1.2.1, .bool x.2.2.2.1.2.2.1, .slice b3 x.2.2.2.1.2.2.2.length d3, .slice a4 x.2.2.2.2.1.length c4, .slice a5 x.2.2.2.2.2.length c5]] w fun e w' => e = .returned (.bool (zDm x)) ∧ Below w.heap.size w w' := by
 have n : Hid _ := fun (W : World) (hb : Below w.heap.size w W) => zMI a2 x.2.2.1 c2 W (zAm R.cores hb) R.coresl (fun u cs V hu hv hr => zMC x.1.1 x.1.2.1 x.1.2.2.1 x.1.2.2.2 cs u V (hh.goes (zAa hb hv)) hc hr);unfold zDm;generalize x.2.2.1.all (zD1 x.1.1 x.1.2.1 x.1.2.2.1 x.1.2.2.2) = q2 at n ⊢;clear hc R hh;by_cases c : (x.2.2.1.length : Int) = x.1.1
 ·have o : ((x.2.2.1.length : Int) == x.1.1) = true := by simp [c]
  have k : Hid ((x.2.2.1.length : Int) = x.1.1) := c;clear c;have B := Below.refl w.heap.size w;go_enter Tryz.func72, Tryz.ntmps72;go_upto_region 1 with fail
  generalize a : w.alloc _ = u1w;have F := boxH a;have d := boxB a;have b := boxL a;clear a;replace B := zAa B d;clear d;have i := Nat.le_of_eq b;have g := Nat.le_of_eq b.symm;clear b;obtain ⟨Fc0, Fc1, Fc2, Fc3, Fc4, Fc5, Fc6, Fc7, Fc8, Fc9, Fc10, Fc11, Fc12⟩ := zAd F;have Flt := (ltH F);go_wp2_with fail
  clear Fc0 Fc1 Fc2 Fc3 Fc4 Fc5 Fc6 Fc7 Fc8 Fc9 Fc10 Fc11 Fc12 Flt;refine (n.out _ B).mono ?_;rintro e j ⟨rfl, f⟩;have m : u1w.heap.size ≤ j.heap.size := f.size;replace B := zAa B f;replace F := zAb f F;clear f;obtain ⟨Fc0, Fc1, Fc2, Fc3, Fc4, Fc5, Fc6, Fc7, Fc8, Fc9, Fc10, Fc11, Fc12⟩ := zAd F;have Flt := (ltH F);have l : Hid _ := B;clear B F;go_wp2;go_ret
  exact ⟨by simp [k.out], l.out⟩
 ·have o : ((x.2.2.1.length : Int) == x.1.1) = false := by simp [c]
  have k : Hid (¬ (x.2.2.1.length : Int) = x.1.1) := c;clear c;have B := Below.refl w.heap.size w;go_enter Tryz.func72, Tryz.ntmps72;go_upto_region 1 with fail
  generalize a : w.alloc _ = u1w;have F := boxH a;have d := boxB a;have b := boxL a;clear a;replace B := zAa B d;clear d;have i := Nat.le_of_eq b;have g := Nat.le_of_eq b.symm;clear b;obtain ⟨Fc0, Fc1, Fc2, Fc3, Fc4, Fc5, Fc6, Fc7, Fc8, Fc9, Fc10, Fc11, Fc12⟩ := zAd F;have Flt := (ltH F);have l : Hid _ := B;clear B F;go_wp2;go_ret
  exact ⟨by simp [k.out], l.out⟩
theorem zJH (x : zA2) (a1 : Option Addr) (c1 : Nat) (b1 : Option Addr) (d1 : Nat) (a2 : Option Addr) (c2 : Nat) (a3 : Option Addr) (c3 : Nat) (b3 : Option Addr) (d3 : Nat) (a4 : Option Addr) (c4 : Nat) (a5 : Option Addr) (c5 : Nat) (w : World) (hc : zBe x.1.1 x.1.2.1 x.1.2.2.1 x.1.2.2.2 = 0) (R : FabRd w x a1 c1 b1 d1 a2 c2 a3 c3 b3 d3 a4 c4 a5 c5) :
    Calls Tryz.prog 71 #[.agg #[.int .i64 x.1.1, .int .i64 x.1.2.1, .int .i64 x.1.2.2.1, .int .i64 x.1.2.2.2, .slice a1 x.2.1.1.length c1, .slice b1 x.2.1.2.length d1, .slice a2 x.2.2.1.length c2, .slice a3 x.2.2.2.1.1.length c3, .int .i64 x.2.2.2.1.2.1, .bool x.2.2.2.1.2.2.1, .slice b3 x.2.2.2.1.2.2.2.length d3, .slice a4 x.2.2.2.2.1.length c4, .slice a5 x.2.2.2.2.2.length c5]] w fun e w' => e = .returned (.bool (zDl x)) ∧ Below w.heap.size w w' := by
 have k : Hid _ := fun (W : World) (hb : Below w.heap.size w W) => zIw [.slice a1 x.2.1.1.length c1, .slice b1 x.2.1.2.length d1] x.2.1 W (zAr R.house hb)
 have p : Hid _ := fun (W : World) (hb : Below w.heap.size w W) => zKL b1 x.2.1.2 d1 W (zAm R.book hb) R.bookl (fun u cs V hu hv hr => by
  obtain ⟨s, y, rfl, -, -, -, -, -, -, -, -, v⟩ := zFM hr
  exact zIy x.1.1 x.1.2.1 x.1.2.2.1 x.1.2.2.2 u s y V hc v)
 unfold zDl;generalize zCe x.2.1 = q1 at k ⊢;generalize x.2.1.2.all (zJC x.1.1) = q2 at p ⊢;clear hc R;by_cases g : (x.2.1.2.length : Int) = x.1.2.2.2
 ·have r : ((x.2.1.2.length : Int) == x.1.2.2.2) = true := by simp [g]
  have o : Hid ((x.2.1.2.length : Int) = x.1.2.2.2) := g;clear g;have B := Below.refl w.heap.size w;go_enter Tryz.func71, Tryz.ntmps71;go_upto_region 1 with fail
  generalize a : w.alloc _ = u1w;have F := boxH a;have j := boxB a;have d := boxL a;clear a;replace B := zAa B j;clear j;have n := Nat.le_of_eq d;have m := Nat.le_of_eq d.symm;clear d;obtain ⟨Fc0, Fc1, Fc2, Fc3, Fc4, Fc5, Fc6, Fc7, Fc8, Fc9, Fc10, Fc11, Fc12⟩ := zAd F;have Flt := (ltH F);go_wp2_with fail
  clear Fc0 Fc1 Fc2 Fc3 Fc4 Fc5 Fc6 Fc7 Fc8 Fc9 Fc10 Fc11 Fc12 Flt;refine (k.out _ B).mono ?_;rintro e c ⟨rfl, b⟩;have i : u1w.heap.size ≤ c.heap.size := b.size;replace B := zAa B b;replace F := zAb b F;clear b;cases q1
  ·skip
   obtain ⟨Fc0, Fc1, Fc2, Fc3, Fc4, Fc5, Fc6, Fc7, Fc8, Fc9, Fc10, Fc11, Fc12⟩ := zAd F;have Flt := (ltH F);have f : Hid _ := B;clear B F;go_wp2;go_ret
   exact ⟨rfl, f.out⟩
  ·skip
   obtain ⟨Fc0, Fc1, Fc2, Fc3, Fc4, Fc5, Fc6, Fc7, Fc8, Fc9, Fc10, Fc11, Fc12⟩ := zAd F;have Flt := (ltH F);go_wp2_with fail
   clear Fc0 Fc1 Fc2 Fc3 Fc4 Fc5 Fc6 Fc7 Fc8 Fc9 Fc10 Fc11 Fc12 Flt;refine (p.out _ B).mono ?_;rintro e l ⟨rfl, b⟩;have q : c.heap.size ≤ l.heap.size := b.size;replace B := zAa B b;replace F := zAb b F;clear b;obtain ⟨Fc0, Fc1, Fc2, Fc3, Fc4, Fc5, Fc6, Fc7, Fc8, Fc9, Fc10, Fc11, Fc12⟩ := zAd F;have Flt := (ltH F);have f : Hid _ := B;clear B F;go_wp2;go_ret
   exact ⟨by simp [o.out], f.out⟩
 ·have r : ((x.2.1.2.length : Int) == x.1.2.2.2) = false := by simp [g]
  have o : Hid (¬ (x.2.1.2.length : Int) = x.1.2.2.2) := g;clear g;have B := Below.refl w.heap.size w;go_enter Tryz.func71, Tryz.ntmps71;go_upto_region 1 with fail
  generalize a : w.alloc _ = u1w;have F := boxH a;have j := boxB a;have d := boxL a;clear a;replace B := zAa B j;clear j;have n := Nat.le_of_eq d;have m := Nat.le_of_eq d.symm;clear d;obtain ⟨Fc0, Fc1, Fc2, Fc3, Fc4, Fc5, Fc6, Fc7, Fc8, Fc9, Fc10, Fc11, Fc12⟩ := zAd F;have Flt := (ltH F);go_wp2_with fail
  clear Fc0 Fc1 Fc2 Fc3 Fc4 Fc5 Fc6 Fc7 Fc8 Fc9 Fc10 Fc11 Fc12 Flt;refine (k.out _ B).mono ?_;rintro e c ⟨rfl, b⟩;have i : u1w.heap.size ≤ c.heap.size := b.size;replace B := zAa B b;replace F := zAb b F;clear b;cases q1
  ·skip
   obtain ⟨Fc0, Fc1, Fc2, Fc3, Fc4, Fc5, Fc6, Fc7, Fc8, Fc9, Fc10, Fc11, Fc12⟩ := zAd F;have Flt := (ltH F);have f : Hid _ := B;clear B F;go_wp2;go_ret
   exact ⟨rfl, f.out⟩
  ·skip
   obtain ⟨Fc0, Fc1, Fc2, Fc3, Fc4, Fc5, Fc6, Fc7, Fc8, Fc9, Fc10, Fc11, Fc12⟩ := zAd F;have Flt := (ltH F);have f : Hid _ := B;clear B F;go_wp2;go_ret
   exact ⟨by simp [o.out], f.out⟩
end Go.Proofs.YtcocbafhcpdheaaGreatDoor
