import Derived.Test.YtcocbafhcpdheaaGreatDoorS00Box
import Derived.Test.YtcocbafhcpdheaaGreatDoorS37
namespace Go.Proofs.YtcocbafhcpdheaaGreatDoor
set_option maxHeartbeats 2000000
set_option maxRecDepth 20000
open Go.ChangeShapes Go.WideShapes Go.ChangeAt Go.RowKit
set_option linter.unusedVariables false
def netB (xs : List MsgD) : Bool := decide (xs.length ≤ 60) && xs.all msgB
def badI (xs : List MsgD) : Int := match xs.findIdx? (fun u => !msgB u) with
 | some i => (i : Int)
 | none => -1
theorem bad_at {xs : List MsgD} {k : Nat} {u : MsgD} (hu : xs[k]? = some u) (hp : msgB u = false) (hno : ∀ j v, j < k → xs[j]? = some v → msgB v = true) : badI xs = (k : Int) := by
 have a := (List.getElem?_eq_some_iff.1 hu).1;have : xs.findIdx? (fun u => !msgB u) = some k := by
  rw [List.findIdx?_eq_some_iff_getElem];refine ⟨a, ?_, fun j hj => ?_⟩
  ·rw [List.getElem?_eq_getElem a] at hu;cases hu;simp [hp]
  ·have := hno j _ hj (List.getElem?_eq_getElem (by omega));simp [this]
 unfold badI;rw [this]
theorem bad_no {xs : List MsgD} (hno : ∀ (j : Nat) (v : MsgD), xs[j]? = some v → msgB v = true) : badI xs = -1 := by
 have : xs.findIdx? (fun u => !msgB u) = none := by
  rw [List.findIdx?_eq_none_iff];intro u a;obtain ⟨j, b⟩ := List.getElem?_of_mem a;simp [hno j u b]
 unfold badI;rw [this]
theorem all_bad (xs : List MsgD) : xs.all msgB = decide (badI xs < 0) := by
 cases h : xs.all msgB
 ·have b : ¬ ∀ x ∈ xs, msgB x = true := fun hh => by rw [List.all_eq_true.2 hh] at h; cases h
  cases a : xs.findIdx? (fun u => !msgB u) with
  | none =>
   rw [List.findIdx?_eq_none_iff] at a;exact (b fun x hx => by have := a x hx; simpa using this).elim
  | some i => simp [badI, a]
 ·rw [bad_no fun j v hv => List.all_eq_true.1 h v (List.mem_of_getElem? hv)];rfl
theorem netOk1_any (f0 f1 f2 f3 f4 f6 : Int) (d : List Int) (a : Option Addr) (cap : Nat) (w : World) (h : SlRd intR w a d) :
    Calls Tryz.prog 187 #[.agg #[.int .i64 f0, .int .i64 f1, .int .i64 f2, .int .i64 f3, .int .i64 f4, .slice a d.length cap, .int .i64 f6]] w fun e w' => e = .returned (.bool (!msgB (f0, f1, f2, f3, f4, d, f6))) ∧ Below w.heap.size w w' := by
 have B := box_below w (.cells #[.int .i64 f0, .int .i64 f1, .int .i64 f2, .int .i64 f3, .int .i64 f4, .slice a d.length cap, .int .i64 f6] 119);have b : Hid _ := fun (W : World) (hb : Below w.heap.size w W) => implMsgOk_any f0 f1 f2 f3 f4 f6 d a cap W (slrd_next h hb);generalize msgB (f0, f1, f2, f3, f4, d, f6) = q at b ⊢;clear h;go_enter Tryz.func187, Tryz.ntmps187;go_wp2_with fail
 generalize w.alloc (.cells #[.int .i64 f0, .int .i64 f1, .int .i64 f2, .int .i64 f3, .int .i64 f4, .slice a d.length cap, .int .i64 f6] 119) = W0 at B ⊢;refine (b.out _ B).mono ?_;rintro e w1 ⟨rfl, c⟩;go_wp2;go_ret
 exact ⟨rfl, below_step B c⟩
theorem indexBad_any (a : Option Addr) (xs : List MsgD) (cap : Nat) (w : World) (h : SlRd msgR w a xs) (hm : xs.length ≤ maxLen) :
    Calls Tryz.prog 227 #[.slice a xs.length cap, .func (.func 187) #[] #[]] w fun e w' => e = .returned (.int .i64 (badI xs)) ∧ Below w.heap.size w w' := by
 have N : xs.length ≤ 9223372036854775807 := hm;have O : Hid (∀ W, Below w.heap.size w W → SlRd msgR W a xs) := fun W o => slrd_keep h fun k M => o.block k M;clear h hm;go_enter Tryz.func227, Tryz.ntmps227;go_wp2;go_loopw [8] (fun i wr => ∃ k : Nat, k ≤ xs.length ∧ i = .int .i64 k ∧ (∀ j v, j < k → xs[j]? = some v → msgB v = true) ∧ Below w.heap.size w wr) (fun i _ => xs.length - (intOf i).toNat)
 case atStart => exact ⟨0, Nat.zero_le _, rfl, fun j v hj => by omega, Below.refl _ _⟩
 case round =>
  obtain ⟨k, M, rfl, n, g⟩ := hrel;by_cases z : k < xs.length
  ·have L : (k : Int) < (xs.length : Int) := by omega
   obtain ⟨x, F⟩ : ∃ x, xs[k]? = some x := ⟨_, List.getElem?_eq_getElem z⟩;obtain ⟨b, d, cs, rfl, f, c⟩ := slrd_at (O.out _ g) F;obtain ⟨A, m, rfl, -, -, -, -, -, -, J, E, q⟩ := msg_rd f;have s := c 0 _ rfl;have D := c 1 _ rfl;have G := c 2 _ rfl;have B := c 3 _ rfl;have C := c 4 _ rfl;have y := c 5 _ rfl;have H := c 6 _ rfl;rw [show d + (k * msgR.size + 0) = d + k * 7 from rfl] at s;rw [show d + (k * msgR.size + 1) = d + k * 7 + 1 from rfl] at D;rw [show d + (k * msgR.size + 2) = d + k * 7 + 2 from rfl] at G;rw [show d + (k * msgR.size + 3) = d + k * 7 + 3 from rfl] at B;rw [show d + (k * msgR.size + 4) = d + k * 7 + 4 from rfl] at C;rw [show d + (k * msgR.size + 5) = d + k * 7 + 5 from rfl] at y;rw [show d + (k * msgR.size + 6) = d + k * 7 + 6 from rfl] at H;clear c f J E;have p := netOk1_any x.1 x.2.1 x.2.2.1 x.2.2.2.1 x.2.2.2.2.1 x.2.2.2.2.2.2 x.2.2.2.2.2.1 A m wr q;have K : Hid (xs[k]? = some x) := F;clear F q;cases o : msgB x
   ·have I : Hid (badI xs = k) := bad_at K.out o n;have l : Hid (Calls Tryz.prog 187 #[.agg #[.int .i64 x.1, .int .i64 x.2.1, .int .i64 x.2.2.1, .int .i64 x.2.2.2.1, .int .i64 x.2.2.2.2.1, .slice A x.2.2.2.2.2.1.length m, .int .i64 x.2.2.2.2.2.2]] wr fun e w' => e = .returned (.bool true) ∧ Below wr.heap.size wr w') := by rw [show msgB (x.1, x.2.1, x.2.2.1, x.2.2.2.1, x.2.2.2.2.1, x.2.2.2.2.2.1, x.2.2.2.2.2.2) = msgB x from rfl, o] at p; exact p
    clear p;go_wp2_with fail
    refine l.out.mono ?_;rintro e R ⟨rfl, r⟩;replace g := below_step g r;clear r s D G B C y H;go_wp2;go_ret
    exact ⟨ret_int I.out.symm, g⟩
   ·have l : Hid (Calls Tryz.prog 187 #[.agg #[.int .i64 x.1, .int .i64 x.2.1, .int .i64 x.2.2.1, .int .i64 x.2.2.2.1, .int .i64 x.2.2.2.2.1, .slice A x.2.2.2.2.2.1.length m, .int .i64 x.2.2.2.2.2.2]] wr fun e w' => e = .returned (.bool false) ∧ Below wr.heap.size wr w') := by rw [show msgB (x.1, x.2.1, x.2.2.1, x.2.2.2.1, x.2.2.2.2.1, x.2.2.2.2.2.1, x.2.2.2.2.2.2) = msgB x from rfl, o] at p; exact p
    clear p;go_wp2_with fail
    refine l.out.mono ?_;rintro e R ⟨rfl, r⟩;replace g := below_step g r;clear r s D G B C y H;go_wp2;go_roundw
    case rel =>
     refine ⟨k + 1, by omega, by go_num, fun j v hj hv => ?_, g⟩;by_cases S : j < k
     ·exact n j v S hv
     ·have : j = k := by omega
      subst this;rw [K.out] at hv;cases hv;exact o
    case measure => simp [intOf]; omega
  ·have I : Hid (badI xs = -1) := bad_no fun j v hv => n j v (by have := (List.getElem?_eq_some_iff.1 hv).1; omega) hv;go_wp2;go_ret
   exact ⟨ret_int I.out.symm, g⟩
theorem containsBad_any (a : Option Addr) (xs : List MsgD) (cap : Nat) (w : World) (h : SlRd msgR w a xs) (hm : xs.length ≤ maxLen) :
    Calls Tryz.prog 186 #[.slice a xs.length cap, .func (.func 187) #[] #[]] w fun e w' => e = .returned (.bool (!xs.all msgB)) ∧ Below w.heap.size w w' := by
 have d := indexBad_any a xs cap w h hm;have b := all_bad xs;clear h hm;generalize badI xs = q at d b;generalize xs.all msgB = y at b ⊢;subst b;by_cases g : q < 0
 ·have c : ¬ (0 ≤ q) := by omega
  go_enter Tryz.func186, Tryz.ntmps186;go_wp2_with fail
  refine d.mono ?_;rintro e i ⟨rfl, f⟩;go_wp2;go_ret
  exact ⟨by simp [g], f⟩
 ·have c : 0 ≤ q := by omega
  go_enter Tryz.func186, Tryz.ntmps186;go_wp2_with fail
  refine d.mono ?_;rintro e i ⟨rfl, f⟩;go_wp2;go_ret
  exact ⟨by simp [g], f⟩
theorem implNetOk_any (a : Option Addr) (xs : List MsgD) (cap : Nat) (w : World) (h : SlRd msgR w a xs) (hm : xs.length ≤ maxLen) :
    Calls Tryz.prog 127 #[.slice a xs.length cap] w fun e w' => e = .returned (.bool (netB xs)) ∧ Below w.heap.size w w' := by
 have c := containsBad_any a xs cap w h hm;have d : xs.length ≤ 9223372036854775807 := hm;unfold netB;generalize xs.all msgB = y at c ⊢;clear h hm;by_cases g : xs.length ≤ 60
 ·have b : (xs.length : Int) ≤ 60 := by omega
  go_enter Tryz.func127, Tryz.ntmps127;go_wp2_with fail
  refine c.mono ?_;rintro e w1 ⟨rfl, f⟩;go_wp2;go_ret
  exact ⟨by simp [g], f⟩
 ·have b : ¬ ((xs.length : Int) ≤ 60) := by omega
  go_enter Tryz.func127, Tryz.ntmps127;go_wp2;go_ret
  exact ⟨by simp, Below.refl _ _⟩
theorem specNetOk_any (a : Option Addr) (xs : List MsgD) (cap : Nat) (w : World) (h : SlRd msgR w a xs) (hm : xs.length ≤ maxLen) :
    Calls Tryz.prog 93 #[.slice a xs.length cap] w fun e w' => e = .returned (.bool (netB xs)) ∧ Below w.heap.size w w' := by
 have R : xs.length ≤ 9223372036854775807 := hm;have S : Hid (∀ W, Below w.heap.size w W → SlRd msgR W a xs) := fun W o => slrd_keep h fun k N => o.block k N;clear h hm;by_cases O : xs.length ≤ 60
 ·have H : ¬ ((60 : Int) < (xs.length : Int)) := by omega
  go_enter Tryz.func93, Tryz.ntmps93;go_wp2;go_loopw [3] (fun i wr => ∃ k : Nat, k ≤ xs.length ∧ i = .int .i64 k ∧ (∀ j v, j < k → xs[j]? = some v → msgB v = true) ∧ Below w.heap.size w wr) (fun i _ => xs.length - (intOf i).toNat)
  case atStart => exact ⟨0, Nat.zero_le _, rfl, fun j v hj => by omega, Below.refl _ _⟩
  case round =>
   obtain ⟨k, N, rfl, n, g⟩ := hrel;by_cases A : k < xs.length
   ·have M : (k : Int) < (xs.length : Int) := by omega
    obtain ⟨x, G⟩ : ∃ x, xs[k]? = some x := ⟨_, List.getElem?_eq_getElem A⟩;obtain ⟨b, d, cs, rfl, f, c⟩ := slrd_at (S.out _ g) G;obtain ⟨B, m, rfl, -, -, -, -, -, -, K, F, q⟩ := msg_rd f;have y := c 0 _ rfl;have E := c 1 _ rfl;have I := c 2 _ rfl;have C := c 3 _ rfl;have D := c 4 _ rfl;have z := c 5 _ rfl;have J := c 6 _ rfl;rw [show d + (k * msgR.size + 0) = d + k * 7 from rfl] at y;rw [show d + (k * msgR.size + 1) = d + k * 7 + 1 from rfl] at E;rw [show d + (k * msgR.size + 2) = d + k * 7 + 2 from rfl] at I;rw [show d + (k * msgR.size + 3) = d + k * 7 + 3 from rfl] at C;rw [show d + (k * msgR.size + 4) = d + k * 7 + 4 from rfl] at D;rw [show d + (k * msgR.size + 5) = d + k * 7 + 5 from rfl] at z;rw [show d + (k * msgR.size + 6) = d + k * 7 + 6 from rfl] at J;clear c f K F;have p := specMsg_any x.1 x.2.1 x.2.2.1 x.2.2.2.1 x.2.2.2.2.1 x.2.2.2.2.2.2 x.2.2.2.2.2.1 B m wr q;have L : Hid (xs[k]? = some x) := G;clear G q;cases o : msgB x
    ·have s : Hid (netB xs = false) := by
       unfold Hid netB;rw [all_bad, bad_at L.out o n];simp
     have l : Hid (Calls Tryz.prog 145 #[.agg #[.int .i64 x.1, .int .i64 x.2.1, .int .i64 x.2.2.1, .int .i64 x.2.2.2.1, .int .i64 x.2.2.2.2.1, .slice B x.2.2.2.2.2.1.length m, .int .i64 x.2.2.2.2.2.2]] wr fun e w' => e = .returned (.bool false) ∧ Below wr.heap.size wr w') := by rw [show msgB (x.1, x.2.1, x.2.2.1, x.2.2.2.1, x.2.2.2.2.1, x.2.2.2.2.2.1, x.2.2.2.2.2.2) = msgB x from rfl, o] at p; exact p
     clear p;go_wp2_with fail
     refine l.out.mono ?_;rintro e T ⟨rfl, r⟩;replace g := below_step g r;clear r y E I C D z J;go_wp2;go_ret
     exact ⟨ret_bool s.out.symm, g⟩
    ·have l : Hid (Calls Tryz.prog 145 #[.agg #[.int .i64 x.1, .int .i64 x.2.1, .int .i64 x.2.2.1, .int .i64 x.2.2.2.1, .int .i64 x.2.2.2.2.1, .slice B x.2.2.2.2.2.1.length m, .int .i64 x.2.2.2.2.2.2]] wr fun e w' => e = .returned (.bool true) ∧ Below wr.heap.size wr w') := by rw [show msgB (x.1, x.2.1, x.2.2.1, x.2.2.2.1, x.2.2.2.2.1, x.2.2.2.2.2.1, x.2.2.2.2.2.2) = msgB x from rfl, o] at p; exact p
     clear p;go_wp2_with fail
     refine l.out.mono ?_;rintro e T ⟨rfl, r⟩;replace g := below_step g r;clear r y E I C D z J;go_wp2;go_roundw
     case rel =>
      refine ⟨k + 1, by omega, by go_num, fun j v hj hv => ?_, g⟩;by_cases U : j < k
      ·exact n j v U hv
      ·have : j = k := by omega
       subst this;rw [L.out] at hv;cases hv;exact o
     case measure => simp [intOf]; omega
   ·have s : Hid (netB xs = true) := by
      unfold Hid netB;rw [all_bad, bad_no fun j v hv => n j v (by have := (List.getElem?_eq_some_iff.1 hv).1; omega) hv];simp [O]
    go_wp2;go_ret
    exact ⟨ret_bool s.out.symm, g⟩
 ·have s : Hid (netB xs = false) := by unfold Hid netB; simp [O]
  have H : (60 : Int) < (xs.length : Int) := by omega
  go_enter Tryz.func93, Tryz.ntmps93;go_wp2;go_ret
  exact ⟨ret_bool s.out.symm, Below.refl _ _⟩
structure FabRd (w : World) (x : FabricD) (a1 : Option Addr) (c1 : Nat) (b1 : Option Addr) (d1 : Nat) (a2 : Option Addr) (c2 : Nat) (a3 : Option Addr) (c3 : Nat) (b3 : Option Addr) (d3 : Nat) (a4 : Option Addr) (c4 : Nat) (a5 : Option Addr) (c5 : Nat) : Prop where
 house : houseR.rd w [.slice a1 x.2.1.1.length c1, .slice b1 x.2.1.2.length d1] x.2.1
 book : SlRd entR w b1 x.2.1.2
 bookl : x.2.1.2.length ≤ maxLen
 cores : SlRd coreR w a2 x.2.2.1
 coresl : x.2.2.1.length ≤ maxLen
 dma : dmaR.rd w [.slice a3 x.2.2.2.1.1.length c3, .int .i64 x.2.2.2.1.2.1, .bool x.2.2.2.1.2.2.1, .slice b3 x.2.2.2.1.2.2.2.length d3] x.2.2.2.1
 descs : SlRd descR w a3 x.2.2.2.1.1
 descsl : x.2.2.2.1.1.length ≤ maxLen
 net : SlRd msgR w a4 x.2.2.2.2.1
 netl : x.2.2.2.2.1.length ≤ maxLen
 evs : SlRd eventR w a5 x.2.2.2.2.2
 evsl : x.2.2.2.2.2.length ≤ maxLen
theorem fab_open {w : World} {cs : List Value} {x : FabricD} (h : fabricR.rd w cs x) : ∃ (a : Option Addr) (f : Nat) (l : Option Addr) (g : Nat) (k : Option Addr) (b : Nat) (p : Option Addr) (n : Nat) (c : Option Addr) (m : Nat) (j : Option Addr) (d : Nat) (o : Option Addr) (i : Nat), cs = [.int .i64 x.1.1, .int .i64 x.1.2.1, .int .i64 x.1.2.2.1, .int .i64 x.1.2.2.2, .slice a x.2.1.1.length f, .slice l x.2.1.2.length g, .slice k x.2.2.1.length b, .slice p x.2.2.2.1.1.length n, .int .i64 x.2.2.2.1.2.1, .bool x.2.2.2.1.2.2.1, .slice c x.2.2.2.1.2.2.2.length m, .slice j x.2.2.2.2.1.length d, .slice o x.2.2.2.2.2.length i] ∧ FabRd w x a f l g k b p n c m j d o i := by
 obtain ⟨v0, v1, v2, v3, v4, v5, v6, v7, v8, v9, Z, T, J, rfl, G, s, V, v, r4, S⟩ := fabric_rd h;obtain ⟨F, -⟩ := cfg_rd4 G;simp only [List.cons.injEq, and_true] at F;obtain ⟨rfl, rfl, rfl, rfl⟩ := F;obtain ⟨u0, u1, D, ⟨a, f, q, -, -, -⟩, ⟨l, g, E, X, L, R⟩⟩ := house_rd s;simp only [List.cons.injEq, and_true] at D q E;obtain ⟨rfl, rfl⟩ := D;obtain rfl := q;obtain rfl := E;obtain ⟨k, b, r, O, m2, N⟩ := V;simp only [List.cons.injEq, and_true] at r;obtain rfl := r;obtain ⟨z0, z3, C, ⟨p, n, y, n1, H, M⟩, -, -, ⟨c, m, A, -, -, -⟩⟩ := dma_rd v;simp only [List.cons.injEq, and_true] at C y A;obtain ⟨rfl, rfl, rfl, rfl⟩ := C;obtain rfl := y;obtain rfl := A;obtain ⟨j, d, z, Y, s2, U⟩ := r4;simp only [List.cons.injEq, and_true] at z;obtain rfl := z;obtain ⟨o, i, B, t1, K, I⟩ := S;simp only [List.cons.injEq, and_true] at B;obtain rfl := B;exact ⟨a, f, l, g, k, b, p, n, c, m, j, d, o, i, rfl, ⟨s, R, Nat.le_trans X L, N, Nat.le_trans O m2, v, M, Nat.le_trans n1 H, U, Nat.le_trans Y s2, I, Nat.le_trans t1 K⟩⟩
theorem fab_next {w W : World} {x : FabricD} {a1 b1 a2 a3 b3 a4 a5 : Option Addr} {c1 d1 c2 c3 d3 c4 c5 : Nat} (h : FabRd w x a1 c1 b1 d1 a2 c2 a3 c3 b3 d3 a4 c4 a5 c5) (hb : Below w.heap.size w W) : FabRd W x a1 c1 b1 d1 a2 c2 a3 c3 b3 d3 a4 c4 a5 c5 :=
 ⟨rd_next h.house hb, slrd_next h.book hb, h.bookl, slrd_next h.cores hb, h.coresl, rd_next h.dma hb, slrd_next h.descs hb, h.descsl, slrd_next h.net hb, h.netl, slrd_next h.evs hb, h.evsl⟩
def houseFit (x : FabricD) : Bool := houseB x.2.1 && (decide ((x.2.1.2.length : Int) = x.1.2.2.2) && x.2.1.2.all (entIn x.1.1))
noncomputable def coresFit (x : FabricD) : Bool := decide ((x.2.2.1.length : Int) = x.1.1) && x.2.2.1.all (coreFit x.1.1 x.1.2.1 x.1.2.2.1 x.1.2.2.2)
def netFit (x : FabricD) : Bool := netB x.2.2.2.2.1 && x.2.2.2.2.1.all (msgIn x.1.1 x.1.2.2.2)
theorem fabNet_any (x : FabricD) (a1 : Option Addr) (c1 : Nat) (b1 : Option Addr) (d1 : Nat) (a2 : Option Addr) (c2 : Nat) (a3 : Option Addr) (c3 : Nat) (b3 : Option Addr) (d3 : Nat) (a4 : Option Addr) (c4 : Nat) (a5 : Option Addr) (c5 : Nat) (w : World) (hc : codeI x.1.1 x.1.2.1 x.1.2.2.1 x.1.2.2.2 = 0) (R : FabRd w x a1 c1 b1 d1 a2 c2 a3 c3 b3 d3 a4 c4 a5 c5) :
    Calls Tryz.prog 74 #[.agg #[.int .i64 x.1.1, .int .i64 x.1.2.1, .int .i64 x.1.2.2.1, .int .i64 x.1.2.2.2, .slice a1 x.2.1.1.length c1, .slice b1 x.2.1.2.length d1, .slice a2 x.2.2.1.length c2, .slice a3 x.2.2.2.1.1.length c3, .int .i64 x.2.2.2.1.2.1, .bool x.2.2.2.1.2.2.1, .slice b3 x.2.2.2.1.2.2.2.length d3, .slice a4 x.2.2.2.2.1.length c4, .slice a5 x.2.2.2.2.2.length c5]] w fun e w' => e = .returned (.bool (netFit x)) ∧ Below w.heap.size w w' := by
 have j : Hid _ := fun (W : World) (hb : Below w.heap.size w W) => implNetOk_any a4 x.2.2.2.2.1 c4 W (slrd_next R.net hb) R.netl
 have k : Hid _ := fun (W : World) (hb : Below w.heap.size w W) => allFitMsg a4 x.2.2.2.2.1 c4 W (slrd_next R.net hb) R.netl (fun u cs V hu hv hr => by
  obtain ⟨n, q, rfl⟩ := msg_shape hr
  exact fitsLetter_any x.1.1 x.1.2.1 x.1.2.2.1 x.1.2.2.2 u n q V hc)
 unfold netFit;generalize netB x.2.2.2.2.1 = q1 at j ⊢;generalize x.2.2.2.2.1.all (msgIn x.1.1 x.1.2.2.2) = q2 at k ⊢;clear hc R;have B := Below.refl w.heap.size w;go_enter Tryz.func74, Tryz.ntmps74;go_upto_region 1 with fail
 generalize a : w.alloc _ = u1w;have F := boxH a;have l := boxB a;have f := boxL a;clear a;replace B := below_step B l;clear l;have o := Nat.le_of_eq f;have p := Nat.le_of_eq f.symm;clear f;obtain ⟨Fc0, Fc1, Fc2, Fc3, Fc4, Fc5, Fc6, Fc7, Fc8, Fc9, Fc10, Fc11, Fc12⟩ := cells_fabric F;have Flt := (ltH F);go_wp2_with fail
 clear Fc0 Fc1 Fc2 Fc3 Fc4 Fc5 Fc6 Fc7 Fc8 Fc9 Fc10 Fc11 Fc12 Flt;refine (j.out _ B).mono ?_;rintro e c ⟨rfl, b⟩;have m : u1w.heap.size ≤ c.heap.size := b.size;replace B := below_step B b;replace F := row_keep b F;clear b;cases q1
 ·skip
  obtain ⟨Fc0, Fc1, Fc2, Fc3, Fc4, Fc5, Fc6, Fc7, Fc8, Fc9, Fc10, Fc11, Fc12⟩ := cells_fabric F;have Flt := (ltH F);have g : Hid _ := B;clear B F;go_wp2;go_ret
  exact ⟨rfl, g.out⟩
 ·skip
  obtain ⟨Fc0, Fc1, Fc2, Fc3, Fc4, Fc5, Fc6, Fc7, Fc8, Fc9, Fc10, Fc11, Fc12⟩ := cells_fabric F;have Flt := (ltH F);go_wp2_with fail
  clear Fc0 Fc1 Fc2 Fc3 Fc4 Fc5 Fc6 Fc7 Fc8 Fc9 Fc10 Fc11 Fc12 Flt;refine (k.out _ B).mono ?_;rintro e d ⟨rfl, b⟩;have i : c.heap.size ≤ d.heap.size := b.size;replace B := below_step B b;replace F := row_keep b F;clear b;obtain ⟨Fc0, Fc1, Fc2, Fc3, Fc4, Fc5, Fc6, Fc7, Fc8, Fc9, Fc10, Fc11, Fc12⟩ := cells_fabric F;have Flt := (ltH F);have g : Hid _ := B;clear B F;go_wp2;go_ret
  exact ⟨rfl, g.out⟩
theorem fabCores_any (x : FabricD) (a1 : Option Addr) (c1 : Nat) (b1 : Option Addr) (d1 : Nat) (a2 : Option Addr) (c2 : Nat) (a3 : Option Addr) (c3 : Nat) (b3 : Option Addr) (d3 : Nat) (a4 : Option Addr) (c4 : Nat) (a5 : Option Addr) (c5 : Nat) (w : World) (hc : codeI x.1.1 x.1.2.1 x.1.2.2.1 x.1.2.2.2 = 0) (R : FabRd w x a1 c1 b1 d1 a2 c2 a3 c3 b3 d3 a4 c4 a5 c5) (hh : Hold w) :
    Calls Tryz.prog 72 #[.agg #[.int .i64 x.1.1, .int .i64 x.1.2.1, .int .i64 x.1.2.2.1, .int .i64 x.1.2.2.2, .slice a1 x.2.1.1.length c1, .slice b1 x.2.1.2.length d1, .slice a2 x.2.2.1.length c2, .slice a3 x.2.2.2.1.1.length c3, .int .i64 x.2.2.2.1.2.1, .bool x.2.2.2.1.2.2.1, .slice b3 x.2.2.2.1.2.2.2.length d3, .slice a4 x.2.2.2.2.1.length c4, .slice a5 x.2.2.2.2.2.length c5]] w fun e w' => e = .returned (.bool (coresFit x)) ∧ Below w.heap.size w w' := by
 have m : Hid _ := fun (W : World) (hb : Below w.heap.size w W) => allFitCore a2 x.2.2.1 c2 W (slrd_next R.cores hb) R.coresl (fun u cs V hu hv hr => fitsCore_u x.1.1 x.1.2.1 x.1.2.2.1 x.1.2.2.2 cs u V (hh.goes (below_step hb hv)) hc hr);unfold coresFit;generalize x.2.2.1.all (coreFit x.1.1 x.1.2.1 x.1.2.2.1 x.1.2.2.2) = q2 at m ⊢;clear hc R hh;by_cases c : (x.2.2.1.length : Int) = x.1.1
 ·have o : ((x.2.2.1.length : Int) == x.1.1) = true := by simp [c]
  have g : Hid ((x.2.2.1.length : Int) = x.1.1) := c;clear c;have B := Below.refl w.heap.size w;go_enter Tryz.func72, Tryz.ntmps72;go_upto_region 1 with fail
  generalize a : w.alloc _ = u1w;have F := boxH a;have d := boxB a;have b := boxL a;clear a;replace B := below_step B d;clear d;have i := Nat.le_of_eq b;have l := Nat.le_of_eq b.symm;clear b;obtain ⟨Fc0, Fc1, Fc2, Fc3, Fc4, Fc5, Fc6, Fc7, Fc8, Fc9, Fc10, Fc11, Fc12⟩ := cells_fabric F;have Flt := (ltH F);go_wp2_with fail
  clear Fc0 Fc1 Fc2 Fc3 Fc4 Fc5 Fc6 Fc7 Fc8 Fc9 Fc10 Fc11 Fc12 Flt;refine (m.out _ B).mono ?_;rintro e j ⟨rfl, f⟩;have n : u1w.heap.size ≤ j.heap.size := f.size;replace B := below_step B f;replace F := row_keep f F;clear f;obtain ⟨Fc0, Fc1, Fc2, Fc3, Fc4, Fc5, Fc6, Fc7, Fc8, Fc9, Fc10, Fc11, Fc12⟩ := cells_fabric F;have Flt := (ltH F);have k : Hid _ := B;clear B F;go_wp2;go_ret
  exact ⟨by simp [g.out], k.out⟩
 ·have o : ((x.2.2.1.length : Int) == x.1.1) = false := by simp [c]
  have g : Hid (¬ (x.2.2.1.length : Int) = x.1.1) := c;clear c;have B := Below.refl w.heap.size w;go_enter Tryz.func72, Tryz.ntmps72;go_upto_region 1 with fail
  generalize a : w.alloc _ = u1w;have F := boxH a;have d := boxB a;have b := boxL a;clear a;replace B := below_step B d;clear d;have i := Nat.le_of_eq b;have l := Nat.le_of_eq b.symm;clear b;obtain ⟨Fc0, Fc1, Fc2, Fc3, Fc4, Fc5, Fc6, Fc7, Fc8, Fc9, Fc10, Fc11, Fc12⟩ := cells_fabric F;have Flt := (ltH F);have k : Hid _ := B;clear B F;go_wp2;go_ret
  exact ⟨by simp [g.out], k.out⟩
theorem fabHouse_any (x : FabricD) (a1 : Option Addr) (c1 : Nat) (b1 : Option Addr) (d1 : Nat) (a2 : Option Addr) (c2 : Nat) (a3 : Option Addr) (c3 : Nat) (b3 : Option Addr) (d3 : Nat) (a4 : Option Addr) (c4 : Nat) (a5 : Option Addr) (c5 : Nat) (w : World) (hc : codeI x.1.1 x.1.2.1 x.1.2.2.1 x.1.2.2.2 = 0) (R : FabRd w x a1 c1 b1 d1 a2 c2 a3 c3 b3 d3 a4 c4 a5 c5) :
    Calls Tryz.prog 71 #[.agg #[.int .i64 x.1.1, .int .i64 x.1.2.1, .int .i64 x.1.2.2.1, .int .i64 x.1.2.2.2, .slice a1 x.2.1.1.length c1, .slice b1 x.2.1.2.length d1, .slice a2 x.2.2.1.length c2, .slice a3 x.2.2.2.1.1.length c3, .int .i64 x.2.2.2.1.2.1, .bool x.2.2.2.1.2.2.1, .slice b3 x.2.2.2.1.2.2.2.length d3, .slice a4 x.2.2.2.2.1.length c4, .slice a5 x.2.2.2.2.2.length c5]] w fun e w' => e = .returned (.bool (houseFit x)) ∧ Below w.heap.size w w' := by
 have l : Hid _ := fun (W : World) (hb : Below w.heap.size w W) => implHouseOk_u [.slice a1 x.2.1.1.length c1, .slice b1 x.2.1.2.length d1] x.2.1 W (rd_next R.house hb)
 have q : Hid _ := fun (W : World) (hb : Below w.heap.size w W) => allFitEntry b1 x.2.1.2 d1 W (slrd_next R.book hb) R.bookl (fun u cs V hu hv hr => by
  obtain ⟨r, v, rfl, -, -, -, -, -, -, -, -, s⟩ := ent_rd hr
  exact fitsEntry_any x.1.1 x.1.2.1 x.1.2.2.1 x.1.2.2.2 u r v V hc s)
 unfold houseFit;generalize houseB x.2.1 = q1 at l ⊢;generalize x.2.1.2.all (entIn x.1.1) = q2 at q ⊢;clear hc R;by_cases g : (x.2.1.2.length : Int) = x.1.2.2.2
 ·have y : ((x.2.1.2.length : Int) == x.1.2.2.2) = true := by simp [g]
  have m : Hid ((x.2.1.2.length : Int) = x.1.2.2.2) := g;clear g;have B := Below.refl w.heap.size w;go_enter Tryz.func71, Tryz.ntmps71;go_upto_region 1 with fail
  generalize a : w.alloc _ = u1w;have F := boxH a;have i := boxB a;have d := boxL a;clear a;replace B := below_step B i;clear i;have n := Nat.le_of_eq d;have o := Nat.le_of_eq d.symm;clear d;obtain ⟨Fc0, Fc1, Fc2, Fc3, Fc4, Fc5, Fc6, Fc7, Fc8, Fc9, Fc10, Fc11, Fc12⟩ := cells_fabric F;have Flt := (ltH F);go_wp2_with fail
  clear Fc0 Fc1 Fc2 Fc3 Fc4 Fc5 Fc6 Fc7 Fc8 Fc9 Fc10 Fc11 Fc12 Flt;refine (l.out _ B).mono ?_;rintro e c ⟨rfl, b⟩;have j : u1w.heap.size ≤ c.heap.size := b.size;replace B := below_step B b;replace F := row_keep b F;clear b;cases q1
  ·skip
   obtain ⟨Fc0, Fc1, Fc2, Fc3, Fc4, Fc5, Fc6, Fc7, Fc8, Fc9, Fc10, Fc11, Fc12⟩ := cells_fabric F;have Flt := (ltH F);have f : Hid _ := B;clear B F;go_wp2;go_ret
   exact ⟨rfl, f.out⟩
  ·skip
   obtain ⟨Fc0, Fc1, Fc2, Fc3, Fc4, Fc5, Fc6, Fc7, Fc8, Fc9, Fc10, Fc11, Fc12⟩ := cells_fabric F;have Flt := (ltH F);go_wp2_with fail
   clear Fc0 Fc1 Fc2 Fc3 Fc4 Fc5 Fc6 Fc7 Fc8 Fc9 Fc10 Fc11 Fc12 Flt;refine (q.out _ B).mono ?_;rintro e k ⟨rfl, b⟩;have p : c.heap.size ≤ k.heap.size := b.size;replace B := below_step B b;replace F := row_keep b F;clear b;obtain ⟨Fc0, Fc1, Fc2, Fc3, Fc4, Fc5, Fc6, Fc7, Fc8, Fc9, Fc10, Fc11, Fc12⟩ := cells_fabric F;have Flt := (ltH F);have f : Hid _ := B;clear B F;go_wp2;go_ret
   exact ⟨by simp [m.out], f.out⟩
 ·have y : ((x.2.1.2.length : Int) == x.1.2.2.2) = false := by simp [g]
  have m : Hid (¬ (x.2.1.2.length : Int) = x.1.2.2.2) := g;clear g;have B := Below.refl w.heap.size w;go_enter Tryz.func71, Tryz.ntmps71;go_upto_region 1 with fail
  generalize a : w.alloc _ = u1w;have F := boxH a;have i := boxB a;have d := boxL a;clear a;replace B := below_step B i;clear i;have n := Nat.le_of_eq d;have o := Nat.le_of_eq d.symm;clear d;obtain ⟨Fc0, Fc1, Fc2, Fc3, Fc4, Fc5, Fc6, Fc7, Fc8, Fc9, Fc10, Fc11, Fc12⟩ := cells_fabric F;have Flt := (ltH F);go_wp2_with fail
  clear Fc0 Fc1 Fc2 Fc3 Fc4 Fc5 Fc6 Fc7 Fc8 Fc9 Fc10 Fc11 Fc12 Flt;refine (l.out _ B).mono ?_;rintro e c ⟨rfl, b⟩;have j : u1w.heap.size ≤ c.heap.size := b.size;replace B := below_step B b;replace F := row_keep b F;clear b;cases q1
  ·skip
   obtain ⟨Fc0, Fc1, Fc2, Fc3, Fc4, Fc5, Fc6, Fc7, Fc8, Fc9, Fc10, Fc11, Fc12⟩ := cells_fabric F;have Flt := (ltH F);have f : Hid _ := B;clear B F;go_wp2;go_ret
   exact ⟨rfl, f.out⟩
  ·skip
   obtain ⟨Fc0, Fc1, Fc2, Fc3, Fc4, Fc5, Fc6, Fc7, Fc8, Fc9, Fc10, Fc11, Fc12⟩ := cells_fabric F;have Flt := (ltH F);have f : Hid _ := B;clear B F;go_wp2;go_ret
   exact ⟨by simp [m.out], f.out⟩
end Go.Proofs.YtcocbafhcpdheaaGreatDoor
