import Derived.Test.YtdamokokcdcedaaGreatDoorG00Box
import Derived.Test.YtdamokokcdcedaaGreatDoorG36
namespace Go.Proofs.YtdamokokcdcedaaGreatDoor
set_option maxHeartbeats 2000000
set_option maxRecDepth 20000
open Go.ChangeShapes Go.WideShapes Go.ChangeAt Go.RowKit
set_option linter.unusedVariables false
def netB (xs : List MsgD) : Bool := decide (xs.length ≤ 60) && xs.all msgB
def badI (xs : List MsgD) : Int := match xs.findIdx? (fun u => !msgB u) with
 | some i => (i : Int)
 | none => -1
theorem bad_at {xs : List MsgD} {k : Nat} {u : MsgD} (hu : xs[k]? = some u) (hp : msgB u = false) (hno : ∀ j v, j < k → xs[j]? = some v → msgB v = true) : badI xs = (k : Int) := by
 have a := (List.getElem?_eq_some_iff.1 hu).1;have : xs.findIdx? (fun u => !msgB u) = some k := by
  rw [List.findIdx?_eq_some_iff_getElem];refine ⟨a, ?_, fun j hj => ?_⟩
  ·rw [List.getElem?_eq_getElem a] at hu;cases hu;simp [hp]
  ·have := hno j _ hj (List.getElem?_eq_getElem (by omega));simp [this]
 unfold badI;rw [this]
theorem bad_no {xs : List MsgD} (hno : ∀ (j : Nat) (v : MsgD), xs[j]? = some v → msgB v = true) : badI xs = -1 := by
 have : xs.findIdx? (fun u => !msgB u) = none := by
  rw [List.findIdx?_eq_none_iff];intro u b;obtain ⟨j, a⟩ := List.getElem?_of_mem b;simp [hno j u a]
 unfold badI;rw [this]
theorem all_bad (xs : List MsgD) : xs.all msgB = decide (badI xs < 0) := by
 cases h : xs.all msgB
 ·have b : ¬ ∀ x ∈ xs, msgB x = true := fun hh => by rw [List.all_eq_true.2 hh] at h; cases h
  cases a : xs.findIdx? (fun u => !msgB u) with
  | none =>
   rw [List.findIdx?_eq_none_iff] at a;exact (b fun x hx => by have := a x hx; simpa using this).elim
  | some i => simp [badI, a]
 ·rw [bad_no fun j v hv => List.all_eq_true.1 h v (List.mem_of_getElem? hv)];rfl
theorem netOk1_any (f0 f1 f2 f3 f4 f6 : Int) (d : List Int) (a : Option Addr) (cap : Nat) (w : World) (h : SlRd intR w a d) :
    Calls Tryz.prog 209 #[.agg #[nI f0, nI f1, nI f2, nI f3, nI f4, sL a d.length cap, nI f6]] w fun e w' => e = .returned (.bool (!msgB (f0, f1, f2, f3, f4, d, f6))) ∧ Bl w w' := by
 have B := box_below w (.cells #[nI f0, nI f1, nI f2, nI f3, nI f4, sL a d.length cap, nI f6] 131);have b : Hid _ := fun (W : World) (hb : Bl w W) => implMsgOk_any f0 f1 f2 f3 f4 f6 d a cap W (slrd_next h hb);generalize msgB (f0, f1, f2, f3, f4, d, f6) = q at b ⊢;clear h;go_enter Tryz.func209, Tryz.ntmps209;go_wp2_with fail
 generalize w.alloc (.cells #[nI f0, nI f1, nI f2, nI f3, nI f4, sL a d.length cap, nI f6] 131) = W0 at B ⊢;refine (b.out _ B).mono ?_;rintro e w1 ⟨rfl, c⟩;go_wp2;go_ret
 exact ⟨rfl, below_step B c⟩
theorem indexBad_any (a : Option Addr) (xs : List MsgD) (cap : Nat) (w : World) (h : SlRd msgR w a xs) (hm : xs.length ≤ maxLen) :
    Calls Tryz.prog 243 #[sL a xs.length cap, .func (.func 209) #[] #[]] w fun e w' => e = .returned (nI (badI xs)) ∧ Bl w w' := by
 have O : xs.length ≤ 9223372036854775807 := hm;have S : Hid (∀ W, Bl w W → SlRd msgR W a xs) := fun W p => slrd_keep h fun k K => p.block k K;clear h hm;go_enter Tryz.func243, Tryz.ntmps243;go_wp2;go_loopw [8] (fun i wr => ∃ k : Nat, k ≤ xs.length ∧ i = nI k ∧ (∀ j v, j < k → xs[j]? = some v → msgB v = true) ∧ Bl w wr) (fun i _ => xs.length - (intOf i).toNat)
 case atStart => exact ⟨0, Nat.zero_le _, rfl, fun j v hj => by omega, Below.refl _ _⟩
 case round =>
  obtain ⟨k, K, rfl, l, g⟩ := hrel;by_cases J : k < xs.length
  ·have L : (k : Int) < (xs.length : Int) := by omega
   obtain ⟨x, G⟩ : ∃ x, xs[k]? = some x := ⟨_, List.getElem?_eq_getElem J⟩;obtain ⟨b, d, cs, rfl, f, c⟩ := slrd_at (S.out _ g) G;obtain ⟨C, n, rfl, -, -, -, -, -, -, A, H, r⟩ := msg_rd f;have s := c 0 _ rfl;have z := c 1 _ rfl;have B := c 2 _ rfl;have D := c 3 _ rfl;have F := c 4 _ rfl;have I := c 5 _ rfl;have E := c 6 _ rfl;rw [show d + (k * msgR.size + 0) = d + k * 7 from rfl] at s;rw [show d + (k * msgR.size + 1) = d + k * 7 + 1 from rfl] at z;rw [show d + (k * msgR.size + 2) = d + k * 7 + 2 from rfl] at B;rw [show d + (k * msgR.size + 3) = d + k * 7 + 3 from rfl] at D;rw [show d + (k * msgR.size + 4) = d + k * 7 + 4 from rfl] at F;rw [show d + (k * msgR.size + 5) = d + k * 7 + 5 from rfl] at I;rw [show d + (k * msgR.size + 6) = d + k * 7 + 6 from rfl] at E;clear c f A H;have o := netOk1_any x.1 x.2.1 x.2.2.1 x.2.2.2.1 x.2.2.2.2.1 x.2.2.2.2.2.2 x.2.2.2.2.2.1 C n wr r;have M : Hid (xs[k]? = some x) := G;clear G r;cases p : msgB x
   ·have y : Hid (badI xs = k) := bad_at M.out p l;have m : Hid (Calls Tryz.prog 209 #[.agg #[nI x.1, nI x.2.1, nI x.2.2.1, nI x.2.2.2.1, nI x.2.2.2.2.1, sL C x.2.2.2.2.2.1.length n, nI x.2.2.2.2.2.2]] wr fun e w' => e = .returned (.bool true) ∧ Bl wr w') := by rw [show msgB (x.1, x.2.1, x.2.2.1, x.2.2.2.1, x.2.2.2.2.1, x.2.2.2.2.2.1, x.2.2.2.2.2.2) = msgB x from rfl, p] at o; exact o
    clear o;go_wp2_with fail
    refine m.out.mono ?_;rintro e R ⟨rfl, q⟩;replace g := below_step g q;clear q s z B D F I E;go_wp2;go_ret
    exact ⟨ret_int y.out.symm, g⟩
   ·have m : Hid (Calls Tryz.prog 209 #[.agg #[nI x.1, nI x.2.1, nI x.2.2.1, nI x.2.2.2.1, nI x.2.2.2.2.1, sL C x.2.2.2.2.2.1.length n, nI x.2.2.2.2.2.2]] wr fun e w' => e = .returned (.bool false) ∧ Bl wr w') := by rw [show msgB (x.1, x.2.1, x.2.2.1, x.2.2.2.1, x.2.2.2.2.1, x.2.2.2.2.2.1, x.2.2.2.2.2.2) = msgB x from rfl, p] at o; exact o
    clear o;go_wp2_with fail
    refine m.out.mono ?_;rintro e R ⟨rfl, q⟩;replace g := below_step g q;clear q s z B D F I E;go_wp2;go_roundw
    case rel =>
     refine ⟨k + 1, by omega, by go_num, fun j v hj hv => ?_, g⟩;by_cases N : j < k
     ·exact l j v N hv
     ·have : j = k := by omega
      subst this;rw [M.out] at hv;cases hv;exact p
    case measure => simp [intOf]; omega
  ·have y : Hid (badI xs = -1) := bad_no fun j v hv => l j v (by have := (List.getElem?_eq_some_iff.1 hv).1; omega) hv;go_wp2;go_ret
   exact ⟨ret_int y.out.symm, g⟩
theorem containsBad_any (a : Option Addr) (xs : List MsgD) (cap : Nat) (w : World) (h : SlRd msgR w a xs) (hm : xs.length ≤ maxLen) :
    Calls Tryz.prog 208 #[sL a xs.length cap, .func (.func 209) #[] #[]] w fun e w' => e = .returned (.bool (!xs.all msgB)) ∧ Bl w w' := by
 have d := indexBad_any a xs cap w h hm;have b := all_bad xs;clear h hm;generalize badI xs = q at d b;generalize xs.all msgB = y at b ⊢;subst b;by_cases g : q < 0
 ·have c : ¬ (0 ≤ q) := by omega
  go_enter Tryz.func208, Tryz.ntmps208;go_wp2_with fail
  refine d.mono ?_;rintro e i ⟨rfl, f⟩;go_wp2;go_ret
  exact ⟨by simp [g], f⟩
 ·have c : 0 ≤ q := by omega
  go_enter Tryz.func208, Tryz.ntmps208;go_wp2_with fail
  refine d.mono ?_;rintro e i ⟨rfl, f⟩;go_wp2;go_ret
  exact ⟨by simp [g], f⟩
theorem implNetOk_any (a : Option Addr) (xs : List MsgD) (cap : Nat) (w : World) (h : SlRd msgR w a xs) (hm : xs.length ≤ maxLen) :
    Calls Tryz.prog 151 #[sL a xs.length cap] w fun e w' => e = .returned (.bool (netB xs)) ∧ Bl w w' := by
 have c := containsBad_any a xs cap w h hm;have d : xs.length ≤ 9223372036854775807 := hm;unfold netB;generalize xs.all msgB = y at c ⊢;clear h hm;by_cases g : xs.length ≤ 60
 ·have b : (xs.length : Int) ≤ 60 := by omega
  go_enter Tryz.func151, Tryz.ntmps151;go_wp2_with fail
  refine c.mono ?_;rintro e w1 ⟨rfl, f⟩;go_wp2;go_ret
  exact ⟨by simp [g], f⟩
 ·have b : ¬ ((xs.length : Int) ≤ 60) := by omega
  go_enter Tryz.func151, Tryz.ntmps151;go_wp2;go_ret
  exact ⟨by simp, Below.refl _ _⟩
theorem specNetOk_any (a : Option Addr) (xs : List MsgD) (cap : Nat) (w : World) (h : SlRd msgR w a xs) (hm : xs.length ≤ maxLen) :
    Calls Tryz.prog 70 #[sL a xs.length cap] w fun e w' => e = .returned (.bool (netB xs)) ∧ Bl w w' := by
 have S : xs.length ≤ 9223372036854775807 := hm;have U : Hid (∀ W, Bl w W → SlRd msgR W a xs) := fun W p => slrd_keep h fun k M => p.block k M;clear h hm;by_cases L : xs.length ≤ 60
 ·have J : ¬ ((60 : Int) < (xs.length : Int)) := by omega
  go_enter Tryz.func70, Tryz.ntmps70;go_wp2;go_loopw [3] (fun i wr => ∃ k : Nat, k ≤ xs.length ∧ i = nI k ∧ (∀ j v, j < k → xs[j]? = some v → msgB v = true) ∧ Bl w wr) (fun i _ => xs.length - (intOf i).toNat)
  case atStart => exact ⟨0, Nat.zero_le _, rfl, fun j v hj => by omega, Below.refl _ _⟩
  case round =>
   obtain ⟨k, M, rfl, l, g⟩ := hrel;by_cases K : k < xs.length
   ·have N : (k : Int) < (xs.length : Int) := by omega
    obtain ⟨x, G⟩ : ∃ x, xs[k]? = some x := ⟨_, List.getElem?_eq_getElem K⟩;obtain ⟨b, d, cs, rfl, f, c⟩ := slrd_at (U.out _ g) G;obtain ⟨C, n, rfl, -, -, -, -, -, -, A, H, s⟩ := msg_rd f;have y := c 0 _ rfl;have z := c 1 _ rfl;have B := c 2 _ rfl;have D := c 3 _ rfl;have F := c 4 _ rfl;have I := c 5 _ rfl;have E := c 6 _ rfl;rw [show d + (k * msgR.size + 0) = d + k * 7 from rfl] at y;rw [show d + (k * msgR.size + 1) = d + k * 7 + 1 from rfl] at z;rw [show d + (k * msgR.size + 2) = d + k * 7 + 2 from rfl] at B;rw [show d + (k * msgR.size + 3) = d + k * 7 + 3 from rfl] at D;rw [show d + (k * msgR.size + 4) = d + k * 7 + 4 from rfl] at F;rw [show d + (k * msgR.size + 5) = d + k * 7 + 5 from rfl] at I;rw [show d + (k * msgR.size + 6) = d + k * 7 + 6 from rfl] at E;clear c f A H;have o := specMsg_any x.1 x.2.1 x.2.2.1 x.2.2.2.1 x.2.2.2.2.1 x.2.2.2.2.2.2 x.2.2.2.2.2.1 C n wr s;have O : Hid (xs[k]? = some x) := G;clear G s;cases p : msgB x
    ·have q : Hid (netB xs = false) := by
       unfold Hid netB;rw [all_bad, bad_at O.out p l];simp
     have m : Hid (Calls Tryz.prog 132 #[.agg #[nI x.1, nI x.2.1, nI x.2.2.1, nI x.2.2.2.1, nI x.2.2.2.2.1, sL C x.2.2.2.2.2.1.length n, nI x.2.2.2.2.2.2]] wr fun e w' => e = .returned (.bool false) ∧ Bl wr w') := by rw [show msgB (x.1, x.2.1, x.2.2.1, x.2.2.2.1, x.2.2.2.2.1, x.2.2.2.2.2.1, x.2.2.2.2.2.2) = msgB x from rfl, p] at o; exact o
     clear o;go_wp2_with fail
     refine m.out.mono ?_;rintro e T ⟨rfl, r⟩;replace g := below_step g r;clear r y z B D F I E;go_wp2;go_ret
     exact ⟨ret_bool q.out.symm, g⟩
    ·have m : Hid (Calls Tryz.prog 132 #[.agg #[nI x.1, nI x.2.1, nI x.2.2.1, nI x.2.2.2.1, nI x.2.2.2.2.1, sL C x.2.2.2.2.2.1.length n, nI x.2.2.2.2.2.2]] wr fun e w' => e = .returned (.bool true) ∧ Bl wr w') := by rw [show msgB (x.1, x.2.1, x.2.2.1, x.2.2.2.1, x.2.2.2.2.1, x.2.2.2.2.2.1, x.2.2.2.2.2.2) = msgB x from rfl, p] at o; exact o
     clear o;go_wp2_with fail
     refine m.out.mono ?_;rintro e T ⟨rfl, r⟩;replace g := below_step g r;clear r y z B D F I E;go_wp2;go_roundw
     case rel =>
      refine ⟨k + 1, by omega, by go_num, fun j v hj hv => ?_, g⟩;by_cases R : j < k
      ·exact l j v R hv
      ·have : j = k := by omega
       subst this;rw [O.out] at hv;cases hv;exact p
     case measure => simp [intOf]; omega
   ·have q : Hid (netB xs = true) := by
      unfold Hid netB;rw [all_bad, bad_no fun j v hv => l j v (by have := (List.getElem?_eq_some_iff.1 hv).1; omega) hv];simp [L]
    go_wp2;go_ret
    exact ⟨ret_bool q.out.symm, g⟩
 ·have q : Hid (netB xs = false) := by unfold Hid netB; simp [L]
  have J : (60 : Int) < (xs.length : Int) := by omega
  go_enter Tryz.func70, Tryz.ntmps70;go_wp2;go_ret
  exact ⟨ret_bool q.out.symm, Below.refl _ _⟩
structure FabRd (w : World) (x : FabricD) (a1 : Option Addr) (c1 : Nat) (b1 : Option Addr) (d1 : Nat) (a2 : Option Addr) (c2 : Nat) (a3 : Option Addr) (c3 : Nat) (b3 : Option Addr) (d3 : Nat) (a4 : Option Addr) (c4 : Nat) (a5 : Option Addr) (c5 : Nat) : Prop where
 house : houseR.rd w [.slice a1 x.2.1.1.length c1, .slice b1 x.2.1.2.length d1] x.2.1
 book : SlRd entR w b1 x.2.1.2
 bookl : x.2.1.2.length ≤ maxLen
 cores : SlRd coreR w a2 x.2.2.1
 coresl : x.2.2.1.length ≤ maxLen
 dma : dmaR.rd w [.slice a3 x.2.2.2.1.1.length c3, .int .i64 x.2.2.2.1.2.1, .bool x.2.2.2.1.2.2.1, .slice b3 x.2.2.2.1.2.2.2.length d3] x.2.2.2.1
 descs : SlRd descR w a3 x.2.2.2.1.1
 descsl : x.2.2.2.1.1.length ≤ maxLen
 net : SlRd msgR w a4 x.2.2.2.2.1
 netl : x.2.2.2.2.1.length ≤ maxLen
 evs : SlRd eventR w a5 x.2.2.2.2.2
 evsl : x.2.2.2.2.2.length ≤ maxLen
theorem fab_open {w : World} {cs : List Value} {x : FabricD} (h : fabricR.rd w cs x) : ∃ (i : Option Addr) (j : Nat) (c : Option Addr) (f : Nat) (o : Option Addr) (l : Nat) (m : Option Addr) (g : Nat) (k : Option Addr) (d : Nat) (a : Option Addr) (b : Nat) (n : Option Addr) (p : Nat), cs = [nI x.1.1, nI x.1.2.1, nI x.1.2.2.1, nI x.1.2.2.2, sL i x.2.1.1.length j, sL c x.2.1.2.length f, sL o x.2.2.1.length l, sL m x.2.2.2.1.1.length g, nI x.2.2.2.1.2.1, .bool x.2.2.2.1.2.2.1, sL k x.2.2.2.1.2.2.2.length d, sL a x.2.2.2.2.1.length b, sL n x.2.2.2.2.2.length p] ∧ FabRd w x i j c f o l m g k d a b n p := by
 obtain ⟨v0, v1, v2, v3, v4, v5, v6, v7, v8, v9, L, T, bA, rfl, H, v, Z, y, r4, r5⟩ := fabric_rd h;obtain ⟨q, -⟩ := cfg_rd4 H;simp only [List.cons.injEq, and_true] at q;obtain ⟨rfl, rfl, rfl, rfl⟩ := q;obtain ⟨u0, u1, D, ⟨i, j, B, -, -, -⟩, ⟨c, f, C, O, J, I⟩⟩ := house_rd v;simp only [List.cons.injEq, and_true] at D B C;obtain ⟨rfl, rfl⟩ := D;obtain rfl := B;obtain rfl := C;obtain ⟨o, l, r, m1, m2, Y⟩ := Z;simp only [List.cons.injEq, and_true] at r;obtain rfl := r;obtain ⟨z0, z3, E, ⟨m, g, s, U, R, K⟩, -, -, ⟨k, d, A, -, -, -⟩⟩ := dma_rd y;simp only [List.cons.injEq, and_true] at E s A;obtain ⟨rfl, rfl, rfl, rfl⟩ := E;obtain rfl := s;obtain rfl := A;obtain ⟨a, b, F, V, X, N⟩ := r4;simp only [List.cons.injEq, and_true] at F;obtain rfl := F;obtain ⟨n, p, z, G, S, M⟩ := r5;simp only [List.cons.injEq, and_true] at z;obtain rfl := z;exact ⟨i, j, c, f, o, l, m, g, k, d, a, b, n, p, rfl, ⟨v, I, Nat.le_trans O J, Y, Nat.le_trans m1 m2, y, K, Nat.le_trans U R, N, Nat.le_trans V X, M, Nat.le_trans G S⟩⟩
theorem fab_next {w W : World} {x : FabricD} {a1 b1 a2 a3 b3 a4 a5 : Option Addr} {c1 d1 c2 c3 d3 c4 c5 : Nat} (h : FabRd w x a1 c1 b1 d1 a2 c2 a3 c3 b3 d3 a4 c4 a5 c5) (hb : Bl w W) : FabRd W x a1 c1 b1 d1 a2 c2 a3 c3 b3 d3 a4 c4 a5 c5 :=
 ⟨rd_next h.house hb, slrd_next h.book hb, h.bookl, slrd_next h.cores hb, h.coresl, rd_next h.dma hb, slrd_next h.descs hb, h.descsl, slrd_next h.net hb, h.netl, slrd_next h.evs hb, h.evsl⟩
def houseFit (x : FabricD) : Bool := houseB x.2.1 && (decide ((x.2.1.2.length : Int) = x.1.2.2.2) && x.2.1.2.all (entIn x.1.1))
noncomputable def coresFit (x : FabricD) : Bool := decide ((x.2.2.1.length : Int) = x.1.1) && x.2.2.1.all (coreFit x.1.1 x.1.2.1 x.1.2.2.1 x.1.2.2.2)
def netFit (x : FabricD) : Bool := netB x.2.2.2.2.1 && x.2.2.2.2.1.all (msgIn x.1.1 x.1.2.2.2)
theorem fabNet_any (x : FabricD) (a1 : Option Addr) (c1 : Nat) (b1 : Option Addr) (d1 : Nat) (a2 : Option Addr) (c2 : Nat) (a3 : Option Addr) (c3 : Nat) (b3 : Option Addr) (d3 : Nat) (a4 : Option Addr) (c4 : Nat) (a5 : Option Addr) (c5 : Nat) (w : World) (hc : codeI x.1.1 x.1.2.1 x.1.2.2.1 x.1.2.2.2 = 0) (R : FabRd w x a1 c1 b1 d1 a2 c2 a3 c3 b3 d3 a4 c4 a5 c5) :
    Calls Tryz.prog 87 #[.agg #[nI x.1.1, nI x.1.2.1, nI x.1.2.2.1, nI x.1.2.2.2, sL a1 x.2.1.1.length c1, sL b1 x.2.1.2.length d1, sL a2 x.2.2.1.length c2, sL a3 x.2.2.2.1.1.length c3, nI x.2.2.2.1.2.1, .bool x.2.2.2.1.2.2.1, sL b3 x.2.2.2.1.2.2.2.length d3, sL a4 x.2.2.2.2.1.length c4, sL a5 x.2.2.2.2.2.length c5]] w fun e w' => e = .returned (.bool (netFit x)) ∧ Bl w w' := by
 have i : Hid _ := fun (W : World) (hb : Bl w W) => implNetOk_any a4 x.2.2.2.2.1 c4 W (slrd_next R.net hb) R.netl
 have m : Hid (∀ W, Bl w W → Calls Tryz.prog 152 #[sL a4 x.2.2.2.2.1.length c4, .func (.func 153) #[.agg #[nI x.1.1, nI x.1.2.1, nI x.1.2.2.1, nI x.1.2.2.2]] #[]] W fun e w' => e = .returned (.bool (x.2.2.2.2.1.all (msgIn x.1.1 x.1.2.2.2))) ∧ Bl W w') := fun W hb => allFitMsg a4 x.2.2.2.2.1 c4 W (slrd_next R.net hb) R.netl (fun u cs V hu hv hr => by
  obtain ⟨o, q, rfl⟩ := msg_shape hr
  exact fitsLetter_any x.1.1 x.1.2.1 x.1.2.2.1 x.1.2.2.2 u o q V hc)
 unfold netFit;generalize netB x.2.2.2.2.1 = q1 at i ⊢;generalize x.2.2.2.2.1.all (msgIn x.1.1 x.1.2.2.2) = q2 at m ⊢;clear hc R;have B := Below.refl w.heap.size w;go_enter Tryz.func87, Tryz.ntmps87;go_upto_region 1 with fail
 generalize a : w.alloc _ = u1w;have F := boxH a;have l := boxB a;have g := boxL a;clear a;replace B := below_step B l;clear l;have n := lE g;have p := lE g.symm;clear g;obtain ⟨Fc0, Fc1, Fc2, Fc3, Fc4, Fc5, Fc6, Fc7, Fc8, Fc9, Fc10, Fc11, Fc12⟩ := cells_fabric F;have Flt := (ltH F);go_wp2_with fail
 clear Fc0 Fc1 Fc2 Fc3 Fc4 Fc5 Fc6 Fc7 Fc8 Fc9 Fc10 Fc11 Fc12 Flt;refine (i.out _ B).mono ?_;rintro e c ⟨rfl, b⟩;have j : u1w.heap.size ≤ c.heap.size := b.size;replace B := below_step B b;replace F := row_keep b F;clear b;cases q1
 ·skip
  obtain ⟨Fc0, Fc1, Fc2, Fc3, Fc4, Fc5, Fc6, Fc7, Fc8, Fc9, Fc10, Fc11, Fc12⟩ := cells_fabric F;have Flt := (ltH F);have d : Hid _ := B;clear B F;go_wp2;go_ret
  exact ⟨rfl, d.out⟩
 ·skip
  obtain ⟨Fc0, Fc1, Fc2, Fc3, Fc4, Fc5, Fc6, Fc7, Fc8, Fc9, Fc10, Fc11, Fc12⟩ := cells_fabric F;have Flt := (ltH F);go_wp2_with fail
  clear Fc0 Fc1 Fc2 Fc3 Fc4 Fc5 Fc6 Fc7 Fc8 Fc9 Fc10 Fc11 Fc12 Flt;refine (m.out _ B).mono ?_;rintro e f ⟨rfl, b⟩;have k : c.heap.size ≤ f.heap.size := b.size;replace B := below_step B b;replace F := row_keep b F;clear b;obtain ⟨Fc0, Fc1, Fc2, Fc3, Fc4, Fc5, Fc6, Fc7, Fc8, Fc9, Fc10, Fc11, Fc12⟩ := cells_fabric F;have Flt := (ltH F);have d : Hid _ := B;clear B F;go_wp2;go_ret
  exact ⟨rfl, d.out⟩
theorem fabCores_any (x : FabricD) (a1 : Option Addr) (c1 : Nat) (b1 : Option Addr) (d1 : Nat) (a2 : Option Addr) (c2 : Nat) (a3 : Option Addr) (c3 : Nat) (b3 : Option Addr) (d3 : Nat) (a4 : Option Addr) (c4 : Nat) (a5 : Option Addr) (c5 : Nat) (w : World) (hc : codeI x.1.1 x.1.2.1 x.1.2.2.1 x.1.2.2.2 = 0) (R : FabRd w x a1 c1 b1 d1 a2 c2 a3 c3 b3 d3 a4 c4 a5 c5) (hh : Hold w) :
    Calls Tryz.prog 85 #[.agg #[nI x.1.1, nI x.1.2.1, nI x.1.2.2.1, nI x.1.2.2.2, sL a1 x.2.1.1.length c1, sL b1 x.2.1.2.length d1, sL a2 x.2.2.1.length c2, sL a3 x.2.2.2.1.1.length c3, nI x.2.2.2.1.2.1, .bool x.2.2.2.1.2.2.1, sL b3 x.2.2.2.1.2.2.2.length d3, sL a4 x.2.2.2.2.1.length c4, sL a5 x.2.2.2.2.2.length c5]] w fun e w' => e = .returned (.bool (coresFit x)) ∧ Bl w w' := by
 have n : Hid (∀ W, Bl w W → Calls Tryz.prog 118 #[sL a2 x.2.2.1.length c2, .func (.func 148) #[.agg #[nI x.1.1, nI x.1.2.1, nI x.1.2.2.1, nI x.1.2.2.2]] #[]] W fun e w' => e = .returned (.bool (x.2.2.1.all (coreFit x.1.1 x.1.2.1 x.1.2.2.1 x.1.2.2.2))) ∧ Bl W w') := fun W hb => allFitCore a2 x.2.2.1 c2 W (slrd_next R.cores hb) R.coresl (fun u cs V hu hv hr => fitsCore_u x.1.1 x.1.2.1 x.1.2.2.1 x.1.2.2.2 cs u V (hh.goes (below_step hb hv)) hc hr);unfold coresFit;generalize x.2.2.1.all (coreFit x.1.1 x.1.2.1 x.1.2.2.1 x.1.2.2.2) = q2 at n ⊢;clear hc R hh;by_cases c : (x.2.2.1.length : Int) = x.1.1
 ·have o : ((x.2.2.1.length : Int) == x.1.1) = true := by simp [c]
  have g : Hid ((x.2.2.1.length : Int) = x.1.1) := c;clear c;have B := Below.refl w.heap.size w;go_enter Tryz.func85, Tryz.ntmps85;go_upto_region 1 with fail
  generalize a : w.alloc _ = u1w;have F := boxH a;have d := boxB a;have b := boxL a;clear a;replace B := below_step B d;clear d;have j := lE b;have k := lE b.symm;clear b;obtain ⟨Fc0, Fc1, Fc2, Fc3, Fc4, Fc5, Fc6, Fc7, Fc8, Fc9, Fc10, Fc11, Fc12⟩ := cells_fabric F;have Flt := (ltH F);go_wp2_with fail
  clear Fc0 Fc1 Fc2 Fc3 Fc4 Fc5 Fc6 Fc7 Fc8 Fc9 Fc10 Fc11 Fc12 Flt;refine (n.out _ B).mono ?_;rintro e i ⟨rfl, f⟩;have m : u1w.heap.size ≤ i.heap.size := f.size;replace B := below_step B f;replace F := row_keep f F;clear f;obtain ⟨Fc0, Fc1, Fc2, Fc3, Fc4, Fc5, Fc6, Fc7, Fc8, Fc9, Fc10, Fc11, Fc12⟩ := cells_fabric F;have Flt := (ltH F);have l : Hid _ := B;clear B F;go_wp2;go_ret
  exact ⟨by simp [g.out], l.out⟩
 ·have o : ((x.2.2.1.length : Int) == x.1.1) = false := by simp [c]
  have g : Hid (¬ (x.2.2.1.length : Int) = x.1.1) := c;clear c;have B := Below.refl w.heap.size w;go_enter Tryz.func85, Tryz.ntmps85;go_upto_region 1 with fail
  generalize a : w.alloc _ = u1w;have F := boxH a;have d := boxB a;have b := boxL a;clear a;replace B := below_step B d;clear d;have j := lE b;have k := lE b.symm;clear b;obtain ⟨Fc0, Fc1, Fc2, Fc3, Fc4, Fc5, Fc6, Fc7, Fc8, Fc9, Fc10, Fc11, Fc12⟩ := cells_fabric F;have Flt := (ltH F);have l : Hid _ := B;clear B F;go_wp2;go_ret
  exact ⟨by simp [g.out], l.out⟩
theorem fabHouse_any (x : FabricD) (a1 : Option Addr) (c1 : Nat) (b1 : Option Addr) (d1 : Nat) (a2 : Option Addr) (c2 : Nat) (a3 : Option Addr) (c3 : Nat) (b3 : Option Addr) (d3 : Nat) (a4 : Option Addr) (c4 : Nat) (a5 : Option Addr) (c5 : Nat) (w : World) (hc : codeI x.1.1 x.1.2.1 x.1.2.2.1 x.1.2.2.2 = 0) (R : FabRd w x a1 c1 b1 d1 a2 c2 a3 c3 b3 d3 a4 c4 a5 c5) :
    Calls Tryz.prog 84 #[.agg #[nI x.1.1, nI x.1.2.1, nI x.1.2.2.1, nI x.1.2.2.2, sL a1 x.2.1.1.length c1, sL b1 x.2.1.2.length d1, sL a2 x.2.2.1.length c2, sL a3 x.2.2.2.1.1.length c3, nI x.2.2.2.1.2.1, .bool x.2.2.2.1.2.2.1, sL b3 x.2.2.2.1.2.2.2.length d3, sL a4 x.2.2.2.2.1.length c4, sL a5 x.2.2.2.2.2.length c5]] w fun e w' => e = .returned (.bool (houseFit x)) ∧ Bl w w' := by
 have l : Hid _ := fun (W : World) (hb : Bl w W) => implHouseOk_u [sL a1 x.2.1.1.length c1, sL b1 x.2.1.2.length d1] x.2.1 W (rd_next R.house hb)
 have q : Hid (∀ W, Bl w W → Calls Tryz.prog 116 #[sL b1 x.2.1.2.length d1, .func (.func 147) #[.agg #[nI x.1.1, nI x.1.2.1, nI x.1.2.2.1, nI x.1.2.2.2]] #[]] W fun e w' => e = .returned (.bool (x.2.1.2.all (entIn x.1.1))) ∧ Bl W w') := fun W hb => allFitEntry b1 x.2.1.2 d1 W (slrd_next R.book hb) R.bookl (fun u cs V hu hv hr => by
  obtain ⟨s, v, rfl, -, -, -, -, -, -, -, -, r⟩ := ent_rd hr
  exact fitsEntry_any x.1.1 x.1.2.1 x.1.2.2.1 x.1.2.2.2 u s v V hc r)
 unfold houseFit;generalize houseB x.2.1 = q1 at l ⊢;generalize x.2.1.2.all (entIn x.1.1) = q2 at q ⊢;clear hc R;by_cases g : (x.2.1.2.length : Int) = x.1.2.2.2
 ·have y : ((x.2.1.2.length : Int) == x.1.2.2.2) = true := by simp [g]
  have k : Hid ((x.2.1.2.length : Int) = x.1.2.2.2) := g;clear g;have B := Below.refl w.heap.size w;go_enter Tryz.func84, Tryz.ntmps84;go_upto_region 1 with fail
  generalize a : w.alloc _ = u1w;have F := boxH a;have j := boxB a;have f := boxL a;clear a;replace B := below_step B j;clear j;have m := lE f;have n := lE f.symm;clear f;obtain ⟨Fc0, Fc1, Fc2, Fc3, Fc4, Fc5, Fc6, Fc7, Fc8, Fc9, Fc10, Fc11, Fc12⟩ := cells_fabric F;have Flt := (ltH F);go_wp2_with fail
  clear Fc0 Fc1 Fc2 Fc3 Fc4 Fc5 Fc6 Fc7 Fc8 Fc9 Fc10 Fc11 Fc12 Flt;refine (l.out _ B).mono ?_;rintro e c ⟨rfl, b⟩;have i : u1w.heap.size ≤ c.heap.size := b.size;replace B := below_step B b;replace F := row_keep b F;clear b;cases q1
  ·skip
   obtain ⟨Fc0, Fc1, Fc2, Fc3, Fc4, Fc5, Fc6, Fc7, Fc8, Fc9, Fc10, Fc11, Fc12⟩ := cells_fabric F;have Flt := (ltH F);have d : Hid _ := B;clear B F;go_wp2;go_ret
   exact ⟨rfl, d.out⟩
  ·skip
   obtain ⟨Fc0, Fc1, Fc2, Fc3, Fc4, Fc5, Fc6, Fc7, Fc8, Fc9, Fc10, Fc11, Fc12⟩ := cells_fabric F;have Flt := (ltH F);go_wp2_with fail
   clear Fc0 Fc1 Fc2 Fc3 Fc4 Fc5 Fc6 Fc7 Fc8 Fc9 Fc10 Fc11 Fc12 Flt;refine (q.out _ B).mono ?_;rintro e o ⟨rfl, b⟩;have p : c.heap.size ≤ o.heap.size := b.size;replace B := below_step B b;replace F := row_keep b F;clear b;obtain ⟨Fc0, Fc1, Fc2, Fc3, Fc4, Fc5, Fc6, Fc7, Fc8, Fc9, Fc10, Fc11, Fc12⟩ := cells_fabric F;have Flt := (ltH F);have d : Hid _ := B;clear B F;go_wp2;go_ret
   exact ⟨by simp [k.out], d.out⟩
 ·have y : ((x.2.1.2.length : Int) == x.1.2.2.2) = false := by simp [g]
  have k : Hid (¬ (x.2.1.2.length : Int) = x.1.2.2.2) := g;clear g;have B := Below.refl w.heap.size w;go_enter Tryz.func84, Tryz.ntmps84;go_upto_region 1 with fail
  generalize a : w.alloc _ = u1w;have F := boxH a;have j := boxB a;have f := boxL a;clear a;replace B := below_step B j;clear j;have m := lE f;have n := lE f.symm;clear f;obtain ⟨Fc0, Fc1, Fc2, Fc3, Fc4, Fc5, Fc6, Fc7, Fc8, Fc9, Fc10, Fc11, Fc12⟩ := cells_fabric F;have Flt := (ltH F);go_wp2_with fail
  clear Fc0 Fc1 Fc2 Fc3 Fc4 Fc5 Fc6 Fc7 Fc8 Fc9 Fc10 Fc11 Fc12 Flt;refine (l.out _ B).mono ?_;rintro e c ⟨rfl, b⟩;have i : u1w.heap.size ≤ c.heap.size := b.size;replace B := below_step B b;replace F := row_keep b F;clear b;cases q1
  ·skip
   obtain ⟨Fc0, Fc1, Fc2, Fc3, Fc4, Fc5, Fc6, Fc7, Fc8, Fc9, Fc10, Fc11, Fc12⟩ := cells_fabric F;have Flt := (ltH F);have d : Hid _ := B;clear B F;go_wp2;go_ret
   exact ⟨rfl, d.out⟩
  ·skip
   obtain ⟨Fc0, Fc1, Fc2, Fc3, Fc4, Fc5, Fc6, Fc7, Fc8, Fc9, Fc10, Fc11, Fc12⟩ := cells_fabric F;have Flt := (ltH F);have d : Hid _ := B;clear B F;go_wp2;go_ret
   exact ⟨by simp [k.out], d.out⟩
end Go.Proofs.YtdamokokcdcedaaGreatDoor
