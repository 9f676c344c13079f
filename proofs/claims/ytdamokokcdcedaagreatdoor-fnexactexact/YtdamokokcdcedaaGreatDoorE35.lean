import Derived.Test.YtdamokokcdcedaaGreatDoorE00Box
import Derived.Test.YtdamokokcdcedaaGreatDoorE22
import Derived.Test.YtdamokokcdcedaaGreatDoorE33
import Derived.Test.YtdamokokcdcedaaGreatDoorE34
namespace Go.Proofs.YtdamokokcdcedaaGreatDoor
set_option maxHeartbeats 2000000
set_option maxRecDepth 20000
open Go.ChangeShapes Go.WideShapes Go.ChangeAt Go.RowKit
set_option linter.unusedVariables false
structure FabRd (w : World) (x : FabricD) (a1 : Option Addr) (c1 : Nat) (b1 : Option Addr) (d1 : Nat) (a2 : Option Addr) (c2 : Nat) (a3 : Option Addr) (c3 : Nat) (b3 : Option Addr) (d3 : Nat) (a4 : Option Addr) (c4 : Nat) (a5 : Option Addr) (c5 : Nat) : Prop where
 house : houseR.rd w [.slice a1 x.2.1.1.length c1, .slice b1 x.2.1.2.length d1] x.2.1
 book : SlRd entR w b1 x.2.1.2
 bookl : x.2.1.2.length ≤ maxLen
 cores : SlRd coreR w a2 x.2.2.1
 coresl : x.2.2.1.length ≤ maxLen
 dma : dmaR.rd w [.slice a3 x.2.2.2.1.1.length c3, .int .i64 x.2.2.2.1.2.1, .bool x.2.2.2.1.2.2.1, .slice b3 x.2.2.2.1.2.2.2.length d3] x.2.2.2.1
 descs : SlRd descR w a3 x.2.2.2.1.1
 descsl : x.2.2.2.1.1.length ≤ maxLen
 net : SlRd msgR w a4 x.2.2.2.2.1
 netl : x.2.2.2.2.1.length ≤ maxLen
 evs : SlRd eventR w a5 x.2.2.2.2.2
 evsl : x.2.2.2.2.2.length ≤ maxLen
theorem fab_open {w : World} {cs : List Value} {x : FabricD} (h : fabricR.rd w cs x) : ∃ (d : Option Addr) (l : Nat) (i : Option Addr) (k : Nat) (m : Option Addr) (p : Nat) (f : Option Addr) (b : Nat) (o : Option Addr) (g : Nat) (a : Option Addr) (j : Nat) (c : Option Addr) (n : Nat), cs = [nI x.1.1, nI x.1.2.1, nI x.1.2.2.1, nI x.1.2.2.2, sL d x.2.1.1.length l, sL i x.2.1.2.length k, sL m x.2.2.1.length p, sL f x.2.2.2.1.1.length b, nI x.2.2.2.1.2.1, .bool x.2.2.2.1.2.2.1, sL o x.2.2.2.1.2.2.2.length g, sL a x.2.2.2.2.1.length j, sL c x.2.2.2.2.2.length n] ∧ FabRd w x d l i k m p f b o g a j c n := by
 obtain ⟨v0, v1, v2, v3, v4, v5, v6, v7, v8, v9, T, K, cA, rfl, I, s, U, B, V, O⟩ := fabric_rd h;obtain ⟨D, -⟩ := cfg_rd4 I;simp only [List.cons.injEq, and_true] at D;obtain ⟨rfl, rfl, rfl, rfl⟩ := D;obtain ⟨u0, u1, y, ⟨d, l, A, -, -, -⟩, ⟨i, k, q, Y, R, M⟩⟩ := house_rd s;simp only [List.cons.injEq, and_true] at y A q;obtain ⟨rfl, rfl⟩ := y;obtain rfl := A;obtain rfl := q;obtain ⟨m, p, E, J, m2, X⟩ := U;simp only [List.cons.injEq, and_true] at E;obtain rfl := E;obtain ⟨z0, z3, C, ⟨f, b, v, Z, n2, S⟩, -, -, ⟨o, g, F, -, -, -⟩⟩ := dma_rd B;simp only [List.cons.injEq, and_true] at C v F;obtain ⟨rfl, rfl, rfl, rfl⟩ := C;obtain rfl := v;obtain rfl := F;obtain ⟨a, j, z, N, L, q5⟩ := V;simp only [List.cons.injEq, and_true] at z;obtain rfl := z;obtain ⟨c, n, r, t1, H, G⟩ := O;simp only [List.cons.injEq, and_true] at r;obtain rfl := r;exact ⟨d, l, i, k, m, p, f, b, o, g, a, j, c, n, rfl, ⟨s, M, Nat.le_trans Y R, X, Nat.le_trans J m2, B, S, Nat.le_trans Z n2, q5, Nat.le_trans N L, G, Nat.le_trans t1 H⟩⟩
theorem fab_next {w W : World} {x : FabricD} {a1 b1 a2 a3 b3 a4 a5 : Option Addr} {c1 d1 c2 c3 d3 c4 c5 : Nat} (h : FabRd w x a1 c1 b1 d1 a2 c2 a3 c3 b3 d3 a4 c4 a5 c5) (hb : Bl w W) : FabRd W x a1 c1 b1 d1 a2 c2 a3 c3 b3 d3 a4 c4 a5 c5 :=
 ⟨rd_next h.house hb, slrd_next h.book hb, h.bookl, slrd_next h.cores hb, h.coresl, rd_next h.dma hb, slrd_next h.descs hb, h.descsl, slrd_next h.net hb, h.netl, slrd_next h.evs hb, h.evsl⟩
def houseFit (x : FabricD) : Bool := houseB x.2.1 && (decide ((x.2.1.2.length : Int) = x.1.2.2.2) && x.2.1.2.all (entIn x.1.1))
noncomputable def coresFit (x : FabricD) : Bool := decide ((x.2.2.1.length : Int) = x.1.1) && x.2.2.1.all (coreFit x.1.1 x.1.2.1 x.1.2.2.1 x.1.2.2.2)
def netFit (x : FabricD) : Bool := netB x.2.2.2.2.1 && x.2.2.2.2.1.all (msgIn x.1.1 x.1.2.2.2)
theorem fabNet_any (x : FabricD) (a1 : Option Addr) (c1 : Nat) (b1 : Option Addr) (d1 : Nat) (a2 : Option Addr) (c2 : Nat) (a3 : Option Addr) (c3 : Nat) (b3 : Option Addr) (d3 : Nat) (a4 : Option Addr) (c4 : Nat) (a5 : Option Addr) (c5 : Nat) (w : World) (hc : codeI x.1.1 x.1.2.1 x.1.2.2.1 x.1.2.2.2 = 0) (R : FabRd w x a1 c1 b1 d1 a2 c2 a3 c3 b3 d3 a4 c4 a5 c5) :
    Calls Tryz.prog 87 #[.agg #[nI x.1.1, nI x.1.2.1, nI x.1.2.2.1, nI x.1.2.2.2, sL a1 x.2.1.1.length c1, sL b1 x.2.1.2.length d1, sL a2 x.2.2.1.length c2, sL a3 x.2.2.2.1.1.length c3, nI x.2.2.2.1.2.1, .bool x.2.2.2.1.2.2.1, sL b3 x.2.2.2.1.2.2.2.length d3, sL a4 x.2.2.2.2.1.length c4, sL a5 x.2.2.2.2.2.length c5]] w fun e w' => e = .returned (.bool (netFit x)) ∧ Bl w w' := by
 have k : Hid _ := fun (W : World) (hb : Bl w W) => implNetOk_any a4 x.2.2.2.2.1 c4 W (slrd_next R.net hb) R.netl
 have j : Hid (∀ W, Bl w W → Calls Tryz.prog 152 #[sL a4 x.2.2.2.2.1.length c4, .func (.func 153) #[.agg #[nI x.1.1, nI x.1.2.1, nI x.1.2.2.1, nI x.1.2.2.2]] #[]] W fun e w' => e = .returned (.bool (x.2.2.2.2.1.all (msgIn x.1.1 x.1.2.2.2))) ∧ Bl W w') := fun W hb => allFitMsg a4 x.2.2.2.2.1 c4 W (slrd_next R.net hb) R.netl (fun u cs V hu hv hr => by
  obtain ⟨n, o, rfl⟩ := msg_shape hr
  exact fitsLetter_any x.1.1 x.1.2.1 x.1.2.2.1 x.1.2.2.2 u n o V hc)
 unfold netFit;generalize netB x.2.2.2.2.1 = q1 at k ⊢;generalize x.2.2.2.2.1.all (msgIn x.1.1 x.1.2.2.2) = q2 at j ⊢;clear hc R;have B := Below.refl w.heap.size w;go_enter Tryz.func87, Tryz.ntmps87;go_upto_region 1 with fail
 generalize a : w.alloc _ = u1w;have F := boxH a;have i := boxB a;have g := boxL a;clear a;replace B := below_step B i;clear i;have p := lE g;have q := lE g.symm;clear g;obtain ⟨Fc0, Fc1, Fc2, Fc3, Fc4, Fc5, Fc6, Fc7, Fc8, Fc9, Fc10, Fc11, Fc12⟩ := cells_fabric F;have Flt := (ltH F);go_wp2_with fail
 clear Fc0 Fc1 Fc2 Fc3 Fc4 Fc5 Fc6 Fc7 Fc8 Fc9 Fc10 Fc11 Fc12 Flt;refine (k.out _ B).mono ?_;rintro e c ⟨rfl, b⟩;have l : u1w.heap.size ≤ c.heap.size := b.size;replace B := below_step B b;replace F := row_keep b F;clear b;cases q1
 ·skip
  obtain ⟨Fc0, Fc1, Fc2, Fc3, Fc4, Fc5, Fc6, Fc7, Fc8, Fc9, Fc10, Fc11, Fc12⟩ := cells_fabric F;have Flt := (ltH F);have f : Hid _ := B;clear B F;go_wp2;go_ret
  exact ⟨rfl, f.out⟩
 ·skip
  obtain ⟨Fc0, Fc1, Fc2, Fc3, Fc4, Fc5, Fc6, Fc7, Fc8, Fc9, Fc10, Fc11, Fc12⟩ := cells_fabric F;have Flt := (ltH F);go_wp2_with fail
  clear Fc0 Fc1 Fc2 Fc3 Fc4 Fc5 Fc6 Fc7 Fc8 Fc9 Fc10 Fc11 Fc12 Flt;refine (j.out _ B).mono ?_;rintro e d ⟨rfl, b⟩;have m : c.heap.size ≤ d.heap.size := b.size;replace B := below_step B b;replace F := row_keep b F;clear b;obtain ⟨Fc0, Fc1, Fc2, Fc3, Fc4, Fc5, Fc6, Fc7, Fc8, Fc9, Fc10, Fc11, Fc12⟩ := cells_fabric F;have Flt := (ltH F);have f : Hid _ := B;clear B F;go_wp2;go_ret
  exact ⟨rfl, f.out⟩
theorem fabCores_any (x : FabricD) (a1 : Option Addr) (c1 : Nat) (b1 : Option Addr) (d1 : Nat) (a2 : Option Addr) (c2 : Nat) (a3 : Option Addr) (c3 : Nat) (b3 : Option Addr) (d3 : Nat) (a4 : Option Addr) (c4 : Nat) (a5 : Option Addr) (c5 : Nat) (w : World) (hc : codeI x.1.1 x.1.2.1 x.1.2.2.1 x.1.2.2.2 = 0) (R : FabRd w x a1 c1 b1 d1 a2 c2 a3 c3 b3 d3 a4 c4 a5 c5) (hh : Hold w) :
    Calls Tryz.prog 85 #[.agg #[nI x.1.1, nI x.1.2.1, nI x.1.2.2.1, nI x.1.2.2.2, sL a1 x.2.1.1.length c1, sL b1 x.2.1.2.length d1, sL a2 x.2.2.1.length c2, sL a3 x.2.2.2.1.1.length c3, nI x.2.2.2.1.2.1, .bool x.2.2.2.1.2.2.1, sL b3 x.2.2.2.1.2.2.2.length d3, sL a4 x.2.2.2.2.1.length c4, sL a5 x.2.2.2.2.2.length c5]] w fun e w' => e = .returned (.bool (coresFit x)) ∧ Bl w w' := by
 have m : Hid (∀ W, Bl w W → Calls Tryz.prog 118 #[sL a2 x.2.2.1.length c2, .func (.func 148) #[.agg #[nI x.1.1, nI x.1.2.1, nI x.1.2.2.1, nI x.1.2.2.2]] #[]] W fun e w' => e = .returned (.bool (x.2.2.1.all (coreFit x.1.1 x.1.2.1 x.1.2.2.1 x.1.2.2.2))) ∧ Bl W w') := fun W hb => allFitCore a2 x.2.2.1 c2 W (slrd_next R.cores hb) R.coresl (fun u cs V hu hv hr => fitsCore_u x.1.1 x.1.2.1 x.1.2.2.1 x.1.2.2.2 cs u V (hh.goes (below_step hb hv)) hc hr);unfold coresFit;generalize x.2.2.1.all (coreFit x.1.1 x.1.2.1 x.1.2.2.1 x.1.2.2.2) = q2 at m ⊢;clear hc R hh;by_cases c : (x.2.2.1.length : Int) = x.1.1
 ·have o : ((x.2.2.1.length : Int) == x.1.1) = true := by simp [c]
  have i : Hid ((x.2.2.1.length : Int) = x.1.1) := c;clear c;have B := Below.refl w.heap.size w;go_enter Tryz.func85, Tryz.ntmps85;go_upto_region 1 with fail
  generalize a : w.alloc _ = u1w;have F := boxH a;have d := boxB a;have b := boxL a;clear a;replace B := below_step B d;clear d;have j := lE b;have l := lE b.symm;clear b;obtain ⟨Fc0, Fc1, Fc2, Fc3, Fc4, Fc5, Fc6, Fc7, Fc8, Fc9, Fc10, Fc11, Fc12⟩ := cells_fabric F;have Flt := (ltH F);go_wp2_with fail
  clear Fc0 Fc1 Fc2 Fc3 Fc4 Fc5 Fc6 Fc7 Fc8 Fc9 Fc10 Fc11 Fc12 Flt;refine (m.out _ B).mono ?_;rintro e g ⟨rfl, f⟩;have n : u1w.heap.size ≤ g.heap.size := f.size;replace B := below_step B f;replace F := row_keep f F;clear f;obtain ⟨Fc0, Fc1, Fc2, Fc3, Fc4, Fc5, Fc6, Fc7, Fc8, Fc9, Fc10, Fc11, Fc12⟩ := cells_fabric F;have Flt := (ltH F);have k : Hid _ := B;clear B F;go_wp2;go_ret
  exact ⟨by simp [i.out], k.out⟩
 ·have o : ((x.2.2.1.length : Int) == x.1.1) = false := by simp [c]
  have i : Hid (¬ (x.2.2.1.length : Int) = x.1.1) := c;clear c;have B := Below.refl w.heap.size w;go_enter Tryz.func85, Tryz.ntmps85;go_upto_region 1 with fail
  generalize a : w.alloc _ = u1w;have F := boxH a;have d := boxB a;have b := boxL a;clear a;replace B := below_step B d;clear d;have j := lE b;have l := lE b.symm;clear b;obtain ⟨Fc0, Fc1, Fc2, Fc3, Fc4, Fc5, Fc6, Fc7, Fc8, Fc9, Fc10, Fc11, Fc12⟩ := cells_fabric F;have Flt := (ltH F);have k : Hid _ := B;clear B F;go_wp2;go_ret
  exact ⟨by simp [i.out], k.out⟩
theorem fabHouse_any (x : FabricD) (a1 : Option Addr) (c1 : Nat) (b1 : Option Addr) (d1 : Nat) (a2 : Option Addr) (c2 : Nat) (a3 : Option Addr) (c3 : Nat) (b3 : Option Addr) (d3 : Nat) (a4 : Option Addr) (c4 : Nat) (a5 : Option Addr) (c5 : Nat) (w : World) (hc : codeI x.1.1 x.1.2.1 x.1.2.2.1 x.1.2.2.2 = 0) (R : FabRd w x a1 c1 b1 d1 a2 c2 a3 c3 b3 d3 a4 c4 a5 c5) :
    Calls Tryz.prog 84 #[.agg #[nI x.1.1, nI x.1.2.1, nI x.1.2.2.1, nI x.1.2.2.2, sL a1 x.2.1.1.length c1, sL b1 x.2.1.2.length d1, sL a2 x.2.2.1.length c2, sL a3 x.2.2.2.1.1.length c3, nI x.2.2.2.1.2.1, .bool x.2.2.2.1.2.2.1, sL b3 x.2.2.2.1.2.2.2.length d3, sL a4 x.2.2.2.2.1.length c4, sL a5 x.2.2.2.2.2.length c5]] w fun e w' => e = .returned (.bool (houseFit x)) ∧ Bl w w' := by
 have l : Hid _ := fun (W : World) (hb : Bl w W) => implHouseOk_u [sL a1 x.2.1.1.length c1, sL b1 x.2.1.2.length d1] x.2.1 W (rd_next R.house hb)
 have p : Hid (∀ W, Bl w W → Calls Tryz.prog 116 #[sL b1 x.2.1.2.length d1, .func (.func 147) #[.agg #[nI x.1.1, nI x.1.2.1, nI x.1.2.2.1, nI x.1.2.2.2]] #[]] W fun e w' => e = .returned (.bool (x.2.1.2.all (entIn x.1.1))) ∧ Bl W w') := fun W hb => allFitEntry b1 x.2.1.2 d1 W (slrd_next R.book hb) R.bookl (fun u cs V hu hv hr => by
  obtain ⟨r, y, rfl, -, -, -, -, -, -, -, -, s⟩ := ent_rd hr
  exact fitsEntry_any x.1.1 x.1.2.1 x.1.2.2.1 x.1.2.2.2 u r y V hc s)
 unfold houseFit;generalize houseB x.2.1 = q1 at l ⊢;generalize x.2.1.2.all (entIn x.1.1) = q2 at p ⊢;clear hc R;by_cases g : (x.2.1.2.length : Int) = x.1.2.2.2
 ·have v : ((x.2.1.2.length : Int) == x.1.2.2.2) = true := by simp [g]
  have k : Hid ((x.2.1.2.length : Int) = x.1.2.2.2) := g;clear g;have B := Below.refl w.heap.size w;go_enter Tryz.func84, Tryz.ntmps84;go_upto_region 1 with fail
  generalize a : w.alloc _ = u1w;have F := boxH a;have i := boxB a;have f := boxL a;clear a;replace B := below_step B i;clear i;have n := lE f;have o := lE f.symm;clear f;obtain ⟨Fc0, Fc1, Fc2, Fc3, Fc4, Fc5, Fc6, Fc7, Fc8, Fc9, Fc10, Fc11, Fc12⟩ := cells_fabric F;have Flt := (ltH F);go_wp2_with fail
  clear Fc0 Fc1 Fc2 Fc3 Fc4 Fc5 Fc6 Fc7 Fc8 Fc9 Fc10 Fc11 Fc12 Flt;refine (l.out _ B).mono ?_;rintro e c ⟨rfl, b⟩;have j : u1w.heap.size ≤ c.heap.size := b.size;replace B := below_step B b;replace F := row_keep b F;clear b;cases q1
  ·skip
   obtain ⟨Fc0, Fc1, Fc2, Fc3, Fc4, Fc5, Fc6, Fc7, Fc8, Fc9, Fc10, Fc11, Fc12⟩ := cells_fabric F;have Flt := (ltH F);have d : Hid _ := B;clear B F;go_wp2;go_ret
   exact ⟨rfl, d.out⟩
  ·skip
   obtain ⟨Fc0, Fc1, Fc2, Fc3, Fc4, Fc5, Fc6, Fc7, Fc8, Fc9, Fc10, Fc11, Fc12⟩ := cells_fabric F;have Flt := (ltH F);go_wp2_with fail
   clear Fc0 Fc1 Fc2 Fc3 Fc4 Fc5 Fc6 Fc7 Fc8 Fc9 Fc10 Fc11 Fc12 Flt;refine (p.out _ B).mono ?_;rintro e m ⟨rfl, b⟩;have q : c.heap.size ≤ m.heap.size := b.size;replace B := below_step B b;replace F := row_keep b F;clear b;obtain ⟨Fc0, Fc1, Fc2, Fc3, Fc4, Fc5, Fc6, Fc7, Fc8, Fc9, Fc10, Fc11, Fc12⟩ := cells_fabric F;have Flt := (ltH F);have d : Hid _ := B;clear B F;go_wp2;go_ret
   exact ⟨by simp [k.out], d.out⟩
 ·have v : ((x.2.1.2.length : Int) == x.1.2.2.2) = false := by simp [g]
  have k : Hid (¬ (x.2.1.2.length : Int) = x.1.2.2.2) := g;clear g;have B := Below.refl w.heap.size w;go_enter Tryz.func84, Tryz.ntmps84;go_upto_region 1 with fail
  generalize a : w.alloc _ = u1w;have F := boxH a;have i := boxB a;have f := boxL a;clear a;replace B := below_step B i;clear i;have n := lE f;have o := lE f.symm;clear f;obtain ⟨Fc0, Fc1, Fc2, Fc3, Fc4, Fc5, Fc6, Fc7, Fc8, Fc9, Fc10, Fc11, Fc12⟩ := cells_fabric F;have Flt := (ltH F);go_wp2_with fail
  clear Fc0 Fc1 Fc2 Fc3 Fc4 Fc5 Fc6 Fc7 Fc8 Fc9 Fc10 Fc11 Fc12 Flt;refine (l.out _ B).mono ?_;rintro e c ⟨rfl, b⟩;have j : u1w.heap.size ≤ c.heap.size := b.size;replace B := below_step B b;replace F := row_keep b F;clear b;cases q1
  ·skip
   obtain ⟨Fc0, Fc1, Fc2, Fc3, Fc4, Fc5, Fc6, Fc7, Fc8, Fc9, Fc10, Fc11, Fc12⟩ := cells_fabric F;have Flt := (ltH F);have d : Hid _ := B;clear B F;go_wp2;go_ret
   exact ⟨rfl, d.out⟩
  ·skip
   obtain ⟨Fc0, Fc1, Fc2, Fc3, Fc4, Fc5, Fc6, Fc7, Fc8, Fc9, Fc10, Fc11, Fc12⟩ := cells_fabric F;have Flt := (ltH F);have d : Hid _ := B;clear B F;go_wp2;go_ret
   exact ⟨by simp [k.out], d.out⟩
def toldB (u : DescD) (ws : List Int) : Bool := if u.1 then decide (ws.length = 0) else isL ws
def toldL (xs : List DescD) (ys : List (List Int)) : Bool := decide (xs.length = ys.length) && (xs.zip ys).all fun z => toldB z.1 z.2
def descsB (xs : List DescD) : Bool := decide (xs.length ≤ 30) && xs.all descB
def placeB1 (x : DmaD) : Bool := betw x.2.1 0 x.1.length
def waitB1 (x : DmaD) : Bool := !x.2.2.1 || decide (x.2.1 < (x.1.length : Int))
def dmaB (x : DmaD) : Bool := descsB x.1 && (placeB1 x && (waitB1 x && toldL (x.1.take x.2.1.toNat) x.2.2.2))
theorem toldL_no {xs : List DescD} {ys : List (List Int)} {k : Nat} {u : DescD} {v : List Int} (hu : xs[k]? = some u) (hv : ys[k]? = some v) (h : toldB u v = false) : toldL xs ys = false := by
 have a : (u, v) ∈ xs.zip ys := List.mem_of_getElem? (by rw [List.getElem?_zip_eq_some]; exact ⟨hu, hv⟩);have : (xs.zip ys).all (fun z => toldB z.1 z.2) = false := by
  cases q : (xs.zip ys).all (fun z => toldB z.1 z.2)
  ·rfl
  ·have := List.all_eq_true.1 q _ a;simp only at this
   rw [h] at this;cases this
 unfold toldL;rw [this, Bool.and_false]
theorem toldL_yes {xs : List DescD} {ys : List (List Int)} (hl : xs.length = ys.length) (h : ∀ (k : Nat) u v, xs[k]? = some u → ys[k]? = some v → toldB u v = true) : toldL xs ys = true := by
 unfold toldL;rw [decide_eq_true hl, Bool.true_and, List.all_eq_true];rintro ⟨u, v⟩ b;obtain ⟨k, a⟩ := List.getElem?_of_mem b;rw [List.getElem?_zip_eq_some] at a;exact h k u v a.1 a.2
theorem desc_shape {w : World} {cs : List Value} {u : DescD} (h : descR.rd w cs u) : ∃ (ua : Option Addr) (uc : Nat), cs = [.bool u.1, nI u.2.1, nI u.2.2.1, sL ua u.2.2.2.length uc] ∧ SlRd intR w ua u.2.2.2 := by
 obtain ⟨a, c, rfl, -, -, -, -, q⟩ := desc_rd h;exact ⟨a, c, rfl, q⟩
theorem descsOk1_any (u : DescD) (ua : Option Addr) (uc : Nat) (w : World) (h : SlRd intR w ua u.2.2.2) :
    Calls Tryz.prog 239 #[.agg #[.bool u.1, nI u.2.1, nI u.2.2.1, sL ua u.2.2.2.length uc]] w fun e w' => e = .returned (.bool (!descB u)) ∧ Bl w w' := by
 have B := box_below w (.cells #[.bool u.1, nI u.2.1, nI u.2.2.1, sL ua u.2.2.2.length uc] 187);have a : Hid (∀ W, Bl w W → Calls Tryz.prog 240 #[.agg #[.bool u.1, nI u.2.1, nI u.2.2.1, sL ua u.2.2.2.length uc]] W fun e w' => e = .returned (.bool (descB u)) ∧ Bl W w') := fun W hb => implDescOk_any u.1 u.2.1 u.2.2.1 u.2.2.2 ua uc W (slrd_next h hb);generalize descB u = q at a ⊢;clear h;go_enter Tryz.func239, Tryz.ntmps239;go_wp2_with fail
 generalize w.alloc (.cells #[.bool u.1, nI u.2.1, nI u.2.2.1, sL ua u.2.2.2.length uc] 187) = W0 at B ⊢;refine (a.out _ B).mono ?_;rintro e w1 ⟨rfl, b⟩;go_wp2;go_ret
 exact ⟨rfl, below_step B b⟩
theorem idxBadD (a : Option Addr) (xs : List DescD) (cap : Nat) (w : World) (h : SlRd descR w a xs) (hm : xs.length ≤ maxLen) :
    Calls Tryz.prog 265 #[sL a xs.length cap, .func (.func 239) #[] #[]] w fun e w' => e = .returned (nI (badP descB xs)) ∧ Bl w w' := by
 have E : xs.length ≤ 9223372036854775807 := hm;have I : Hid (∀ W, Bl w W → SlRd descR W a xs) := fun W g => slrd_keep h fun k r => g.block k r;clear h hm;go_enter Tryz.func265, Tryz.ntmps265;go_wp2;go_loopw [8] (fun i wr => ∃ k : Nat, k ≤ xs.length ∧ i = nI k ∧ (∀ j v, j < k → xs[j]? = some v → descB v = true) ∧ Bl w wr) (fun i _ => xs.length - (intOf i).toNat)
 case atStart => exact ⟨0, Nat.zero_le _, rfl, fun j v hj => by omega, Below.refl _ _⟩
 case round =>
  obtain ⟨k, r, rfl, f, d⟩ := hrel;by_cases o : k < xs.length
  ·have z : (k : Int) < (xs.length : Int) := by omega
   obtain ⟨u, p⟩ : ∃ x, xs[k]? = some x := ⟨_, List.getElem?_eq_getElem o⟩;obtain ⟨bb, G, cs, rfl, c, b⟩ := slrd_at (I.out _ d) p;obtain ⟨H, F, rfl, s⟩ := desc_shape c;have m := descsOk1_any u H F wr s;obtain ⟨y, A, C, B⟩ := cellsAt4 b rfl;have q : Hid (xs[k]? = some u) := p;clear p b c s;cases g : descB u
   ·have n : Hid (badP descB xs = k) := badP_at q.out g f;rw [g] at m;go_wp2_with fail
    refine m.mono ?_;rintro e D ⟨rfl, l⟩;replace d := below_step d l;clear l y A C B;go_wp2;go_ret
    exact ⟨ret_int n.out.symm, d⟩
   ·rw [g] at m;go_wp2_with fail
    refine m.mono ?_;rintro e D ⟨rfl, l⟩;replace d := below_step d l;clear l y A C B;go_wp2;go_roundw
    case rel =>
     refine ⟨k + 1, by omega, by go_num, fun j v hj hv => ?_, d⟩;by_cases J : j < k
     ·exact f j v J hv
     ·have : j = k := by omega
      subst this;rw [q.out] at hv;cases hv;exact g
    case measure => simp [intOf]; omega
  ·have n : Hid (badP descB xs = -1) := badP_no fun j v hv => f j v (by have := (List.getElem?_eq_some_iff.1 hv).1; omega) hv;go_wp2;go_ret
   exact ⟨ret_int n.out.symm, d⟩
theorem conBadD (a : Option Addr) (xs : List DescD) (cap : Nat) (w : World) (h : SlRd descR w a xs) (hm : xs.length ≤ maxLen) :
    Calls Tryz.prog 238 #[sL a xs.length cap, .func (.func 239) #[] #[]] w fun e w' => e = .returned (.bool (!xs.all descB)) ∧ Bl w w' := by
 have f := idxBadD a xs cap w h hm;have b := badP_all descB xs;clear h hm;generalize badP descB xs = q at f b;generalize xs.all descB = y at b ⊢;subst b;by_cases g : q < 0
 ·have c : ¬ (0 ≤ q) := by omega
  go_enter Tryz.func238, Tryz.ntmps238;go_wp2_with fail
  refine f.mono ?_;rintro e i ⟨rfl, d⟩;go_wp2;go_ret
  exact ⟨by simp [g], d⟩
 ·have c : 0 ≤ q := by omega
  go_enter Tryz.func238, Tryz.ntmps238;go_wp2_with fail
  refine f.mono ?_;rintro e i ⟨rfl, d⟩;go_wp2;go_ret
  exact ⟨by simp [g], d⟩
theorem implDescsOk_any (a : Option Addr) (xs : List DescD) (cap : Nat) (w : World) (h : SlRd descR w a xs) (hm : xs.length ≤ maxLen) :
    Calls Tryz.prog 199 #[sL a xs.length cap] w fun e w' => e = .returned (.bool (descsB xs)) ∧ Bl w w' := by
 have c := conBadD a xs cap w h hm;have g : xs.length ≤ 9223372036854775807 := hm;unfold descsB;generalize xs.all descB = y at c ⊢;clear h hm;by_cases d : xs.length ≤ 30
 ·have b : (xs.length : Int) ≤ 30 := by omega
  go_enter Tryz.func199, Tryz.ntmps199;go_wp2_with fail
  refine c.mono ?_;rintro e w1 ⟨rfl, f⟩;go_wp2;go_ret
  exact ⟨by simp [d], f⟩
 ·have b : ¬ ((xs.length : Int) ≤ 30) := by omega
  go_enter Tryz.func199, Tryz.ntmps199;go_wp2;go_ret
  exact ⟨by simp, Below.refl _ _⟩
theorem queue_any (x : DmaD) (a b : Option Addr) (ca cb : Nat) (w : World) :
    Calls Tryz.prog 173 #[.agg #[sL a x.1.length ca, nI x.2.1, .bool x.2.2.1, sL b x.2.2.2.length cb]] w fun e w' => e = .returned (.agg #[sL a x.1.length ca, nI x.2.1]) ∧ Bl w w' := by
 have c : Hid (∀ o o', Bl w ((w.alloc o).alloc o')) := fun o o' => below_step (box_below w o) (box_below _ o');go_enter Tryz.func173, Tryz.ntmps173;go_wp2;refine bodyPost_ret (v := .agg #[sL a x.1.length ca, nI x.2.1]) (by simp [results, Tryz.results173, go_sem]) rfl ⟨rfl, ?_⟩;exact c.out _ _
theorem place_any (x : DmaD) (a : Option Addr) (ca : Nat) (w : World) (hl : x.1.length ≤ maxLen) :
    Calls Tryz.prog 200 #[.agg #[sL a x.1.length ca, nI x.2.1]] w fun e w' => e = .returned (.bool (placeB1 x)) ∧ Bl w w' := by
 have d : x.1.length ≤ 9223372036854775807 := hl;have B := box_below w (.cells #[sL a x.1.length ca, nI x.2.1] 222);have b : Hid (∀ W, Calls Tryz.prog 156 #[nI x.2.1, nI 0, nI (x.1.length : Int)] W fun e w' => e = .returned (.bool (placeB1 x)) ∧ Bl W w') := fun W => (between_any x.2.1 0 x.1.length W).mono fun e w' ⟨q, r⟩ => ⟨q, be_eq r⟩;generalize placeB1 x = q at b ⊢;clear hl;go_enter Tryz.func200, Tryz.ntmps200;go_wp2_with fail
 generalize w.alloc (.cells #[sL a x.1.length ca, nI x.2.1] 222) = W0 at B ⊢;refine (b.out _).mono ?_;rintro e w1 ⟨rfl, c⟩;replace B := below_step B c;clear c;go_wp2;go_ret
 exact ⟨rfl, B⟩
theorem hasNext_any (x : DmaD) (a : Option Addr) (ca : Nat) (w : World) (hl : x.1.length ≤ maxLen) :
    Calls Tryz.prog 174 #[.agg #[sL a x.1.length ca, nI x.2.1]] w fun e w' => e = .returned (.bool (decide (x.2.1 < (x.1.length : Int)))) ∧ Bl w w' := by
 have d : x.1.length ≤ 9223372036854775807 := hl;have c : Hid _ := box_below w (.cells #[sL a x.1.length ca, nI x.2.1] 222);clear hl;by_cases b : x.2.1 < (x.1.length : Int)
 ·go_enter Tryz.func174, Tryz.ntmps174;go_wp2;go_ret
  exact ⟨by simp [b], c.out⟩
 ·go_enter Tryz.func174, Tryz.ntmps174;go_wp2;go_ret
  exact ⟨by simp [b], c.out⟩
theorem done_any (x : DmaD) (a : Option Addr) (ca : Nat) (w : World) (h0 : 0 ≤ x.2.1) (h1 : x.2.1 ≤ (x.1.length : Int)) (h2 : x.1.length ≤ ca) (h3 : ca ≤ maxLen) :
    Calls Tryz.prog 203 #[.agg #[sL a x.1.length ca, nI x.2.1]] w fun e w' => e = .returned (sL a x.2.1.toNat ca) ∧ Bl w w' := by
 have d : ca ≤ 9223372036854775807 := h3;have f : Hid (∀ o, Bl w (w.alloc o)) := fun o => box_below w o;obtain ⟨n, b⟩ : ∃ n : Nat, x.2.1 = n := ⟨x.2.1.toNat, by omega⟩;rw [b] at h1 ⊢;have i : n ≤ x.1.length := by omega
 have c : n ≤ ca := by omega
 have g : (n : Int) ≤ (ca : Int) := by omega
 clear h0 h3 b;go_enter Tryz.func203, Tryz.ntmps203;go_wp2;go_ret
 exact ⟨by simp, f.out _⟩
theorem waitsOk_any (x : DmaD) (a b : Option Addr) (ca cb : Nat) (w : World) (hl : x.1.length ≤ maxLen) :
    Calls Tryz.prog 201 #[.agg #[sL a x.1.length ca, nI x.2.1, .bool x.2.2.1, sL b x.2.2.2.length cb]] w fun e w' => e = .returned (.bool (waitB1 x)) ∧ Bl w w' := by
 have k : Hid (∀ W, Calls Tryz.prog 173 #[.agg #[sL a x.1.length ca, nI x.2.1, .bool x.2.2.1, sL b x.2.2.2.length cb]] W fun e w' => e = .returned (.agg #[sL a x.1.length ca, nI x.2.1]) ∧ Bl W w') := fun W => queue_any x a b ca cb W;have o : Hid (∀ W, Calls Tryz.prog 174 #[.agg #[sL a x.1.length ca, nI x.2.1]] W fun e w' => e = .returned (.bool (decide (x.2.1 < (x.1.length : Int)))) ∧ Bl W w') := fun W => hasNext_any x a ca W hl;unfold waitB1;generalize decide (x.2.1 < (x.1.length : Int)) = q2 at o ⊢;clear hl;cases q : x.2.2.1
 ·skip
  rw [q] at k;have B := Below.refl w.heap.size w;go_enter Tryz.func201, Tryz.ntmps201;go_upto_region 1 with fail
  generalize c : w.alloc _ = u1w;have D := boxH c;have i := boxB c;have f := boxL c;clear c;replace B := below_step B i;clear i;have n := lE f;have j := lE f.symm;clear f;obtain ⟨Dc0, Dc1, Dc2, Dc3⟩ := cells_4 D;have Dlt := (ltH D);have m : Hid _ := B;clear B D;go_wp2;go_ret
  exact ⟨by simp, m.out⟩
 ·skip
  rw [q] at k;have B := Below.refl w.heap.size w;go_enter Tryz.func201, Tryz.ntmps201;go_upto_region 1 with fail
  generalize c : w.alloc _ = u1w;have D := boxH c;have i := boxB c;have f := boxL c;clear c;replace B := below_step B i;clear i;have n := lE f;have j := lE f.symm;clear f;obtain ⟨Dc0, Dc1, Dc2, Dc3⟩ := cells_4 D;have Dlt := (ltH D);go_wp2_with fail
  clear Dc0 Dc1 Dc2 Dc3 Dlt;refine (k.out _).mono ?_;rintro e g ⟨rfl, d⟩;have p : u1w.heap.size ≤ g.heap.size := d.size;replace B := below_step B d;replace D := row_keep d D;clear d;obtain ⟨Dc0, Dc1, Dc2, Dc3⟩ := cells_4 D;have Dlt := (ltH D);go_wp2_with fail
  clear Dc0 Dc1 Dc2 Dc3 Dlt;refine (o.out _).mono ?_;rintro e l ⟨rfl, d⟩;have r : g.heap.size ≤ l.heap.size := d.size;replace B := below_step B d;replace D := row_keep d D;clear d;obtain ⟨Dc0, Dc1, Dc2, Dc3⟩ := cells_4 D;have Dlt := (ltH D);have m : Hid _ := B;clear B D;go_wp2;go_ret
  exact ⟨by simp, m.out⟩
theorem toldOk_any (u : DescD) (ua : Option Addr) (uc : Nat) (ws : List Int) (wa : Option Addr) (wc : Nat) (w : World) (h : SlRd intR w wa ws) (hl : ws.length ≤ maxLen) :
    Calls Tryz.prog 204 #[.agg #[.bool u.1, nI u.2.1, nI u.2.2.1, sL ua u.2.2.2.length uc], sL wa ws.length wc] w fun e w' => e = .returned (.bool (toldB u ws)) ∧ Bl w w' := by
 have o : Hid (∀ W, Bl w W → Calls Tryz.prog 91 #[sL wa ws.length wc] W fun e w' => e = .returned (.bool (isL ws)) ∧ Bl W w') := fun W hb => implLineOk_any wa ws wc W (reads_of (slrd_next h hb));have p : ws.length ≤ 9223372036854775807 := hl;unfold toldB;clear h hl;cases hw : u.1
 ·skip
  have B := Below.refl w.heap.size w;go_enter Tryz.func204, Tryz.ntmps204;go_upto_region 1 with fail
  generalize a : w.alloc _ = u1w;have D := boxH a;have c := boxB a;have b := boxL a;clear a;replace B := below_step B c;clear c;have i := lE b;have f := lE b.symm;clear b;obtain ⟨Dc0, Dc1, Dc2, Dc3⟩ := cells_4 D;have Dlt := (ltH D);go_wp2_with fail
  clear Dc0 Dc1 Dc2 Dc3 Dlt;refine (o.out _ B).mono ?_;rintro e k ⟨rfl, j⟩;have m : u1w.heap.size ≤ k.heap.size := j.size;replace B := below_step B j;replace D := row_keep j D;clear j;obtain ⟨Dc0, Dc1, Dc2, Dc3⟩ := cells_4 D;have Dlt := (ltH D);have g : Hid _ := B;clear B D;go_wp2;go_ret
  exact ⟨by simp, g.out⟩
 ·by_cases d : ws.length = 0
  ·have n : ((ws.length : Int) == 0) = true := by simp [d]
   have l : Hid (ws = []) := List.length_eq_zero_iff.1 d;clear d;have B := Below.refl w.heap.size w;go_enter Tryz.func204, Tryz.ntmps204;go_upto_region 1 with fail
   generalize a : w.alloc _ = u1w;have D := boxH a;have c := boxB a;have b := boxL a;clear a;replace B := below_step B c;clear c;have i := lE b;have f := lE b.symm;clear b;obtain ⟨Dc0, Dc1, Dc2, Dc3⟩ := cells_4 D;have Dlt := (ltH D);have g : Hid _ := B;clear B D;go_wp2;go_ret
   exact ⟨by simp [l.out], g.out⟩
  ·have n : ((ws.length : Int) == 0) = false := by simp [d]
   have l : Hid (¬ ws = []) := fun q => d (List.length_eq_zero_iff.2 q);clear d;have B := Below.refl w.heap.size w;go_enter Tryz.func204, Tryz.ntmps204;go_upto_region 1 with fail
   generalize a : w.alloc _ = u1w;have D := boxH a;have c := boxB a;have b := boxL a;clear a;replace B := below_step B c;clear c;have i := lE b;have f := lE b.symm;clear b;obtain ⟨Dc0, Dc1, Dc2, Dc3⟩ := cells_4 D;have Dlt := (ltH D);have g : Hid _ := B;clear B D;go_wp2;go_ret
   exact ⟨by simp [l.out], g.out⟩
theorem eqFn_any (a b : Option Addr) (xs : List DescD) (ys : List (List Int)) (ca cb : Nat) (w : World) (h1 : SlRd descR w a xs) (h2 : SlRd intsR w b ys) (m1 : xs.length ≤ maxLen) (m2 : ys.length ≤ maxLen) :
    Calls Tryz.prog 202 #[sL a xs.length ca, sL b ys.length cb, .func (.func 204) #[] #[]] w fun e w' => e = .returned (.bool (toldL xs ys)) ∧ Bl w w' := by
 have X : xs.length ≤ 9223372036854775807 := m1;have J : ys.length ≤ 9223372036854775807 := m2;by_cases s : xs.length = ys.length
 ·have G : Hid (xs.length = ys.length) := s;have hz : ((xs.length : Int) != (xs.length : Int)) = false := by simp
  have H1 : Hid (∀ W, Bl w W → SlRd descR W a xs) := fun W f => slrd_next h1 f;have V : Hid (∀ W, Bl w W → SlRd intsR W b ys) := fun W f => slrd_next h2 f;rw [← s];clear h1 h2 m1 m2 s J;go_enter Tryz.func202, Tryz.ntmps202;go_wp2;go_loopw [17] (fun i wr => ∃ k : Nat, k ≤ xs.length ∧ i = nI k ∧ (∀ j u v, j < k → xs[j]? = some u → ys[j]? = some v → toldB u v = true) ∧ Bl w wr) (fun i _ => xs.length - (intOf i).toNat)
  case atStart => exact ⟨0, Nat.zero_le _, rfl, fun j u v hj => by omega, Below.refl _ _⟩
  case round =>
   obtain ⟨k, hk, rfl, o, g⟩ := hrel;by_cases F : k < xs.length
   ·have M : (k : Int) < (xs.length : Int) := by omega
    obtain ⟨u, I⟩ : ∃ x, xs[k]? = some x := ⟨_, List.getElem?_eq_getElem F⟩;obtain ⟨v, y⟩ : ∃ v, ys[k]? = some v := ⟨_, List.getElem?_eq_getElem (by have := G.out; omega)⟩;obtain ⟨bb, aA, cs, rfl, l, d⟩ := slrd_at (H1.out _ g) I;obtain ⟨E, D, rfl, -⟩ := desc_shape l;obtain ⟨bc, p, ds, rfl, q, c⟩ := slrd_at (V.out _ g) y;obtain ⟨K, wc, rfl, n1, Y, L⟩ := q;obtain ⟨H, O, S, R⟩ := cellsAt4 d rfl;have B := c 0 _ rfl;rw [show p + (k * intsR.size + 0) = p + k from by rw [show intsR.size = 1 from rfl]; omega] at B;have A : Hid (∀ W, Bl wr W → Calls Tryz.prog 204 #[.agg #[.bool u.1, nI u.2.1, nI u.2.2.1, sL E u.2.2.2.length D], sL K v.length wc] W fun e w' => e = .returned (.bool (toldB u v)) ∧ Bl W w') := fun W f => toldOk_any u E D v K wc W (slrd_next L f) (Nat.le_trans n1 Y);have z : Hid (xs[k]? = some u ∧ ys[k]? = some v) := ⟨I, y⟩;have T : bc < wr.heap.size := cell_lt B;have Z : bb < wr.heap.size := cell_lt H;have gA : k < ys.length := by have := G.out; omega
    have N : (k : Int) < (ys.length : Int) := by omega
    clear I y d c l L;have m := box_below wr (.cells #[.bool u.1, nI u.2.1, nI u.2.2.1, sL E u.2.2.2.length D] 187);cases f : toldB u v
    ·have n : Hid (toldL xs ys = false) := toldL_no z.out.1 z.out.2 f;rw [f] at A;go_wp2_with fail
     refine (A.out _ m).mono ?_;rintro e U ⟨rfl, r⟩;replace g := below_step (below_step g m) r;clear r m H O S R B;go_wp2;go_ret
     exact ⟨ret_bool n.out.symm, g⟩
    ·rw [f] at A;go_wp2_with fail
     refine (A.out _ m).mono ?_;rintro e U ⟨rfl, r⟩;replace g := below_step (below_step g m) r;clear r m H O S R B;go_wp2;go_roundw
     case rel =>
      refine ⟨k + 1, by omega, by go_num, fun j u' v' hj hu' hv' => ?_, g⟩;by_cases C : j < k
      ·exact o j u' v' C hu' hv'
      ·have : j = k := by omega
       subst this;rw [z.out.1] at hu';rw [z.out.2] at hv';cases hu'
       cases hv'
       exact f
     case measure => simp [intOf]; omega
   ·have n : Hid (toldL xs ys = true) := toldL_yes G.out fun j u v hu y => o j u v (by have := (List.getElem?_eq_some_iff.1 hu).1; omega) hu y;go_wp2;go_ret
    exact ⟨ret_bool n.out.symm, g⟩
 ·have hz : ((xs.length : Int) != (ys.length : Int)) = true := by simp; omega
  have n : Hid (toldL xs ys = false) := by unfold Hid toldL; rw [decide_eq_false s, Bool.false_and]
  clear h1 h2 m1 m2 s;go_enter Tryz.func202, Tryz.ntmps202;go_wp2;go_ret
  exact ⟨ret_bool n.out.symm, Below.refl _ _⟩
end Go.Proofs.YtdamokokcdcedaaGreatDoor
