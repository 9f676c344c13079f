import Derived.Test.YtdamokokcdcedaaGreatDoorF00Box
import Derived.Test.YtdamokokcdcedaaGreatDoorF24
import Derived.Test.YtdamokokcdcedaaGreatDoorF35
import Derived.Test.YtdamokokcdcedaaGreatDoorF36
namespace Go.Proofs.YtdamokokcdcedaaGreatDoor
set_option maxHeartbeats 2000000
set_option maxRecDepth 20000
open Go.ChangeShapes Go.WideShapes Go.ChangeAt Go.RowKit
set_option linter.unusedVariables false
structure FabRd (w : World) (x : FabricD) (a1 : Option Addr) (c1 : Nat) (b1 : Option Addr) (d1 : Nat) (a2 : Option Addr) (c2 : Nat) (a3 : Option Addr) (c3 : Nat) (b3 : Option Addr) (d3 : Nat) (a4 : Option Addr) (c4 : Nat) (a5 : Option Addr) (c5 : Nat) : Prop where
 house : houseR.rd w [.slice a1 x.2.1.1.length c1, .slice b1 x.2.1.2.length d1] x.2.1
 book : SlRd entR w b1 x.2.1.2
 bookl : x.2.1.2.length ≤ maxLen
 cores : SlRd coreR w a2 x.2.2.1
 coresl : x.2.2.1.length ≤ maxLen
 dma : dmaR.rd w [.slice a3 x.2.2.2.1.1.length c3, .int .i64 x.2.2.2.1.2.1, .bool x.2.2.2.1.2.2.1, .slice b3 x.2.2.2.1.2.2.2.length d3] x.2.2.2.1
 descs : SlRd descR w a3 x.2.2.2.1.1
 descsl : x.2.2.2.1.1.length ≤ maxLen
 net : SlRd msgR w a4 x.2.2.2.2.1
 netl : x.2.2.2.2.1.length ≤ maxLen
 evs : SlRd eventR w a5 x.2.2.2.2.2
 evsl : x.2.2.2.2.2.length ≤ maxLen
theorem fab_open {w : World} {cs : List Value} {x : FabricD} (h : fabricR.rd w cs x) : ∃ (b : Option Addr) (d : Nat) (c : Option Addr) (i : Nat) (k : Option Addr) (a : Nat) (m : Option Addr) (g : Nat) (p : Option Addr) (f : Nat) (j : Option Addr) (l : Nat) (n : Option Addr) (o : Nat), cs = [nI x.1.1, nI x.1.2.1, nI x.1.2.2.1, nI x.1.2.2.2, sL b x.2.1.1.length d, sL c x.2.1.2.length i, sL k x.2.2.1.length a, sL m x.2.2.2.1.1.length g, nI x.2.2.2.1.2.1, .bool x.2.2.2.1.2.2.1, sL p x.2.2.2.1.2.2.2.length f, sL j x.2.2.2.2.1.length l, sL n x.2.2.2.2.2.length o] ∧ FabRd w x b d c i k a m g p f j l n o := by
 obtain ⟨v0, v1, v2, v3, v4, v5, v6, v7, v8, v9, cA, S, U, rfl, H, y, N, v, Z, r5⟩ := fabric_rd h;obtain ⟨B, -⟩ := cfg_rd4 H;simp only [List.cons.injEq, and_true] at B;obtain ⟨rfl, rfl, rfl, rfl⟩ := B;obtain ⟨u0, u1, E, ⟨b, d, r, -, -, -⟩, ⟨c, i, s, J, M, Y⟩⟩ := house_rd y;simp only [List.cons.injEq, and_true] at E r s;obtain ⟨rfl, rfl⟩ := E;obtain rfl := r;obtain rfl := s;obtain ⟨k, a, C, V, T, O⟩ := N;simp only [List.cons.injEq, and_true] at C;obtain rfl := C;obtain ⟨z0, z3, q, ⟨m, g, F, n1, X, G⟩, -, -, ⟨p, f, A, -, -, -⟩⟩ := dma_rd v;simp only [List.cons.injEq, and_true] at q F A;obtain ⟨rfl, rfl, rfl, rfl⟩ := q;obtain rfl := F;obtain rfl := A;obtain ⟨j, l, z, s1, R, I⟩ := Z;simp only [List.cons.injEq, and_true] at z;obtain rfl := z;obtain ⟨n, o, D, K, L, q6⟩ := r5;simp only [List.cons.injEq, and_true] at D;obtain rfl := D;exact ⟨b, d, c, i, k, a, m, g, p, f, j, l, n, o, rfl, ⟨y, Y, Nat.le_trans J M, O, Nat.le_trans V T, v, G, Nat.le_trans n1 X, I, Nat.le_trans s1 R, q6, Nat.le_trans K L⟩⟩
theorem fab_next {w W : World} {x : FabricD} {a1 b1 a2 a3 b3 a4 a5 : Option Addr} {c1 d1 c2 c3 d3 c4 c5 : Nat} (h : FabRd w x a1 c1 b1 d1 a2 c2 a3 c3 b3 d3 a4 c4 a5 c5) (hb : Bl w W) : FabRd W x a1 c1 b1 d1 a2 c2 a3 c3 b3 d3 a4 c4 a5 c5 :=
 ⟨rd_next h.house hb, slrd_next h.book hb, h.bookl, slrd_next h.cores hb, h.coresl, rd_next h.dma hb, slrd_next h.descs hb, h.descsl, slrd_next h.net hb, h.netl, slrd_next h.evs hb, h.evsl⟩
def houseFit (x : FabricD) : Bool := houseB x.2.1 && (decide ((x.2.1.2.length : Int) = x.1.2.2.2) && x.2.1.2.all (entIn x.1.1))
noncomputable def coresFit (x : FabricD) : Bool := decide ((x.2.2.1.length : Int) = x.1.1) && x.2.2.1.all (coreFit x.1.1 x.1.2.1 x.1.2.2.1 x.1.2.2.2)
def netFit (x : FabricD) : Bool := netB x.2.2.2.2.1 && x.2.2.2.2.1.all (msgIn x.1.1 x.1.2.2.2)
theorem fabNet_any (x : FabricD) (a1 : Option Addr) (c1 : Nat) (b1 : Option Addr) (d1 : Nat) (a2 : Option Addr) (c2 : Nat) (a3 : Option Addr) (c3 : Nat) (b3 : Option Addr) (d3 : Nat) (a4 : Option Addr) (c4 : Nat) (a5 : Option Addr) (c5 : Nat) (w : World) (hc : codeI x.1.1 x.1.2.1 x.1.2.2.1 x.1.2.2.2 = 0) (R : FabRd w x a1 c1 b1 d1 a2 c2 a3 c3 b3 d3 a4 c4 a5 c5) :
    Calls Tryz.prog 87 #[.agg #[nI x.1.1, nI x.1.2.1, nI x.1.2.2.1, nI x.1.2.2.2, sL a1 x.2.1.1.length c1, sL b1 x.2.1.2.length d1, sL a2 x.2.2.1.length c2, sL a3 x.2.2.2.1.1.length c3, nI x.2.2.2.1.2.1, .bool x.2.2.2.1.2.2.1, sL b3 x.2.2.2.1.2.2.2.length d3, sL a4 x.2.2.2.2.1.length c4, sL a5 x.2.2.2.2.2.length c5]] w fun e w' => e = .returned (.bool (netFit x)) ∧ Bl w w' := by
 have k : Hid _ := fun (W : World) (hb : Bl w W) => implNetOk_any a4 x.2.2.2.2.1 c4 W (slrd_next R.net hb) R.netl
 have j : Hid (∀ W, Bl w W → Calls Tryz.prog 152 #[sL a4 x.2.2.2.2.1.length c4, .func (.func 153) #[.agg #[nI x.1.1, nI x.1.2.1, nI x.1.2.2.1, nI x.1.2.2.2]] #[]] W fun e w' => e = .returned (.bool (x.2.2.2.2.1.all (msgIn x.1.1 x.1.2.2.2))) ∧ Bl W w') := fun W hb => allFitMsg a4 x.2.2.2.2.1 c4 W (slrd_next R.net hb) R.netl (fun u cs V hu hv hr => by
  obtain ⟨n, q, rfl⟩ := msg_shape hr
  exact fitsLetter_any x.1.1 x.1.2.1 x.1.2.2.1 x.1.2.2.2 u n q V hc)
 unfold netFit;generalize netB x.2.2.2.2.1 = q1 at k ⊢;generalize x.2.2.2.2.1.all (msgIn x.1.1 x.1.2.2.2) = q2 at j ⊢;clear hc R;have B := Below.refl w.heap.size w;go_enter Tryz.func87, Tryz.ntmps87;go_upto_region 1 with fail
 generalize a : w.alloc _ = u1w;have F := boxH a;have i := boxB a;have d := boxL a;clear a;replace B := below_step B i;clear i;have p := lE d;have o := lE d.symm;clear d;obtain ⟨Fc0, Fc1, Fc2, Fc3, Fc4, Fc5, Fc6, Fc7, Fc8, Fc9, Fc10, Fc11, Fc12⟩ := cells_fabric F;have Flt := (ltH F);go_wp2_with fail
 clear Fc0 Fc1 Fc2 Fc3 Fc4 Fc5 Fc6 Fc7 Fc8 Fc9 Fc10 Fc11 Fc12 Flt;refine (k.out _ B).mono ?_;rintro e c ⟨rfl, b⟩;have m : u1w.heap.size ≤ c.heap.size := b.size;replace B := below_step B b;replace F := row_keep b F;clear b;cases q1
 ·skip
  obtain ⟨Fc0, Fc1, Fc2, Fc3, Fc4, Fc5, Fc6, Fc7, Fc8, Fc9, Fc10, Fc11, Fc12⟩ := cells_fabric F;have Flt := (ltH F);have f : Hid _ := B;clear B F;go_wp2;go_ret
  exact ⟨rfl, f.out⟩
 ·skip
  obtain ⟨Fc0, Fc1, Fc2, Fc3, Fc4, Fc5, Fc6, Fc7, Fc8, Fc9, Fc10, Fc11, Fc12⟩ := cells_fabric F;have Flt := (ltH F);go_wp2_with fail
  clear Fc0 Fc1 Fc2 Fc3 Fc4 Fc5 Fc6 Fc7 Fc8 Fc9 Fc10 Fc11 Fc12 Flt;refine (j.out _ B).mono ?_;rintro e g ⟨rfl, b⟩;have l : c.heap.size ≤ g.heap.size := b.size;replace B := below_step B b;replace F := row_keep b F;clear b;obtain ⟨Fc0, Fc1, Fc2, Fc3, Fc4, Fc5, Fc6, Fc7, Fc8, Fc9, Fc10, Fc11, Fc12⟩ := cells_fabric F;have Flt := (ltH F);have f : Hid _ := B;clear B F;go_wp2;go_ret
  exact ⟨rfl, f.out⟩
theorem fabCores_any (x : FabricD) (a1 : Option Addr) (c1 : Nat) (b1 : Option Addr) (d1 : Nat) (a2 : Option Addr) (c2 : Nat) (a3 : Option Addr) (c3 : Nat) (b3 : Option Addr) (d3 : Nat) (a4 : Option Addr) (c4 : Nat) (a5 : Option Addr) (c5 : Nat) (w : World) (hc : codeI x.1.1 x.1.2.1 x.1.2.2.1 x.1.2.2.2 = 0) (R : FabRd w x a1 c1 b1 d1 a2 c2 a3 c3 b3 d3 a4 c4 a5 c5) (hh : Hold w) :
    Calls Tryz.prog 85 #[.agg #[nI x.1.1, nI x.1.2.1, nI x.1.2.2.1, nI x.1.2.2.2, sL a1 x.2.1.1.length c1, sL b1 x.2.1.2.length d1, sL a2 x.2.2.1.length c2, sL a3 x.2.2.2.1.1.length c3, nI x.2.2.2.1.2.1, .bool x.2.2.2.1.2.2.1, sL b3 x.2.2.2.1.2.2.2.length d3, sL a4 x.2.2.2.2.1.length c4, sL a5 x.2.2.2.2.2.length c5]] w fun e w' => e = .returned (.bool (coresFit x)) ∧ Bl w w' := by
 have m : Hid (∀ W, Bl w W → Calls Tryz.prog 118 #[sL a2 x.2.2.1.length c2, .func (.func 148) #[.agg #[nI x.1.1, nI x.1.2.1, nI x.1.2.2.1, nI x.1.2.2.2]] #[]] W fun e w' => e = .returned (.bool (x.2.2.1.all (coreFit x.1.1 x.1.2.1 x.1.2.2.1 x.1.2.2.2))) ∧ Bl W w') := fun W hb => allFitCore a2 x.2.2.1 c2 W (slrd_next R.cores hb) R.coresl (fun u cs V hu hv hr => fitsCore_u x.1.1 x.1.2.1 x.1.2.2.1 x.1.2.2.2 cs u V (hh.goes (below_step hb hv)) hc hr);unfold coresFit;generalize x.2.2.1.all (coreFit x.1.1 x.1.2.1 x.1.2.2.1 x.1.2.2.2) = q2 at m ⊢;clear hc R hh;by_cases c : (x.2.2.1.length : Int) = x.1.1
 ·have o : ((x.2.2.1.length : Int) == x.1.1) = true := by simp [c]
  have l : Hid ((x.2.2.1.length : Int) = x.1.1) := c;clear c;have B := Below.refl w.heap.size w;go_enter Tryz.func85, Tryz.ntmps85;go_upto_region 1 with fail
  generalize a : w.alloc _ = u1w;have F := boxH a;have d := boxB a;have b := boxL a;clear a;replace B := below_step B d;clear d;have j := lE b;have g := lE b.symm;clear b;obtain ⟨Fc0, Fc1, Fc2, Fc3, Fc4, Fc5, Fc6, Fc7, Fc8, Fc9, Fc10, Fc11, Fc12⟩ := cells_fabric F;have Flt := (ltH F);go_wp2_with fail
  clear Fc0 Fc1 Fc2 Fc3 Fc4 Fc5 Fc6 Fc7 Fc8 Fc9 Fc10 Fc11 Fc12 Flt;refine (m.out _ B).mono ?_;rintro e k ⟨rfl, f⟩;have n : u1w.heap.size ≤ k.heap.size := f.size;replace B := below_step B f;replace F := row_keep f F;clear f;obtain ⟨Fc0, Fc1, Fc2, Fc3, Fc4, Fc5, Fc6, Fc7, Fc8, Fc9, Fc10, Fc11, Fc12⟩ := cells_fabric F;have Flt := (ltH F);have i : Hid _ := B;clear B F;go_wp2;go_ret
  exact ⟨by simp [l.out], i.out⟩
 ·have o : ((x.2.2.1.length : Int) == x.1.1) = false := by simp [c]
  have l : Hid (¬ (x.2.2.1.length : Int) = x.1.1) := c;clear c;have B := Below.refl w.heap.size w;go_enter Tryz.func85, Tryz.ntmps85;go_upto_region 1 with fail
  generalize a : w.alloc _ = u1w;have F := boxH a;have d := boxB a;have b := boxL a;clear a;replace B := below_step B d;clear d;have j := lE b;have g := lE b.symm;clear b;obtain ⟨Fc0, Fc1, Fc2, Fc3, Fc4, Fc5, Fc6, Fc7, Fc8, Fc9, Fc10, Fc11, Fc12⟩ := cells_fabric F;have Flt := (ltH F);have i : Hid _ := B;clear B F;go_wp2;go_ret
  exact ⟨by simp [l.out], i.out⟩
theorem fabHouse_any (x : FabricD) (a1 : Option Addr) (c1 : Nat) (b1 : Option Addr) (d1 : Nat) (a2 : Option Addr) (c2 : Nat) (a3 : Option Addr) (c3 : Nat) (b3 : Option Addr) (d3 : Nat) (a4 : Option Addr) (c4 : Nat) (a5 : Option Addr) (c5 : Nat) (w : World) (hc : codeI x.1.1 x.1.2.1 x.1.2.2.1 x.1.2.2.2 = 0) (R : FabRd w x a1 c1 b1 d1 a2 c2 a3 c3 b3 d3 a4 c4 a5 c5) :
    Calls Tryz.prog 84 #[.agg #[nI x.1.1, nI x.1.2.1, nI x.1.2.2.1, nI x.1.2.2.2, sL a1 x.2.1.1.length c1, sL b1 x.2.1.2.length d1, sL a2 x.2.2.1.length c2, sL a3 x.2.2.2.1.1.length c3, nI x.2.2.2.1.2.1, .bool x.2.2.2.1.2.2.1, sL b3 x.2.2.2.1.2.2.2.length d3, sL a4 x.2.2.2.2.1.length c4, sL a5 x.2.2.2.2.2.length c5]] w fun e w' => e = .returned (.bool (houseFit x)) ∧ Bl w w' := by
 have l : Hid _ := fun (W : World) (hb : Bl w W) => implHouseOk_u [sL a1 x.2.1.1.length c1, sL b1 x.2.1.2.length d1] x.2.1 W (rd_next R.house hb)
 have p : Hid (∀ W, Bl w W → Calls Tryz.prog 116 #[sL b1 x.2.1.2.length d1, .func (.func 147) #[.agg #[nI x.1.1, nI x.1.2.1, nI x.1.2.2.1, nI x.1.2.2.2]] #[]] W fun e w' => e = .returned (.bool (x.2.1.2.all (entIn x.1.1))) ∧ Bl W w') := fun W hb => allFitEntry b1 x.2.1.2 d1 W (slrd_next R.book hb) R.bookl (fun u cs V hu hv hr => by
  obtain ⟨r, y, rfl, -, -, -, -, -, -, -, -, s⟩ := ent_rd hr
  exact fitsEntry_any x.1.1 x.1.2.1 x.1.2.2.1 x.1.2.2.2 u r y V hc s)
 unfold houseFit;generalize houseB x.2.1 = q1 at l ⊢;generalize x.2.1.2.all (entIn x.1.1) = q2 at p ⊢;clear hc R;by_cases g : (x.2.1.2.length : Int) = x.1.2.2.2
 ·have v : ((x.2.1.2.length : Int) == x.1.2.2.2) = true := by simp [g]
  have o : Hid ((x.2.1.2.length : Int) = x.1.2.2.2) := g;clear g;have B := Below.refl w.heap.size w;go_enter Tryz.func84, Tryz.ntmps84;go_upto_region 1 with fail
  generalize a : w.alloc _ = u1w;have F := boxH a;have i := boxB a;have d := boxL a;clear a;replace B := below_step B i;clear i;have m := lE d;have k := lE d.symm;clear d;obtain ⟨Fc0, Fc1, Fc2, Fc3, Fc4, Fc5, Fc6, Fc7, Fc8, Fc9, Fc10, Fc11, Fc12⟩ := cells_fabric F;have Flt := (ltH F);go_wp2_with fail
  clear Fc0 Fc1 Fc2 Fc3 Fc4 Fc5 Fc6 Fc7 Fc8 Fc9 Fc10 Fc11 Fc12 Flt;refine (l.out _ B).mono ?_;rintro e c ⟨rfl, b⟩;have j : u1w.heap.size ≤ c.heap.size := b.size;replace B := below_step B b;replace F := row_keep b F;clear b;cases q1
  ·skip
   obtain ⟨Fc0, Fc1, Fc2, Fc3, Fc4, Fc5, Fc6, Fc7, Fc8, Fc9, Fc10, Fc11, Fc12⟩ := cells_fabric F;have Flt := (ltH F);have f : Hid _ := B;clear B F;go_wp2;go_ret
   exact ⟨rfl, f.out⟩
  ·skip
   obtain ⟨Fc0, Fc1, Fc2, Fc3, Fc4, Fc5, Fc6, Fc7, Fc8, Fc9, Fc10, Fc11, Fc12⟩ := cells_fabric F;have Flt := (ltH F);go_wp2_with fail
   clear Fc0 Fc1 Fc2 Fc3 Fc4 Fc5 Fc6 Fc7 Fc8 Fc9 Fc10 Fc11 Fc12 Flt;refine (p.out _ B).mono ?_;rintro e n ⟨rfl, b⟩;have q : c.heap.size ≤ n.heap.size := b.size;replace B := below_step B b;replace F := row_keep b F;clear b;obtain ⟨Fc0, Fc1, Fc2, Fc3, Fc4, Fc5, Fc6, Fc7, Fc8, Fc9, Fc10, Fc11, Fc12⟩ := cells_fabric F;have Flt := (ltH F);have f : Hid _ := B;clear B F;go_wp2;go_ret
   exact ⟨by simp [o.out], f.out⟩
 ·have v : ((x.2.1.2.length : Int) == x.1.2.2.2) = false := by simp [g]
  have o : Hid (¬ (x.2.1.2.length : Int) = x.1.2.2.2) := g;clear g;have B := Below.refl w.heap.size w;go_enter Tryz.func84, Tryz.ntmps84;go_upto_region 1 with fail
  generalize a : w.alloc _ = u1w;have F := boxH a;have i := boxB a;have d := boxL a;clear a;replace B := below_step B i;clear i;have m := lE d;have k := lE d.symm;clear d;obtain ⟨Fc0, Fc1, Fc2, Fc3, Fc4, Fc5, Fc6, Fc7, Fc8, Fc9, Fc10, Fc11, Fc12⟩ := cells_fabric F;have Flt := (ltH F);go_wp2_with fail
  clear Fc0 Fc1 Fc2 Fc3 Fc4 Fc5 Fc6 Fc7 Fc8 Fc9 Fc10 Fc11 Fc12 Flt;refine (l.out _ B).mono ?_;rintro e c ⟨rfl, b⟩;have j : u1w.heap.size ≤ c.heap.size := b.size;replace B := below_step B b;replace F := row_keep b F;clear b;cases q1
  ·skip
   obtain ⟨Fc0, Fc1, Fc2, Fc3, Fc4, Fc5, Fc6, Fc7, Fc8, Fc9, Fc10, Fc11, Fc12⟩ := cells_fabric F;have Flt := (ltH F);have f : Hid _ := B;clear B F;go_wp2;go_ret
   exact ⟨rfl, f.out⟩
  ·skip
   obtain ⟨Fc0, Fc1, Fc2, Fc3, Fc4, Fc5, Fc6, Fc7, Fc8, Fc9, Fc10, Fc11, Fc12⟩ := cells_fabric F;have Flt := (ltH F);have f : Hid _ := B;clear B F;go_wp2;go_ret
   exact ⟨by simp [o.out], f.out⟩
end Go.Proofs.YtdamokokcdcedaaGreatDoor
