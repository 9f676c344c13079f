import Derived.Test.YtcocbafhcpdheaaGreatDoorP00Box
import Derived.Test.YtcocbafhcpdheaaGreatDoorP23Impl11
import Derived.Test.YtcocbafhcpdheaaGreatDoorP34FabricU
import Derived.Test.YtcocbafhcpdheaaGreatDoorP35LetterOk
namespace Go.Proofs.YtcocbafhcpdheaaGreatDoor
set_option maxHeartbeats 2000000
set_option maxRecDepth 20000
open Go.ChangeShapes Go.WideShapes Go.ChangeAt Go.RowKit
set_option linter.unusedVariables false
structure FabRd (w : World) (x : FabricD) (a1 : Option Addr) (c1 : Nat) (b1 : Option Addr) (d1 : Nat) (a2 : Option Addr) (c2 : Nat) (a3 : Option Addr) (c3 : Nat) (b3 : Option Addr) (d3 : Nat) (a4 : Option Addr) (c4 : Nat) (a5 : Option Addr) (c5 : Nat) : Prop where
 house : houseR.rd w [.slice a1 x.2.1.1.length c1, .slice b1 x.2.1.2.length d1] x.2.1
 book : SlRd entR w b1 x.2.1.2
 bookl : x.2.1.2.length ≤ maxLen
 cores : SlRd coreR w a2 x.2.2.1
 coresl : x.2.2.1.length ≤ maxLen
 dma : dmaR.rd w [.slice a3 x.2.2.2.1.1.length c3, .int .i64 x.2.2.2.1.2.1, .bool x.2.2.2.1.2.2.1, .slice b3 x.2.2.2.1.2.2.2.length d3] x.2.2.2.1
 descs : SlRd descR w a3 x.2.2.2.1.1
 descsl : x.2.2.2.1.1.length ≤ maxLen
 net : SlRd msgR w a4 x.2.2.2.2.1
 netl : x.2.2.2.2.1.length ≤ maxLen
 evs : SlRd eventR w a5 x.2.2.2.2.2
 evsl : x.2.2.2.2.2.length ≤ maxLen
theorem fab_open {w : World} {cs : List Value} {x : FabricD} (h : fabricR.rd w cs x) : ∃ (n : Option Addr) (k : Nat) (f : Option Addr) (o : Nat) (m : Option Addr) (d : Nat) (l : Option Addr) (p : Nat) (a : Option Addr) (c : Nat) (b : Option Addr) (j : Nat) (i : Option Addr) (g : Nat), cs = [.int .i64 x.1.1, .int .i64 x.1.2.1, .int .i64 x.1.2.2.1, .int .i64 x.1.2.2.2, .slice n x.2.1.1.length k, .slice f x.2.1.2.length o, .slice m x.2.2.1.length d, .slice l x.2.2.2.1.1.length p, .int .i64 x.2.2.2.1.2.1, .bool x.2.2.2.1.2.2.1, .slice a x.2.2.2.1.2.2.2.length c, .slice b x.2.2.2.2.1.length j, .slice i x.2.2.2.2.2.length g] ∧ FabRd w x n k f o m d l p a c b j i g := by
 obtain ⟨v0, v1, v2, v3, v4, v5, v6, v7, v8, v9, H, bA, eA, rfl, r0, r, O, E, r4, R⟩ := fabric_rd h;obtain ⟨y, -⟩ := cfg_rd4 r0;simp only [List.cons.injEq, and_true] at y;obtain ⟨rfl, rfl, rfl, rfl⟩ := y;obtain ⟨u0, u1, C, ⟨n, k, s, -, -, -⟩, ⟨f, o, z, K, L, S⟩⟩ := house_rd r;simp only [List.cons.injEq, and_true] at C s z;obtain ⟨rfl, rfl⟩ := C;obtain rfl := s;obtain rfl := z;obtain ⟨m, d, v, T, X, Y⟩ := O;simp only [List.cons.injEq, and_true] at v;obtain rfl := v;obtain ⟨z0, z3, F, ⟨l, p, q, n1, N, U⟩, -, -, ⟨a, c, A, -, -, -⟩⟩ := dma_rd E;simp only [List.cons.injEq, and_true] at F q A;obtain ⟨rfl, rfl, rfl, rfl⟩ := F;obtain rfl := q;obtain rfl := A;obtain ⟨b, j, B, I, Z, G⟩ := r4;simp only [List.cons.injEq, and_true] at B;obtain rfl := B;obtain ⟨i, g, D, V, J, M⟩ := R;simp only [List.cons.injEq, and_true] at D;obtain rfl := D;exact ⟨n, k, f, o, m, d, l, p, a, c, b, j, i, g, rfl, ⟨r, S, Nat.le_trans K L, Y, Nat.le_trans T X, E, U, Nat.le_trans n1 N, G, Nat.le_trans I Z, M, Nat.le_trans V J⟩⟩
theorem fab_next {w W : World} {x : FabricD} {a1 b1 a2 a3 b3 a4 a5 : Option Addr} {c1 d1 c2 c3 d3 c4 c5 : Nat} (h : FabRd w x a1 c1 b1 d1 a2 c2 a3 c3 b3 d3 a4 c4 a5 c5) (hb : Below w.heap.size w W) : FabRd W x a1 c1 b1 d1 a2 c2 a3 c3 b3 d3 a4 c4 a5 c5 :=
 ⟨rd_next h.house hb, slrd_next h.book hb, h.bookl, slrd_next h.cores hb, h.coresl, rd_next h.dma hb, slrd_next h.descs hb, h.descsl, slrd_next h.net hb, h.netl, slrd_next h.evs hb, h.evsl⟩
def houseFit (x : FabricD) : Bool := houseB x.2.1 && (decide ((x.2.1.2.length : Int) = x.1.2.2.2) && x.2.1.2.all (entIn x.1.1))
noncomputable def coresFit (x : FabricD) : Bool := decide ((x.2.2.1.length : Int) = x.1.1) && x.2.2.1.all (coreFit x.1.1 x.1.2.1 x.1.2.2.1 x.1.2.2.2)
def netFit (x : FabricD) : Bool := netB x.2.2.2.2.1 && x.2.2.2.2.1.all (msgIn x.1.1 x.1.2.2.2)
theorem fabNet_any (x : FabricD) (a1 : Option Addr) (c1 : Nat) (b1 : Option Addr) (d1 : Nat) (a2 : Option Addr) (c2 : Nat) (a3 : Option Addr) (c3 : Nat) (b3 : Option Addr) (d3 : Nat) (a4 : Option Addr) (c4 : Nat) (a5 : Option Addr) (c5 : Nat) (w : World) (hc : codeI x.1.1 x.1.2.1 x.1.2.2.1 x.1.2.2.2 = 0) (R : FabRd w x a1 c1 b1 d1 a2 c2 a3 c3 b3 d3 a4 c4 a5 c5) :
    Calls Tryz.prog 74 #[.agg #[.int .i64 x.1.1, .int .i64 x.1.2.1, .int .i64 x.1.2.2.1, .int .i64 x.1.2.2.2, .slice a1 x.2.1.1.length c1, .slice b1 x.2.1.2.length d1, .slice a2 x.2.2.1.length c2, .slice a3 x.2.2.2.1.1.length c3, .int .i64 x.2.2.2.1.2.1, .bool x.2.2.2.1.2.2.1, .slice b3 x.2.2.2.1.2.2.2.length d3, .slice a4 x.2.2.2.2.1.length c4, .slice a5 x.2.2.2.2.2.length c5]] w fun e w' => e = .returned (.bool (netFit x)) ∧ Below w.heap.size w w' := by
 have l : Hid _ := fun (W : World) (hb : Below w.heap.size w W) => implNetOk_any a4 x.2.2.2.2.1 c4 W (slrd_next R.net hb) R.netl
 have m : Hid _ := fun (W : World) (hb : Below w.heap.size w W) => allFitMsg a4 x.2.2.2.2.1 c4 W (slrd_next R.net hb) R.netl (fun u cs V hu hv hr => by
  obtain ⟨o, p, rfl⟩ := msg_shape hr
  exact fitsLetter_any x.1.1 x.1.2.1 x.1.2.2.1 x.1.2.2.2 u o p V hc)
 unfold netFit;generalize netB x.2.2.2.2.1 = q1 at l ⊢;generalize x.2.2.2.2.1.all (msgIn x.1.1 x.1.2.2.2) = q2 at m ⊢;clear hc R;have B := Below.refl w.heap.size w;go_enter Tryz.func74, Tryz.ntmps74;go_upto_region 1 with fail
 generalize a : w.alloc _ = u1w;have F := boxH a;have j := boxB a;have g := boxL a;clear a;replace B := below_step B j;clear j;have n := Nat.le_of_eq g;have q := Nat.le_of_eq g.symm;clear g;obtain ⟨Fc0, Fc1, Fc2, Fc3, Fc4, Fc5, Fc6, Fc7, Fc8, Fc9, Fc10, Fc11, Fc12⟩ := cells_fabric F;have Flt := (ltH F);go_wp2_with fail
 clear Fc0 Fc1 Fc2 Fc3 Fc4 Fc5 Fc6 Fc7 Fc8 Fc9 Fc10 Fc11 Fc12 Flt;refine (l.out _ B).mono ?_;rintro e c ⟨rfl, b⟩;have i : u1w.heap.size ≤ c.heap.size := b.size;replace B := below_step B b;replace F := row_keep b F;clear b;cases q1
 ·skip
  obtain ⟨Fc0, Fc1, Fc2, Fc3, Fc4, Fc5, Fc6, Fc7, Fc8, Fc9, Fc10, Fc11, Fc12⟩ := cells_fabric F;have Flt := (ltH F);have f : Hid _ := B;clear B F;go_wp2;go_ret
  exact ⟨rfl, f.out⟩
 ·skip
  obtain ⟨Fc0, Fc1, Fc2, Fc3, Fc4, Fc5, Fc6, Fc7, Fc8, Fc9, Fc10, Fc11, Fc12⟩ := cells_fabric F;have Flt := (ltH F);go_wp2_with fail
  clear Fc0 Fc1 Fc2 Fc3 Fc4 Fc5 Fc6 Fc7 Fc8 Fc9 Fc10 Fc11 Fc12 Flt;refine (m.out _ B).mono ?_;rintro e d ⟨rfl, b⟩;have k : c.heap.size ≤ d.heap.size := b.size;replace B := below_step B b;replace F := row_keep b F;clear b;obtain ⟨Fc0, Fc1, Fc2, Fc3, Fc4, Fc5, Fc6, Fc7, Fc8, Fc9, Fc10, Fc11, Fc12⟩ := cells_fabric F;have Flt := (ltH F);have f : Hid _ := B;clear B F;go_wp2;go_ret
  exact ⟨rfl, f.out⟩
theorem fabCores_any (x : FabricD) (a1 : Option Addr) (c1 : Nat) (b1 : Option Addr) (d1 : Nat) (a2 : Option Addr) (c2 : Nat) (a3 : Option Addr) (c3 : Nat) (b3 : Option Addr) (d3 : Nat) (a4 : Option Addr) (c4 : Nat) (a5 : Option Addr) (c5 : Nat) (w : World) (hc : codeI x.1.1 x.1.2.1 x.1.2.2.1 x.1.2.2.2 = 0) (R : FabRd w x a1 c1 b1 d1 a2 c2 a3 c3 b3 d3 a4 c4 a5 c5) (hh : Hold w) :
    Calls Tryz.prog 72 #[.agg #[.int .i64 x.1.1, .int .i64 x.1.2.1, .int .i64 x.1.2.2.1, .int .i64 x.1.2.2.2, .slice a1 x.2.1.1.length c1, .slice b1 x.2.1.2.length d1, .slice a2 x.2.2.1.length c2, .slice a3 x.2.2.2.1.1.length c3, .int .i64 x.2.2.2.1.2.1, .bool x.2.2.2.1.2.2.1, .slice b3 x.2.2.2.1.2.2.2.length d3, .slice a4 x.2.2.2.2.1.length c4, .slice a5 x.2.2.2.2.2.length c5]] w fun e w' => e = .returned (.bool (coresFit x)) ∧ Below w.heap.size w w' := by
 have n : Hid _ := fun (W : World) (hb : Below w.heap.size w W) => allFitCore a2 x.2.2.1 c2 W (slrd_next R.cores hb) R.coresl (fun u cs V hu hv hr => fitsCore_u x.1.1 x.1.2.1 x.1.2.2.1 x.1.2.2.2 cs u V (hh.goes (below_step hb hv)) hc hr);unfold coresFit;generalize x.2.2.1.all (coreFit x.1.1 x.1.2.1 x.1.2.2.1 x.1.2.2.2) = q2 at n ⊢;clear hc R hh;by_cases c : (x.2.2.1.length : Int) = x.1.1
 ·have o : ((x.2.2.1.length : Int) == x.1.1) = true := by simp [c]
  have j : Hid ((x.2.2.1.length : Int) = x.1.1) := c;clear c;have B := Below.refl w.heap.size w;go_enter Tryz.func72, Tryz.ntmps72;go_upto_region 1 with fail
  generalize a : w.alloc _ = u1w;have F := boxH a;have d := boxB a;have b := boxL a;clear a;replace B := below_step B d;clear d;have g := Nat.le_of_eq b;have l := Nat.le_of_eq b.symm;clear b;obtain ⟨Fc0, Fc1, Fc2, Fc3, Fc4, Fc5, Fc6, Fc7, Fc8, Fc9, Fc10, Fc11, Fc12⟩ := cells_fabric F;have Flt := (ltH F);go_wp2_with fail
  clear Fc0 Fc1 Fc2 Fc3 Fc4 Fc5 Fc6 Fc7 Fc8 Fc9 Fc10 Fc11 Fc12 Flt;refine (n.out _ B).mono ?_;rintro e k ⟨rfl, f⟩;have m : u1w.heap.size ≤ k.heap.size := f.size;replace B := below_step B f;replace F := row_keep f F;clear f;obtain ⟨Fc0, Fc1, Fc2, Fc3, Fc4, Fc5, Fc6, Fc7, Fc8, Fc9, Fc10, Fc11, Fc12⟩ := cells_fabric F;have Flt := (ltH F);have i : Hid _ := B;clear B F;go_wp2;go_ret
  exact ⟨by simp [j.out], i.out⟩
 ·have o : ((x.2.2.1.length : Int) == x.1.1) = false := by simp [c]
  have j : Hid (¬ (x.2.2.1.length : Int) = x.1.1) := c;clear c;have B := Below.refl w.heap.size w;go_enter Tryz.func72, Tryz.ntmps72;go_upto_region 1 with fail
  generalize a : w.alloc _ = u1w;have F := boxH a;have d := boxB a;have b := boxL a;clear a;replace B := below_step B d;clear d;have g := Nat.le_of_eq b;have l := Nat.le_of_eq b.symm;clear b;obtain ⟨Fc0, Fc1, Fc2, Fc3, Fc4, Fc5, Fc6, Fc7, Fc8, Fc9, Fc10, Fc11, Fc12⟩ := cells_fabric F;have Flt := (ltH F);have i : Hid _ := B;clear B F;go_wp2;go_ret
  exact ⟨by simp [j.out], i.out⟩
theorem fabHouse_any (x : FabricD) (a1 : Option Addr) (c1 : Nat) (b1 : Option Addr) (d1 : Nat) (a2 : Option Addr) (c2 : Nat) (a3 : Option Addr) (c3 : Nat) (b3 : Option Addr) (d3 : Nat) (a4 : Option Addr) (c4 : Nat) (a5 : Option Addr) (c5 : Nat) (w : World) (hc : codeI x.1.1 x.1.2.1 x.1.2.2.1 x.1.2.2.2 = 0) (R : FabRd w x a1 c1 b1 d1 a2 c2 a3 c3 b3 d3 a4 c4 a5 c5) :
    Calls Tryz.prog 71 #[.agg #[.int .i64 x.1.1, .int .i64 x.1.2.1, .int .i64 x.1.2.2.1, .int .i64 x.1.2.2.2, .slice a1 x.2.1.1.length c1, .slice b1 x.2.1.2.length d1, .slice a2 x.2.2.1.length c2, .slice a3 x.2.2.2.1.1.length c3, .int .i64 x.2.2.2.1.2.1, .bool x.2.2.2.1.2.2.1, .slice b3 x.2.2.2.1.2.2.2.length d3, .slice a4 x.2.2.2.2.1.length c4, .slice a5 x.2.2.2.2.2.length c5]] w fun e w' => e = .returned (.bool (houseFit x)) ∧ Below w.heap.size w w' := by
 have l : Hid _ := fun (W : World) (hb : Below w.heap.size w W) => implHouseOk_u [.slice a1 x.2.1.1.length c1, .slice b1 x.2.1.2.length d1] x.2.1 W (rd_next R.house hb)
 have q : Hid _ := fun (W : World) (hb : Below w.heap.size w W) => allFitEntry b1 x.2.1.2 d1 W (slrd_next R.book hb) R.bookl (fun u cs V hu hv hr => by
  obtain ⟨s, v, rfl, -, -, -, -, -, -, -, -, r⟩ := ent_rd hr
  exact fitsEntry_any x.1.1 x.1.2.1 x.1.2.2.1 x.1.2.2.2 u s v V hc r)
 unfold houseFit;generalize houseB x.2.1 = q1 at l ⊢;generalize x.2.1.2.all (entIn x.1.1) = q2 at q ⊢;clear hc R;by_cases g : (x.2.1.2.length : Int) = x.1.2.2.2
 ·have y : ((x.2.1.2.length : Int) == x.1.2.2.2) = true := by simp [g]
  have n : Hid ((x.2.1.2.length : Int) = x.1.2.2.2) := g;clear g;have B := Below.refl w.heap.size w;go_enter Tryz.func71, Tryz.ntmps71;go_upto_region 1 with fail
  generalize a : w.alloc _ = u1w;have F := boxH a;have j := boxB a;have f := boxL a;clear a;replace B := below_step B j;clear j;have k := Nat.le_of_eq f;have o := Nat.le_of_eq f.symm;clear f;obtain ⟨Fc0, Fc1, Fc2, Fc3, Fc4, Fc5, Fc6, Fc7, Fc8, Fc9, Fc10, Fc11, Fc12⟩ := cells_fabric F;have Flt := (ltH F);go_wp2_with fail
  clear Fc0 Fc1 Fc2 Fc3 Fc4 Fc5 Fc6 Fc7 Fc8 Fc9 Fc10 Fc11 Fc12 Flt;refine (l.out _ B).mono ?_;rintro e c ⟨rfl, b⟩;have i : u1w.heap.size ≤ c.heap.size := b.size;replace B := below_step B b;replace F := row_keep b F;clear b;cases q1
  ·skip
   obtain ⟨Fc0, Fc1, Fc2, Fc3, Fc4, Fc5, Fc6, Fc7, Fc8, Fc9, Fc10, Fc11, Fc12⟩ := cells_fabric F;have Flt := (ltH F);have d : Hid _ := B;clear B F;go_wp2;go_ret
   exact ⟨rfl, d.out⟩
  ·skip
   obtain ⟨Fc0, Fc1, Fc2, Fc3, Fc4, Fc5, Fc6, Fc7, Fc8, Fc9, Fc10, Fc11, Fc12⟩ := cells_fabric F;have Flt := (ltH F);go_wp2_with fail
   clear Fc0 Fc1 Fc2 Fc3 Fc4 Fc5 Fc6 Fc7 Fc8 Fc9 Fc10 Fc11 Fc12 Flt;refine (q.out _ B).mono ?_;rintro e m ⟨rfl, b⟩;have p : c.heap.size ≤ m.heap.size := b.size;replace B := below_step B b;replace F := row_keep b F;clear b;obtain ⟨Fc0, Fc1, Fc2, Fc3, Fc4, Fc5, Fc6, Fc7, Fc8, Fc9, Fc10, Fc11, Fc12⟩ := cells_fabric F;have Flt := (ltH F);have d : Hid _ := B;clear B F;go_wp2;go_ret
   exact ⟨by simp [n.out], d.out⟩
 ·have y : ((x.2.1.2.length : Int) == x.1.2.2.2) = false := by simp [g]
  have n : Hid (¬ (x.2.1.2.length : Int) = x.1.2.2.2) := g;clear g;have B := Below.refl w.heap.size w;go_enter Tryz.func71, Tryz.ntmps71;go_upto_region 1 with fail
  generalize a : w.alloc _ = u1w;have F := boxH a;have j := boxB a;have f := boxL a;clear a;replace B := below_step B j;clear j;have k := Nat.le_of_eq f;have o := Nat.le_of_eq f.symm;clear f;obtain ⟨Fc0, Fc1, Fc2, Fc3, Fc4, Fc5, Fc6, Fc7, Fc8, Fc9, Fc10, Fc11, Fc12⟩ := cells_fabric F;have Flt := (ltH F);go_wp2_with fail
  clear Fc0 Fc1 Fc2 Fc3 Fc4 Fc5 Fc6 Fc7 Fc8 Fc9 Fc10 Fc11 Fc12 Flt;refine (l.out _ B).mono ?_;rintro e c ⟨rfl, b⟩;have i : u1w.heap.size ≤ c.heap.size := b.size;replace B := below_step B b;replace F := row_keep b F;clear b;cases q1
  ·skip
   obtain ⟨Fc0, Fc1, Fc2, Fc3, Fc4, Fc5, Fc6, Fc7, Fc8, Fc9, Fc10, Fc11, Fc12⟩ := cells_fabric F;have Flt := (ltH F);have d : Hid _ := B;clear B F;go_wp2;go_ret
   exact ⟨rfl, d.out⟩
  ·skip
   obtain ⟨Fc0, Fc1, Fc2, Fc3, Fc4, Fc5, Fc6, Fc7, Fc8, Fc9, Fc10, Fc11, Fc12⟩ := cells_fabric F;have Flt := (ltH F);have d : Hid _ := B;clear B F;go_wp2;go_ret
   exact ⟨by simp [n.out], d.out⟩
end Go.Proofs.YtcocbafhcpdheaaGreatDoor
