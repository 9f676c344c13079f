import Derived.Test.YtcocbafhcpdheaaGreatDoorF00Box
import Derived.Test.YtcocbafhcpdheaaGreatDoorF22
import Derived.Test.YtcocbafhcpdheaaGreatDoorF33
import Derived.Test.YtcocbafhcpdheaaGreatDoorF34
namespace Go.Proofs.YtcocbafhcpdheaaGreatDoor
set_option maxHeartbeats 2000000
set_option maxRecDepth 20000
open Go.ChangeShapes Go.WideShapes Go.ChangeAt Go.RowKit
set_option linter.unusedVariables false
structure FabRd (w : World) (x : FabricD) (a1 : Option Addr) (c1 : Nat) (b1 : Option Addr) (d1 : Nat) (a2 : Option Addr) (c2 : Nat) (a3 : Option Addr) (c3 : Nat) (b3 : Option Addr) (d3 : Nat) (a4 : Option Addr) (c4 : Nat) (a5 : Option Addr) (c5 : Nat) : Prop where
 house : houseR.rd w [.slice a1 x.2.1.1.length c1, .slice b1 x.2.1.2.length d1] x.2.1
 book : SlRd entR w b1 x.2.1.2
 bookl : x.2.1.2.length ≤ maxLen
 cores : SlRd coreR w a2 x.2.2.1
 coresl : x.2.2.1.length ≤ maxLen
 dma : dmaR.rd w [.slice a3 x.2.2.2.1.1.length c3, .int .i64 x.2.2.2.1.2.1, .bool x.2.2.2.1.2.2.1, .slice b3 x.2.2.2.1.2.2.2.length d3] x.2.2.2.1
 descs : SlRd descR w a3 x.2.2.2.1.1
 descsl : x.2.2.2.1.1.length ≤ maxLen
 net : SlRd msgR w a4 x.2.2.2.2.1
 netl : x.2.2.2.2.1.length ≤ maxLen
 evs : SlRd eventR w a5 x.2.2.2.2.2
 evsl : x.2.2.2.2.2.length ≤ maxLen
theorem fab_open {w : World} {cs : List Value} {x : FabricD} (h : fabricR.rd w cs x) : ∃ (a1 : Option Addr) (c1 : Nat) (b1 : Option Addr) (d1 : Nat) (a2 : Option Addr) (c2 : Nat) (a3 : Option Addr) (c3 : Nat) (b3 : Option Addr) (d3 : Nat) (a4 : Option Addr) (c4 : Nat) (a5 : Option Addr) (c5 : Nat), cs = [.int .i64 x.1.1, .int .i64 x.1.2.1, .int .i64 x.1.2.2.1, .int .i64 x.1.2.2.2, .slice a1 x.2.1.1.length c1, .slice b1 x.2.1.2.length d1, .slice a2 x.2.2.1.length c2, .slice a3 x.2.2.2.1.1.length c3, .int .i64 x.2.2.2.1.2.1, .bool x.2.2.2.1.2.2.1, .slice b3 x.2.2.2.1.2.2.2.length d3, .slice a4 x.2.2.2.2.1.length c4, .slice a5 x.2.2.2.2.2.length c5] ∧ FabRd w x a1 c1 b1 d1 a2 c2 a3 c3 b3 d3 a4 c4 a5 c5 := by
 obtain ⟨v0, v1, v2, v3, v4, v5, v6, v7, v8, v9, v10, v11, v12, rfl, r0, r1, r2, r3, r4, r5⟩ := fabric_rd h;obtain ⟨e0, -⟩ := cfg_rd4 r0;simp only [List.cons.injEq, and_true] at e0;obtain ⟨rfl, rfl, rfl, rfl⟩ := e0;obtain ⟨u0, u1, e1, ⟨a1, c1, f1, -, -, -⟩, ⟨b1, d1, f2, l1, l2, q2⟩⟩ := house_rd r1;simp only [List.cons.injEq, and_true] at e1 f1 f2;obtain ⟨rfl, rfl⟩ := e1;obtain rfl := f1;obtain rfl := f2;obtain ⟨a2, c2, e2, m1, m2, q3⟩ := r2;simp only [List.cons.injEq, and_true] at e2;obtain rfl := e2;obtain ⟨z0, z3, e3, ⟨a3, c3, g1, n1, n2, q4⟩, -, -, ⟨b3, d3, g2, -, -, -⟩⟩ := dma_rd r3;simp only [List.cons.injEq, and_true] at e3 g1 g2;obtain ⟨rfl, rfl, rfl, rfl⟩ := e3;obtain rfl := g1;obtain rfl := g2;obtain ⟨a4, c4, e4, s1, s2, q5⟩ := r4;simp only [List.cons.injEq, and_true] at e4;obtain rfl := e4;obtain ⟨a5, c5, e5, t1, t2, q6⟩ := r5;simp only [List.cons.injEq, and_true] at e5;obtain rfl := e5;exact ⟨a1, c1, b1, d1, a2, c2, a3, c3, b3, d3, a4, c4, a5, c5, rfl, ⟨r1, q2, Nat.le_trans l1 l2, q3, Nat.le_trans m1 m2, r3, q4, Nat.le_trans n1 n2, q5, Nat.le_trans s1 s2, q6, Nat.le_trans t1 t2⟩⟩
theorem fab_next {w W : World} {x : FabricD} {a1 b1 a2 a3 b3 a4 a5 : Option Addr} {c1 d1 c2 c3 d3 c4 c5 : Nat} (h : FabRd w x a1 c1 b1 d1 a2 c2 a3 c3 b3 d3 a4 c4 a5 c5) (hb : Below w.heap.size w W) : FabRd W x a1 c1 b1 d1 a2 c2 a3 c3 b3 d3 a4 c4 a5 c5 :=
 ⟨rd_next h.house hb, slrd_next h.book hb, h.bookl, slrd_next h.cores hb, h.coresl, rd_next h.dma hb, slrd_next h.descs hb, h.descsl, slrd_next h.net hb, h.netl, slrd_next h.evs hb, h.evsl⟩
def houseFit (x : FabricD) : Bool := houseB x.2.1 && (decide ((x.2.1.2.length : Int) = x.1.2.2.2) && x.2.1.2.all (entIn x.1.1))
noncomputable def coresFit (x : FabricD) : Bool := decide ((x.2.2.1.length : Int) = x.1.1) && x.2.2.1.all (coreFit x.1.1 x.1.2.1 x.1.2.2.1 x.1.2.2.2)
def netFit (x : FabricD) : Bool := netB x.2.2.2.2.1 && x.2.2.2.2.1.all (msgIn x.1.1 x.1.2.2.2)
theorem fabNet_any (x : FabricD) (a1 : Option Addr) (c1 : Nat) (b1 : Option Addr) (d1 : Nat) (a2 : Option Addr) (c2 : Nat) (a3 : Option Addr) (c3 : Nat) (b3 : Option Addr) (d3 : Nat) (a4 : Option Addr) (c4 : Nat) (a5 : Option Addr) (c5 : Nat) (w : World) (hc : codeI x.1.1 x.1.2.1 x.1.2.2.1 x.1.2.2.2 = 0) (R : FabRd w x a1 c1 b1 d1 a2 c2 a3 c3 b3 d3 a4 c4 a5 c5) :
    Calls Tryz.prog 74 #[.agg #[.int .i64 x.1.1, .int .i64 x.1.2.1, .int .i64 x.1.2.2.1, .int .i64 x.1.2.2.2, .slice a1 x.2.1.1.length c1, .slice b1 x.2.1.2.length d1, .slice a2 x.2.2.1.length c2, .slice a3 x.2.2.2.1.1.length c3, .int .i64 x.2.2.2.1.2.1, .bool x.2.2.2.1.2.2.1, .slice b3 x.2.2.2.1.2.2.2.length d3, .slice a4 x.2.2.2.2.1.length c4, .slice a5 x.2.2.2.2.2.length c5]] w fun e w' => e = .returned (.bool (netFit x)) ∧ Below w.heap.size w w' := by
 have H1 : Hid (∀ W, Below w.heap.size w W → Calls Tryz.prog 127 #[.slice a4 x.2.2.2.2.1.length c4] W fun e w' => e = .returned (.bool (netB x.2.2.2.2.1)) ∧ Below W.heap.size W w') := fun W hb => implNetOk_any a4 x.2.2.2.2.1 c4 W (slrd_next R.net hb) R.netl
 have H2 : Hid (∀ W, Below w.heap.size w W → Calls Tryz.prog 128 #[.slice a4 x.2.2.2.2.1.length c4, .func (.func 129) #[.agg #[.int .i64 x.1.1, .int .i64 x.1.2.1, .int .i64 x.1.2.2.1, .int .i64 x.1.2.2.2]] #[]] W fun e w' => e = .returned (.bool (x.2.2.2.2.1.all (msgIn x.1.1 x.1.2.2.2))) ∧ Below W.heap.size W w') := fun W hb => allFitMsg a4 x.2.2.2.2.1 c4 W (slrd_next R.net hb) R.netl (fun u cs V hu hv hr => by
  obtain ⟨ga, gc, rfl⟩ := msg_shape hr
  exact fitsLetter_any x.1.1 x.1.2.1 x.1.2.2.1 x.1.2.2.2 u ga gc V hc)
 unfold netFit;generalize netB x.2.2.2.2.1 = q1 at H1 ⊢;generalize x.2.2.2.2.1.all (msgIn x.1.1 x.1.2.2.2) = q2 at H2 ⊢;clear hc R;have B := Below.refl w.heap.size w;go_enter Tryz.func74, Tryz.ntmps74;go_upto_region 1 with fail
 generalize hu1w : w.alloc _ = u1w;have F := boxH hu1w;have bz := boxB hu1w;have zF := boxL hu1w;clear hu1w;replace B := below_step B bz;clear bz;have zFa := Nat.le_of_eq zF;have zFb := Nat.le_of_eq zF.symm;clear zF;obtain ⟨Fc0, Fc1, Fc2, Fc3, Fc4, Fc5, Fc6, Fc7, Fc8, Fc9, Fc10, Fc11, Fc12⟩ := cells_fabric F;have Flt := (ltH F);go_wp2_with fail
 clear Fc0 Fc1 Fc2 Fc3 Fc4 Fc5 Fc6 Fc7 Fc8 Fc9 Fc10 Fc11 Fc12 Flt;refine (H1.out _ B).mono ?_;rintro e u2w ⟨rfl, bq⟩;have tu2w : u1w.heap.size ≤ u2w.heap.size := bq.size;replace B := below_step B bq;replace F := row_keep bq F;clear bq;cases q1
 ·skip
  obtain ⟨Fc0, Fc1, Fc2, Fc3, Fc4, Fc5, Fc6, Fc7, Fc8, Fc9, Fc10, Fc11, Fc12⟩ := cells_fabric F;have Flt := (ltH F);have HB : Hid _ := B;clear B F;go_wp2;go_ret
  exact ⟨rfl, HB.out⟩
 ·skip
  obtain ⟨Fc0, Fc1, Fc2, Fc3, Fc4, Fc5, Fc6, Fc7, Fc8, Fc9, Fc10, Fc11, Fc12⟩ := cells_fabric F;have Flt := (ltH F);go_wp2_with fail
  clear Fc0 Fc1 Fc2 Fc3 Fc4 Fc5 Fc6 Fc7 Fc8 Fc9 Fc10 Fc11 Fc12 Flt;refine (H2.out _ B).mono ?_;rintro e u3w ⟨rfl, bq⟩;have tu3w : u2w.heap.size ≤ u3w.heap.size := bq.size;replace B := below_step B bq;replace F := row_keep bq F;clear bq;obtain ⟨Fc0, Fc1, Fc2, Fc3, Fc4, Fc5, Fc6, Fc7, Fc8, Fc9, Fc10, Fc11, Fc12⟩ := cells_fabric F;have Flt := (ltH F);have HB : Hid _ := B;clear B F;go_wp2;go_ret
  exact ⟨rfl, HB.out⟩
theorem fabCores_any (x : FabricD) (a1 : Option Addr) (c1 : Nat) (b1 : Option Addr) (d1 : Nat) (a2 : Option Addr) (c2 : Nat) (a3 : Option Addr) (c3 : Nat) (b3 : Option Addr) (d3 : Nat) (a4 : Option Addr) (c4 : Nat) (a5 : Option Addr) (c5 : Nat) (w : World) (hc : codeI x.1.1 x.1.2.1 x.1.2.2.1 x.1.2.2.2 = 0) (R : FabRd w x a1 c1 b1 d1 a2 c2 a3 c3 b3 d3 a4 c4 a5 c5) (hh : Hold w) :
    Calls Tryz.prog 72 #[.agg #[.int .i64 x.1.1, .int .i64 x.1.2.1, .int .i64 x.1.2.2.1, .int .i64 x.1.2.2.2, .slice a1 x.2.1.1.length c1, .slice b1 x.2.1.2.length d1, .slice a2 x.2.2.1.length c2, .slice a3 x.2.2.2.1.1.length c3, .int .i64 x.2.2.2.1.2.1, .bool x.2.2.2.1.2.2.1, .slice b3 x.2.2.2.1.2.2.2.length d3, .slice a4 x.2.2.2.2.1.length c4, .slice a5 x.2.2.2.2.2.length c5]] w fun e w' => e = .returned (.bool (coresFit x)) ∧ Below w.heap.size w w' := by
 have H2 : Hid (∀ W, Below w.heap.size w W → Calls Tryz.prog 123 #[.slice a2 x.2.2.1.length c2, .func (.func 124) #[.agg #[.int .i64 x.1.1, .int .i64 x.1.2.1, .int .i64 x.1.2.2.1, .int .i64 x.1.2.2.2]] #[]] W fun e w' => e = .returned (.bool (x.2.2.1.all (coreFit x.1.1 x.1.2.1 x.1.2.2.1 x.1.2.2.2))) ∧ Below W.heap.size W w') := fun W hb => allFitCore a2 x.2.2.1 c2 W (slrd_next R.cores hb) R.coresl (fun u cs V hu hv hr => fitsCore_u x.1.1 x.1.2.1 x.1.2.2.1 x.1.2.2.2 cs u V (hh.goes (below_step hb hv)) hc hr);unfold coresFit;generalize x.2.2.1.all (coreFit x.1.1 x.1.2.1 x.1.2.2.1 x.1.2.2.2) = q2 at H2 ⊢;clear hc R hh;by_cases hz : (x.2.2.1.length : Int) = x.1.1
 ·have zt : ((x.2.2.1.length : Int) == x.1.1) = true := by simp [hz]
  have HZ : Hid ((x.2.2.1.length : Int) = x.1.1) := hz;clear hz;have B := Below.refl w.heap.size w;go_enter Tryz.func72, Tryz.ntmps72;go_upto_region 1 with fail
  generalize hu1w : w.alloc _ = u1w;have F := boxH hu1w;have bz := boxB hu1w;have zF := boxL hu1w;clear hu1w;replace B := below_step B bz;clear bz;have zFa := Nat.le_of_eq zF;have zFb := Nat.le_of_eq zF.symm;clear zF;obtain ⟨Fc0, Fc1, Fc2, Fc3, Fc4, Fc5, Fc6, Fc7, Fc8, Fc9, Fc10, Fc11, Fc12⟩ := cells_fabric F;have Flt := (ltH F);go_wp2_with fail
  clear Fc0 Fc1 Fc2 Fc3 Fc4 Fc5 Fc6 Fc7 Fc8 Fc9 Fc10 Fc11 Fc12 Flt;refine (H2.out _ B).mono ?_;rintro e u2w ⟨rfl, bq⟩;have tu2w : u1w.heap.size ≤ u2w.heap.size := bq.size;replace B := below_step B bq;replace F := row_keep bq F;clear bq;obtain ⟨Fc0, Fc1, Fc2, Fc3, Fc4, Fc5, Fc6, Fc7, Fc8, Fc9, Fc10, Fc11, Fc12⟩ := cells_fabric F;have Flt := (ltH F);have HB : Hid _ := B;clear B F;go_wp2;go_ret
  exact ⟨by simp [HZ.out], HB.out⟩
 ·have zt : ((x.2.2.1.length : Int) == x.1.1) = false := by simp [hz]
  have HZ : Hid (¬ (x.2.2.1.length : Int) = x.1.1) := hz;clear hz;have B := Below.refl w.heap.size w;go_enter Tryz.func72, Tryz.ntmps72;go_upto_region 1 with fail
  generalize hu1w : w.alloc _ = u1w;have F := boxH hu1w;have bz := boxB hu1w;have zF := boxL hu1w;clear hu1w;replace B := below_step B bz;clear bz;have zFa := Nat.le_of_eq zF;have zFb := Nat.le_of_eq zF.symm;clear zF;obtain ⟨Fc0, Fc1, Fc2, Fc3, Fc4, Fc5, Fc6, Fc7, Fc8, Fc9, Fc10, Fc11, Fc12⟩ := cells_fabric F;have Flt := (ltH F);have HB : Hid _ := B;clear B F;go_wp2;go_ret
  exact ⟨by simp [HZ.out], HB.out⟩
theorem fabHouse_any (x : FabricD) (a1 : Option Addr) (c1 : Nat) (b1 : Option Addr) (d1 : Nat) (a2 : Option Addr) (c2 : Nat) (a3 : Option Addr) (c3 : Nat) (b3 : Option Addr) (d3 : Nat) (a4 : Option Addr) (c4 : Nat) (a5 : Option Addr) (c5 : Nat) (w : World) (hc : codeI x.1.1 x.1.2.1 x.1.2.2.1 x.1.2.2.2 = 0) (R : FabRd w x a1 c1 b1 d1 a2 c2 a3 c3 b3 d3 a4 c4 a5 c5) :
    Calls Tryz.prog 71 #[.agg #[.int .i64 x.1.1, .int .i64 x.1.2.1, .int .i64 x.1.2.2.1, .int .i64 x.1.2.2.2, .slice a1 x.2.1.1.length c1, .slice b1 x.2.1.2.length d1, .slice a2 x.2.2.1.length c2, .slice a3 x.2.2.2.1.1.length c3, .int .i64 x.2.2.2.1.2.1, .bool x.2.2.2.1.2.2.1, .slice b3 x.2.2.2.1.2.2.2.length d3, .slice a4 x.2.2.2.2.1.length c4, .slice a5 x.2.2.2.2.2.length c5]] w fun e w' => e = .returned (.bool (houseFit x)) ∧ Below w.heap.size w w' := by
 have H1 : Hid (∀ W, Below w.heap.size w W → Calls Tryz.prog 120 #[.agg #[.slice a1 x.2.1.1.length c1, .slice b1 x.2.1.2.length d1]] W fun e w' => e = .returned (.bool (houseB x.2.1)) ∧ Below W.heap.size W w') := fun W hb => implHouseOk_u [.slice a1 x.2.1.1.length c1, .slice b1 x.2.1.2.length d1] x.2.1 W (rd_next R.house hb)
 have H2 : Hid (∀ W, Below w.heap.size w W → Calls Tryz.prog 121 #[.slice b1 x.2.1.2.length d1, .func (.func 122) #[.agg #[.int .i64 x.1.1, .int .i64 x.1.2.1, .int .i64 x.1.2.2.1, .int .i64 x.1.2.2.2]] #[]] W fun e w' => e = .returned (.bool (x.2.1.2.all (entIn x.1.1))) ∧ Below W.heap.size W w') := fun W hb => allFitEntry b1 x.2.1.2 d1 W (slrd_next R.book hb) R.bookl (fun u cs V hu hv hr => by
  obtain ⟨ga, gc, rfl, -, -, -, -, -, -, -, -, hd⟩ := ent_rd hr
  exact fitsEntry_any x.1.1 x.1.2.1 x.1.2.2.1 x.1.2.2.2 u ga gc V hc hd)
 unfold houseFit;generalize houseB x.2.1 = q1 at H1 ⊢;generalize x.2.1.2.all (entIn x.1.1) = q2 at H2 ⊢;clear hc R;by_cases hz : (x.2.1.2.length : Int) = x.1.2.2.2
 ·have zt : ((x.2.1.2.length : Int) == x.1.2.2.2) = true := by simp [hz]
  have HZ : Hid ((x.2.1.2.length : Int) = x.1.2.2.2) := hz;clear hz;have B := Below.refl w.heap.size w;go_enter Tryz.func71, Tryz.ntmps71;go_upto_region 1 with fail
  generalize hu1w : w.alloc _ = u1w;have F := boxH hu1w;have bz := boxB hu1w;have zF := boxL hu1w;clear hu1w;replace B := below_step B bz;clear bz;have zFa := Nat.le_of_eq zF;have zFb := Nat.le_of_eq zF.symm;clear zF;obtain ⟨Fc0, Fc1, Fc2, Fc3, Fc4, Fc5, Fc6, Fc7, Fc8, Fc9, Fc10, Fc11, Fc12⟩ := cells_fabric F;have Flt := (ltH F);go_wp2_with fail
  clear Fc0 Fc1 Fc2 Fc3 Fc4 Fc5 Fc6 Fc7 Fc8 Fc9 Fc10 Fc11 Fc12 Flt;refine (H1.out _ B).mono ?_;rintro e u2w ⟨rfl, bq⟩;have tu2w : u1w.heap.size ≤ u2w.heap.size := bq.size;replace B := below_step B bq;replace F := row_keep bq F;clear bq;cases q1
  ·skip
   obtain ⟨Fc0, Fc1, Fc2, Fc3, Fc4, Fc5, Fc6, Fc7, Fc8, Fc9, Fc10, Fc11, Fc12⟩ := cells_fabric F;have Flt := (ltH F);have HB : Hid _ := B;clear B F;go_wp2;go_ret
   exact ⟨rfl, HB.out⟩
  ·skip
   obtain ⟨Fc0, Fc1, Fc2, Fc3, Fc4, Fc5, Fc6, Fc7, Fc8, Fc9, Fc10, Fc11, Fc12⟩ := cells_fabric F;have Flt := (ltH F);go_wp2_with fail
   clear Fc0 Fc1 Fc2 Fc3 Fc4 Fc5 Fc6 Fc7 Fc8 Fc9 Fc10 Fc11 Fc12 Flt;refine (H2.out _ B).mono ?_;rintro e u3w ⟨rfl, bq⟩;have tu3w : u2w.heap.size ≤ u3w.heap.size := bq.size;replace B := below_step B bq;replace F := row_keep bq F;clear bq;obtain ⟨Fc0, Fc1, Fc2, Fc3, Fc4, Fc5, Fc6, Fc7, Fc8, Fc9, Fc10, Fc11, Fc12⟩ := cells_fabric F;have Flt := (ltH F);have HB : Hid _ := B;clear B F;go_wp2;go_ret
   exact ⟨by simp [HZ.out], HB.out⟩
 ·have zt : ((x.2.1.2.length : Int) == x.1.2.2.2) = false := by simp [hz]
  have HZ : Hid (¬ (x.2.1.2.length : Int) = x.1.2.2.2) := hz;clear hz;have B := Below.refl w.heap.size w;go_enter Tryz.func71, Tryz.ntmps71;go_upto_region 1 with fail
  generalize hu1w : w.alloc _ = u1w;have F := boxH hu1w;have bz := boxB hu1w;have zF := boxL hu1w;clear hu1w;replace B := below_step B bz;clear bz;have zFa := Nat.le_of_eq zF;have zFb := Nat.le_of_eq zF.symm;clear zF;obtain ⟨Fc0, Fc1, Fc2, Fc3, Fc4, Fc5, Fc6, Fc7, Fc8, Fc9, Fc10, Fc11, Fc12⟩ := cells_fabric F;have Flt := (ltH F);go_wp2_with fail
  clear Fc0 Fc1 Fc2 Fc3 Fc4 Fc5 Fc6 Fc7 Fc8 Fc9 Fc10 Fc11 Fc12 Flt;refine (H1.out _ B).mono ?_;rintro e u2w ⟨rfl, bq⟩;have tu2w : u1w.heap.size ≤ u2w.heap.size := bq.size;replace B := below_step B bq;replace F := row_keep bq F;clear bq;cases q1
  ·skip
   obtain ⟨Fc0, Fc1, Fc2, Fc3, Fc4, Fc5, Fc6, Fc7, Fc8, Fc9, Fc10, Fc11, Fc12⟩ := cells_fabric F;have Flt := (ltH F);have HB : Hid _ := B;clear B F;go_wp2;go_ret
   exact ⟨rfl, HB.out⟩
  ·skip
   obtain ⟨Fc0, Fc1, Fc2, Fc3, Fc4, Fc5, Fc6, Fc7, Fc8, Fc9, Fc10, Fc11, Fc12⟩ := cells_fabric F;have Flt := (ltH F);have HB : Hid _ := B;clear B F;go_wp2;go_ret
   exact ⟨by simp [HZ.out], HB.out⟩
end Go.Proofs.YtcocbafhcpdheaaGreatDoor
