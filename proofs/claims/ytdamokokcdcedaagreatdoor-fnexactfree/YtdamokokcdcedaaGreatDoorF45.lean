import Derived.Test.YtdamokokcdcedaaGreatDoorF00Box
import Derived.Test.YtdamokokcdcedaaGreatDoorF44
namespace Go.Proofs.YtdamokokcdcedaaGreatDoor
set_option maxHeartbeats 4000000
set_option maxRecDepth 20000
open Go.ChangeShapes Go.WideShapes Go.ChangeAt Go.RowKit
set_option linter.unusedVariables false
set_option linter.unusedSimpArgs false
def quietE (e : EntryD) : Bool := !e.2.2.1
def quietC (u : CoreD) : Bool := decide (u.2.2.2.1 = 0) && clearB u.2.2.2.2.1
def restI (x : FabricD) : Bool := x.2.1.2.all quietE && (x.2.2.1.all quietC && !x.2.2.2.1.2.2.1)
noncomputable def freeI (x : FabricD) : Bool := finI x && restI x
theorem held_way {w : World} {u : CoreD} {v0 v1 v2 v3 v4 v5 v6 v7 v8 : Value} (h : coreR.rd w [v0, v1, v2, v3, v4, v5, v6, v7, v8] u) : wayR.rd w [v5, v6, v7] u.2.2.2.2.1 := by
 obtain ⟨z0, z1, z2, z5, z6, z7, z8, e, r0, r1, i2, i3, a, r5⟩ := core_rd h;simp only [List.cons.injEq, and_true] at e;obtain ⟨-, -, -, -, -, rfl, rfl, rfl, -⟩ := e;exact a
theorem quietE_u (cs : List Value) (x : EntryD) (w : World) (h : entR.rd w cs x) :
    Calls Tryz.prog 117 #[aggV cs] w fun e w' => e = .returned (.bool (quietE x)) ∧ Below w.heap.size w w' := by
 obtain ⟨a, b, rfl⟩ := ent_shape h;rw [show aggV [nI x.1, nI x.2.1, .bool x.2.2.1, nI x.2.2.2.1, nI x.2.2.2.2.1, nI x.2.2.2.2.2.1, nI x.2.2.2.2.2.2.1, sL a x.2.2.2.2.2.2.2.length b] = .agg #[nI x.1, nI x.2.1, .bool x.2.2.1, nI x.2.2.2.1, nI x.2.2.2.2.1, nI x.2.2.2.2.2.1, nI x.2.2.2.2.2.2.1, sL a x.2.2.2.2.2.2.2.length b] from rfl];have X := heap_at w (.cells #[nI x.1, nI x.2.1, .bool x.2.2.1, nI x.2.2.2.1, nI x.2.2.2.2.1, nI x.2.2.2.2.2.1, nI x.2.2.2.2.2.2.1, sL a x.2.2.2.2.2.2.2.length b] 101);have c : Hid _ := box_below w (.cells #[nI x.1, nI x.2.1, .bool x.2.2.1, nI x.2.2.2.1, nI x.2.2.2.2.1, nI x.2.2.2.2.2.1, nI x.2.2.2.2.2.2.1, sL a x.2.2.2.2.2.2.2.length b] 101);clear h;unfold quietE;go_enter Tryz.func117, Tryz.ntmps117;obtain ⟨y0, y1, y2, y3, y4, y5, y6, y7⟩ := cells_8 X;clear X;go_wp2;go_ret
 exact ⟨rfl, c.out⟩
theorem quietC_u (cs : List Value) (x : CoreD) (w : World) (h : coreR.rd w cs x) :
    Calls Tryz.prog 119 #[aggV cs] w fun e w' => e = .returned (.bool (quietC x)) ∧ Below w.heap.size w w' := by
 have E : Hid (∀ W v5 v6 v7, wayR.rd W [v5, v6, v7] x.2.2.2.2.1 → Calls Tryz.prog 94 #[.agg #[v5, v6, v7]] W fun e w' => e = .returned (.bool (clearB x.2.2.2.2.1)) ∧ Below W.heap.size W w') := fun W v5 v6 v7 hr => implEmpty_u [v5, v6, v7] _ W hr;obtain ⟨d, k, c, g, f, l, b, a, m, i, rfl⟩ := core_shape h;rw [show aggV [sL d x.1.1.length k, sL c x.1.2.length g, sL f x.2.1.length l, nI x.2.2.1, nI x.2.2.2.1, nI x.2.2.2.2.1.1, nI x.2.2.2.2.1.2.1, sL b x.2.2.2.2.1.2.2.length a, sL m x.2.2.2.2.2.length i] = .agg #[sL d x.1.1.length k, sL c x.1.2.length g, sL f x.2.1.length l, nI x.2.2.1, nI x.2.2.2.1, nI x.2.2.2.2.1.1, nI x.2.2.2.2.1.2.1, sL b x.2.2.2.2.1.2.2.length a, sL m x.2.2.2.2.2.length i] from rfl];have X := heap_at w (.cells #[sL d x.1.1.length k, sL c x.1.2.length g, sL f x.2.1.length l, nI x.2.2.1, nI x.2.2.2.1, nI x.2.2.2.2.1.1, nI x.2.2.2.2.1.2.1, sL b x.2.2.2.2.1.2.2.length a, sL m x.2.2.2.2.2.length i] 98);have B := box_below w (.cells #[sL d x.1.1.length k, sL c x.1.2.length g, sL f x.2.1.length l, nI x.2.2.1, nI x.2.2.2.1, nI x.2.2.2.2.1.1, nI x.2.2.2.2.1.2.1, sL b x.2.2.2.2.1.2.2.length a, sL m x.2.2.2.2.2.length i] 98);have F : Hid (∀ W, Below w.heap.size w W → wayR.rd W [nI x.2.2.2.2.1.1, nI x.2.2.2.2.1.2.1, sL b x.2.2.2.2.1.2.2.length a] x.2.2.2.2.1) := fun W hb => rd_next (held_way h) hb;clear h;unfold quietC;by_cases j : x.2.2.2.1 = 0
 ·have o : Hid _ := j;clear j;go_enter Tryz.func119, Tryz.ntmps119;go_upto_region 1 with fail
  generalize w.alloc (.cells #[sL d x.1.1.length k, sL c x.1.2.length g, sL f x.2.1.length l, nI x.2.2.1, nI x.2.2.2.1, nI x.2.2.2.2.1.1, nI x.2.2.2.2.1.2.1, sL b x.2.2.2.2.1.2.2.length a, sL m x.2.2.2.2.2.length i] 98) = W0 at X B ⊢;have j := o.out;obtain ⟨D, z, A, s, C, p, v, y, q⟩ := cells_core X;clear X;go_wp2_with fail
  refine (E.out _ _ _ _ (F.out _ B)).mono ?_;rintro e w1 ⟨rfl, r⟩;have n : Hid _ := below_step B r;clear r B D z A s C p v y q;go_wp2;go_ret
  exact ⟨by simp [j], n.out⟩
 ·go_enter Tryz.func119, Tryz.ntmps119;obtain ⟨D, z, A, s, C, p, v, y, q⟩ := cells_core X;clear X;have n : Hid _ := B;clear B;go_wp2;go_ret
  exact ⟨by simp [j], n.out⟩
theorem closQEntry {g : Nat} (x : EntryD) (cs : List Value) (w : World) (h : entR.rd w cs x) (hg : w.heap[g]? = some (.cells #[.func (.func 117) #[] #[]] 175 (0, 0))) :
    Calls Tryz.prog 182 #[aggV cs, .pointer (some ⟨g, 0, none⟩)] w fun e w' => e = .returned (.bool (!quietE x)) ∧ Below w.heap.size w w' := by
 have a : Hid (∀ W, Below w.heap.size w W → Calls Tryz.prog 117 #[aggV cs] W fun e w' => e = .returned (.bool (quietE x)) ∧ Below W.heap.size W w') := fun W hb => quietE_u cs x W (rd_next h hb);obtain ⟨b, c, rfl⟩ := ent_shape h;rw [show aggV [nI x.1, nI x.2.1, .bool x.2.2.1, nI x.2.2.2.1, nI x.2.2.2.2.1, nI x.2.2.2.2.2.1, nI x.2.2.2.2.2.2.1, sL b x.2.2.2.2.2.2.2.length c] = .agg #[nI x.1, nI x.2.1, .bool x.2.2.1, nI x.2.2.2.1, nI x.2.2.2.2.1, nI x.2.2.2.2.2.1, nI x.2.2.2.2.2.2.1, sL b x.2.2.2.2.2.2.2.length c] from rfl] at a ⊢;have B := box_below w (.cells #[nI x.1, nI x.2.1, .bool x.2.2.1, nI x.2.2.2.1, nI x.2.2.2.2.1, nI x.2.2.2.2.2.1, nI x.2.2.2.2.2.2.1, sL b x.2.2.2.2.2.2.2.length c] 101);have G := row_keep B hg;clear h hg;generalize quietE x = q at a ⊢;go_enter Tryz.func182, Tryz.ntmps182;go_upto_region 1 with fail
 have X := heap_at w (.cells #[nI x.1, nI x.2.1, .bool x.2.2.1, nI x.2.2.2.1, nI x.2.2.2.2.1, nI x.2.2.2.2.2.1, nI x.2.2.2.2.2.2.1, sL b x.2.2.2.2.2.2.2.length c] 101);generalize w.alloc (.cells #[nI x.1, nI x.2.1, .bool x.2.2.1, nI x.2.2.2.1, nI x.2.2.2.2.1, nI x.2.2.2.2.2.1, nI x.2.2.2.2.2.2.1, sL b x.2.2.2.2.2.2.2.length c] 101) = W0 at B G X ⊢;have i : W0.cell? ⟨g, 0, none⟩ = some (.func (.func 117) #[] #[]) := by rw [cell_of_row W0 g 0 _ _ (0, 0) G]; rfl
 obtain ⟨p, m, n, j, o, f, k, l⟩ := cells_8 X;clear G X;go_wp2_with fail
 refine (a.out _ B).mono ?_;rintro e w1 ⟨rfl, d⟩;replace B := below_step B d;clear i d p m n j o f k l;go_wp2;go_ret
 exact ⟨rfl, B⟩
theorem allQEntry (a : Option Addr) (xs : List EntryD) (cap : Nat) (w : World) (h : SlRd entR w a xs) (hm : xs.length ≤ maxLen) :
    Calls Tryz.prog 116 #[sL a xs.length cap, .func (.func 117) #[] #[]] w fun e w' => e = .returned (.bool (xs.all quietE)) ∧ Below w.heap.size w w' := by
 have B := box_below w (.cells #[.func (.func 117) #[] #[]] 175);have G := heap_at w (.cells #[.func (.func 117) #[] #[]] 175);have c := conFnEntry (p := quietE) (g := w.heap.size) a xs cap (w.alloc (.cells #[.func (.func 117) #[] #[]] 175)) (slrd_next h B) hm (fun x cs W hx hb hr => closQEntry x cs W hr (row_keep hb G));clear h hm G;generalize xs.all quietE = y at c ⊢;go_enter Tryz.func116, Tryz.ntmps116;go_wp2_with fail
 refine c.mono ?_;rintro e w1 ⟨rfl, b⟩;replace B := below_step B b;clear b;go_wp2;go_ret
 exact ⟨by simp, B⟩
theorem closQCore {g : Nat} (x : CoreD) (cs : List Value) (w : World) (h : coreR.rd w cs x) (hg : w.heap[g]? = some (.cells #[.func (.func 119) #[] #[]] 126 (0, 0))) :
    Calls Tryz.prog 183 #[aggV cs, .pointer (some ⟨g, 0, none⟩)] w fun e w' => e = .returned (.bool (!quietC x)) ∧ Below w.heap.size w w' := by
 have a : Hid (∀ W, Below w.heap.size w W → Calls Tryz.prog 119 #[aggV cs] W fun e w' => e = .returned (.bool (quietC x)) ∧ Below W.heap.size W w') := fun W hb => quietC_u cs x W (rd_next h hb);obtain ⟨c, l, b, f, d, m, k, j, n, i, rfl⟩ := core_shape h;rw [show aggV [sL c x.1.1.length l, sL b x.1.2.length f, sL d x.2.1.length m, nI x.2.2.1, nI x.2.2.2.1, nI x.2.2.2.2.1.1, nI x.2.2.2.2.1.2.1, sL k x.2.2.2.2.1.2.2.length j, sL n x.2.2.2.2.2.length i] = .agg #[sL c x.1.1.length l, sL b x.1.2.length f, sL d x.2.1.length m, nI x.2.2.1, nI x.2.2.2.1, nI x.2.2.2.2.1.1, nI x.2.2.2.2.1.2.1, sL k x.2.2.2.2.1.2.2.length j, sL n x.2.2.2.2.2.length i] from rfl] at a ⊢;have B := box_below w (.cells #[sL c x.1.1.length l, sL b x.1.2.length f, sL d x.2.1.length m, nI x.2.2.1, nI x.2.2.2.1, nI x.2.2.2.2.1.1, nI x.2.2.2.2.1.2.1, sL k x.2.2.2.2.1.2.2.length j, sL n x.2.2.2.2.2.length i] 98);have G := row_keep B hg;clear h hg;generalize quietC x = q at a ⊢;go_enter Tryz.func183, Tryz.ntmps183;go_upto_region 1 with fail
 have X := heap_at w (.cells #[sL c x.1.1.length l, sL b x.1.2.length f, sL d x.2.1.length m, nI x.2.2.1, nI x.2.2.2.1, nI x.2.2.2.2.1.1, nI x.2.2.2.2.1.2.1, sL k x.2.2.2.2.1.2.2.length j, sL n x.2.2.2.2.2.length i] 98);generalize w.alloc (.cells #[sL c x.1.1.length l, sL b x.1.2.length f, sL d x.2.1.length m, nI x.2.2.1, nI x.2.2.2.1, nI x.2.2.2.2.1.1, nI x.2.2.2.2.1.2.1, sL k x.2.2.2.2.1.2.2.length j, sL n x.2.2.2.2.2.length i] 98) = W0 at B G X ⊢;have s : W0.cell? ⟨g, 0, none⟩ = some (.func (.func 119) #[] #[]) := by rw [cell_of_row W0 g 0 _ _ (0, 0) G]; rfl
 obtain ⟨E, A, C, v, D, p, y, z, r⟩ := cells_core X;clear G X;go_wp2_with fail
 refine (a.out _ B).mono ?_;rintro e w1 ⟨rfl, o⟩;replace B := below_step B o;clear s o E A C v D p y z r;go_wp2;go_ret
 exact ⟨rfl, B⟩
theorem allQCore (a : Option Addr) (xs : List CoreD) (cap : Nat) (w : World) (h : SlRd coreR w a xs) (hm : xs.length ≤ maxLen) :
    Calls Tryz.prog 118 #[sL a xs.length cap, .func (.func 119) #[] #[]] w fun e w' => e = .returned (.bool (xs.all quietC)) ∧ Below w.heap.size w w' := by
 have B := box_below w (.cells #[.func (.func 119) #[] #[]] 126);have G := heap_at w (.cells #[.func (.func 119) #[] #[]] 126);have c := conFnCore (p := quietC) (g := w.heap.size) a xs cap (w.alloc (.cells #[.func (.func 119) #[] #[]] 126)) (slrd_next h B) hm (fun x cs W hx hb hr => closQCore x cs W hr (row_keep hb G));clear h hm G;generalize xs.all quietC = y at c ⊢;go_enter Tryz.func118, Tryz.ntmps118;go_wp2_with fail
 refine c.mono ?_;rintro e w1 ⟨rfl, b⟩;replace B := below_step B b;clear b;go_wp2;go_ret
 exact ⟨by simp, B⟩
theorem free_any (x : FabricD) (a1 : Option Addr) (c1 : Nat) (b1 : Option Addr) (d1 : Nat) (a2 : Option Addr) (c2 : Nat) (a3 : Option Addr) (c3 : Nat) (b3 : Option Addr) (d3 : Nat) (a4 : Option Addr) (c4 : Nat) (a5 : Option Addr) (c5 : Nat) (w : World) (R : FabRd w x a1 c1 b1 d1 a2 c2 a3 c3 b3 d3 a4 c4 a5 c5) :
    Calls Tryz.prog 59 #[.agg #[nI x.1.1, nI x.1.2.1, nI x.1.2.2.1, nI x.1.2.2.2, sL a1 x.2.1.1.length c1, sL b1 x.2.1.2.length d1, sL a2 x.2.2.1.length c2, sL a3 x.2.2.2.1.1.length c3, nI x.2.2.2.1.2.1, .bool x.2.2.2.1.2.2.1, sL b3 x.2.2.2.1.2.2.2.length d3, sL a4 x.2.2.2.2.1.length c4, sL a5 x.2.2.2.2.2.length c5]] w fun e w' => e = .returned (.bool (restI x)) ∧ Below w.heap.size w w' := by
 have f : Hid (∀ W, Below w.heap.size w W → Calls Tryz.prog 116 #[sL b1 x.2.1.2.length d1, .func (.func 117) #[] #[]] W fun e w' => e = .returned (.bool (x.2.1.2.all quietE)) ∧ Below W.heap.size W w') := fun W hb => allQEntry b1 x.2.1.2 d1 W (fab_next R hb).book R.bookl;have g : Hid (∀ W, Below w.heap.size w W → Calls Tryz.prog 118 #[sL a2 x.2.2.1.length c2, .func (.func 119) #[] #[]] W fun e w' => e = .returned (.bool (x.2.2.1.all quietC)) ∧ Below W.heap.size W w') := fun W hb => allQCore a2 x.2.2.1 c2 W (fab_next R hb).cores R.coresl;unfold restI;clear R;generalize x.2.1.2.all quietE = q1 at f ⊢;generalize x.2.2.1.all quietC = q2 at g ⊢;have B := Below.refl w.heap.size w;go_enter Tryz.func59, Tryz.ntmps59;go_upto_region 1 with fail
 have F := heap_at w (.cells #[nI x.1.1, nI x.1.2.1, nI x.1.2.2.1, nI x.1.2.2.2, sL a1 x.2.1.1.length c1, sL b1 x.2.1.2.length d1, sL a2 x.2.2.1.length c2, sL a3 x.2.2.2.1.1.length c3, nI x.2.2.2.1.2.1, .bool x.2.2.2.1.2.2.1, sL b3 x.2.2.2.1.2.2.2.length d3, sL a4 x.2.2.2.2.1.length c4, sL a5 x.2.2.2.2.2.length c5] 49);have d := box_below w (.cells #[nI x.1.1, nI x.1.2.1, nI x.1.2.2.1, nI x.1.2.2.2, sL a1 x.2.1.1.length c1, sL b1 x.2.1.2.length d1, sL a2 x.2.2.1.length c2, sL a3 x.2.2.2.1.1.length c3, nI x.2.2.2.1.2.1, .bool x.2.2.2.1.2.2.1, sL b3 x.2.2.2.1.2.2.2.length d3, sL a4 x.2.2.2.2.1.length c4, sL a5 x.2.2.2.2.2.length c5] 49);have c := alloc_len w (.cells #[nI x.1.1, nI x.1.2.1, nI x.1.2.2.1, nI x.1.2.2.2, sL a1 x.2.1.1.length c1, sL b1 x.2.1.2.length d1, sL a2 x.2.2.1.length c2, sL a3 x.2.2.2.1.1.length c3, nI x.2.2.2.1.2.1, .bool x.2.2.2.1.2.2.1, sL b3 x.2.2.2.1.2.2.2.length d3, sL a4 x.2.2.2.2.1.length c4, sL a5 x.2.2.2.2.2.length c5] 49);replace B := below_step B d;clear d;generalize w.alloc (.cells #[nI x.1.1, nI x.1.2.1, nI x.1.2.2.1, nI x.1.2.2.2, sL a1 x.2.1.1.length c1, sL b1 x.2.1.2.length d1, sL a2 x.2.2.1.length c2, sL a3 x.2.2.2.1.1.length c3, nI x.2.2.2.1.2.1, .bool x.2.2.2.1.2.2.1, sL b3 x.2.2.2.1.2.2.2.length d3, sL a4 x.2.2.2.2.1.length c4, sL a5 x.2.2.2.2.2.length c5] 49) = u1w at B F c ⊢;clear c;obtain ⟨Fc0, Fc1, Fc2, Fc3, Fc4, Fc5, Fc6, Fc7, Fc8, Fc9, Fc10, Fc11, Fc12⟩ := cells_fabric F;have Flt := (ltH F);go_wp2_with fail
 clear Fc0 Fc1 Fc2 Fc3 Fc4 Fc5 Fc6 Fc7 Fc8 Fc9 Fc10 Fc11 Fc12 Flt;refine (f.out _ B).mono ?_;rintro e j ⟨rfl, a⟩;replace B := below_step B a;replace F := row_keep a F;clear a;cases q1
 ·skip
  obtain ⟨Fc0, Fc1, Fc2, Fc3, Fc4, Fc5, Fc6, Fc7, Fc8, Fc9, Fc10, Fc11, Fc12⟩ := cells_fabric F;have Flt := (ltH F);have b : Hid _ := B;clear B F;go_wp2;go_ret
  exact ⟨by simp, b.out⟩
 ·skip
  obtain ⟨Fc0, Fc1, Fc2, Fc3, Fc4, Fc5, Fc6, Fc7, Fc8, Fc9, Fc10, Fc11, Fc12⟩ := cells_fabric F;have Flt := (ltH F);go_wp2_with fail
  clear Fc0 Fc1 Fc2 Fc3 Fc4 Fc5 Fc6 Fc7 Fc8 Fc9 Fc10 Fc11 Fc12 Flt;refine (g.out _ B).mono ?_;rintro e i ⟨rfl, a⟩;replace B := below_step B a;replace F := row_keep a F;clear a;cases q2
  ·skip
   obtain ⟨Fc0, Fc1, Fc2, Fc3, Fc4, Fc5, Fc6, Fc7, Fc8, Fc9, Fc10, Fc11, Fc12⟩ := cells_fabric F;have Flt := (ltH F);have b : Hid _ := B;clear B F;go_wp2;go_ret
   exact ⟨by simp, b.out⟩
  ·skip
   obtain ⟨Fc0, Fc1, Fc2, Fc3, Fc4, Fc5, Fc6, Fc7, Fc8, Fc9, Fc10, Fc11, Fc12⟩ := cells_fabric F;have Flt := (ltH F);have b : Hid _ := B;clear B F;go_wp2;go_ret
   exact ⟨by simp, b.out⟩
theorem implFree_any (x : FabricD) (a1 : Option Addr) (c1 : Nat) (b1 : Option Addr) (d1 : Nat) (a2 : Option Addr) (c2 : Nat) (a3 : Option Addr) (c3 : Nat) (b3 : Option Addr) (d3 : Nat) (a4 : Option Addr) (c4 : Nat) (a5 : Option Addr) (c5 : Nat) (w : World) (R : FabRd w x a1 c1 b1 d1 a2 c2 a3 c3 b3 d3 a4 c4 a5 c5) (hh : Hold w) :
    Calls Tryz.prog 18 #[.agg #[nI x.1.1, nI x.1.2.1, nI x.1.2.2.1, nI x.1.2.2.2, sL a1 x.2.1.1.length c1, sL b1 x.2.1.2.length d1, sL a2 x.2.2.1.length c2, sL a3 x.2.2.2.1.1.length c3, nI x.2.2.2.1.2.1, .bool x.2.2.2.1.2.2.1, sL b3 x.2.2.2.1.2.2.2.length d3, sL a4 x.2.2.2.2.1.length c4, sL a5 x.2.2.2.2.2.length c5]] w fun e w' => e = .returned (.bool (freeI x)) ∧ Below w.heap.size w w' := by
 have f : Hid (∀ W, Below w.heap.size w W → Calls Tryz.prog 56 #[.agg #[nI x.1.1, nI x.1.2.1, nI x.1.2.2.1, nI x.1.2.2.2, sL a1 x.2.1.1.length c1, sL b1 x.2.1.2.length d1, sL a2 x.2.2.1.length c2, sL a3 x.2.2.2.1.1.length c3, nI x.2.2.2.1.2.1, .bool x.2.2.2.1.2.2.1, sL b3 x.2.2.2.1.2.2.2.length d3, sL a4 x.2.2.2.2.1.length c4, sL a5 x.2.2.2.2.2.length c5]] W fun e w' => e = .returned (.bool (finI x)) ∧ Below W.heap.size W w') := fun W hb => implFinished_any x a1 c1 b1 d1 a2 c2 a3 c3 b3 d3 a4 c4 a5 c5 W (fab_next R hb) (hh.goes hb);have g : Hid (∀ W, Below w.heap.size w W → Calls Tryz.prog 59 #[.agg #[nI x.1.1, nI x.1.2.1, nI x.1.2.2.1, nI x.1.2.2.2, sL a1 x.2.1.1.length c1, sL b1 x.2.1.2.length d1, sL a2 x.2.2.1.length c2, sL a3 x.2.2.2.1.1.length c3, nI x.2.2.2.1.2.1, .bool x.2.2.2.1.2.2.1, sL b3 x.2.2.2.1.2.2.2.length d3, sL a4 x.2.2.2.2.1.length c4, sL a5 x.2.2.2.2.2.length c5]] W fun e w' => e = .returned (.bool (restI x)) ∧ Below W.heap.size W w') := fun W hb => free_any x a1 c1 b1 d1 a2 c2 a3 c3 b3 d3 a4 c4 a5 c5 W (fab_next R hb);unfold freeI;clear R hh;generalize finI x = q1 at f ⊢;generalize restI x = q2 at g ⊢;have B := Below.refl w.heap.size w;go_enter Tryz.func18, Tryz.ntmps18;go_upto_region 1 with fail
 have F := heap_at w (.cells #[nI x.1.1, nI x.1.2.1, nI x.1.2.2.1, nI x.1.2.2.2, sL a1 x.2.1.1.length c1, sL b1 x.2.1.2.length d1, sL a2 x.2.2.1.length c2, sL a3 x.2.2.2.1.1.length c3, nI x.2.2.2.1.2.1, .bool x.2.2.2.1.2.2.1, sL b3 x.2.2.2.1.2.2.2.length d3, sL a4 x.2.2.2.2.1.length c4, sL a5 x.2.2.2.2.2.length c5] 49);have d := box_below w (.cells #[nI x.1.1, nI x.1.2.1, nI x.1.2.2.1, nI x.1.2.2.2, sL a1 x.2.1.1.length c1, sL b1 x.2.1.2.length d1, sL a2 x.2.2.1.length c2, sL a3 x.2.2.2.1.1.length c3, nI x.2.2.2.1.2.1, .bool x.2.2.2.1.2.2.1, sL b3 x.2.2.2.1.2.2.2.length d3, sL a4 x.2.2.2.2.1.length c4, sL a5 x.2.2.2.2.2.length c5] 49);have c := alloc_len w (.cells #[nI x.1.1, nI x.1.2.1, nI x.1.2.2.1, nI x.1.2.2.2, sL a1 x.2.1.1.length c1, sL b1 x.2.1.2.length d1, sL a2 x.2.2.1.length c2, sL a3 x.2.2.2.1.1.length c3, nI x.2.2.2.1.2.1, .bool x.2.2.2.1.2.2.1, sL b3 x.2.2.2.1.2.2.2.length d3, sL a4 x.2.2.2.2.1.length c4, sL a5 x.2.2.2.2.2.length c5] 49);replace B := below_step B d;clear d;generalize w.alloc (.cells #[nI x.1.1, nI x.1.2.1, nI x.1.2.2.1, nI x.1.2.2.2, sL a1 x.2.1.1.length c1, sL b1 x.2.1.2.length d1, sL a2 x.2.2.1.length c2, sL a3 x.2.2.2.1.1.length c3, nI x.2.2.2.1.2.1, .bool x.2.2.2.1.2.2.1, sL b3 x.2.2.2.1.2.2.2.length d3, sL a4 x.2.2.2.2.1.length c4, sL a5 x.2.2.2.2.2.length c5] 49) = u1w at B F c ⊢;clear c;obtain ⟨Fc0, Fc1, Fc2, Fc3, Fc4, Fc5, Fc6, Fc7, Fc8, Fc9, Fc10, Fc11, Fc12⟩ := cells_fabric F;have Flt := (ltH F);go_wp2_with fail
 clear Fc0 Fc1 Fc2 Fc3 Fc4 Fc5 Fc6 Fc7 Fc8 Fc9 Fc10 Fc11 Fc12 Flt;refine (f.out _ B).mono ?_;rintro e j ⟨rfl, a⟩;replace B := below_step B a;replace F := row_keep a F;clear a;cases q1
 ·skip
  obtain ⟨Fc0, Fc1, Fc2, Fc3, Fc4, Fc5, Fc6, Fc7, Fc8, Fc9, Fc10, Fc11, Fc12⟩ := cells_fabric F;have Flt := (ltH F);have b : Hid _ := B;clear B F;go_wp2;go_ret
  exact ⟨by simp, b.out⟩
 ·skip
  obtain ⟨Fc0, Fc1, Fc2, Fc3, Fc4, Fc5, Fc6, Fc7, Fc8, Fc9, Fc10, Fc11, Fc12⟩ := cells_fabric F;have Flt := (ltH F);go_wp2_with fail
  clear Fc0 Fc1 Fc2 Fc3 Fc4 Fc5 Fc6 Fc7 Fc8 Fc9 Fc10 Fc11 Fc12 Flt;refine (g.out _ B).mono ?_;rintro e i ⟨rfl, a⟩;replace B := below_step B a;replace F := row_keep a F;clear a;cases q2
  ·skip
   obtain ⟨Fc0, Fc1, Fc2, Fc3, Fc4, Fc5, Fc6, Fc7, Fc8, Fc9, Fc10, Fc11, Fc12⟩ := cells_fabric F;have Flt := (ltH F);have b : Hid _ := B;clear B F;go_wp2;go_ret
   exact ⟨by simp, b.out⟩
  ·skip
   obtain ⟨Fc0, Fc1, Fc2, Fc3, Fc4, Fc5, Fc6, Fc7, Fc8, Fc9, Fc10, Fc11, Fc12⟩ := cells_fabric F;have Flt := (ltH F);have b : Hid _ := B;clear B F;go_wp2;go_ret
   exact ⟨by simp, b.out⟩
def loopsOf : Code → List Code
 | .loop c => [c]
 | .seq a b => loopsOf a ++ loopsOf b
 | .block _ c => loopsOf c
 | .scope c => loopsOf c
 | .cond _ a b => loopsOf a ++ loopsOf b
 | _ => []
noncomputable def fabCode (n : Nat) : Code := ((Tryz.f24.body.map loopsOf).getD []).getD n .skip
theorem all_upto {α : Type} {p : α → Bool} {xs : List α} (h : ∀ (j : Nat) v, xs[j]? = some v → p v = true) : xs.all p = true := List.all_eq_true.2 fun v hv => by
 obtain ⟨j, a⟩ := List.getElem?_of_mem hv;exact h j v a
structure UptoF (w : World) (x : FabricD) (a1 b1 a2 a3 b3 a4 a5 : Option Addr) (c1 d1 c2 c3 d3 c4 c5 : Nat) (n : Nat) (p : Nat → Prop) (i : Value) (wr : World) : Prop where
 ex : ∃ k : Nat, k ≤ n ∧ i = .int .i64 k ∧ (∀ j, j < k → p j) ∧ Below w.heap.size w wr ∧ wr.heap[w.heap.size]? = some (.cells #[.int .i64 x.1.1, .int .i64 x.1.2.1, .int .i64 x.1.2.2.1, .int .i64 x.1.2.2.2, .slice a1 x.2.1.1.length c1, .slice b1 x.2.1.2.length d1, .slice a2 x.2.2.1.length c2, .slice a3 x.2.2.2.1.1.length c3, .int .i64 x.2.2.2.1.2.1, .bool x.2.2.2.1.2.2.1, .slice b3 x.2.2.2.1.2.2.2.length d3, .slice a4 x.2.2.2.2.1.length c4, .slice a5 x.2.2.2.2.2.length c5] 49 (0, 0))
theorem wrap_u64c {c : Int} (h0 : 0 ≤ c) (h4 : c ≤ 4) : IntKind.u64.wrap c = c := by
 rcases (by omega : c = 0 ∨ c = 1 ∨ c = 2 ∨ c = 3 ∨ c = 4) with rfl | rfl | rfl | rfl | rfl <;> rfl
end Go.Proofs.YtdamokokcdcedaaGreatDoor
