import Derived.Test.YtcocbafhcpdheaaGreatDoorT00Box
import Derived.Test.YtcocbafhcpdheaaGreatDoorT06
import Derived.LaidHandle
import Derived.Stop.Joined
import Derived.RangeFuncNested
import Derived.RangeFuncBound
import Derived.RangeFuncLeaves
import Derived.Shelf.Abstract
namespace Go.Proofs.YtcocbafhcpdheaaGreatDoor
set_option maxHeartbeats 2000000
set_option maxRecDepth 100000
open Go.ChangeShapes Go.WideShapes Go.RowKit
set_option linter.unusedVariables false
abbrev holdL : List (String × DataW Unit) := [("errors.errorType", Rows.laid_errors_errorType)]
theorem gEt : Tryz.prog.globalNamed "errors.errorType" = some 1 := by kernel_rfl
theorem gRt : (Tryz.prog.cutTypes.find? (·.1 == "internal/reflectlite.rtype")).map (·.2) = some 286 := by kernel_rfl
theorem gRow : ((List.range 336).filter fun t => Tryz.prog.rowNamed t [101, 114, 114, 111, 114]) = [213] := by kernel_rfl
theorem gSize : Tryz.prog.types.size = 336 := by kernel_rfl
theorem hold_laid {W : World} (h : laidMetH Tryz.prog holdL W) : Hold W := by
 have j : laidMet Tryz.prog [] W ∧ handlesMet Tryz.prog holdL W := h;obtain ⟨a, u, k, d, m, f, g, b⟩ := j.2 _ (List.mem_singleton.2 rfl);have l : a = [101, 114, 114, 111, 114] := (Option.some.inj d).symm;subst l;obtain rfl := Option.some.inj (gRt.symm.trans m);have c : k ∈ (List.range 336).filter fun t => Tryz.prog.rowNamed t [101, 114, 114, 111, 114] := List.mem_filter.2 ⟨List.mem_range.2 (by rw [← gSize]; exact f), g⟩;rw [gRow] at c;obtain rfl := List.mem_singleton.1 c;have i : typeHandle Tryz.prog 213 = .pointer (some ⟨2, 213, none⟩) := by kernel_rfl
 rw [i] at b;unfold Hold;simpa using World.var?_cell gEt b 0
noncomputable def zIU (os : Os) : World :=
 { World.holding Tryz.prog os ⟨#[], #[], []⟩ with heap := (World.holding Tryz.prog os ⟨#[], #[], []⟩).heap.modify 1 fun
     | .cells _ t frozen => .cells #[.iface 286 (.agg #[.pointer (some ⟨2, 213, none⟩)])] t frozen
     | o => o }
structure HoldB (w : World) : Prop where
 han : Hold w
 tab : HoldT w
theorem HoldB.goes {w w' : World} (h : HoldB w) (hb : Below w.heap.size w w') : HoldB w' := ⟨h.han.goes hb, h.tab.goes hb⟩
abbrev holdLB : List (String × DataW Unit) := [("errors.errorType", Rows.laid_errors_errorType), (zCH, Rows.laid_loop_example_g00342_impl_holdings)]
theorem laid_parts {W : World} (h : laidMetH Tryz.prog holdLB W) : laidMet Tryz.prog zLi W ∧ laidMetH Tryz.prog holdL W := by
 have a : laidMet Tryz.prog zLi W ∧ handlesMet Tryz.prog holdL W := h;exact ⟨a.1, ⟨laidMet_nil _ _, a.2⟩⟩
noncomputable def zF4 (os : Os) : World :=
 { zIU os with heap := (zIU os).heap.modify 0 fun
     | .cells _ t frozen => .cells zDX t frozen
     | o => o }
theorem zIV (os : Os) (args : Array Value) : ((zF4 os).forCall (fun _ _ => 0) ⟨#[], args, []⟩).memory.heap[0]? = some (.cells zDX 195 (0, 0)) := by kernel_rfl
theorem zNw (os : Os) (args : Array Value) : laidMet Tryz.prog zLi ((zF4 os).forCall (fun _ _ => 0) ⟨#[], args, []⟩).memory := by
 refine ⟨_, ⟨0, 195, zDX, 8, [], [], by kernel_rfl, by kernel_rfl, by kernel_rfl, by kernel_rfl, rfl, rfl⟩, by decide, fun b off h => ?_⟩;have a : MemPlace.cell b off ∈ [MemPlace.cell 0 0, .cell 0 1, .cell 0 2, .cell 0 3, .cell 0 4, .cell 0 5, .cell 0 6, .cell 0 7, .cell 0 8, .cell 0 9, .cell 0 10, .cell 0 11] := h;have c : b = 0 := by
  simp at a
  omega
 subst c;refine ⟨⟨_, _, zIV os args⟩, fun u v hc => ?_⟩;simp only [World.cell?, zIV os args] at hc;simp at a
 rcases a with rfl | rfl | rfl | rfl | rfl | rfl | rfl | rfl | rfl | rfl | rfl | rfl <;> simp [zDX] at hc
theorem laid_metB (os : Os) (args : Array Value) : laidMetH Tryz.prog holdLB ((zF4 os).forCall (fun _ _ => 0) ⟨#[], args, []⟩).memory :=
 laidMetH_of_parts (zNw os args) (by kernel_rfl)
open Go.ChangeShapes Go.WideShapes Go.ChangeAt Go.RowKit
abbrev OpD := Int × Int × Int × Int
abbrev opR : Rep OpD := zBp zAG (zBp zAG (zBp zAG zAG))
abbrev opM : Mk OpD := zBm zBa (zBm zBa (zBm zBa zBa))
abbrev zGj : Rep (List OpD) := slR 121 opR
abbrev zD2 : Mk (List OpD) := slM opM
def In4 (u : OpD) : Prop := zAN u.1 ∧ zAN u.2.1 ∧ zAN u.2.2.1 ∧ zAN u.2.2.2
theorem zLo : zC2 Tryz.prog 112 opR :=
 zBf Tryz.underlying112 (by kernel_rfl) (zAu rfl (by kernel_rfl) zAD (zAu rfl (by kernel_rfl) zAD (zAu rfl (by kernel_rfl) zAD (zBC rfl (by kernel_rfl) zAD))))
theorem zNx : zC2 Tryz.prog 102 zGj := zBI Tryz.underlying102 (by kernel_rfl) (by decide) zLo
theorem zJX {w : World} {cs : List Value} {u : OpD} (h : opR.rd w cs u) : cs = [.int .i64 u.1, .int .i64 u.2.1, .int .i64 u.2.2.1, .int .i64 u.2.2.2] ∧ In4 u := by
 obtain ⟨c0, e0, rfl, ⟨rfl, c⟩, c1, e1, rfl, ⟨rfl, b⟩, c2, e2, rfl, ⟨rfl, d⟩, ⟨rfl, a⟩⟩ := h;exact ⟨rfl, c, b, d, a⟩
theorem zFG {w : World} {S : zBo} {u : OpD} (h : In4 u) : opR.own w S [.int .i64 u.1, .int .i64 u.2.1, .int .i64 u.2.2.1, .int .i64 u.2.2.2] u :=
 ⟨[_], [_, _, _], fun _ => False, S, rfl, ⟨rfl, h.1⟩, ⟨[_], [_, _], fun _ => False, S, rfl, ⟨rfl, h.2.1⟩, ⟨[_], [_], fun _ => False, S, rfl, ⟨rfl, h.2.2.1⟩, ⟨rfl, h.2.2.2⟩, fun _ h => h.elim, Sub.refl _, fun _ h _ => h⟩, fun _ h => h.elim, Sub.refl _, fun _ h _ => h⟩, fun _ h => h.elim, Sub.refl _, fun _ h _ => h⟩
theorem made_op {w w' : World} {u : OpD} (h : In4 u) (hb : Below w.heap.size w w') : zAI opR w w' [.int .i64 u.1, .int .i64 u.2.1, .int .i64 u.2.2.1, .int .i64 u.2.2.2] u := ⟨zFG h, hb⟩
theorem zNy (xs : List OpD) : zA6 opM xs = 0 := by
 induction xs with
 | nil => rfl
 | cons x xs ih => simp only [zA6, List.map_cons, List.sum_cons] at ih ⊢; rw [ih]; rfl
theorem zNz (xs : List OpD) : zD2.bk xs = xs.length := by
 have a : zD2.bk xs = xs.length + zA6 opM xs := rfl;rw [a, zNy]; rfl
theorem cnt_ops (xs : List OpD) : zAt opM xs = 4 * xs.length := by
 induction xs with
 | nil => rfl
 | cons x xs ih =>
  simp only [zAt, List.map_cons, List.sum_cons, List.length_cons] at ih ⊢;rw [ih];show 1 + (1 + (1 + 1)) + _ = _
  omega
theorem zHi {w : World} {a : Option Addr} {xs : List OpD} (h : zA4 opR w a xs) {k : Nat} {x : OpD} (hx : xs[k]? = some x) : ∃ b c, a = some ⟨b, c, none⟩ ∧ w.cell? ⟨b, c + k * 4, none⟩ = some (.int .i64 x.1) ∧ w.cell? ⟨b, c + k * 4 + 1, none⟩ = some (.int .i64 x.2.1) ∧ w.cell? ⟨b, c + k * 4 + 2, none⟩ = some (.int .i64 x.2.2.1) ∧ w.cell? ⟨b, c + k * 4 + 3, none⟩ = some (.int .i64 x.2.2.2) ∧ In4 x := by
 obtain ⟨b, c, cs, rfl, f, d⟩ := zAy h hx;obtain ⟨rfl, g⟩ := zJX f;exact ⟨b, c, rfl, d 0 _ rfl, d 1 _ rfl, d 2 _ rfl, d 3 _ rfl, g⟩
theorem zN0 (a : Option Addr) (xs : List OpD) (cap : Nat) (left : Int) (w : World) (h0 : 0 ≤ left) (h1 : left ≤ 1048576) (hm : xs.length ≤ maxLen) :
    Calls Tryz.prog 109 #[.slice a xs.length cap, .int .i64 left] w fun e w' => e = .returned (.int .i64 (szI (zD2.bk xs) left)) ∧ w' = w := by
 have f : xs.length ≤ 9223372036854775807 := hm;rw [zNz];by_cases d : (xs.length : Int) ≤ left
 ·have b : Hid (szI xs.length left = _) := zAF d;have c : ¬ (left - (xs.length : Int) < 0) := by omega
  go_enter Tryz.func109, Tryz.ntmps109;go_wp2;go_ret
  exact ⟨zAx b.out.symm, rfl⟩
 ·have b : Hid (szI xs.length left = _) := zAE d;have c : left - (xs.length : Int) < 0 := by omega
  go_enter Tryz.func109, Tryz.ntmps109;go_wp2;go_ret
  exact ⟨zAx b.out.symm, rfl⟩
theorem zLp (k a x y : Int) (w : World) :
    Calls Tryz.prog 118 #[.agg #[.int .i64 k, .int .i64 a, .int .i64 x, .int .i64 y]] w fun e w' => e = .returned (.agg #[.int .i64 k, .int .i64 a, .int .i64 x, .int .i64 y]) ∧ Below w.heap.size w w' := by
 have b : Hid (∀ o o' o'', Below w.heap.size w (((w.alloc o).alloc o').alloc o'')) := fun o o' o'' => zAa (zAa (zAf w o) (zAf _ o')) (zAf _ o'');go_enter Tryz.func118, Tryz.ntmps118;go_wp2;refine bodyPost_ret (v := .agg #[.int .i64 k, .int .i64 a, .int .i64 x, .int .i64 y]) (by simp [results, Tryz.results118, go_sem]) rfl ⟨rfl, ?_⟩;exact b.out _ _ _
theorem Tryz.infoOp : (Tryz.prog.info? 121).map (fun i => (i.zero, i.size, i.bytes)) = some (some (.agg #[.int .i64 0, .int .i64 0, .int .i64 0, .int .i64 0]), 4, 32) := by kernel_rfl
theorem zN1 (a : Option Addr) (xs : List OpD) (cap : Nat) (w : World) (h : zA4 opR w a xs) (hm : zD2.bk xs ≤ 1048576) :
    Calls Tryz.prog 115 #[.slice a xs.length cap] w fun e w' => ∃ v, e = .returned v ∧ zAI zGj w w' [v] xs := by
 rw [zNz] at hm;have G : Hid (zA4 opR w a xs) := h;clear h;have s := zBW (P := Tryz.prog) 93 121 (.agg #[.int .i64 0, .int .i64 0, .int .i64 0, .int .i64 0]) 4 32 Tryz.underlying93 Tryz.infoOp xs.length (by omega) (by omega);go_enter Tryz.func115, Tryz.ntmps115;go_wp2;go_loopw [4] (fun i wr => ∃ k : Nat, k ≤ xs.length ∧ i = .int .i64 k ∧ zLa 121 opR w wr xs.length (xs.take k)) (fun i _ => xs.length - (intOf i).toNat)
 case atStart => exact ⟨0, Nat.zero_le _, rfl, by simpa using zBV (e := 121) (R := opR) (w0 := w) (n := xs.length) (cs := madeCells #[.int .i64 0, .int .i64 0, .int .i64 0, .int .i64 0] (xs.length * 4)) (by unfold maxLen; omega) (by rw [size_madeCells]; rfl)⟩
 case round =>
  obtain ⟨k, hk, rfl, d⟩ := hrel;by_cases f : k < xs.length
  ·have A : (k : Int) < (xs.length : Int) := by omega
   obtain ⟨x, m⟩ : ∃ x, xs[k]? = some x := ⟨_, List.getElem?_eq_getElem f⟩;obtain ⟨b, M, rfl, I, F, K, J, C⟩ := zHi (zAm G.out (zCx d)) m;have B : Hid (∀ w1 c, zAI opR wr w1 c x → _) := fun w1 c hm => zCt (w1 := w1) (c := c) d (by simp; omega) f hm;have E : Hid (xs.take k ++ [x] = xs.take (k + 1)) := by unfold Hid; rw [List.take_add_one, m]; rfl
   have D : Hid (In4 x) := C;clear m s d C;go_wp2_with fail
   refine (zLp x.1 x.2.1 x.2.2.1 x.2.2.2 _).mono ?_;rintro e w1 ⟨rfl, z⟩;obtain ⟨g, j, q⟩ := B.out _ _ (made_op D.out z);obtain ⟨v0, y⟩ := g 0 (by decide);obtain ⟨v1, l⟩ := g 1 (by decide);obtain ⟨v2, p⟩ := g 2 (by decide);obtain ⟨v3, r⟩ := g 3 (by decide);have z0 := j (k * 4);have z1 := j (k * 4 + 1);have z2 := j (k * 4 + 2);have z3 := j (k * 4 + 3);rw [show k * opR.size + 0 = k * 4 from rfl] at y;rw [show k * opR.size + 1 = k * 4 + 1 from rfl] at l;rw [show k * opR.size + 2 = k * 4 + 2 from rfl] at p;rw [show k * opR.size + 3 = k * 4 + 3 from rfl] at r;rw [E.out] at q;have H : Hid _ := q;clear q z g j B I F K J;go_wp2;go_roundw
   case rel => exact ⟨k + 1, by omega, by go_num, H.out⟩
   case measure => simp [intOf]; omega
  ·have o : k = xs.length := by omega
   subst o;rw [List.take_length] at d;have L := zCD d rfl;clear d;go_wp2;go_ret
   exact ⟨_, rfl, L⟩
theorem zLq (k a x y : Int) (w : World) :
    Calls Tryz.prog 138 #[.agg #[.int .i64 k, .int .i64 a, .int .i64 x, .int .i64 y], .agg #[.int .i64 k, .int .i64 a, .int .i64 x, .int .i64 y]] w fun e w' => e = .returned (.bool true) ∧ Below w.heap.size w w' := by
 have b : Hid (∀ o o', Below w.heap.size w ((w.alloc o).alloc o')) := fun o o' => zAa (zAf w o) (zAf _ o');go_enter Tryz.func138, Tryz.ntmps138;go_wp2;go_ret
 exact ⟨rfl, b.out _ _⟩
theorem zN2 (a1 a2 : Option Addr) (xs : List OpD) (c1 c2 : Nat) (w : World) (h1 : zA4 opR w a1 xs) (h2 : zA4 opR w a2 xs) (hm : zD2.bk xs ≤ 1152921504606846976) :
    Calls Tryz.prog 135 #[.slice a1 xs.length c1, .slice a2 xs.length c2] w fun e w' => e = .returned (.bool true) ∧ Below w.heap.size w w' := by
 rw [zNz] at hm;have J : Hid (∀ W, Below w.heap.size w W → zA4 opR W a1 xs) := fun W hb => zAq h1 fun k E => hb.block k E;have K : Hid (∀ W, Below w.heap.size w W → zA4 opR W a2 xs) := fun W hb => zAq h2 fun k E => hb.block k E;clear h1 h2;go_enter Tryz.func135, Tryz.ntmps135;go_wp2;go_loopw [5] (fun i wr => ∃ k : Nat, k ≤ xs.length ∧ i = .int .i64 k ∧ Below w.heap.size w wr) (fun i _ => xs.length - (intOf i).toNat)
 case atStart => exact ⟨0, Nat.zero_le _, rfl, Below.refl _ _⟩
 case round =>
  obtain ⟨k, E, rfl, q⟩ := hrel;by_cases F : k < xs.length
  ·have I : (k : Int) < (xs.length : Int) := by omega
   obtain ⟨x, G⟩ : ∃ x, xs[k]? = some x := ⟨_, List.getElem?_eq_getElem F⟩;obtain ⟨D, a, rfl, f, p, g, o, -⟩ := zHi (J.out _ q) G;obtain ⟨d, b, rfl, c, m, l, j, -⟩ := zHi (K.out _ q) G;have C : ∀ n : Cls (fun wx => Below wr.heap.size wr wx), n.w.cell? ⟨D, a + k * 4, none⟩ = some (.int .i64 x.1) := fun n => zAe n.h f (zAk f);have z : ∀ n : Cls (fun wx => Below wr.heap.size wr wx), n.w.cell? ⟨D, a + k * 4 + 1, none⟩ = some (.int .i64 x.2.1) := fun n => zAe n.h p (zAk p);have s : ∀ n : Cls (fun wx => Below wr.heap.size wr wx), n.w.cell? ⟨D, a + k * 4 + 2, none⟩ = some (.int .i64 x.2.2.1) := fun n => zAe n.h g (zAk g);have B : ∀ n : Cls (fun wx => Below wr.heap.size wr wx), n.w.cell? ⟨D, a + k * 4 + 3, none⟩ = some (.int .i64 x.2.2.2) := fun n => zAe n.h o (zAk o);have r : ∀ n : Cls (fun wx => Below wr.heap.size wr wx), n.w.cell? ⟨d, b + k * 4, none⟩ = some (.int .i64 x.1) := fun n => zAe n.h c (zAk c);have A : ∀ n : Cls (fun wx => Below wr.heap.size wr wx), n.w.cell? ⟨d, b + k * 4 + 1, none⟩ = some (.int .i64 x.2.1) := fun n => zAe n.h m (zAk m);have v : ∀ n : Cls (fun wx => Below wr.heap.size wr wx), n.w.cell? ⟨d, b + k * 4 + 2, none⟩ = some (.int .i64 x.2.2.1) := fun n => zAe n.h l (zAk l);have y : ∀ n : Cls (fun wx => Below wr.heap.size wr wx), n.w.cell? ⟨d, b + k * 4 + 3, none⟩ = some (.int .i64 x.2.2.2) := fun n => zAe n.h j (zAk j);clear G f p g o c m l j;go_wp2_with fail
   refine zAz (fun wx => Below wr.heap.size wr wx) (by kernel_rfl) (by kernel_rfl) ((Below.refl _ wr).drew) ?_;intro H;repeat (quiet_step ((go_at_call 138; exact zAj (zLq x.1 x.2.1 x.2.2.1 x.2.2.2 _) (fun w' hc bb => zAa hc bb))))
   refine wpQuiet_nil ?_;intro wx d;replace q := zAa q d;clear d H C r z A s v B y;go_wp2;go_roundw
   case rel => exact ⟨k + 1, by omega, by go_num, q⟩
   case measure => simp [intOf]; omega
  ·go_wp2;go_ret
   exact ⟨rfl, q⟩
abbrev CfgD := Int × Int × Int × Int
abbrev zH5 : Rep CfgD := zBp zAG (zBp zAG (zBp zAG zAG))
theorem zN3 : zC2 Tryz.prog 23 zH5 :=
 zBf Tryz.underlying23 (by kernel_rfl) (zAu rfl (by kernel_rfl) zAD (zAu rfl (by kernel_rfl) zAD (zAu rfl (by kernel_rfl) zAD (zBC rfl (by kernel_rfl) zAD))))
theorem zLr {w : World} {cs : List Value} {u : CfgD} (h : zH5.rd w cs u) : cs = [.int .i64 u.1, .int .i64 u.2.1, .int .i64 u.2.2.1, .int .i64 u.2.2.2] ∧ zAN u.1 ∧ zAN u.2.1 ∧ zAN u.2.2.1 ∧ zAN u.2.2.2 := by
 obtain ⟨c0, e0, rfl, ⟨rfl, c⟩, c1, e1, rfl, ⟨rfl, b⟩, c2, e2, rfl, ⟨rfl, d⟩, ⟨rfl, a⟩⟩ := h;exact ⟨rfl, c, b, d, a⟩
abbrev zIC : Mk CfgD := zBm zBa (zBm zBa (zBm zBa zBa))
theorem zN4 {w : World} {cs : List Value} {u : OpD} (h : opR.rd w cs u) : cs = [.int .i64 u.1, .int .i64 u.2.1, .int .i64 u.2.2.1, .int .i64 u.2.2.2] ∧ True := ⟨(zJX h).1, trivial⟩
theorem zJY {w : World} {cs : List Value} {u : CfgD} (h : zH5.rd w cs u) : cs = [.int .i64 u.1, .int .i64 u.2.1, .int .i64 u.2.2.1, .int .i64 u.2.2.2] ∧ True := ⟨(zLr h).1, trivial⟩
theorem own_cfg {w : World} {S : zBo} {u : CfgD} (i0 : zAN u.1) (i1 : zAN u.2.1) (i2 : zAN u.2.2.1) (i3 : zAN u.2.2.2) : zH5.own w S [.int .i64 u.1, .int .i64 u.2.1, .int .i64 u.2.2.1, .int .i64 u.2.2.2] u := zFG (u := u) ⟨i0, i1, i2, i3⟩
theorem toOp_u : ToC 118 opR opM zBq := by
 intro cs x w h hm;obtain ⟨rfl, a⟩ := zJX h;refine (zLp x.1 x.2.1 x.2.2.1 x.2.2.2 w).mono ?_;rintro e w' ⟨rfl, b⟩;exact ⟨[_, _, _, _], rfl, zFG a, b⟩
theorem eqOp_u : EqC 138 opR opM zBq := by
 intro cs ds x w h k hm;obtain ⟨rfl, -⟩ := zJX h;obtain ⟨rfl, -⟩ := zJX k;exact zLq x.1 x.2.1 x.2.2.1 x.2.2.2 w
theorem zIW (k a x y : Int) (w : World) :
    Calls Tryz.prog 29 #[.agg #[.int .i64 k, .int .i64 a, .int .i64 x, .int .i64 y]] w fun e w' => e = .returned (.agg #[.int .i64 k, .int .i64 a, .int .i64 x, .int .i64 y]) ∧ Below w.heap.size w w' := by
 have b : Hid (∀ o o' o'', Below w.heap.size w (((w.alloc o).alloc o').alloc o'')) := fun o o' o'' => zAa (zAa (zAf w o) (zAf _ o')) (zAf _ o'');go_enter Tryz.func29, Tryz.ntmps29;go_wp2;refine bodyPost_ret (v := .agg #[.int .i64 k, .int .i64 a, .int .i64 x, .int .i64 y]) (by simp [results, Tryz.results29, go_sem]) rfl ⟨rfl, ?_⟩;exact b.out _ _ _
theorem zLY : ToC 29 zH5 zIC zBq := by
 intro cs x w h hm;obtain ⟨rfl, d, c, f, a⟩ := zLr h;refine (zIW x.1 x.2.1 x.2.2.1 x.2.2.2 w).mono ?_;rintro e w' ⟨rfl, b⟩;exact ⟨[_, _, _, _], rfl, own_cfg d c f a, b⟩
theorem zIX (k a x y : Int) (w : World) :
    Calls Tryz.prog 38 #[.agg #[.int .i64 k, .int .i64 a, .int .i64 x, .int .i64 y], .agg #[.int .i64 k, .int .i64 a, .int .i64 x, .int .i64 y]] w fun e w' => e = .returned (.bool true) ∧ Below w.heap.size w w' := by
 have b : Hid (∀ o o', Below w.heap.size w ((w.alloc o).alloc o')) := fun o o' => zAa (zAf w o) (zAf _ o');go_enter Tryz.func38, Tryz.ntmps38;go_wp2;go_ret
 exact ⟨rfl, b.out _ _⟩
theorem zLZ : EqC 38 zH5 zIC zBq := by
 intro cs ds x w h k hm;obtain ⟨rfl, -⟩ := zLr h;obtain ⟨rfl, -⟩ := zLr k;exact zIX x.1 x.2.1 x.2.2.1 x.2.2.2 w
abbrev zBu : Rep (Int × Int × List Int) := zBp zAG (zBp zAG zA0)
abbrev zCz : Mk (Int × Int × List Int) := zBm zBa (zBm zBa zAs)
abbrev zBh : Rep (List (Int × Int × List Int)) := slR 88 zBu
abbrev zB6 : Mk (List (Int × Int × List Int)) := slM zCz
abbrev zFW : Rep (List (List (Int × Int × List Int))) := slR 143 zBh
abbrev zBy : Mk (List (List (Int × Int × List Int))) := slM zB6
abbrev zBQ : Rep (List (List (Int × Int × List Int)) × List Int) := zBp zFW zA0
abbrev zCO : Mk (List (List (Int × Int × List Int)) × List Int) := zBm zBy zAs
theorem zIY : zC2 Tryz.prog 103 zBu :=
 zBf Tryz.underlying103 (by kernel_rfl) (zAu rfl (by kernel_rfl) zAD (zAu rfl (by kernel_rfl) zAD (zBC rfl (by kernel_rfl) zC9)))
theorem zMc : zC2 Tryz.prog 223 zBh := zBI Tryz.underlying223 (by kernel_rfl) (by decide) zIY
theorem zMd : zC2 Tryz.prog 99 zFW := zBI Tryz.underlying99 (by kernel_rfl) (by decide) zMc
theorem zJZ : zC2 Tryz.prog 101 zBQ :=
 zBf Tryz.underlying101 (by kernel_rfl) (zAu rfl (by kernel_rfl) zMd (zBC rfl (by kernel_rfl) zC9))
theorem zBz {w : World} {cs : List Value} {u : Int × Int × List Int} (h : zBu.rd w cs u) :
    ∃ a b, cs = [.int .i64 u.1, .int .i64 u.2.1, .slice a u.2.2.length b] ∧ zAN u.1 ∧ zAN u.2.1 ∧ u.2.2.length ≤ b ∧ b ≤ maxLen ∧ zA4 zAG w a u.2.2 := by
 obtain ⟨c1, c2, rfl, ⟨rfl, f⟩, c3, c4, rfl, ⟨rfl, g⟩, a, b, rfl, d, i, c⟩ := h;exact ⟨a, b, rfl, f, g, d, i, c⟩
theorem zBO {w : World} {cs : List Value} {c : List (List (Int × Int × List Int)) × List Int} (h : zBQ.rd w cs c) :
    ∃ a d b f, cs = [.slice a c.1.length d, .slice b c.2.length f] ∧ c.1.length ≤ d ∧ d ≤ maxLen ∧ c.2.length ≤ f ∧ f ≤ maxLen ∧ zA4 zBh w a c.1 ∧ zA4 zAG w b c.2 := by
 obtain ⟨c1, c2, rfl, ⟨a, d, rfl, j, m, i⟩, b, f, rfl, g, k, l⟩ := h;exact ⟨a, d, b, f, rfl, j, m, g, k, i, l⟩
theorem zN5 {w : World} {S : zBo} {cs : List Value} {u : Int × Int × List Int} (h : zBu.own w S cs u) :
    ∃ v, cs = [.int .i64 u.1, .int .i64 u.2.1, v] ∧ zAN u.1 ∧ zAN u.2.1 ∧ zA0.own w S [v] u.2.2 := by
 obtain ⟨c1, c2, S1, S2, rfl, ⟨rfl, g⟩, ⟨c3, i, S3, S4, rfl, ⟨rfl, f⟩, a, a3, c, d2⟩, a1, b, d⟩ := h;have j := zA0.rd_len (zA0.own_rd a);obtain ⟨v, rfl⟩ : ∃ v, i = [v] := List.length_eq_one_iff.1 j;exact ⟨v, rfl, g, f, zA0.own_mono a (c.trans b)⟩
theorem zEP {w : World} {S : zBo} {l s : Int} {d : List Int} {v : Value} (i1 : zAN l) (i2 : zAN s) (h : zA0.own w S [v] d) : zBu.own w S [.int .i64 l, .int .i64 s, v] (l, s, d) :=
 ⟨[_], [_, _], fun _ => False, S, rfl, ⟨rfl, i1⟩, ⟨[_], [_], fun _ => False, S, rfl, ⟨rfl, i2⟩, h, fun _ h => h.elim, Sub.refl _, fun _ h _ => h⟩, fun _ h => h.elim, Sub.refl _, fun _ h _ => h⟩
theorem zG2 (l s : Int) (d : List Int) (a : Option Addr) (cap : Nat) (left : Int) (w : World) (h0 : 0 ≤ left) (h1 : left ≤ 1048576) (hm : d.length ≤ maxLen) :
    Calls Tryz.prog 110 #[.agg #[.int .i64 l, .int .i64 s, .slice a d.length cap], .int .i64 left] w fun e c => e = .returned (.int .i64 (szI (zCz.bk (l, s, d)) left)) ∧ Below w.heap.size w c := by
 have g : zCz.bk (l, s, d) = zAs.bk d := by show 0 + (0 + zAs.bk d) = _; omega
 rw [g];by_cases f : (zAs.bk d : Int) ≤ left
 ·have b : Hid (szI (zAs.bk d) left = _) := zAF f;have i : ¬ (left - (zAs.bk d : Int) < 0) := by omega
  go_enter Tryz.func110, Tryz.ntmps110;go_wp2_with (go_at_call 106; refine (zBg _ d _ _ _ h0 h1 hm).mono ?_; rintro e c ⟨rfl, rfl⟩; rw [b.out])
  go_ret
  exact ⟨zAx b.out.symm, zAf w _⟩
 ·have b : Hid (szI (zAs.bk d) left = _) := zAE f;go_enter Tryz.func110, Tryz.ntmps110;go_wp2_with (go_at_call 106; refine (zBg _ d _ _ _ h0 h1 hm).mono ?_; rintro e c ⟨rfl, rfl⟩; rw [b.out])
  go_ret
  exact ⟨zAx b.out.symm, zAf w _⟩
open Go.ChangeShapes Go.WideShapes Go.ChangeAt Go.RowKit Go.Shelf
section
variable {P : Program}
def Kept (B : Nat) (W W' : World) : Prop := W.heap.size ≤ W'.heap.size ∧ ∀ k, B ≤ k → k < W.heap.size → W'.heap[k]? = W.heap[k]?
theorem Kept.refl (B : Nat) (W : World) : Kept B W W := ⟨Nat.le_refl _, fun _ _ _ => rfl⟩
theorem Kept.trans {B : Nat} {U V W : World} (h : Kept B U V) (k : Kept B V W) : Kept B U W := ⟨Nat.le_trans h.1 k.1, fun i hi hl => (k.2 i hi (Nat.lt_of_lt_of_le hl h.1)).trans (h.2 i hi hl)⟩
theorem Kept.mono {B B' : Nat} {W W' : World} (h : Kept B W W') (hb : B ≤ B') : Kept B' W W' := ⟨h.1, fun i hi hl => h.2 i (Nat.le_trans hb hi) hl⟩
theorem Kept.below {B : Nat} {W W' : World} (h : Below W.heap.size W W') : Kept B W W' := ⟨h.size, fun i _ hl => h.block i hl⟩
theorem Kept.chg {B : Nat} {S : zBo} {W W' : World} (h : Chg S W W') (hS : ∀ k, S k → k < B) : Kept B W W' := ⟨h.size, fun i hi hl => h.block i hl fun x => by have := hS i x; omega⟩
theorem Kept.alloc (B : Nat) (W : World) (o : Obj) : Kept B W (W.alloc o) := ⟨by simp, fun i _ hl => Below.heap_alloc W o i hl⟩
theorem Kept.put {B l : Nat} (W : World) (o : Obj) (h : l < B) : Kept B W (W.putObj l o) := ⟨by simp, fun i hi _ => World.putObj_heap_other (by omega)⟩
theorem zG3 {β : Type} {B B' : Nat} {I : β → World → Prop} (h : OwnFrom B I) (hb : B ≤ B') : OwnFrom B' I := fun s W W' row hs hg hr => h s W W' row hs hg (fun r e => ⟨Nat.le_trans hb (hr r e).1, (hr r e).2⟩)
theorem zAP {β : Type} (B k : Nat) (cs : Array Value) (t : TypeId) : OwnFrom B (fun (_ : β) W => W.heap[k]? = some (.cells cs t (0, 0))) := fun s X Y row hs hg hr => by
 refine (hg.block k (ltH hs) fun e => ?_).trans hs;obtain ⟨o, a, b⟩ := (hr k e.symm).2;rw [hs] at a;cases a;cases b
def Iter (P : Program) (g : Nat) (lb : Array Value) (args : Nat → Array Value) (N : Nat) (R : World → Prop) : Prop :=
 ∀ (l : Nat) (J Jx : Nat → World → Prop) (W : World), OwnFrom W.heap.size J → OwnFrom W.heap.size Jx → (∀ k W1, J k W1 → R W1) →
  (∀ k W1, k < N → J k W1 → YieldAt Fence.wide 0 P l (args k) W1 fun e W' => Kept W.heap.size W1 W' ∧ ((e = .returned (.bool true) ∧ J (k + 1) W') ∨ (e = .returned (.bool false) ∧ Jx k W'))) →
  J 0 W → CallsIn Fence.wide 0 P g (#[.func (.yield l) #[] #[]] ++ lb) W fun e W' => (∃ v, e = .returned v) ∧ (J N W' ∨ ∃ k, k < N ∧ Jx k W')
def roundsOn (B : Nat) (I : Nat → World → Prop) (Ix : Code → Nat → World → Prop) (k : Nat) (W : World) : Exit → Act → World → Prop
 | .normal, _, W' => Kept B W W' ∧ I (k + 1) W'
 | .ret, _, W' => Kept B W W' ∧ Ix .ret k W'
 | .exit id, _, W' => Kept B W W' ∧ Ix (.exit id) k W'
 | .goto t, _, W' => Kept B W W' ∧ Ix (.goto t) k W'
 | .panic _, _, _ => False
 | .outgrown, _, _ => False
theorem zE5 {g : Operand} {ps : Array Tmp} {assign body : Code} {Q : Exit → Act → World → Prop} {a : Act} {w : World} {gf : Nat} {lb : Array Value}
    (hg : a.eval g = .func (.func gf) #[] lb) (eg : Enters P gf)
    {args : Nat → Array Value} {N : Nat} {R : World → Prop} (it : Iter P gf lb args N R) (hps : ∀ k, (args k).size = ps.size)
    (I : Nat → World → Prop) (Ix : Code → Nat → World → Prop) (hI : OwnFrom w.heap.size I) (hIx : ∀ c, OwnFrom w.heap.size (Ix c)) (hR : ∀ k W, I k W → R W) (h0 : I 0 w) (A : Nat → Act → World → Prop) (hA : ∀ k F, OwnFrom w.heap.size (fun (_ : Unit) W => A k F W))
    (hassign : ∀ (k : Nat) (W : World) (K : Act → World → Prop), k < N → I k W → w.heap.size + 1 < W.heap.size → (∀ F W', Kept w.heap.size W W' → A k F W' → K F W') → assign.wpIn (Fence.wide.inRound (w.heap.size + 1)) 0 P (Exit.then K (fun _ _ _ => False)) { tmps := (ps.zip (args k)).foldl (fun t (p, v) => t.setIfInBounds p v) a.tmps, defers := [] } W)
    (hbody : ∀ (k : Nat) (F : Act) (W : World), k < N → A k F W → w.heap.size + 1 < W.heap.size → W.heap[w.heap.size]? = some (.deferred (some [])) → (∃ r, W.heap[w.heap.size + 1]? = some (.loop r)) → body.wpIn (Fence.wide.inRound (w.heap.size + 1)) 0 P (roundsOn w.heap.size I Ix k W) F W)
    (hdone : ∀ W, I N W → W.heap[w.heap.size]? = some (.deferred (some [])) → Q .normal { a with defers := { target := .collected w.heap.size, args := #[] } :: a.defers } W)
    (hstop : ∀ c k W, k < N → Ix c k W → W.heap[w.heap.size]? = some (.deferred (some [])) → c.wpIn Fence.wide 0 P Q { a with defers := { target := .collected w.heap.size, args := #[] } :: a.defers } W) :
    (Code.rangeFunc g ps assign body).wpIn Fence.wide 0 P Q a w := by
 refine wpIn_rangeFunc fun fn hfn => ?_;let lp : LoopState → Option Code → Obj := fun st U => .loop { state := st, pending := U, fn, tmps := a.tmps, params := ps, assign, body, defers := w.heap.size }
 have H : ∀ {A B : World} {d : Option Nat} {st : LoopState} {U : Option Code}, A.grownBy B d → (∀ r, d = some r → w.heap.size + 2 ≤ r ∧ ∃ o : Obj, A.heap[r]? = some o ∧ o.isCells = false) → A.heap[w.heap.size + 1]? = some (lp st U) → A.heap[w.heap.size]? = some (.deferred (some [])) →
     B.heap[w.heap.size + 1]? = some (lp st U) ∧ B.heap[w.heap.size]? = some (.deferred (some [])) := by
  intro A B d st U i f O Z;have l1 := (ltH O);refine ⟨(i.block _ l1 fun e => ?_).trans O, (i.block _ (by omega) fun e => ?_).trans Z⟩
  ·have := (f _ e.symm).1;omega
  ·have := (f _ e.symm).1;omega
 have J : ∀ {A B : World} {d : Option Nat}, (∀ r, d = some r → w.heap.size + 2 ≤ r ∧ ∃ o : Obj, A.heap[r]? = some o ∧ o.isCells = false) → ∀ r, d = some r → w.heap.size ≤ r ∧ ∃ o : Obj, A.heap[r]? = some o ∧ o.isCells = false :=
  fun f r e => ⟨by have := (f r e).1; omega, (f r e).2⟩
 have Y : ((w.alloc (.deferred (some []))).alloc (lp .ready none)).heap.size = w.heap.size + 2 := by simp
 refine ⟨w.heap.size + 1, [{ target := .collected w.heap.size, args := #[] }], (w.alloc (.deferred (some []))).alloc (lp .ready none), { target := .fn (.func gf) lb, args := #[.func (.yield (w.heap.size + 1)) #[] #[]] }, (w.alloc (.deferred (some []))).alloc (lp .ready none), gf,
  #[.func (.yield (w.heap.size + 1)) #[] #[]] ++ lb, (w.alloc (.deferred (some []))).alloc (lp .ready none), run_enterLoop_outer _ _ _ _ _, ?_, fun _ _ => trivial, ?_, (fun h => by cases h), ?_⟩
 ·simp only [resolve, hg];simp [go_sem]
 ·have dA : ∀ args w, (callFunc gf args).run P w = .ok (.enter gf args) w := eg;simp [invoke, go_sem, dA]
 refine (it (w.heap.size + 1) (fun k W => I k W ∧ W.heap[w.heap.size + 1]? = some (lp .ready none) ∧ W.heap[w.heap.size]? = some (.deferred (some [])))
  (fun k W => ∃ c, Ix c k W ∧ W.heap[w.heap.size + 1]? = some (lp .done (some c)) ∧ W.heap[w.heap.size]? = some (.deferred (some []))) _ ?_ ?_ (fun k W h => hR k W h.1) ?_ ⟨?_, ?_, ?_⟩).mono ?_
 ·rintro k A B d ⟨O, Z, h3⟩ i f;rw [Y] at f;exact ⟨hI k A B d O i (J (B := B) f), H i f Z h3⟩
 ·rintro k A B d ⟨c, O, Z, h3⟩ i f;rw [Y] at f;exact ⟨c, hIx c k A B d O i (J (B := B) f), H i f Z h3⟩
 ·rintro k W hk ⟨M, D, L⟩;have j := (ltH D);refine ⟨fn, _, assign, body, run_yield D (hps k), roundIn_of_wpIn hfn (hassign k W _ hk M j ?_)⟩;clear M;intro F Wa n eA;replace D := (n.2 _ (by omega) j).trans D;replace L := (n.2 _ (Nat.le_refl _) (by omega)).trans L;clear j;replace n : Kept ((w.alloc (.deferred (some []))).alloc (lp .ready none)).heap.size W Wa := n.mono (by rw [Y]; omega);have X : ∀ V o, Kept ((w.alloc (.deferred (some []))).alloc (lp .ready none)).heap.size V (V.putObj (w.heap.size + 1) o) := fun V o => Kept.put V o (by rw [Y]; omega);revert n
  generalize W = Wb;intro n;obtain ⟨W, rfl⟩ : ∃ W, W = Wa := ⟨_, rfl⟩;have j := (ltH D);refine ⟨_, run_beginRound D rfl, ?_⟩;have bA : (W.putObj (w.heap.size + 1) (lp .busy none)).heap[w.heap.size + 1]? = some (lp .busy none) := World.putObj_heap_same j;have T : (W.putObj (w.heap.size + 1) (lp .busy none)).heap[w.heap.size]? = some (.deferred (some [])) := (World.putObj_heap_other (by omega)).trans L;refine wpIn_mono (hbody k F _ hk ((hA k F).putObj (s := ()) _ eA (by omega) D rfl) (by simpa using j) T ⟨_, bA⟩) ?_;have G : ∀ (b : Option Code) (C : World), Kept w.heap.size (W.putObj (w.heap.size + 1) (lp .busy none)) C →
      Kept ((w.alloc (.deferred (some []))).alloc (lp .ready none)).heap.size Wb (C.putObj (w.heap.size + 1) (lp (if b.isNone then .ready else .done) b)) ∧
      (Instr.endRound (w.heap.size + 1) b).run P C = .ok (.bool b.isNone) (C.putObj (w.heap.size + 1) (lp (if b.isNone then .ready else .done) b)) ∧ C.heap[w.heap.size + 1]? = some (lp .busy none) ∧
      (C.putObj (w.heap.size + 1) (lp (if b.isNone then .ready else .done) b)).heap[w.heap.size + 1]? = some (lp (if b.isNone then .ready else .done) b) ∧
      (C.putObj (w.heap.size + 1) (lp (if b.isNone then .ready else .done) b)).heap[w.heap.size]? = some (.deferred (some [])) := by
   intro b C E;have e2 := (E.2 _ (by omega) (by simpa using j)).trans bA;have e1 := (E.2 _ (Nat.le_refl _) (by simp; omega)).trans T;exact ⟨((n.trans (X _ _)).trans (E.mono (by rw [Y]; omega))).trans (X _ _), run_endRound b e2, e2, World.putObj_heap_same (ltH e2), (World.putObj_heap_other (by omega)).trans e1⟩
  intro e a3 C S;cases e with
  | normal =>
   obtain ⟨E, l⟩ := S;obtain ⟨z, f, y, m, q⟩ := G none C E;exact ⟨_, _, f, z, .inl ⟨rfl, hI.putObj _ l (by omega) y rfl, m, q⟩⟩
  | ret =>
   obtain ⟨E, l⟩ := S;obtain ⟨z, f, y, m, q⟩ := G (some .ret) C E;exact ⟨_, _, f, z, .inr ⟨rfl, .ret, (hIx _).putObj _ l (by omega) y rfl, m, q⟩⟩
  | exit id =>
   obtain ⟨E, l⟩ := S;obtain ⟨z, f, y, m, q⟩ := G (some (.exit id)) C E;exact ⟨_, _, f, z, .inr ⟨rfl, .exit id, (hIx _).putObj _ l (by omega) y rfl, m, q⟩⟩
  | goto t =>
   obtain ⟨E, l⟩ := S;obtain ⟨z, f, y, m, q⟩ := G (some (.goto t)) C E;exact ⟨_, _, f, z, .inr ⟨rfl, .goto t, (hIx _).putObj _ l (by omega) y rfl, m, q⟩⟩
  | panic ch => exact S.elim
  | outgrown => exact S.elim
 ·exact hI.alloc _ (hI.alloc _ h0)
 ·have := World.alloc_heap_new (w.alloc (.deferred (some []))) (lp .ready none);rwa [World.size_alloc] at this
 ·exact (Below.heap_alloc _ _ _ (by simp)).trans (World.alloc_heap_new w _)
 ·rintro e W ⟨⟨v, rfl⟩, ⟨M, D, L⟩ | ⟨k, hk, c, M, D, L⟩⟩
  ·exact ⟨none, _, run_endLoop D (by simp), hdone _ (hI.putObj _ M (by omega) D rfl) ((World.putObj_heap_other (by omega)).trans L)⟩
  ·exact ⟨some c, _, run_endLoop D (by simp), hstop c k _ hk ((hIx c).putObj _ M (by omega) D rfl) ((World.putObj_heap_other (by omega)).trans L)⟩
end
open Go.RowKit
abbrev zC3 := Int × Int × List Int
abbrev zA7 := List (List zC3) × List Int
def zB0 : zC3 := (-1, 0, [])
def zB3 (u : zC3) : Bool := decide (u.1 = -1 ∧ u.2.1 = 0 ∧ u.2.2 = [])
def zN6 (n : Nat) : Prop := n = 1 ∨ n = 2 ∨ n = 4
section
variable (ln : List Int → Bool) (tok : Int → Int → Bool) (tou : Int → Int → Int → Int) (vic : Int → Int → Int)
def zCC (u : zC3) : Bool := decide ((0 ≤ u.1 ∧ u.1 ≤ 15) ∧ (1 ≤ u.2.1 ∧ u.2.1 ≤ 3) ∧ ln u.2.2 = true)
def RowOk (n s : Nat) (row : List zC3) : Prop :=
 (∀ (i : Nat) (u : zC3), row[i]? = some u → zB3 u = true ∨ (zCC ln u = true ∧ u.1 % (n : Int) = s)) ∧
 ∀ (i k : Nat) (u x : zC3), row[i]? = some u → row[k]? = some x → 0 ≤ u.1 → u.1 = x.1 → i = k
def OkC (c : zA7) : Prop :=
 zN6 c.1.length ∧ c.2.length = c.1.length ∧ ∃ m, zN6 m ∧ ∀ (s : Nat) (row : List zC3), c.1[s]? = some row → row.length = m ∧ (∃ t, c.2[s]? = some t ∧ tok t m = true) ∧ RowOk ln c.1.length s row
def zCN (c : zA7) (line : Int) : Nat := (line % (c.1.length : Int)).toNat
def zB1 (c : zA7) (line : Int) : List zC3 := c.1.getD (zCN c line) []
def atC (c : zA7) (line : Int) : Option Nat := if line < 0 then none else (zB1 c line).findIdx? fun u => u.1 == line
def roomC (c : zA7) (line : Int) : Option Nat := (zB1 c line).findIdx? zB3
def putNo (c : zA7) (line : Int) : Option Nat := match atC c line with
 | some i => some i
 | none => roomC c line
open Classical in
noncomputable def okB (c : zA7) : Bool := decide (OkC ln tok c)
noncomputable def zKa (c : zA7) (line : Int) : zC3 × Int := if okB ln tok c then (match atC c line with
 | some i => ((zB1 c line).getD i zB0, (i : Int))
 | none => (zB0, -1)) else (zB0, -1)
end
section
variable {ln : List Int → Bool} {tok : Int → Int → Bool} {tou : Int → Int → Int → Int} {vic : Int → Int → Int}
theorem zEQ {c : zA7} : okB ln tok c = true ↔ OkC ln tok c := by simp [okB]
theorem zE6 {u : zC3} (h : zB3 u = true) : u = zB0 := by
 simp [zB3] at h
 obtain ⟨a, b, d⟩ := u;simp at h
 simp [zB0, h]
theorem zFl {u : zC3} (h : zCC ln u = true) : 0 ≤ u.1 ∧ u.1 ≤ 15 := by
 simp [zCC] at h
 exact h.1
theorem zDP {n : Nat} (h : zN6 n) : 0 < n := by rcases h with h | h | h <;> omega
theorem zLs {c : zA7} {line : Int} (h : zN6 c.1.length) : zCN c line < c.1.length := by
 have := zDP h;have h1 := Int.emod_nonneg line (show (c.1.length : Int) ≠ 0 by omega);have h2 := Int.emod_lt_of_pos line (show (0 : Int) < c.1.length by omega);unfold zCN;omega
theorem zH6 {c : zA7} {line : Int} (h : zN6 c.1.length) : ((zCN c line : Nat) : Int) = line % (c.1.length : Int) := by
 have := zDP h;have h1 := Int.emod_nonneg line (show (c.1.length : Int) ≠ 0 by omega);unfold zCN;omega
theorem zH7 {c : zA7} {line : Int} (h : zN6 c.1.length) : c.1[zCN c line]? = some (zB1 c line) := by
 have := zLs (line := line) h;unfold zB1;rw [List.getD_eq_getElem?_getD, List.getElem?_eq_getElem this];rfl
theorem idx_some {p : zC3 → Bool} {row : List zC3} {i : Nat} (h : row.findIdx? p = some i) : ∃ u, row[i]? = some u ∧ p u = true := by
 rw [List.findIdx?_eq_some_iff_getElem] at h;obtain ⟨a, b, _⟩ := h;exact ⟨row[i], List.getElem?_eq_getElem a, b⟩
theorem zER {c : zA7} {line : Int} {i : Nat} (h : atC c line = some i) : 0 ≤ line ∧ ∃ u, (zB1 c line)[i]? = some u ∧ u.1 = line := by
 unfold atC at h;split at h
 ·cases h
 ·obtain ⟨u, d, b⟩ := idx_some h;exact ⟨by omega, u, d, by simpa using b⟩
theorem getD_of {row : List zC3} {i : Nat} {u : zC3} (h : row[i]? = some u) : row.getD i zB0 = u := by
 rw [List.getD_eq_getElem?_getD, h];rfl
theorem zN7 {c : zA7} {l : Int} (h : atC c l = none) : zKa ln tok c l = (zB0, -1) := by
 unfold zKa;rw [h];split <;> rfl
theorem zN8 {c : zA7} {l : Int} {i : Nat} {u : zC3} (h : OkC ln tok c) (ha : atC c l = some i) (hu : (zB1 c l)[i]? = some u) : zKa ln tok c l = (u, (i : Int)) := by
 unfold zKa;rw [if_pos (zEQ.2 h), ha];simp only [getD_of hu]
end
end Go.Proofs.YtcocbafhcpdheaaGreatDoor
