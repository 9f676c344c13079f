import Derived.Test.YtcocbafhcpdheaaGreatDoorS00Box
import Derived.Test.YtcocbafhcpdheaaGreatDoorS35
namespace Go.Proofs.YtcocbafhcpdheaaGreatDoor
set_option maxHeartbeats 2000000
set_option maxRecDepth 20000
open Go.ChangeShapes Go.WideShapes Go.ChangeAt Go.RowKit
set_option linter.unusedVariables false
theorem ent_shape {w : World} {cs : List Value} {x : EntryD} (h : entR.rd w cs x) : ∃ (ga : Option Addr) (gc : Nat), cs = [.int .i64 x.1, .int .i64 x.2.1, .bool x.2.2.1, .int .i64 x.2.2.2.1, .int .i64 x.2.2.2.2.1, .int .i64 x.2.2.2.2.2.1, .int .i64 x.2.2.2.2.2.2.1, .slice ga x.2.2.2.2.2.2.2.length gc] := by
 obtain ⟨a, c, rfl, -⟩ := ent_rd h;exact ⟨a, c, rfl⟩
theorem idxFnCore {p : CoreD → Bool} {g : Nat} (a : Option Addr) (xs : List CoreD) (cap : Nat) (w : World) (h : SlRd coreR w a xs) (hm : xs.length ≤ maxLen) (HP : ∀ (x : CoreD) (cs : List Value) (W : World), x ∈ xs → Below w.heap.size w W → coreR.rd W cs x → Calls Tryz.prog 171 #[aggV cs, .pointer (some ⟨g, 0, none⟩)] W fun e w' => e = .returned (.bool (!p x)) ∧ Below W.heap.size W w') :
    Calls Tryz.prog 212 #[.slice a xs.length cap, .func (.func 171) #[] #[.pointer (some ⟨g, 0, none⟩)]] w fun e w' => e = .returned (.int .i64 (badP p xs)) ∧ Below w.heap.size w w' := by
 have hm' : xs.length ≤ 9223372036854775807 := hm;have H0 : Hid (∀ W, Below w.heap.size w W → SlRd coreR W a xs) := fun W hb => slrd_keep h fun k hk => hb.block k hk;have HPP : Hid _ := HP;clear h hm HP;go_enter Tryz.func212, Tryz.ntmps212;go_wp2;go_loopw [8] (fun i wr => ∃ k : Nat, k ≤ xs.length ∧ i = .int .i64 k ∧ (∀ j v, j < k → xs[j]? = some v → p v = true) ∧ Below w.heap.size w wr) (fun i _ => xs.length - (intOf i).toNat)
 case atStart => exact ⟨0, Nat.zero_le _, rfl, fun j v hj => by omega, Below.refl _ _⟩
 case round =>
  obtain ⟨k, hk, rfl, hno, BB⟩ := hrel;by_cases hlt : k < xs.length
  ·have hlt' : (k : Int) < (xs.length : Int) := by omega
   obtain ⟨x, hx⟩ : ∃ x, xs[k]? = some x := ⟨_, List.getElem?_eq_getElem hlt⟩;obtain ⟨b, off, cs, rfl, hrdx, hcell⟩ := slrd_at (H0.out _ BB) hx;have HC := HPP.out x cs wr (List.mem_of_getElem? hx) BB hrdx;obtain ⟨ga, gc, gb, gd, ha, hc, ia, ic, ja, jc, rfl⟩ := core_shape hrdx;rw [show aggV [.slice ga x.1.1.length gc, .slice gb x.1.2.length gd, .slice ha x.2.1.length hc, .int .i64 x.2.2.1, .int .i64 x.2.2.2.1, .int .i64 x.2.2.2.2.1.1, .int .i64 x.2.2.2.2.1.2.1, .slice ia x.2.2.2.2.1.2.2.length ic, .slice ja x.2.2.2.2.2.length jc] = .agg #[.slice ga x.1.1.length gc, .slice gb x.1.2.length gd, .slice ha x.2.1.length hc, .int .i64 x.2.2.1, .int .i64 x.2.2.2.1, .int .i64 x.2.2.2.2.1.1, .int .i64 x.2.2.2.2.1.2.1, .slice ia x.2.2.2.2.1.2.2.length ic, .slice ja x.2.2.2.2.2.length jc] from rfl] at HC;obtain ⟨x0, x1, x2, x3, x4, x5, x6, x7, x8⟩ := cellsAt9 hcell rfl;have HX : Hid (xs[k]? = some x) := hx;clear hx hcell hrdx;cases hb : p x
   ·have HR : Hid (badP p xs = k) := badP_at HX.out hb hno;rw [hb] at HC;go_wp2_with fail
    refine HC.mono ?_;rintro e w2 ⟨rfl, b2⟩;replace BB := below_step BB b2;clear b2 x0 x1 x2 x3 x4 x5 x6 x7 x8;go_wp2;go_ret
    exact ⟨ret_int HR.out.symm, BB⟩
   ·rw [hb] at HC;go_wp2_with fail
    refine HC.mono ?_;rintro e w2 ⟨rfl, b2⟩;replace BB := below_step BB b2;clear b2 x0 x1 x2 x3 x4 x5 x6 x7 x8;go_wp2;go_roundw
    case rel =>
     refine ⟨k + 1, by omega, by go_num, fun j v hj hv => ?_, BB⟩;by_cases he : j < k
     ·exact hno j v he hv
     ·have : j = k := by omega
      subst this;rw [HX.out] at hv;cases hv;exact hb
    case measure => simp [intOf]; omega
  ·have HR : Hid (badP p xs = -1) := badP_no fun j v hv => hno j v (by have := (List.getElem?_eq_some_iff.1 hv).1; omega) hv;go_wp2;go_ret
   exact ⟨ret_int HR.out.symm, BB⟩
theorem conFnCore {p : CoreD → Bool} {g : Nat} (a : Option Addr) (xs : List CoreD) (cap : Nat) (w : World) (h : SlRd coreR w a xs) (hm : xs.length ≤ maxLen) (HP : ∀ (x : CoreD) (cs : List Value) (W : World), x ∈ xs → Below w.heap.size w W → coreR.rd W cs x → Calls Tryz.prog 171 #[aggV cs, .pointer (some ⟨g, 0, none⟩)] W fun e w' => e = .returned (.bool (!p x)) ∧ Below W.heap.size W w') :
    Calls Tryz.prog 170 #[.slice a xs.length cap, .func (.func 171) #[] #[.pointer (some ⟨g, 0, none⟩)]] w fun e w' => e = .returned (.bool (!xs.all p)) ∧ Below w.heap.size w w' := by
 have HI := idxFnCore a xs cap w h hm HP;have hab := badP_all p xs;clear h hm HP;generalize badP p xs = q at HI hab;generalize xs.all p = y at hab ⊢;subst hab;by_cases hq : q < 0
 ·have hq2 : ¬ (0 ≤ q) := by omega
  go_enter Tryz.func170, Tryz.ntmps170;go_wp2_with fail
  refine HI.mono ?_;rintro e w1 ⟨rfl, b1⟩;go_wp2;go_ret
  exact ⟨by simp [hq], b1⟩
 ·have hq2 : 0 ≤ q := by omega
  go_enter Tryz.func170, Tryz.ntmps170;go_wp2_with fail
  refine HI.mono ?_;rintro e w1 ⟨rfl, b1⟩;go_wp2;go_ret
  exact ⟨by simp [hq], b1⟩
theorem closFitCore {q : Bool} {g : Nat} {c0 c1 c2 c3 : Value} (x : CoreD) (cs : List Value) (w : World) (h : coreR.rd w cs x) (hg : w.heap[g]? = some (.cells #[.func (.func 124) #[.agg #[c0, c1, c2, c3]] #[]] 142 (0, 0)))
    (HF : ∀ W, Below w.heap.size w W → Calls Tryz.prog 124 #[.agg #[c0, c1, c2, c3], aggV cs] W fun e w' => e = .returned (.bool q) ∧ Below W.heap.size W w') :
    Calls Tryz.prog 171 #[aggV cs, .pointer (some ⟨g, 0, none⟩)] w fun e w' => e = .returned (.bool (!q)) ∧ Below w.heap.size w w' := by
 obtain ⟨ga, gc, gb, gd, ha, hc, ia, ic, ja, jc, rfl⟩ := core_shape h;rw [show aggV [.slice ga x.1.1.length gc, .slice gb x.1.2.length gd, .slice ha x.2.1.length hc, .int .i64 x.2.2.1, .int .i64 x.2.2.2.1, .int .i64 x.2.2.2.2.1.1, .int .i64 x.2.2.2.2.1.2.1, .slice ia x.2.2.2.2.1.2.2.length ic, .slice ja x.2.2.2.2.2.length jc] = .agg #[.slice ga x.1.1.length gc, .slice gb x.1.2.length gd, .slice ha x.2.1.length hc, .int .i64 x.2.2.1, .int .i64 x.2.2.2.1, .int .i64 x.2.2.2.2.1.1, .int .i64 x.2.2.2.2.1.2.1, .slice ia x.2.2.2.2.1.2.2.length ic, .slice ja x.2.2.2.2.2.length jc] from rfl] at HF ⊢;have B := box_below w (.cells #[.slice ga x.1.1.length gc, .slice gb x.1.2.length gd, .slice ha x.2.1.length hc, .int .i64 x.2.2.1, .int .i64 x.2.2.2.1, .int .i64 x.2.2.2.2.1.1, .int .i64 x.2.2.2.2.1.2.1, .slice ia x.2.2.2.2.1.2.2.length ic, .slice ja x.2.2.2.2.2.length jc] 95);have G := row_keep B hg;have HFF : Hid _ := HF;clear h hg HF;go_enter Tryz.func171, Tryz.ntmps171;go_upto_region 1 with fail
 have X := heap_at w (.cells #[.slice ga x.1.1.length gc, .slice gb x.1.2.length gd, .slice ha x.2.1.length hc, .int .i64 x.2.2.1, .int .i64 x.2.2.2.1, .int .i64 x.2.2.2.2.1.1, .int .i64 x.2.2.2.2.1.2.1, .slice ia x.2.2.2.2.1.2.2.length ic, .slice ja x.2.2.2.2.2.length jc] 95);generalize w.alloc (.cells #[.slice ga x.1.1.length gc, .slice gb x.1.2.length gd, .slice ha x.2.1.length hc, .int .i64 x.2.2.1, .int .i64 x.2.2.2.1, .int .i64 x.2.2.2.2.1.1, .int .i64 x.2.2.2.2.1.2.1, .slice ia x.2.2.2.2.1.2.2.length ic, .slice ja x.2.2.2.2.2.length jc] 95) = W0 at B G X ⊢;have g0 : W0.cell? ⟨g, 0, none⟩ = some (.func (.func 124) #[.agg #[c0, c1, c2, c3]] #[]) := by rw [cell_of_row W0 g 0 _ _ (0, 0) G]; rfl
 obtain ⟨y0, y1, y2, y3, y4, y5, y6, y7, y8⟩ := cells_core X;clear G X;go_wp2_with fail
 refine (HFF.out _ B).mono ?_;rintro e w1 ⟨rfl, b1⟩;replace B := below_step B b1;clear g0 b1 y0 y1 y2 y3 y4 y5 y6 y7 y8;go_wp2;go_ret
 exact ⟨rfl, B⟩
theorem allFitCore {p : CoreD → Bool} {c0 c1 c2 c3 : Value} (a : Option Addr) (xs : List CoreD) (cap : Nat) (w : World) (h : SlRd coreR w a xs) (hm : xs.length ≤ maxLen)
    (HF : ∀ (x : CoreD) (cs : List Value) (W : World), x ∈ xs → Below w.heap.size w W → coreR.rd W cs x → Calls Tryz.prog 124 #[.agg #[c0, c1, c2, c3], aggV cs] W fun e w' => e = .returned (.bool (p x)) ∧ Below W.heap.size W w') :
    Calls Tryz.prog 123 #[.slice a xs.length cap, .func (.func 124) #[.agg #[c0, c1, c2, c3]] #[]] w fun e w' => e = .returned (.bool (xs.all p)) ∧ Below w.heap.size w w' := by
 have B := box_below w (.cells #[.func (.func 124) #[.agg #[c0, c1, c2, c3]] #[]] 142);have G := heap_at w (.cells #[.func (.func 124) #[.agg #[c0, c1, c2, c3]] #[]] 142);have HC := conFnCore (p := p) (g := w.heap.size) a xs cap (w.alloc (.cells #[.func (.func 124) #[.agg #[c0, c1, c2, c3]] #[]] 142)) (slrd_next h B) hm (fun x cs W hx hb hr => closFitCore x cs W hr (row_keep hb G) (fun W2 hb2 => HF x cs W2 hx (below_step (below_step B hb) hb2) (rd_next hr hb2)));clear h hm HF G;generalize xs.all p = y at HC ⊢;go_enter Tryz.func123, Tryz.ntmps123;go_wp2_with fail
 refine HC.mono ?_;rintro e w1 ⟨rfl, b1⟩;replace B := below_step B b1;clear b1;go_wp2;go_ret
 exact ⟨by simp, B⟩
theorem idxFnEntry {p : EntryD → Bool} {g : Nat} (a : Option Addr) (xs : List EntryD) (cap : Nat) (w : World) (h : SlRd entR w a xs) (hm : xs.length ≤ maxLen) (HP : ∀ (x : EntryD) (cs : List Value) (W : World), x ∈ xs → Below w.heap.size w W → entR.rd W cs x → Calls Tryz.prog 164 #[aggV cs, .pointer (some ⟨g, 0, none⟩)] W fun e w' => e = .returned (.bool (!p x)) ∧ Below W.heap.size W w') :
    Calls Tryz.prog 207 #[.slice a xs.length cap, .func (.func 164) #[] #[.pointer (some ⟨g, 0, none⟩)]] w fun e w' => e = .returned (.int .i64 (badP p xs)) ∧ Below w.heap.size w w' := by
 have hm' : xs.length ≤ 9223372036854775807 := hm;have H0 : Hid (∀ W, Below w.heap.size w W → SlRd entR W a xs) := fun W hb => slrd_keep h fun k hk => hb.block k hk;have HPP : Hid _ := HP;clear h hm HP;go_enter Tryz.func207, Tryz.ntmps207;go_wp2;go_loopw [8] (fun i wr => ∃ k : Nat, k ≤ xs.length ∧ i = .int .i64 k ∧ (∀ j v, j < k → xs[j]? = some v → p v = true) ∧ Below w.heap.size w wr) (fun i _ => xs.length - (intOf i).toNat)
 case atStart => exact ⟨0, Nat.zero_le _, rfl, fun j v hj => by omega, Below.refl _ _⟩
 case round =>
  obtain ⟨k, hk, rfl, hno, BB⟩ := hrel;by_cases hlt : k < xs.length
  ·have hlt' : (k : Int) < (xs.length : Int) := by omega
   obtain ⟨x, hx⟩ : ∃ x, xs[k]? = some x := ⟨_, List.getElem?_eq_getElem hlt⟩;obtain ⟨b, off, cs, rfl, hrdx, hcell⟩ := slrd_at (H0.out _ BB) hx;have HC := HPP.out x cs wr (List.mem_of_getElem? hx) BB hrdx;obtain ⟨ga, gc, rfl⟩ := ent_shape hrdx;rw [show aggV [.int .i64 x.1, .int .i64 x.2.1, .bool x.2.2.1, .int .i64 x.2.2.2.1, .int .i64 x.2.2.2.2.1, .int .i64 x.2.2.2.2.2.1, .int .i64 x.2.2.2.2.2.2.1, .slice ga x.2.2.2.2.2.2.2.length gc] = .agg #[.int .i64 x.1, .int .i64 x.2.1, .bool x.2.2.1, .int .i64 x.2.2.2.1, .int .i64 x.2.2.2.2.1, .int .i64 x.2.2.2.2.2.1, .int .i64 x.2.2.2.2.2.2.1, .slice ga x.2.2.2.2.2.2.2.length gc] from rfl] at HC;obtain ⟨x0, x1, x2, x3, x4, x5, x6, x7⟩ := cellsAt8 hcell rfl;have HX : Hid (xs[k]? = some x) := hx;clear hx hcell hrdx;cases hb : p x
   ·have HR : Hid (badP p xs = k) := badP_at HX.out hb hno;rw [hb] at HC;go_wp2_with fail
    refine HC.mono ?_;rintro e w2 ⟨rfl, b2⟩;replace BB := below_step BB b2;clear b2 x0 x1 x2 x3 x4 x5 x6 x7;go_wp2;go_ret
    exact ⟨ret_int HR.out.symm, BB⟩
   ·rw [hb] at HC;go_wp2_with fail
    refine HC.mono ?_;rintro e w2 ⟨rfl, b2⟩;replace BB := below_step BB b2;clear b2 x0 x1 x2 x3 x4 x5 x6 x7;go_wp2;go_roundw
    case rel =>
     refine ⟨k + 1, by omega, by go_num, fun j v hj hv => ?_, BB⟩;by_cases he : j < k
     ·exact hno j v he hv
     ·have : j = k := by omega
      subst this;rw [HX.out] at hv;cases hv;exact hb
    case measure => simp [intOf]; omega
  ·have HR : Hid (badP p xs = -1) := badP_no fun j v hv => hno j v (by have := (List.getElem?_eq_some_iff.1 hv).1; omega) hv;go_wp2;go_ret
   exact ⟨ret_int HR.out.symm, BB⟩
theorem conFnEntry {p : EntryD → Bool} {g : Nat} (a : Option Addr) (xs : List EntryD) (cap : Nat) (w : World) (h : SlRd entR w a xs) (hm : xs.length ≤ maxLen) (HP : ∀ (x : EntryD) (cs : List Value) (W : World), x ∈ xs → Below w.heap.size w W → entR.rd W cs x → Calls Tryz.prog 164 #[aggV cs, .pointer (some ⟨g, 0, none⟩)] W fun e w' => e = .returned (.bool (!p x)) ∧ Below W.heap.size W w') :
    Calls Tryz.prog 163 #[.slice a xs.length cap, .func (.func 164) #[] #[.pointer (some ⟨g, 0, none⟩)]] w fun e w' => e = .returned (.bool (!xs.all p)) ∧ Below w.heap.size w w' := by
 have HI := idxFnEntry a xs cap w h hm HP;have hab := badP_all p xs;clear h hm HP;generalize badP p xs = q at HI hab;generalize xs.all p = y at hab ⊢;subst hab;by_cases hq : q < 0
 ·have hq2 : ¬ (0 ≤ q) := by omega
  go_enter Tryz.func163, Tryz.ntmps163;go_wp2_with fail
  refine HI.mono ?_;rintro e w1 ⟨rfl, b1⟩;go_wp2;go_ret
  exact ⟨by simp [hq], b1⟩
 ·have hq2 : 0 ≤ q := by omega
  go_enter Tryz.func163, Tryz.ntmps163;go_wp2_with fail
  refine HI.mono ?_;rintro e w1 ⟨rfl, b1⟩;go_wp2;go_ret
  exact ⟨by simp [hq], b1⟩
theorem closFitEntry {q : Bool} {g : Nat} {c0 c1 c2 c3 : Value} (x : EntryD) (cs : List Value) (w : World) (h : entR.rd w cs x) (hg : w.heap[g]? = some (.cells #[.func (.func 122) #[.agg #[c0, c1, c2, c3]] #[]] 170 (0, 0)))
    (HF : ∀ W, Below w.heap.size w W → Calls Tryz.prog 122 #[.agg #[c0, c1, c2, c3], aggV cs] W fun e w' => e = .returned (.bool q) ∧ Below W.heap.size W w') :
    Calls Tryz.prog 164 #[aggV cs, .pointer (some ⟨g, 0, none⟩)] w fun e w' => e = .returned (.bool (!q)) ∧ Below w.heap.size w w' := by
 obtain ⟨ga, gc, rfl⟩ := ent_shape h;rw [show aggV [.int .i64 x.1, .int .i64 x.2.1, .bool x.2.2.1, .int .i64 x.2.2.2.1, .int .i64 x.2.2.2.2.1, .int .i64 x.2.2.2.2.2.1, .int .i64 x.2.2.2.2.2.2.1, .slice ga x.2.2.2.2.2.2.2.length gc] = .agg #[.int .i64 x.1, .int .i64 x.2.1, .bool x.2.2.1, .int .i64 x.2.2.2.1, .int .i64 x.2.2.2.2.1, .int .i64 x.2.2.2.2.2.1, .int .i64 x.2.2.2.2.2.2.1, .slice ga x.2.2.2.2.2.2.2.length gc] from rfl] at HF ⊢;have B := box_below w (.cells #[.int .i64 x.1, .int .i64 x.2.1, .bool x.2.2.1, .int .i64 x.2.2.2.1, .int .i64 x.2.2.2.2.1, .int .i64 x.2.2.2.2.2.1, .int .i64 x.2.2.2.2.2.2.1, .slice ga x.2.2.2.2.2.2.2.length gc] 147);have G := row_keep B hg;have HFF : Hid _ := HF;clear h hg HF;go_enter Tryz.func164, Tryz.ntmps164;go_upto_region 1 with fail
 have X := heap_at w (.cells #[.int .i64 x.1, .int .i64 x.2.1, .bool x.2.2.1, .int .i64 x.2.2.2.1, .int .i64 x.2.2.2.2.1, .int .i64 x.2.2.2.2.2.1, .int .i64 x.2.2.2.2.2.2.1, .slice ga x.2.2.2.2.2.2.2.length gc] 147);generalize w.alloc (.cells #[.int .i64 x.1, .int .i64 x.2.1, .bool x.2.2.1, .int .i64 x.2.2.2.1, .int .i64 x.2.2.2.2.1, .int .i64 x.2.2.2.2.2.1, .int .i64 x.2.2.2.2.2.2.1, .slice ga x.2.2.2.2.2.2.2.length gc] 147) = W0 at B G X ⊢;have g0 : W0.cell? ⟨g, 0, none⟩ = some (.func (.func 122) #[.agg #[c0, c1, c2, c3]] #[]) := by rw [cell_of_row W0 g 0 _ _ (0, 0) G]; rfl
 obtain ⟨y0, y1, y2, y3, y4, y5, y6, y7⟩ := cells_8 X;clear G X;go_wp2_with fail
 refine (HFF.out _ B).mono ?_;rintro e w1 ⟨rfl, b1⟩;replace B := below_step B b1;clear g0 b1 y0 y1 y2 y3 y4 y5 y6 y7;go_wp2;go_ret
 exact ⟨rfl, B⟩
theorem allFitEntry {p : EntryD → Bool} {c0 c1 c2 c3 : Value} (a : Option Addr) (xs : List EntryD) (cap : Nat) (w : World) (h : SlRd entR w a xs) (hm : xs.length ≤ maxLen)
    (HF : ∀ (x : EntryD) (cs : List Value) (W : World), x ∈ xs → Below w.heap.size w W → entR.rd W cs x → Calls Tryz.prog 122 #[.agg #[c0, c1, c2, c3], aggV cs] W fun e w' => e = .returned (.bool (p x)) ∧ Below W.heap.size W w') :
    Calls Tryz.prog 121 #[.slice a xs.length cap, .func (.func 122) #[.agg #[c0, c1, c2, c3]] #[]] w fun e w' => e = .returned (.bool (xs.all p)) ∧ Below w.heap.size w w' := by
 have B := box_below w (.cells #[.func (.func 122) #[.agg #[c0, c1, c2, c3]] #[]] 170);have G := heap_at w (.cells #[.func (.func 122) #[.agg #[c0, c1, c2, c3]] #[]] 170);have HC := conFnEntry (p := p) (g := w.heap.size) a xs cap (w.alloc (.cells #[.func (.func 122) #[.agg #[c0, c1, c2, c3]] #[]] 170)) (slrd_next h B) hm (fun x cs W hx hb hr => closFitEntry x cs W hr (row_keep hb G) (fun W2 hb2 => HF x cs W2 hx (below_step (below_step B hb) hb2) (rd_next hr hb2)));clear h hm HF G;generalize xs.all p = y at HC ⊢;go_enter Tryz.func121, Tryz.ntmps121;go_wp2_with fail
 refine HC.mono ?_;rintro e w1 ⟨rfl, b1⟩;replace B := below_step B b1;clear b1;go_wp2;go_ret
 exact ⟨by simp, B⟩
theorem idxFnMsg {p : MsgD → Bool} {g : Nat} (a : Option Addr) (xs : List MsgD) (cap : Nat) (w : World) (h : SlRd msgR w a xs) (hm : xs.length ≤ maxLen) (HP : ∀ (x : MsgD) (cs : List Value) (W : World), x ∈ xs → Below w.heap.size w W → msgR.rd W cs x → Calls Tryz.prog 189 #[aggV cs, .pointer (some ⟨g, 0, none⟩)] W fun e w' => e = .returned (.bool (!p x)) ∧ Below W.heap.size W w') :
    Calls Tryz.prog 227 #[.slice a xs.length cap, .func (.func 189) #[] #[.pointer (some ⟨g, 0, none⟩)]] w fun e w' => e = .returned (.int .i64 (badP p xs)) ∧ Below w.heap.size w w' := by
 have hm' : xs.length ≤ 9223372036854775807 := hm;have H0 : Hid (∀ W, Below w.heap.size w W → SlRd msgR W a xs) := fun W hb => slrd_keep h fun k hk => hb.block k hk;have HPP : Hid _ := HP;clear h hm HP;go_enter Tryz.func227, Tryz.ntmps227;go_wp2;go_loopw [8] (fun i wr => ∃ k : Nat, k ≤ xs.length ∧ i = .int .i64 k ∧ (∀ j v, j < k → xs[j]? = some v → p v = true) ∧ Below w.heap.size w wr) (fun i _ => xs.length - (intOf i).toNat)
 case atStart => exact ⟨0, Nat.zero_le _, rfl, fun j v hj => by omega, Below.refl _ _⟩
 case round =>
  obtain ⟨k, hk, rfl, hno, BB⟩ := hrel;by_cases hlt : k < xs.length
  ·have hlt' : (k : Int) < (xs.length : Int) := by omega
   obtain ⟨x, hx⟩ : ∃ x, xs[k]? = some x := ⟨_, List.getElem?_eq_getElem hlt⟩;obtain ⟨b, off, cs, rfl, hrdx, hcell⟩ := slrd_at (H0.out _ BB) hx;have HC := HPP.out x cs wr (List.mem_of_getElem? hx) BB hrdx;obtain ⟨ga, gc, rfl⟩ := msg_shape hrdx;rw [show aggV [.int .i64 x.1, .int .i64 x.2.1, .int .i64 x.2.2.1, .int .i64 x.2.2.2.1, .int .i64 x.2.2.2.2.1, .slice ga x.2.2.2.2.2.1.length gc, .int .i64 x.2.2.2.2.2.2] = .agg #[.int .i64 x.1, .int .i64 x.2.1, .int .i64 x.2.2.1, .int .i64 x.2.2.2.1, .int .i64 x.2.2.2.2.1, .slice ga x.2.2.2.2.2.1.length gc, .int .i64 x.2.2.2.2.2.2] from rfl] at HC;obtain ⟨x0, x1, x2, x3, x4, x5, x6⟩ := cellsAt7 hcell rfl;have HX : Hid (xs[k]? = some x) := hx;clear hx hcell hrdx;cases hb : p x
   ·have HR : Hid (badP p xs = k) := badP_at HX.out hb hno;rw [hb] at HC;go_wp2_with fail
    refine HC.mono ?_;rintro e w2 ⟨rfl, b2⟩;replace BB := below_step BB b2;clear b2 x0 x1 x2 x3 x4 x5 x6;go_wp2;go_ret
    exact ⟨ret_int HR.out.symm, BB⟩
   ·rw [hb] at HC;go_wp2_with fail
    refine HC.mono ?_;rintro e w2 ⟨rfl, b2⟩;replace BB := below_step BB b2;clear b2 x0 x1 x2 x3 x4 x5 x6;go_wp2;go_roundw
    case rel =>
     refine ⟨k + 1, by omega, by go_num, fun j v hj hv => ?_, BB⟩;by_cases he : j < k
     ·exact hno j v he hv
     ·have : j = k := by omega
      subst this;rw [HX.out] at hv;cases hv;exact hb
    case measure => simp [intOf]; omega
  ·have HR : Hid (badP p xs = -1) := badP_no fun j v hv => hno j v (by have := (List.getElem?_eq_some_iff.1 hv).1; omega) hv;go_wp2;go_ret
   exact ⟨ret_int HR.out.symm, BB⟩
theorem conFnMsg {p : MsgD → Bool} {g : Nat} (a : Option Addr) (xs : List MsgD) (cap : Nat) (w : World) (h : SlRd msgR w a xs) (hm : xs.length ≤ maxLen) (HP : ∀ (x : MsgD) (cs : List Value) (W : World), x ∈ xs → Below w.heap.size w W → msgR.rd W cs x → Calls Tryz.prog 189 #[aggV cs, .pointer (some ⟨g, 0, none⟩)] W fun e w' => e = .returned (.bool (!p x)) ∧ Below W.heap.size W w') :
    Calls Tryz.prog 186 #[.slice a xs.length cap, .func (.func 189) #[] #[.pointer (some ⟨g, 0, none⟩)]] w fun e w' => e = .returned (.bool (!xs.all p)) ∧ Below w.heap.size w w' := by
 have HI := idxFnMsg a xs cap w h hm HP;have hab := badP_all p xs;clear h hm HP;generalize badP p xs = q at HI hab;generalize xs.all p = y at hab ⊢;subst hab;by_cases hq : q < 0
 ·have hq2 : ¬ (0 ≤ q) := by omega
  go_enter Tryz.func186, Tryz.ntmps186;go_wp2_with fail
  refine HI.mono ?_;rintro e w1 ⟨rfl, b1⟩;go_wp2;go_ret
  exact ⟨by simp [hq], b1⟩
 ·have hq2 : 0 ≤ q := by omega
  go_enter Tryz.func186, Tryz.ntmps186;go_wp2_with fail
  refine HI.mono ?_;rintro e w1 ⟨rfl, b1⟩;go_wp2;go_ret
  exact ⟨by simp [hq], b1⟩
theorem closFitMsg {q : Bool} {g : Nat} {c0 c1 c2 c3 : Value} (x : MsgD) (cs : List Value) (w : World) (h : msgR.rd w cs x) (hg : w.heap[g]? = some (.cells #[.func (.func 129) #[.agg #[c0, c1, c2, c3]] #[]] 173 (0, 0)))
    (HF : ∀ W, Below w.heap.size w W → Calls Tryz.prog 129 #[.agg #[c0, c1, c2, c3], aggV cs] W fun e w' => e = .returned (.bool q) ∧ Below W.heap.size W w') :
    Calls Tryz.prog 189 #[aggV cs, .pointer (some ⟨g, 0, none⟩)] w fun e w' => e = .returned (.bool (!q)) ∧ Below w.heap.size w w' := by
 obtain ⟨ga, gc, rfl⟩ := msg_shape h;rw [show aggV [.int .i64 x.1, .int .i64 x.2.1, .int .i64 x.2.2.1, .int .i64 x.2.2.2.1, .int .i64 x.2.2.2.2.1, .slice ga x.2.2.2.2.2.1.length gc, .int .i64 x.2.2.2.2.2.2] = .agg #[.int .i64 x.1, .int .i64 x.2.1, .int .i64 x.2.2.1, .int .i64 x.2.2.2.1, .int .i64 x.2.2.2.2.1, .slice ga x.2.2.2.2.2.1.length gc, .int .i64 x.2.2.2.2.2.2] from rfl] at HF ⊢;have B := box_below w (.cells #[.int .i64 x.1, .int .i64 x.2.1, .int .i64 x.2.2.1, .int .i64 x.2.2.2.1, .int .i64 x.2.2.2.2.1, .slice ga x.2.2.2.2.2.1.length gc, .int .i64 x.2.2.2.2.2.2] 119);have G := row_keep B hg;have HFF : Hid _ := HF;clear h hg HF;go_enter Tryz.func189, Tryz.ntmps189;go_upto_region 1 with fail
 have X := heap_at w (.cells #[.int .i64 x.1, .int .i64 x.2.1, .int .i64 x.2.2.1, .int .i64 x.2.2.2.1, .int .i64 x.2.2.2.2.1, .slice ga x.2.2.2.2.2.1.length gc, .int .i64 x.2.2.2.2.2.2] 119);generalize w.alloc (.cells #[.int .i64 x.1, .int .i64 x.2.1, .int .i64 x.2.2.1, .int .i64 x.2.2.2.1, .int .i64 x.2.2.2.2.1, .slice ga x.2.2.2.2.2.1.length gc, .int .i64 x.2.2.2.2.2.2] 119) = W0 at B G X ⊢;have g0 : W0.cell? ⟨g, 0, none⟩ = some (.func (.func 129) #[.agg #[c0, c1, c2, c3]] #[]) := by rw [cell_of_row W0 g 0 _ _ (0, 0) G]; rfl
 obtain ⟨y0, y1, y2, y3, y4, y5, y6⟩ := cells_7 X;clear G X;go_wp2_with fail
 refine (HFF.out _ B).mono ?_;rintro e w1 ⟨rfl, b1⟩;replace B := below_step B b1;clear g0 b1 y0 y1 y2 y3 y4 y5 y6;go_wp2;go_ret
 exact ⟨rfl, B⟩
theorem allFitMsg {p : MsgD → Bool} {c0 c1 c2 c3 : Value} (a : Option Addr) (xs : List MsgD) (cap : Nat) (w : World) (h : SlRd msgR w a xs) (hm : xs.length ≤ maxLen)
    (HF : ∀ (x : MsgD) (cs : List Value) (W : World), x ∈ xs → Below w.heap.size w W → msgR.rd W cs x → Calls Tryz.prog 129 #[.agg #[c0, c1, c2, c3], aggV cs] W fun e w' => e = .returned (.bool (p x)) ∧ Below W.heap.size W w') :
    Calls Tryz.prog 128 #[.slice a xs.length cap, .func (.func 129) #[.agg #[c0, c1, c2, c3]] #[]] w fun e w' => e = .returned (.bool (xs.all p)) ∧ Below w.heap.size w w' := by
 have B := box_below w (.cells #[.func (.func 129) #[.agg #[c0, c1, c2, c3]] #[]] 173);have G := heap_at w (.cells #[.func (.func 129) #[.agg #[c0, c1, c2, c3]] #[]] 173);have HC := conFnMsg (p := p) (g := w.heap.size) a xs cap (w.alloc (.cells #[.func (.func 129) #[.agg #[c0, c1, c2, c3]] #[]] 173)) (slrd_next h B) hm (fun x cs W hx hb hr => closFitMsg x cs W hr (row_keep hb G) (fun W2 hb2 => HF x cs W2 hx (below_step (below_step B hb) hb2) (rd_next hr hb2)));clear h hm HF G;generalize xs.all p = y at HC ⊢;go_enter Tryz.func128, Tryz.ntmps128;go_wp2_with fail
 refine HC.mono ?_;rintro e w1 ⟨rfl, b1⟩;replace B := below_step B b1;clear b1;go_wp2;go_ret
 exact ⟨by simp, B⟩
end Go.Proofs.YtcocbafhcpdheaaGreatDoor
