import Derived.Test.YtdamokokcdcedaaGreatDoorE00Box
import Derived.Test.YtdamokokcdcedaaGreatDoorE26
import Derived.Test.YtdamokokcdcedaaGreatDoorE28
namespace Go.Proofs.YtdamokokcdcedaaGreatDoor
set_option maxHeartbeats 2000000
set_option maxRecDepth 20000
open Go.ChangeShapes Go.WideShapes Go.ChangeAt Go.RowKit
set_option linter.unusedVariables false
theorem ent_shape {w : World} {cs : List Value} {x : EntryD} (h : entR.rd w cs x) : ∃ (ga : Option Addr) (gc : Nat), cs = [nI x.1, nI x.2.1, .bool x.2.2.1, nI x.2.2.2.1, nI x.2.2.2.2.1, nI x.2.2.2.2.2.1, nI x.2.2.2.2.2.2.1, sL ga x.2.2.2.2.2.2.2.length gc] := by
 obtain ⟨a, c, rfl, -⟩ := ent_rd h;exact ⟨a, c, rfl⟩
theorem idxFnCore {p : CoreD → Bool} {g : Nat} (a : Option Addr) (xs : List CoreD) (cap : Nat) (w : World) (h : SlRd coreR w a xs) (hm : xs.length ≤ maxLen) (HP : ∀ (x : CoreD) (q : List Value) (W : World), x ∈ xs → Below w.heap.size w W → coreR.rd W q x → Calls Tryz.prog 183 #[aggV q, .pointer (some ⟨g, 0, none⟩)] W fun e w' => e = .returned (.bool (!p x)) ∧ Below W.heap.size W w') :
    Calls Tryz.prog 221 #[sL a xs.length cap, .func (.func 183) #[] #[.pointer (some ⟨g, 0, none⟩)]] w fun e w' => e = .returned (nI (badP p xs)) ∧ Below w.heap.size w w' := by
 have aA : xs.length ≤ 9223372036854775807 := hm;have H0 : Hid (∀ W, Below w.heap.size w W → SlRd coreR W a xs) := fun W m => slrd_keep h fun k E => m.block k E;have z : Hid _ := HP;clear h hm HP;go_enter Tryz.func221, Tryz.ntmps221;go_wp2;go_loopw [8] (fun i wr => ∃ k : Nat, k ≤ xs.length ∧ i = nI k ∧ (∀ j v, j < k → xs[j]? = some v → p v = true) ∧ Below w.heap.size w wr) (fun i _ => xs.length - (intOf i).toNat)
 case atStart => exact ⟨0, Nat.zero_le _, rfl, fun j v hj => by omega, Below.refl _ _⟩
 case round =>
  obtain ⟨k, E, rfl, l, f⟩ := hrel;by_cases y : k < xs.length
  ·have I : (k : Int) < (xs.length : Int) := by omega
   obtain ⟨x, r⟩ : ∃ x, xs[k]? = some x := ⟨_, List.getElem?_eq_getElem y⟩;obtain ⟨b, bA, q, rfl, c, d⟩ := slrd_at (H0.out _ f) r;have n := z.out x q wr (List.mem_of_getElem? r) f c;obtain ⟨D, L, Y, M, S, T, R, J, N, V, rfl⟩ := core_shape c;rw [show aggV [sL D x.1.1.length L, sL Y x.1.2.length M, sL S x.2.1.length T, nI x.2.2.1, nI x.2.2.2.1, nI x.2.2.2.2.1.1, nI x.2.2.2.2.1.2.1, sL R x.2.2.2.2.1.2.2.length J, sL N x.2.2.2.2.2.length V] = .agg #[sL D x.1.1.length L, sL Y x.1.2.length M, sL S x.2.1.length T, nI x.2.2.1, nI x.2.2.2.1, nI x.2.2.2.2.1.1, nI x.2.2.2.2.1.2.1, sL R x.2.2.2.2.1.2.2.length J, sL N x.2.2.2.2.2.length V] from rfl] at n;obtain ⟨F, O, X, U, G, C, A, K, H⟩ := cellsAt9 d rfl;have B : Hid (xs[k]? = some x) := r;clear r d c;cases m : p x
   ·have s : Hid (badP p xs = k) := badP_at B.out m l;rw [m] at n;go_wp2_with fail
    refine n.mono ?_;rintro e Z ⟨rfl, o⟩;replace f := below_step f o;clear o F O X U G C A K H;go_wp2;go_ret
    exact ⟨ret_int s.out.symm, f⟩
   ·rw [m] at n;go_wp2_with fail
    refine n.mono ?_;rintro e Z ⟨rfl, o⟩;replace f := below_step f o;clear o F O X U G C A K H;go_wp2;go_roundw
    case rel =>
     refine ⟨k + 1, by omega, by go_num, fun j v hj hv => ?_, f⟩;by_cases he : j < k
     ·exact l j v he hv
     ·have : j = k := by omega
      subst this;rw [B.out] at hv;cases hv;exact m
    case measure => simp [intOf]; omega
  ·have s : Hid (badP p xs = -1) := badP_no fun j v hv => l j v (by have := (List.getElem?_eq_some_iff.1 hv).1; omega) hv;go_wp2;go_ret
   exact ⟨ret_int s.out.symm, f⟩
theorem conFnCore {p : CoreD → Bool} {g : Nat} (a : Option Addr) (xs : List CoreD) (cap : Nat) (w : World) (h : SlRd coreR w a xs) (hm : xs.length ≤ maxLen) (HP : ∀ (x : CoreD) (cs : List Value) (W : World), x ∈ xs → Below w.heap.size w W → coreR.rd W cs x → Calls Tryz.prog 183 #[aggV cs, .pointer (some ⟨g, 0, none⟩)] W fun e w' => e = .returned (.bool (!p x)) ∧ Below W.heap.size W w') :
    Calls Tryz.prog 171 #[sL a xs.length cap, .func (.func 183) #[] #[.pointer (some ⟨g, 0, none⟩)]] w fun e w' => e = .returned (.bool (!xs.all p)) ∧ Below w.heap.size w w' := by
 have f := idxFnCore a xs cap w h hm HP;have b := badP_all p xs;clear h hm HP;generalize badP p xs = q at f b;generalize xs.all p = y at b ⊢;subst b;by_cases i : q < 0
 ·have c : ¬ (0 ≤ q) := by omega
  go_enter Tryz.func171, Tryz.ntmps171;go_wp2_with fail
  refine f.mono ?_;rintro e j ⟨rfl, d⟩;go_wp2;go_ret
  exact ⟨by simp [i], d⟩
 ·have c : 0 ≤ q := by omega
  go_enter Tryz.func171, Tryz.ntmps171;go_wp2_with fail
  refine f.mono ?_;rintro e j ⟨rfl, d⟩;go_wp2;go_ret
  exact ⟨by simp [i], d⟩
theorem closFitCore {q : Bool} {g : Nat} {c0 c1 c2 c3 : Value} (x : CoreD) (cs : List Value) (w : World) (h : coreR.rd w cs x) (hg : w.heap[g]? = some (.cells #[.func (.func 148) #[.agg #[c0, c1, c2, c3]] #[]] 126 (0, 0)))
    (HF : ∀ W, Below w.heap.size w W → Calls Tryz.prog 148 #[.agg #[c0, c1, c2, c3], aggV cs] W fun e w' => e = .returned (.bool q) ∧ Below W.heap.size W w') :
    Calls Tryz.prog 183 #[aggV cs, .pointer (some ⟨g, 0, none⟩)] w fun e w' => e = .returned (.bool (!q)) ∧ Below w.heap.size w w' := by
 obtain ⟨a, c, l, m, i, j, f, b, d, k, rfl⟩ := core_shape h;rw [show aggV [sL a x.1.1.length c, sL l x.1.2.length m, sL i x.2.1.length j, nI x.2.2.1, nI x.2.2.2.1, nI x.2.2.2.2.1.1, nI x.2.2.2.2.1.2.1, sL f x.2.2.2.2.1.2.2.length b, sL d x.2.2.2.2.2.length k] = .agg #[sL a x.1.1.length c, sL l x.1.2.length m, sL i x.2.1.length j, nI x.2.2.1, nI x.2.2.2.1, nI x.2.2.2.2.1.1, nI x.2.2.2.2.1.2.1, sL f x.2.2.2.2.1.2.2.length b, sL d x.2.2.2.2.2.length k] from rfl] at HF ⊢;have B := box_below w (.cells #[sL a x.1.1.length c, sL l x.1.2.length m, sL i x.2.1.length j, nI x.2.2.1, nI x.2.2.2.1, nI x.2.2.2.2.1.1, nI x.2.2.2.2.1.2.1, sL f x.2.2.2.2.1.2.2.length b, sL d x.2.2.2.2.2.length k] 98);have G := row_keep B hg;have n : Hid _ := HF;clear h hg HF;go_enter Tryz.func183, Tryz.ntmps183;go_upto_region 1 with fail
 have X := heap_at w (.cells #[sL a x.1.1.length c, sL l x.1.2.length m, sL i x.2.1.length j, nI x.2.2.1, nI x.2.2.2.1, nI x.2.2.2.2.1.1, nI x.2.2.2.2.1.2.1, sL f x.2.2.2.2.1.2.2.length b, sL d x.2.2.2.2.2.length k] 98);generalize w.alloc (.cells #[sL a x.1.1.length c, sL l x.1.2.length m, sL i x.2.1.length j, nI x.2.2.1, nI x.2.2.2.1, nI x.2.2.2.2.1.1, nI x.2.2.2.2.1.2.1, sL f x.2.2.2.2.1.2.2.length b, sL d x.2.2.2.2.2.length k] 98) = W0 at B G X ⊢;have s : W0.cell? ⟨g, 0, none⟩ = some (.func (.func 148) #[.agg #[c0, c1, c2, c3]] #[]) := by rw [cell_of_row W0 g 0 _ _ (0, 0) G]; rfl
 obtain ⟨E, A, D, p, C, z, v, r, y⟩ := cells_core X;clear G X;go_wp2_with fail
 refine (n.out _ B).mono ?_;rintro e w1 ⟨rfl, o⟩;replace B := below_step B o;clear s o E A D p C z v r y;go_wp2;go_ret
 exact ⟨rfl, B⟩
theorem allFitCore {p : CoreD → Bool} {c0 c1 c2 c3 : Value} (a : Option Addr) (xs : List CoreD) (cap : Nat) (w : World) (h : SlRd coreR w a xs) (hm : xs.length ≤ maxLen)
    (HF : ∀ (x : CoreD) (cs : List Value) (W : World), x ∈ xs → Below w.heap.size w W → coreR.rd W cs x → Calls Tryz.prog 148 #[.agg #[c0, c1, c2, c3], aggV cs] W fun e w' => e = .returned (.bool (p x)) ∧ Below W.heap.size W w') :
    Calls Tryz.prog 118 #[sL a xs.length cap, .func (.func 148) #[.agg #[c0, c1, c2, c3]] #[]] w fun e w' => e = .returned (.bool (xs.all p)) ∧ Below w.heap.size w w' := by
 have B := box_below w (.cells #[.func (.func 148) #[.agg #[c0, c1, c2, c3]] #[]] 126);have G := heap_at w (.cells #[.func (.func 148) #[.agg #[c0, c1, c2, c3]] #[]] 126);have b := conFnCore (p := p) (g := w.heap.size) a xs cap (w.alloc (.cells #[.func (.func 148) #[.agg #[c0, c1, c2, c3]] #[]] 126)) (slrd_next h B) hm (fun x cs W hx hb hr => closFitCore x cs W hr (row_keep hb G) (fun W2 hb2 => HF x cs W2 hx (below_step (below_step B hb) hb2) (rd_next hr hb2)));clear h hm HF G;generalize xs.all p = y at b ⊢;go_enter Tryz.func118, Tryz.ntmps118;go_wp2_with fail
 refine b.mono ?_;rintro e w1 ⟨rfl, c⟩;replace B := below_step B c;clear c;go_wp2;go_ret
 exact ⟨by simp, B⟩
theorem idxFnEntry {p : EntryD → Bool} {g : Nat} (a : Option Addr) (xs : List EntryD) (cap : Nat) (w : World) (h : SlRd entR w a xs) (hm : xs.length ≤ maxLen) (HP : ∀ (x : EntryD) (q : List Value) (W : World), x ∈ xs → Below w.heap.size w W → entR.rd W q x → Calls Tryz.prog 182 #[aggV q, .pointer (some ⟨g, 0, none⟩)] W fun e w' => e = .returned (.bool (!p x)) ∧ Below W.heap.size W w') :
    Calls Tryz.prog 226 #[sL a xs.length cap, .func (.func 182) #[] #[.pointer (some ⟨g, 0, none⟩)]] w fun e w' => e = .returned (nI (badP p xs)) ∧ Below w.heap.size w w' := by
 have O : xs.length ≤ 9223372036854775807 := hm;have S : Hid (∀ W, Below w.heap.size w W → SlRd entR W a xs) := fun W m => slrd_keep h fun k E => m.block k E;have z : Hid _ := HP;clear h hm HP;go_enter Tryz.func226, Tryz.ntmps226;go_wp2;go_loopw [8] (fun i wr => ∃ k : Nat, k ≤ xs.length ∧ i = nI k ∧ (∀ j v, j < k → xs[j]? = some v → p v = true) ∧ Below w.heap.size w wr) (fun i _ => xs.length - (intOf i).toNat)
 case atStart => exact ⟨0, Nat.zero_le _, rfl, fun j v hj => by omega, Below.refl _ _⟩
 case round =>
  obtain ⟨k, E, rfl, l, f⟩ := hrel;by_cases y : k < xs.length
  ·have H : (k : Int) < (xs.length : Int) := by omega
   obtain ⟨x, r⟩ : ∃ x, xs[k]? = some x := ⟨_, List.getElem?_eq_getElem y⟩;obtain ⟨b, R, q, rfl, c, d⟩ := slrd_at (S.out _ f) r;have n := z.out x q wr (List.mem_of_getElem? r) f c;obtain ⟨D, J, rfl⟩ := ent_shape c;rw [show aggV [nI x.1, nI x.2.1, .bool x.2.2.1, nI x.2.2.2.1, nI x.2.2.2.2.1, nI x.2.2.2.2.2.1, nI x.2.2.2.2.2.2.1, sL D x.2.2.2.2.2.2.2.length J] = .agg #[nI x.1, nI x.2.1, .bool x.2.2.1, nI x.2.2.2.1, nI x.2.2.2.2.1, nI x.2.2.2.2.2.1, nI x.2.2.2.2.2.2.1, sL D x.2.2.2.2.2.2.2.length J] from rfl] at n;obtain ⟨F, K, M, L, G, C, A, I⟩ := cellsAt8 d rfl;have B : Hid (xs[k]? = some x) := r;clear r d c;cases m : p x
   ·have s : Hid (badP p xs = k) := badP_at B.out m l;rw [m] at n;go_wp2_with fail
    refine n.mono ?_;rintro e N ⟨rfl, o⟩;replace f := below_step f o;clear o F K M L G C A I;go_wp2;go_ret
    exact ⟨ret_int s.out.symm, f⟩
   ·rw [m] at n;go_wp2_with fail
    refine n.mono ?_;rintro e N ⟨rfl, o⟩;replace f := below_step f o;clear o F K M L G C A I;go_wp2;go_roundw
    case rel =>
     refine ⟨k + 1, by omega, by go_num, fun j v hj hv => ?_, f⟩;by_cases T : j < k
     ·exact l j v T hv
     ·have : j = k := by omega
      subst this;rw [B.out] at hv;cases hv;exact m
    case measure => simp [intOf]; omega
  ·have s : Hid (badP p xs = -1) := badP_no fun j v hv => l j v (by have := (List.getElem?_eq_some_iff.1 hv).1; omega) hv;go_wp2;go_ret
   exact ⟨ret_int s.out.symm, f⟩
theorem conFnEntry {p : EntryD → Bool} {g : Nat} (a : Option Addr) (xs : List EntryD) (cap : Nat) (w : World) (h : SlRd entR w a xs) (hm : xs.length ≤ maxLen) (HP : ∀ (x : EntryD) (cs : List Value) (W : World), x ∈ xs → Below w.heap.size w W → entR.rd W cs x → Calls Tryz.prog 182 #[aggV cs, .pointer (some ⟨g, 0, none⟩)] W fun e w' => e = .returned (.bool (!p x)) ∧ Below W.heap.size W w') :
    Calls Tryz.prog 181 #[sL a xs.length cap, .func (.func 182) #[] #[.pointer (some ⟨g, 0, none⟩)]] w fun e w' => e = .returned (.bool (!xs.all p)) ∧ Below w.heap.size w w' := by
 have f := idxFnEntry a xs cap w h hm HP;have b := badP_all p xs;clear h hm HP;generalize badP p xs = q at f b;generalize xs.all p = y at b ⊢;subst b;by_cases i : q < 0
 ·have c : ¬ (0 ≤ q) := by omega
  go_enter Tryz.func181, Tryz.ntmps181;go_wp2_with fail
  refine f.mono ?_;rintro e j ⟨rfl, d⟩;go_wp2;go_ret
  exact ⟨by simp [i], d⟩
 ·have c : 0 ≤ q := by omega
  go_enter Tryz.func181, Tryz.ntmps181;go_wp2_with fail
  refine f.mono ?_;rintro e j ⟨rfl, d⟩;go_wp2;go_ret
  exact ⟨by simp [i], d⟩
theorem closFitEntry {q : Bool} {g : Nat} {c0 c1 c2 c3 : Value} (x : EntryD) (cs : List Value) (w : World) (h : entR.rd w cs x) (hg : w.heap[g]? = some (.cells #[.func (.func 147) #[.agg #[c0, c1, c2, c3]] #[]] 175 (0, 0)))
    (HF : ∀ W, Below w.heap.size w W → Calls Tryz.prog 147 #[.agg #[c0, c1, c2, c3], aggV cs] W fun e w' => e = .returned (.bool q) ∧ Below W.heap.size W w') :
    Calls Tryz.prog 182 #[aggV cs, .pointer (some ⟨g, 0, none⟩)] w fun e w' => e = .returned (.bool (!q)) ∧ Below w.heap.size w w' := by
 obtain ⟨a, b, rfl⟩ := ent_shape h;rw [show aggV [nI x.1, nI x.2.1, .bool x.2.2.1, nI x.2.2.2.1, nI x.2.2.2.2.1, nI x.2.2.2.2.2.1, nI x.2.2.2.2.2.2.1, sL a x.2.2.2.2.2.2.2.length b] = .agg #[nI x.1, nI x.2.1, .bool x.2.2.1, nI x.2.2.2.1, nI x.2.2.2.2.1, nI x.2.2.2.2.2.1, nI x.2.2.2.2.2.2.1, sL a x.2.2.2.2.2.2.2.length b] from rfl] at HF ⊢;have B := box_below w (.cells #[nI x.1, nI x.2.1, .bool x.2.2.1, nI x.2.2.2.1, nI x.2.2.2.2.1, nI x.2.2.2.2.2.1, nI x.2.2.2.2.2.2.1, sL a x.2.2.2.2.2.2.2.length b] 101);have G := row_keep B hg;have c : Hid _ := HF;clear h hg HF;go_enter Tryz.func182, Tryz.ntmps182;go_upto_region 1 with fail
 have X := heap_at w (.cells #[nI x.1, nI x.2.1, .bool x.2.2.1, nI x.2.2.2.1, nI x.2.2.2.2.1, nI x.2.2.2.2.2.1, nI x.2.2.2.2.2.2.1, sL a x.2.2.2.2.2.2.2.length b] 101);generalize w.alloc (.cells #[nI x.1, nI x.2.1, .bool x.2.2.1, nI x.2.2.2.1, nI x.2.2.2.2.1, nI x.2.2.2.2.2.1, nI x.2.2.2.2.2.2.1, sL a x.2.2.2.2.2.2.2.length b] 101) = W0 at B G X ⊢;have j : W0.cell? ⟨g, 0, none⟩ = some (.func (.func 147) #[.agg #[c0, c1, c2, c3]] #[]) := by rw [cell_of_row W0 g 0 _ _ (0, 0) G]; rfl
 obtain ⟨p, m, o, f, n, l, k, i⟩ := cells_8 X;clear G X;go_wp2_with fail
 refine (c.out _ B).mono ?_;rintro e w1 ⟨rfl, d⟩;replace B := below_step B d;clear j d p m o f n l k i;go_wp2;go_ret
 exact ⟨rfl, B⟩
theorem allFitEntry {p : EntryD → Bool} {c0 c1 c2 c3 : Value} (a : Option Addr) (xs : List EntryD) (cap : Nat) (w : World) (h : SlRd entR w a xs) (hm : xs.length ≤ maxLen)
    (HF : ∀ (x : EntryD) (cs : List Value) (W : World), x ∈ xs → Below w.heap.size w W → entR.rd W cs x → Calls Tryz.prog 147 #[.agg #[c0, c1, c2, c3], aggV cs] W fun e w' => e = .returned (.bool (p x)) ∧ Below W.heap.size W w') :
    Calls Tryz.prog 116 #[sL a xs.length cap, .func (.func 147) #[.agg #[c0, c1, c2, c3]] #[]] w fun e w' => e = .returned (.bool (xs.all p)) ∧ Below w.heap.size w w' := by
 have B := box_below w (.cells #[.func (.func 147) #[.agg #[c0, c1, c2, c3]] #[]] 175);have G := heap_at w (.cells #[.func (.func 147) #[.agg #[c0, c1, c2, c3]] #[]] 175);have b := conFnEntry (p := p) (g := w.heap.size) a xs cap (w.alloc (.cells #[.func (.func 147) #[.agg #[c0, c1, c2, c3]] #[]] 175)) (slrd_next h B) hm (fun x cs W hx hb hr => closFitEntry x cs W hr (row_keep hb G) (fun W2 hb2 => HF x cs W2 hx (below_step (below_step B hb) hb2) (rd_next hr hb2)));clear h hm HF G;generalize xs.all p = y at b ⊢;go_enter Tryz.func116, Tryz.ntmps116;go_wp2_with fail
 refine b.mono ?_;rintro e w1 ⟨rfl, c⟩;replace B := below_step B c;clear c;go_wp2;go_ret
 exact ⟨by simp, B⟩
theorem idxFnMsg {p : MsgD → Bool} {g : Nat} (a : Option Addr) (xs : List MsgD) (cap : Nat) (w : World) (h : SlRd msgR w a xs) (hm : xs.length ≤ maxLen) (HP : ∀ (x : MsgD) (q : List Value) (W : World), x ∈ xs → Below w.heap.size w W → msgR.rd W q x → Calls Tryz.prog 211 #[aggV q, .pointer (some ⟨g, 0, none⟩)] W fun e w' => e = .returned (.bool (!p x)) ∧ Below W.heap.size W w') :
    Calls Tryz.prog 243 #[sL a xs.length cap, .func (.func 211) #[] #[.pointer (some ⟨g, 0, none⟩)]] w fun e w' => e = .returned (nI (badP p xs)) ∧ Below w.heap.size w w' := by
 have N : xs.length ≤ 9223372036854775807 := hm;have R : Hid (∀ W, Below w.heap.size w W → SlRd msgR W a xs) := fun W m => slrd_keep h fun k E => m.block k E;have z : Hid _ := HP;clear h hm HP;go_enter Tryz.func243, Tryz.ntmps243;go_wp2;go_loopw [8] (fun i wr => ∃ k : Nat, k ≤ xs.length ∧ i = nI k ∧ (∀ j v, j < k → xs[j]? = some v → p v = true) ∧ Below w.heap.size w wr) (fun i _ => xs.length - (intOf i).toNat)
 case atStart => exact ⟨0, Nat.zero_le _, rfl, fun j v hj => by omega, Below.refl _ _⟩
 case round =>
  obtain ⟨k, E, rfl, l, f⟩ := hrel;by_cases y : k < xs.length
  ·have H : (k : Int) < (xs.length : Int) := by omega
   obtain ⟨x, r⟩ : ∃ x, xs[k]? = some x := ⟨_, List.getElem?_eq_getElem y⟩;obtain ⟨b, O, q, rfl, c, d⟩ := slrd_at (R.out _ f) r;have n := z.out x q wr (List.mem_of_getElem? r) f c;obtain ⟨D, I, rfl⟩ := msg_shape c;rw [show aggV [nI x.1, nI x.2.1, nI x.2.2.1, nI x.2.2.2.1, nI x.2.2.2.2.1, sL D x.2.2.2.2.2.1.length I, nI x.2.2.2.2.2.2] = .agg #[nI x.1, nI x.2.1, nI x.2.2.1, nI x.2.2.2.1, nI x.2.2.2.2.1, sL D x.2.2.2.2.2.1.length I, nI x.2.2.2.2.2.2] from rfl] at n;obtain ⟨F, J, L, K, G, C, A⟩ := cellsAt7 d rfl;have B : Hid (xs[k]? = some x) := r;clear r d c;cases m : p x
   ·have s : Hid (badP p xs = k) := badP_at B.out m l;rw [m] at n;go_wp2_with fail
    refine n.mono ?_;rintro e M ⟨rfl, o⟩;replace f := below_step f o;clear o F J L K G C A;go_wp2;go_ret
    exact ⟨ret_int s.out.symm, f⟩
   ·rw [m] at n;go_wp2_with fail
    refine n.mono ?_;rintro e M ⟨rfl, o⟩;replace f := below_step f o;clear o F J L K G C A;go_wp2;go_roundw
    case rel =>
     refine ⟨k + 1, by omega, by go_num, fun j v hj hv => ?_, f⟩;by_cases S : j < k
     ·exact l j v S hv
     ·have : j = k := by omega
      subst this;rw [B.out] at hv;cases hv;exact m
    case measure => simp [intOf]; omega
  ·have s : Hid (badP p xs = -1) := badP_no fun j v hv => l j v (by have := (List.getElem?_eq_some_iff.1 hv).1; omega) hv;go_wp2;go_ret
   exact ⟨ret_int s.out.symm, f⟩
theorem conFnMsg {p : MsgD → Bool} {g : Nat} (a : Option Addr) (xs : List MsgD) (cap : Nat) (w : World) (h : SlRd msgR w a xs) (hm : xs.length ≤ maxLen) (HP : ∀ (x : MsgD) (cs : List Value) (W : World), x ∈ xs → Below w.heap.size w W → msgR.rd W cs x → Calls Tryz.prog 211 #[aggV cs, .pointer (some ⟨g, 0, none⟩)] W fun e w' => e = .returned (.bool (!p x)) ∧ Below W.heap.size W w') :
    Calls Tryz.prog 208 #[sL a xs.length cap, .func (.func 211) #[] #[.pointer (some ⟨g, 0, none⟩)]] w fun e w' => e = .returned (.bool (!xs.all p)) ∧ Below w.heap.size w w' := by
 have f := idxFnMsg a xs cap w h hm HP;have b := badP_all p xs;clear h hm HP;generalize badP p xs = q at f b;generalize xs.all p = y at b ⊢;subst b;by_cases i : q < 0
 ·have c : ¬ (0 ≤ q) := by omega
  go_enter Tryz.func208, Tryz.ntmps208;go_wp2_with fail
  refine f.mono ?_;rintro e j ⟨rfl, d⟩;go_wp2;go_ret
  exact ⟨by simp [i], d⟩
 ·have c : 0 ≤ q := by omega
  go_enter Tryz.func208, Tryz.ntmps208;go_wp2_with fail
  refine f.mono ?_;rintro e j ⟨rfl, d⟩;go_wp2;go_ret
  exact ⟨by simp [i], d⟩
theorem closFitMsg {q : Bool} {g : Nat} {c0 c1 c2 c3 : Value} (x : MsgD) (cs : List Value) (w : World) (h : msgR.rd w cs x) (hg : w.heap[g]? = some (.cells #[.func (.func 153) #[.agg #[c0, c1, c2, c3]] #[]] 189 (0, 0)))
    (HF : ∀ W, Below w.heap.size w W → Calls Tryz.prog 153 #[.agg #[c0, c1, c2, c3], aggV cs] W fun e w' => e = .returned (.bool q) ∧ Below W.heap.size W w') :
    Calls Tryz.prog 211 #[aggV cs, .pointer (some ⟨g, 0, none⟩)] w fun e w' => e = .returned (.bool (!q)) ∧ Below w.heap.size w w' := by
 obtain ⟨a, b, rfl⟩ := msg_shape h;rw [show aggV [nI x.1, nI x.2.1, nI x.2.2.1, nI x.2.2.2.1, nI x.2.2.2.2.1, sL a x.2.2.2.2.2.1.length b, nI x.2.2.2.2.2.2] = .agg #[nI x.1, nI x.2.1, nI x.2.2.1, nI x.2.2.2.1, nI x.2.2.2.2.1, sL a x.2.2.2.2.2.1.length b, nI x.2.2.2.2.2.2] from rfl] at HF ⊢;have B := box_below w (.cells #[nI x.1, nI x.2.1, nI x.2.2.1, nI x.2.2.2.1, nI x.2.2.2.2.1, sL a x.2.2.2.2.2.1.length b, nI x.2.2.2.2.2.2] 131);have G := row_keep B hg;have c : Hid _ := HF;clear h hg HF;go_enter Tryz.func211, Tryz.ntmps211;go_upto_region 1 with fail
 have X := heap_at w (.cells #[nI x.1, nI x.2.1, nI x.2.2.1, nI x.2.2.2.1, nI x.2.2.2.2.1, sL a x.2.2.2.2.2.1.length b, nI x.2.2.2.2.2.2] 131);generalize w.alloc (.cells #[nI x.1, nI x.2.1, nI x.2.2.1, nI x.2.2.2.1, nI x.2.2.2.2.1, sL a x.2.2.2.2.2.1.length b, nI x.2.2.2.2.2.2] 131) = W0 at B G X ⊢;have m : W0.cell? ⟨g, 0, none⟩ = some (.func (.func 153) #[.agg #[c0, c1, c2, c3]] #[]) := by rw [cell_of_row W0 g 0 _ _ (0, 0) G]; rfl
 obtain ⟨o, f, n, l, j, k, i⟩ := cells_7 X;clear G X;go_wp2_with fail
 refine (c.out _ B).mono ?_;rintro e w1 ⟨rfl, d⟩;replace B := below_step B d;clear m d o f n l j k i;go_wp2;go_ret
 exact ⟨rfl, B⟩
theorem allFitMsg {p : MsgD → Bool} {c0 c1 c2 c3 : Value} (a : Option Addr) (xs : List MsgD) (cap : Nat) (w : World) (h : SlRd msgR w a xs) (hm : xs.length ≤ maxLen)
    (HF : ∀ (x : MsgD) (cs : List Value) (W : World), x ∈ xs → Below w.heap.size w W → msgR.rd W cs x → Calls Tryz.prog 153 #[.agg #[c0, c1, c2, c3], aggV cs] W fun e w' => e = .returned (.bool (p x)) ∧ Below W.heap.size W w') :
    Calls Tryz.prog 152 #[sL a xs.length cap, .func (.func 153) #[.agg #[c0, c1, c2, c3]] #[]] w fun e w' => e = .returned (.bool (xs.all p)) ∧ Below w.heap.size w w' := by
 have B := box_below w (.cells #[.func (.func 153) #[.agg #[c0, c1, c2, c3]] #[]] 189);have G := heap_at w (.cells #[.func (.func 153) #[.agg #[c0, c1, c2, c3]] #[]] 189);have b := conFnMsg (p := p) (g := w.heap.size) a xs cap (w.alloc (.cells #[.func (.func 153) #[.agg #[c0, c1, c2, c3]] #[]] 189)) (slrd_next h B) hm (fun x cs W hx hb hr => closFitMsg x cs W hr (row_keep hb G) (fun W2 hb2 => HF x cs W2 hx (below_step (below_step B hb) hb2) (rd_next hr hb2)));clear h hm HF G;generalize xs.all p = y at b ⊢;go_enter Tryz.func152, Tryz.ntmps152;go_wp2_with fail
 refine b.mono ?_;rintro e w1 ⟨rfl, c⟩;replace B := below_step B c;clear c;go_wp2;go_ret
 exact ⟨by simp, B⟩
end Go.Proofs.YtdamokokcdcedaaGreatDoor
