import Derived.Test.YtglejdilghcbaaaGreatDoorP00Box
import Derived.Test.YtglejdilghcbaaaGreatDoorP28
import Derived.Test.YtglejdilghcbaaaGreatDoorP30
import Derived.Test.YtglejdilghcbaaaGreatDoorP17
namespace Go.Proofs.YtglejdilghcbaaaGreatDoor
set_option maxHeartbeats 2000000
set_option maxRecDepth 20000
open Go.ChangeShapes Go.WideShapes Go.ChangeAt Go.RowKit
set_option linter.unusedVariables false
theorem ent_shape {w : World} {cs : List Value} {x : EntryD} (h : entR.rd w cs x) : ∃ (ga : Option Addr) (gc : Nat), cs = [nI x.1, nI x.2.1, .bool x.2.2.1, nI x.2.2.2.1, nI x.2.2.2.2.1, nI x.2.2.2.2.2.1, nI x.2.2.2.2.2.2.1, sL ga x.2.2.2.2.2.2.2.length gc] := by
 obtain ⟨a, c, rfl, -⟩ := ent_rd h;exact ⟨a, c, rfl⟩
theorem idxFnCore {p : CoreD → Bool} {g : Nat} (a : Option Addr) (xs : List CoreD) (cap : Nat) (w : World) (h : SlRd coreR w a xs) (hm : xs.length ≤ maxLen) (HP : ∀ (x : CoreD) (q : List Value) (W : World), x ∈ xs → Below w.heap.size w W → coreR.rd W q x → Calls Tryz.prog 140 #[aggV q, .pointer (some ⟨g, 0, none⟩)] W fun e w' => e = .returned (.bool (!p x)) ∧ Below W.heap.size W w') :
    Calls Tryz.prog 179 #[sL a xs.length cap, .func (.func 140) #[] #[.pointer (some ⟨g, 0, none⟩)]] w fun e w' => e = .returned (nI (badP p xs)) ∧ Below w.heap.size w w' := by
 have bA : xs.length ≤ 9223372036854775807 := hm;have H0 : Hid (∀ W, Below w.heap.size w W → SlRd coreR W a xs) := fun W m => slrd_keep h fun k N => m.block k N;have z : Hid _ := HP;clear h hm HP;go_enter Tryz.func179, Tryz.ntmps179;go_wp2;go_loopw [8] (fun i wr => ∃ k : Nat, k ≤ xs.length ∧ i = nI k ∧ (∀ j v, j < k → xs[j]? = some v → p v = true) ∧ Below w.heap.size w wr) (fun i _ => xs.length - (intOf i).toNat)
 case atStart => exact ⟨0, Nat.zero_le _, rfl, fun j v hj => by omega, Below.refl _ _⟩
 case round =>
  obtain ⟨k, N, rfl, l, f⟩ := hrel;by_cases s : k < xs.length
  ·have E : (k : Int) < (xs.length : Int) := by omega
   obtain ⟨x, r⟩ : ∃ x, xs[k]? = some x := ⟨_, List.getElem?_eq_getElem s⟩;obtain ⟨b, aA, q, rfl, d, c⟩ := slrd_at (H0.out _ f) r;have o := z.out x q wr (List.mem_of_getElem? r) f d;obtain ⟨I, A, O, J, Y, T, U, F, G, H, rfl⟩ := core_shape d;rw [show aggV [sL I x.1.1.length A, sL O x.1.2.length J, sL Y x.2.1.length T, nI x.2.2.1, nI x.2.2.2.1, nI x.2.2.2.2.1.1, nI x.2.2.2.2.1.2.1, sL U x.2.2.2.2.1.2.2.length F, sL G x.2.2.2.2.2.length H] = .agg #[sL I x.1.1.length A, sL O x.1.2.length J, sL Y x.2.1.length T, nI x.2.2.1, nI x.2.2.2.1, nI x.2.2.2.2.1.1, nI x.2.2.2.2.1.2.1, sL U x.2.2.2.2.1.2.2.length F, sL G x.2.2.2.2.2.length H] from rfl] at o;obtain ⟨S, C, V, B, K, D, R, L, M⟩ := cellsAt9 c rfl;have X : Hid (xs[k]? = some x) := r;clear r c d;cases m : p x
   ·have y : Hid (badP p xs = k) := badP_at X.out m l;rw [m] at o;go_wp2_with fail
    refine o.mono ?_;rintro e w2 ⟨rfl, n⟩;replace f := below_step f n;clear n S C V B K D R L M;go_wp2;go_ret
    exact ⟨ret_int y.out.symm, f⟩
   ·rw [m] at o;go_wp2_with fail
    refine o.mono ?_;rintro e w2 ⟨rfl, n⟩;replace f := below_step f n;clear n S C V B K D R L M;go_wp2;go_roundw
    case rel =>
     refine ⟨k + 1, by omega, by go_num, fun j v hj hv => ?_, f⟩;by_cases Z : j < k
     ·exact l j v Z hv
     ·have : j = k := by omega
      subst this;rw [X.out] at hv;cases hv;exact m
    case measure => simp [intOf]; omega
  ·have y : Hid (badP p xs = -1) := badP_no fun j v hv => l j v (by have := (List.getElem?_eq_some_iff.1 hv).1; omega) hv;go_wp2;go_ret
   exact ⟨ret_int y.out.symm, f⟩
theorem conFnCore {p : CoreD → Bool} {g : Nat} (a : Option Addr) (xs : List CoreD) (cap : Nat) (w : World) (h : SlRd coreR w a xs) (hm : xs.length ≤ maxLen) (HP : ∀ (x : CoreD) (cs : List Value) (W : World), x ∈ xs → Below w.heap.size w W → coreR.rd W cs x → Calls Tryz.prog 140 #[aggV cs, .pointer (some ⟨g, 0, none⟩)] W fun e w' => e = .returned (.bool (!p x)) ∧ Below W.heap.size W w') :
    Calls Tryz.prog 139 #[sL a xs.length cap, .func (.func 140) #[] #[.pointer (some ⟨g, 0, none⟩)]] w fun e w' => e = .returned (.bool (!xs.all p)) ∧ Below w.heap.size w w' := by
 have f := idxFnCore a xs cap w h hm HP;have b := badP_all p xs;clear h hm HP;generalize badP p xs = q at f b;generalize xs.all p = y at b ⊢;subst b;by_cases i : q < 0
 ·have c : ¬ (0 ≤ q) := by omega
  go_enter Tryz.func139, Tryz.ntmps139;go_wp2_with fail
  refine f.mono ?_;rintro e j ⟨rfl, d⟩;go_wp2;go_ret
  exact ⟨by simp [i], d⟩
 ·have c : 0 ≤ q := by omega
  go_enter Tryz.func139, Tryz.ntmps139;go_wp2_with fail
  refine f.mono ?_;rintro e j ⟨rfl, d⟩;go_wp2;go_ret
  exact ⟨by simp [i], d⟩
theorem closFitCore {q : Bool} {g : Nat} {c0 c1 c2 c3 : Value} (x : CoreD) (cs : List Value) (w : World) (h : coreR.rd w cs x) (hg : w.heap[g]? = some (.cells #[.func (.func 99) #[.agg #[c0, c1, c2, c3]] #[]] 111 (0, 0)))
    (HF : ∀ W, Below w.heap.size w W → Calls Tryz.prog 99 #[.agg #[c0, c1, c2, c3], aggV cs] W fun e w' => e = .returned (.bool q) ∧ Below W.heap.size W w') :
    Calls Tryz.prog 140 #[aggV cs, .pointer (some ⟨g, 0, none⟩)] w fun e w' => e = .returned (.bool (!q)) ∧ Below w.heap.size w w' := by
 obtain ⟨f, a, j, i, m, k, l, b, c, d, rfl⟩ := core_shape h;rw [show aggV [sL f x.1.1.length a, sL j x.1.2.length i, sL m x.2.1.length k, nI x.2.2.1, nI x.2.2.2.1, nI x.2.2.2.2.1.1, nI x.2.2.2.2.1.2.1, sL l x.2.2.2.2.1.2.2.length b, sL c x.2.2.2.2.2.length d] = .agg #[sL f x.1.1.length a, sL j x.1.2.length i, sL m x.2.1.length k, nI x.2.2.1, nI x.2.2.2.1, nI x.2.2.2.2.1.1, nI x.2.2.2.2.1.2.1, sL l x.2.2.2.2.1.2.2.length b, sL c x.2.2.2.2.2.length d] from rfl] at HF ⊢;have B := box_below w (.cells #[sL f x.1.1.length a, sL j x.1.2.length i, sL m x.2.1.length k, nI x.2.2.1, nI x.2.2.2.1, nI x.2.2.2.2.1.1, nI x.2.2.2.2.1.2.1, sL l x.2.2.2.2.1.2.2.length b, sL c x.2.2.2.2.2.length d] 66);have G := row_keep B hg;have n : Hid _ := HF;clear h hg HF;go_enter Tryz.func140, Tryz.ntmps140;go_upto_region 1 with fail
 have X := heap_at w (.cells #[sL f x.1.1.length a, sL j x.1.2.length i, sL m x.2.1.length k, nI x.2.2.1, nI x.2.2.2.1, nI x.2.2.2.2.1.1, nI x.2.2.2.2.1.2.1, sL l x.2.2.2.2.1.2.2.length b, sL c x.2.2.2.2.2.length d] 66);generalize w.alloc (.cells #[sL f x.1.1.length a, sL j x.1.2.length i, sL m x.2.1.length k, nI x.2.2.1, nI x.2.2.2.1, nI x.2.2.2.2.1.1, nI x.2.2.2.2.1.2.1, sL l x.2.2.2.2.1.2.2.length b, sL c x.2.2.2.2.2.length d] 66) = W0 at B G X ⊢;have z : W0.cell? ⟨g, 0, none⟩ = some (.func (.func 99) #[.agg #[c0, c1, c2, c3]] #[]) := by rw [cell_of_row W0 g 0 _ _ (0, 0) G]; rfl
 obtain ⟨E, p, v, D, s, y, A, C, r⟩ := cells_core X;clear G X;go_wp2_with fail
 refine (n.out _ B).mono ?_;rintro e w1 ⟨rfl, o⟩;replace B := below_step B o;clear z o E p v D s y A C r;go_wp2;go_ret
 exact ⟨rfl, B⟩
theorem allFitCore {p : CoreD → Bool} {c0 c1 c2 c3 : Value} (a : Option Addr) (xs : List CoreD) (cap : Nat) (w : World) (h : SlRd coreR w a xs) (hm : xs.length ≤ maxLen)
    (HF : ∀ (x : CoreD) (cs : List Value) (W : World), x ∈ xs → Below w.heap.size w W → coreR.rd W cs x → Calls Tryz.prog 99 #[.agg #[c0, c1, c2, c3], aggV cs] W fun e w' => e = .returned (.bool (p x)) ∧ Below W.heap.size W w') :
    Calls Tryz.prog 98 #[sL a xs.length cap, .func (.func 99) #[.agg #[c0, c1, c2, c3]] #[]] w fun e w' => e = .returned (.bool (xs.all p)) ∧ Below w.heap.size w w' := by
 have B := box_below w (.cells #[.func (.func 99) #[.agg #[c0, c1, c2, c3]] #[]] 111);have G := heap_at w (.cells #[.func (.func 99) #[.agg #[c0, c1, c2, c3]] #[]] 111);have c := conFnCore (p := p) (g := w.heap.size) a xs cap (w.alloc (.cells #[.func (.func 99) #[.agg #[c0, c1, c2, c3]] #[]] 111)) (slrd_next h B) hm (fun x cs W hx hb hr => closFitCore x cs W hr (row_keep hb G) (fun W2 hb2 => HF x cs W2 hx (below_step (below_step B hb) hb2) (rd_next hr hb2)));clear h hm HF G;generalize xs.all p = y at c ⊢;go_enter Tryz.func98, Tryz.ntmps98;go_wp2_with fail
 refine c.mono ?_;rintro e w1 ⟨rfl, b⟩;replace B := below_step B b;clear b;go_wp2;go_ret
 exact ⟨by simp, B⟩
theorem idxFnEntry {p : EntryD → Bool} {g : Nat} (a : Option Addr) (xs : List EntryD) (cap : Nat) (w : World) (h : SlRd entR w a xs) (hm : xs.length ≤ maxLen) (HP : ∀ (x : EntryD) (q : List Value) (W : World), x ∈ xs → Below w.heap.size w W → entR.rd W q x → Calls Tryz.prog 133 #[aggV q, .pointer (some ⟨g, 0, none⟩)] W fun e w' => e = .returned (.bool (!p x)) ∧ Below W.heap.size W w') :
    Calls Tryz.prog 174 #[sL a xs.length cap, .func (.func 133) #[] #[.pointer (some ⟨g, 0, none⟩)]] w fun e w' => e = .returned (nI (badP p xs)) ∧ Below w.heap.size w w' := by
 have R : xs.length ≤ 9223372036854775807 := hm;have T : Hid (∀ W, Below w.heap.size w W → SlRd entR W a xs) := fun W m => slrd_keep h fun k I => m.block k I;have z : Hid _ := HP;clear h hm HP;go_enter Tryz.func174, Tryz.ntmps174;go_wp2;go_loopw [8] (fun i wr => ∃ k : Nat, k ≤ xs.length ∧ i = nI k ∧ (∀ j v, j < k → xs[j]? = some v → p v = true) ∧ Below w.heap.size w wr) (fun i _ => xs.length - (intOf i).toNat)
 case atStart => exact ⟨0, Nat.zero_le _, rfl, fun j v hj => by omega, Below.refl _ _⟩
 case round =>
  obtain ⟨k, I, rfl, l, f⟩ := hrel;by_cases s : k < xs.length
  ·have E : (k : Int) < (xs.length : Int) := by omega
   obtain ⟨x, r⟩ : ∃ x, xs[k]? = some x := ⟨_, List.getElem?_eq_getElem s⟩;obtain ⟨b, O, q, rfl, d, c⟩ := slrd_at (T.out _ f) r;have o := z.out x q wr (List.mem_of_getElem? r) f d;obtain ⟨F, A, rfl⟩ := ent_shape d;rw [show aggV [nI x.1, nI x.2.1, .bool x.2.2.1, nI x.2.2.2.1, nI x.2.2.2.2.1, nI x.2.2.2.2.2.1, nI x.2.2.2.2.2.2.1, sL F x.2.2.2.2.2.2.2.length A] = .agg #[nI x.1, nI x.2.1, .bool x.2.2.1, nI x.2.2.2.1, nI x.2.2.2.2.1, nI x.2.2.2.2.2.1, nI x.2.2.2.2.2.2.1, sL F x.2.2.2.2.2.2.2.length A] from rfl] at o;obtain ⟨K, C, L, B, G, D, J, H⟩ := cellsAt8 c rfl;have M : Hid (xs[k]? = some x) := r;clear r c d;cases m : p x
   ·have y : Hid (badP p xs = k) := badP_at M.out m l;rw [m] at o;go_wp2_with fail
    refine o.mono ?_;rintro e S ⟨rfl, n⟩;replace f := below_step f n;clear n K C L B G D J H;go_wp2;go_ret
    exact ⟨ret_int y.out.symm, f⟩
   ·rw [m] at o;go_wp2_with fail
    refine o.mono ?_;rintro e S ⟨rfl, n⟩;replace f := below_step f n;clear n K C L B G D J H;go_wp2;go_roundw
    case rel =>
     refine ⟨k + 1, by omega, by go_num, fun j v hj hv => ?_, f⟩;by_cases N : j < k
     ·exact l j v N hv
     ·have : j = k := by omega
      subst this;rw [M.out] at hv;cases hv;exact m
    case measure => simp [intOf]; omega
  ·have y : Hid (badP p xs = -1) := badP_no fun j v hv => l j v (by have := (List.getElem?_eq_some_iff.1 hv).1; omega) hv;go_wp2;go_ret
   exact ⟨ret_int y.out.symm, f⟩
theorem conFnEntry {p : EntryD → Bool} {g : Nat} (a : Option Addr) (xs : List EntryD) (cap : Nat) (w : World) (h : SlRd entR w a xs) (hm : xs.length ≤ maxLen) (HP : ∀ (x : EntryD) (cs : List Value) (W : World), x ∈ xs → Below w.heap.size w W → entR.rd W cs x → Calls Tryz.prog 133 #[aggV cs, .pointer (some ⟨g, 0, none⟩)] W fun e w' => e = .returned (.bool (!p x)) ∧ Below W.heap.size W w') :
    Calls Tryz.prog 132 #[sL a xs.length cap, .func (.func 133) #[] #[.pointer (some ⟨g, 0, none⟩)]] w fun e w' => e = .returned (.bool (!xs.all p)) ∧ Below w.heap.size w w' := by
 have f := idxFnEntry a xs cap w h hm HP;have b := badP_all p xs;clear h hm HP;generalize badP p xs = q at f b;generalize xs.all p = y at b ⊢;subst b;by_cases i : q < 0
 ·have c : ¬ (0 ≤ q) := by omega
  go_enter Tryz.func132, Tryz.ntmps132;go_wp2_with fail
  refine f.mono ?_;rintro e j ⟨rfl, d⟩;go_wp2;go_ret
  exact ⟨by simp [i], d⟩
 ·have c : 0 ≤ q := by omega
  go_enter Tryz.func132, Tryz.ntmps132;go_wp2_with fail
  refine f.mono ?_;rintro e j ⟨rfl, d⟩;go_wp2;go_ret
  exact ⟨by simp [i], d⟩
theorem closFitEntry {q : Bool} {g : Nat} {c0 c1 c2 c3 : Value} (x : EntryD) (cs : List Value) (w : World) (h : entR.rd w cs x) (hg : w.heap[g]? = some (.cells #[.func (.func 97) #[.agg #[c0, c1, c2, c3]] #[]] 145 (0, 0)))
    (HF : ∀ W, Below w.heap.size w W → Calls Tryz.prog 97 #[.agg #[c0, c1, c2, c3], aggV cs] W fun e w' => e = .returned (.bool q) ∧ Below W.heap.size W w') :
    Calls Tryz.prog 133 #[aggV cs, .pointer (some ⟨g, 0, none⟩)] w fun e w' => e = .returned (.bool (!q)) ∧ Below w.heap.size w w' := by
 obtain ⟨b, a, rfl⟩ := ent_shape h;rw [show aggV [nI x.1, nI x.2.1, .bool x.2.2.1, nI x.2.2.2.1, nI x.2.2.2.2.1, nI x.2.2.2.2.2.1, nI x.2.2.2.2.2.2.1, sL b x.2.2.2.2.2.2.2.length a] = .agg #[nI x.1, nI x.2.1, .bool x.2.2.1, nI x.2.2.2.1, nI x.2.2.2.2.1, nI x.2.2.2.2.2.1, nI x.2.2.2.2.2.2.1, sL b x.2.2.2.2.2.2.2.length a] from rfl] at HF ⊢;have B := box_below w (.cells #[nI x.1, nI x.2.1, .bool x.2.2.1, nI x.2.2.2.1, nI x.2.2.2.2.1, nI x.2.2.2.2.2.1, nI x.2.2.2.2.2.2.1, sL b x.2.2.2.2.2.2.2.length a] 116);have G := row_keep B hg;have c : Hid _ := HF;clear h hg HF;go_enter Tryz.func133, Tryz.ntmps133;go_upto_region 1 with fail
 have X := heap_at w (.cells #[nI x.1, nI x.2.1, .bool x.2.2.1, nI x.2.2.2.1, nI x.2.2.2.2.1, nI x.2.2.2.2.2.1, nI x.2.2.2.2.2.2.1, sL b x.2.2.2.2.2.2.2.length a] 116);generalize w.alloc (.cells #[nI x.1, nI x.2.1, .bool x.2.2.1, nI x.2.2.2.1, nI x.2.2.2.2.1, nI x.2.2.2.2.2.1, nI x.2.2.2.2.2.2.1, sL b x.2.2.2.2.2.2.2.length a] 116) = W0 at B G X ⊢;have m : W0.cell? ⟨g, 0, none⟩ = some (.func (.func 97) #[.agg #[c0, c1, c2, c3]] #[]) := by rw [cell_of_row W0 g 0 _ _ (0, 0) G]; rfl
 obtain ⟨p, f, j, l, i, k, o, n⟩ := cells_8 X;clear G X;go_wp2_with fail
 refine (c.out _ B).mono ?_;rintro e w1 ⟨rfl, d⟩;replace B := below_step B d;clear m d p f j l i k o n;go_wp2;go_ret
 exact ⟨rfl, B⟩
theorem allFitEntry {p : EntryD → Bool} {c0 c1 c2 c3 : Value} (a : Option Addr) (xs : List EntryD) (cap : Nat) (w : World) (h : SlRd entR w a xs) (hm : xs.length ≤ maxLen)
    (HF : ∀ (x : EntryD) (cs : List Value) (W : World), x ∈ xs → Below w.heap.size w W → entR.rd W cs x → Calls Tryz.prog 97 #[.agg #[c0, c1, c2, c3], aggV cs] W fun e w' => e = .returned (.bool (p x)) ∧ Below W.heap.size W w') :
    Calls Tryz.prog 96 #[sL a xs.length cap, .func (.func 97) #[.agg #[c0, c1, c2, c3]] #[]] w fun e w' => e = .returned (.bool (xs.all p)) ∧ Below w.heap.size w w' := by
 have B := box_below w (.cells #[.func (.func 97) #[.agg #[c0, c1, c2, c3]] #[]] 145);have G := heap_at w (.cells #[.func (.func 97) #[.agg #[c0, c1, c2, c3]] #[]] 145);have c := conFnEntry (p := p) (g := w.heap.size) a xs cap (w.alloc (.cells #[.func (.func 97) #[.agg #[c0, c1, c2, c3]] #[]] 145)) (slrd_next h B) hm (fun x cs W hx hb hr => closFitEntry x cs W hr (row_keep hb G) (fun W2 hb2 => HF x cs W2 hx (below_step (below_step B hb) hb2) (rd_next hr hb2)));clear h hm HF G;generalize xs.all p = y at c ⊢;go_enter Tryz.func96, Tryz.ntmps96;go_wp2_with fail
 refine c.mono ?_;rintro e w1 ⟨rfl, b⟩;replace B := below_step B b;clear b;go_wp2;go_ret
 exact ⟨by simp, B⟩
theorem idxFnMsg {p : MsgD → Bool} {g : Nat} (a : Option Addr) (xs : List MsgD) (cap : Nat) (w : World) (h : SlRd msgR w a xs) (hm : xs.length ≤ maxLen) (HP : ∀ (x : MsgD) (q : List Value) (W : World), x ∈ xs → Below w.heap.size w W → msgR.rd W q x → Calls Tryz.prog 157 #[aggV q, .pointer (some ⟨g, 0, none⟩)] W fun e w' => e = .returned (.bool (!p x)) ∧ Below W.heap.size W w') :
    Calls Tryz.prog 195 #[sL a xs.length cap, .func (.func 157) #[] #[.pointer (some ⟨g, 0, none⟩)]] w fun e w' => e = .returned (nI (badP p xs)) ∧ Below w.heap.size w w' := by
 have O : xs.length ≤ 9223372036854775807 := hm;have S : Hid (∀ W, Below w.heap.size w W → SlRd msgR W a xs) := fun W m => slrd_keep h fun k H => m.block k H;have z : Hid _ := HP;clear h hm HP;go_enter Tryz.func195, Tryz.ntmps195;go_wp2;go_loopw [8] (fun i wr => ∃ k : Nat, k ≤ xs.length ∧ i = nI k ∧ (∀ j v, j < k → xs[j]? = some v → p v = true) ∧ Below w.heap.size w wr) (fun i _ => xs.length - (intOf i).toNat)
 case atStart => exact ⟨0, Nat.zero_le _, rfl, fun j v hj => by omega, Below.refl _ _⟩
 case round =>
  obtain ⟨k, H, rfl, l, f⟩ := hrel;by_cases s : k < xs.length
  ·have E : (k : Int) < (xs.length : Int) := by omega
   obtain ⟨x, r⟩ : ∃ x, xs[k]? = some x := ⟨_, List.getElem?_eq_getElem s⟩;obtain ⟨b, N, q, rfl, d, c⟩ := slrd_at (S.out _ f) r;have o := z.out x q wr (List.mem_of_getElem? r) f d;obtain ⟨F, A, rfl⟩ := msg_shape d;rw [show aggV [nI x.1, nI x.2.1, nI x.2.2.1, nI x.2.2.2.1, nI x.2.2.2.2.1, sL F x.2.2.2.2.2.1.length A, nI x.2.2.2.2.2.2] = .agg #[nI x.1, nI x.2.1, nI x.2.2.1, nI x.2.2.2.1, nI x.2.2.2.2.1, sL F x.2.2.2.2.2.1.length A, nI x.2.2.2.2.2.2] from rfl] at o;obtain ⟨J, C, K, B, G, D, I⟩ := cellsAt7 c rfl;have L : Hid (xs[k]? = some x) := r;clear r c d;cases m : p x
   ·have y : Hid (badP p xs = k) := badP_at L.out m l;rw [m] at o;go_wp2_with fail
    refine o.mono ?_;rintro e R ⟨rfl, n⟩;replace f := below_step f n;clear n J C K B G D I;go_wp2;go_ret
    exact ⟨ret_int y.out.symm, f⟩
   ·rw [m] at o;go_wp2_with fail
    refine o.mono ?_;rintro e R ⟨rfl, n⟩;replace f := below_step f n;clear n J C K B G D I;go_wp2;go_roundw
    case rel =>
     refine ⟨k + 1, by omega, by go_num, fun j v hj hv => ?_, f⟩;by_cases M : j < k
     ·exact l j v M hv
     ·have : j = k := by omega
      subst this;rw [L.out] at hv;cases hv;exact m
    case measure => simp [intOf]; omega
  ·have y : Hid (badP p xs = -1) := badP_no fun j v hv => l j v (by have := (List.getElem?_eq_some_iff.1 hv).1; omega) hv;go_wp2;go_ret
   exact ⟨ret_int y.out.symm, f⟩
theorem conFnMsg {p : MsgD → Bool} {g : Nat} (a : Option Addr) (xs : List MsgD) (cap : Nat) (w : World) (h : SlRd msgR w a xs) (hm : xs.length ≤ maxLen) (HP : ∀ (x : MsgD) (cs : List Value) (W : World), x ∈ xs → Below w.heap.size w W → msgR.rd W cs x → Calls Tryz.prog 157 #[aggV cs, .pointer (some ⟨g, 0, none⟩)] W fun e w' => e = .returned (.bool (!p x)) ∧ Below W.heap.size W w') :
    Calls Tryz.prog 154 #[sL a xs.length cap, .func (.func 157) #[] #[.pointer (some ⟨g, 0, none⟩)]] w fun e w' => e = .returned (.bool (!xs.all p)) ∧ Below w.heap.size w w' := by
 have f := idxFnMsg a xs cap w h hm HP;have b := badP_all p xs;clear h hm HP;generalize badP p xs = q at f b;generalize xs.all p = y at b ⊢;subst b;by_cases i : q < 0
 ·have c : ¬ (0 ≤ q) := by omega
  go_enter Tryz.func154, Tryz.ntmps154;go_wp2_with fail
  refine f.mono ?_;rintro e j ⟨rfl, d⟩;go_wp2;go_ret
  exact ⟨by simp [i], d⟩
 ·have c : 0 ≤ q := by omega
  go_enter Tryz.func154, Tryz.ntmps154;go_wp2_with fail
  refine f.mono ?_;rintro e j ⟨rfl, d⟩;go_wp2;go_ret
  exact ⟨by simp [i], d⟩
theorem closFitMsg {q : Bool} {g : Nat} {c0 c1 c2 c3 : Value} (x : MsgD) (cs : List Value) (w : World) (h : msgR.rd w cs x) (hg : w.heap[g]? = some (.cells #[.func (.func 104) #[.agg #[c0, c1, c2, c3]] #[]] 148 (0, 0)))
    (HF : ∀ W, Below w.heap.size w W → Calls Tryz.prog 104 #[.agg #[c0, c1, c2, c3], aggV cs] W fun e w' => e = .returned (.bool q) ∧ Below W.heap.size W w') :
    Calls Tryz.prog 157 #[aggV cs, .pointer (some ⟨g, 0, none⟩)] w fun e w' => e = .returned (.bool (!q)) ∧ Below w.heap.size w w' := by
 obtain ⟨a, b, rfl⟩ := msg_shape h;rw [show aggV [nI x.1, nI x.2.1, nI x.2.2.1, nI x.2.2.2.1, nI x.2.2.2.2.1, sL a x.2.2.2.2.2.1.length b, nI x.2.2.2.2.2.2] = .agg #[nI x.1, nI x.2.1, nI x.2.2.1, nI x.2.2.2.1, nI x.2.2.2.2.1, sL a x.2.2.2.2.2.1.length b, nI x.2.2.2.2.2.2] from rfl] at HF ⊢;have B := box_below w (.cells #[nI x.1, nI x.2.1, nI x.2.2.1, nI x.2.2.2.1, nI x.2.2.2.2.1, sL a x.2.2.2.2.2.1.length b, nI x.2.2.2.2.2.2] 118);have G := row_keep B hg;have c : Hid _ := HF;clear h hg HF;go_enter Tryz.func157, Tryz.ntmps157;go_upto_region 1 with fail
 have X := heap_at w (.cells #[nI x.1, nI x.2.1, nI x.2.2.1, nI x.2.2.2.1, nI x.2.2.2.2.1, sL a x.2.2.2.2.2.1.length b, nI x.2.2.2.2.2.2] 118);generalize w.alloc (.cells #[nI x.1, nI x.2.1, nI x.2.2.1, nI x.2.2.2.1, nI x.2.2.2.2.1, sL a x.2.2.2.2.2.1.length b, nI x.2.2.2.2.2.2] 118) = W0 at B G X ⊢;have i : W0.cell? ⟨g, 0, none⟩ = some (.func (.func 104) #[.agg #[c0, c1, c2, c3]] #[]) := by rw [cell_of_row W0 g 0 _ _ (0, 0) G]; rfl
 obtain ⟨n, f, k, m, o, l, j⟩ := cells_7 X;clear G X;go_wp2_with fail
 refine (c.out _ B).mono ?_;rintro e w1 ⟨rfl, d⟩;replace B := below_step B d;clear i d n f k m o l j;go_wp2;go_ret
 exact ⟨rfl, B⟩
theorem allFitMsg {p : MsgD → Bool} {c0 c1 c2 c3 : Value} (a : Option Addr) (xs : List MsgD) (cap : Nat) (w : World) (h : SlRd msgR w a xs) (hm : xs.length ≤ maxLen)
    (HF : ∀ (x : MsgD) (cs : List Value) (W : World), x ∈ xs → Below w.heap.size w W → msgR.rd W cs x → Calls Tryz.prog 104 #[.agg #[c0, c1, c2, c3], aggV cs] W fun e w' => e = .returned (.bool (p x)) ∧ Below W.heap.size W w') :
    Calls Tryz.prog 103 #[sL a xs.length cap, .func (.func 104) #[.agg #[c0, c1, c2, c3]] #[]] w fun e w' => e = .returned (.bool (xs.all p)) ∧ Below w.heap.size w w' := by
 have B := box_below w (.cells #[.func (.func 104) #[.agg #[c0, c1, c2, c3]] #[]] 148);have G := heap_at w (.cells #[.func (.func 104) #[.agg #[c0, c1, c2, c3]] #[]] 148);have c := conFnMsg (p := p) (g := w.heap.size) a xs cap (w.alloc (.cells #[.func (.func 104) #[.agg #[c0, c1, c2, c3]] #[]] 148)) (slrd_next h B) hm (fun x cs W hx hb hr => closFitMsg x cs W hr (row_keep hb G) (fun W2 hb2 => HF x cs W2 hx (below_step (below_step B hb) hb2) (rd_next hr hb2)));clear h hm HF G;generalize xs.all p = y at c ⊢;go_enter Tryz.func103, Tryz.ntmps103;go_wp2_with fail
 refine c.mono ?_;rintro e w1 ⟨rfl, b⟩;replace B := below_step B b;clear b;go_wp2;go_ret
 exact ⟨by simp, B⟩
end Go.Proofs.YtglejdilghcbaaaGreatDoor
