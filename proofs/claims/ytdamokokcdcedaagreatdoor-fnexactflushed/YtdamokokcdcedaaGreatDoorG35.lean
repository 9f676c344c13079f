import Derived.Test.YtdamokokcdcedaaGreatDoorG00Box
import Derived.Test.YtdamokokcdcedaaGreatDoorG34
namespace Go.Proofs.YtdamokokcdcedaaGreatDoor
set_option maxHeartbeats 2000000
set_option maxRecDepth 20000
open Go.ChangeShapes Go.WideShapes Go.ChangeAt Go.RowKit
set_option linter.unusedVariables false
theorem ent_shape {w : World} {cs : List Value} {x : EntryD} (h : entR.rd w cs x) : ∃ (ga : Option Addr) (gc : Nat), cs = [nI x.1, nI x.2.1, .bool x.2.2.1, nI x.2.2.2.1, nI x.2.2.2.2.1, nI x.2.2.2.2.2.1, nI x.2.2.2.2.2.2.1, sL ga x.2.2.2.2.2.2.2.length gc] := by
 obtain ⟨a, c, rfl, -⟩ := ent_rd h;exact ⟨a, c, rfl⟩
theorem idxFnCore {p : CoreD → Bool} {g : Nat} (a : Option Addr) (xs : List CoreD) (cap : Nat) (w : World) (h : SlRd coreR w a xs) (hm : xs.length ≤ maxLen) (HP : ∀ (x : CoreD) (q : List Value) (W : World), x ∈ xs → Below w.heap.size w W → coreR.rd W q x → Calls Tryz.prog 183 #[aggV q, .pointer (some ⟨g, 0, none⟩)] W fun e w' => e = .returned (.bool (!p x)) ∧ Below W.heap.size W w') :
    Calls Tryz.prog 221 #[sL a xs.length cap, .func (.func 183) #[] #[.pointer (some ⟨g, 0, none⟩)]] w fun e w' => e = .returned (nI (badP p xs)) ∧ Below w.heap.size w w' := by
 have aA : xs.length ≤ 9223372036854775807 := hm;have H0 : Hid (∀ W, Below w.heap.size w W → SlRd coreR W a xs) := fun W m => slrd_keep h fun k G => m.block k G;have y : Hid _ := HP;clear h hm HP;go_enter Tryz.func221, Tryz.ntmps221;go_wp2;go_loopw [8] (fun i wr => ∃ k : Nat, k ≤ xs.length ∧ i = nI k ∧ (∀ j v, j < k → xs[j]? = some v → p v = true) ∧ Below w.heap.size w wr) (fun i _ => xs.length - (intOf i).toNat)
 case atStart => exact ⟨0, Nat.zero_le _, rfl, fun j v hj => by omega, Below.refl _ _⟩
 case round =>
  obtain ⟨k, G, rfl, l, f⟩ := hrel;by_cases z : k < xs.length
  ·have J : (k : Int) < (xs.length : Int) := by omega
   obtain ⟨x, r⟩ : ∃ x, xs[k]? = some x := ⟨_, List.getElem?_eq_getElem z⟩;obtain ⟨b, dA, q, rfl, d, c⟩ := slrd_at (H0.out _ f) r;have o := y.out x q wr (List.mem_of_getElem? r) f d;obtain ⟨O, V, M, H, U, T, L, B, K, D, rfl⟩ := core_shape d;rw [show aggV [sL O x.1.1.length V, sL M x.1.2.length H, sL U x.2.1.length T, nI x.2.2.1, nI x.2.2.2.1, nI x.2.2.2.2.1.1, nI x.2.2.2.2.1.2.1, sL L x.2.2.2.2.1.2.2.length B, sL K x.2.2.2.2.2.length D] = .agg #[sL O x.1.1.length V, sL M x.1.2.length H, sL U x.2.1.length T, nI x.2.2.1, nI x.2.2.2.1, nI x.2.2.2.2.1.1, nI x.2.2.2.2.1.2.1, sL L x.2.2.2.2.1.2.2.length B, sL K x.2.2.2.2.2.length D] from rfl] at o;obtain ⟨A, C, E, I, S, X, N, F, Y⟩ := cellsAt9 c rfl;have R : Hid (xs[k]? = some x) := r;clear r c d;cases m : p x
   ·have s : Hid (badP p xs = k) := badP_at R.out m l;rw [m] at o;go_wp2_with fail
    refine o.mono ?_;rintro e w2 ⟨rfl, n⟩;replace f := below_step f n;clear n A C E I S X N F Y;go_wp2;go_ret
    exact ⟨ret_int s.out.symm, f⟩
   ·rw [m] at o;go_wp2_with fail
    refine o.mono ?_;rintro e w2 ⟨rfl, n⟩;replace f := below_step f n;clear n A C E I S X N F Y;go_wp2;go_roundw
    case rel =>
     refine ⟨k + 1, by omega, by go_num, fun j v hj hv => ?_, f⟩;by_cases Z : j < k
     ·exact l j v Z hv
     ·have : j = k := by omega
      subst this;rw [R.out] at hv;cases hv;exact m
    case measure => simp [intOf]; omega
  ·have s : Hid (badP p xs = -1) := badP_no fun j v hv => l j v (by have := (List.getElem?_eq_some_iff.1 hv).1; omega) hv;go_wp2;go_ret
   exact ⟨ret_int s.out.symm, f⟩
theorem conFnCore {p : CoreD → Bool} {g : Nat} (a : Option Addr) (xs : List CoreD) (cap : Nat) (w : World) (h : SlRd coreR w a xs) (hm : xs.length ≤ maxLen) (HP : ∀ (x : CoreD) (cs : List Value) (W : World), x ∈ xs → Below w.heap.size w W → coreR.rd W cs x → Calls Tryz.prog 183 #[aggV cs, .pointer (some ⟨g, 0, none⟩)] W fun e w' => e = .returned (.bool (!p x)) ∧ Below W.heap.size W w') :
    Calls Tryz.prog 171 #[sL a xs.length cap, .func (.func 183) #[] #[.pointer (some ⟨g, 0, none⟩)]] w fun e w' => e = .returned (.bool (!xs.all p)) ∧ Below w.heap.size w w' := by
 have d := idxFnCore a xs cap w h hm HP;have b := badP_all p xs;clear h hm HP;generalize badP p xs = q at d b;generalize xs.all p = y at b ⊢;subst b;by_cases i : q < 0
 ·have c : ¬ (0 ≤ q) := by omega
  go_enter Tryz.func171, Tryz.ntmps171;go_wp2_with fail
  refine d.mono ?_;rintro e j ⟨rfl, f⟩;go_wp2;go_ret
  exact ⟨by simp [i], f⟩
 ·have c : 0 ≤ q := by omega
  go_enter Tryz.func171, Tryz.ntmps171;go_wp2_with fail
  refine d.mono ?_;rintro e j ⟨rfl, f⟩;go_wp2;go_ret
  exact ⟨by simp [i], f⟩
theorem closFitCore {q : Bool} {g : Nat} {c0 c1 c2 c3 : Value} (x : CoreD) (cs : List Value) (w : World) (h : coreR.rd w cs x) (hg : w.heap[g]? = some (.cells #[.func (.func 148) #[.agg #[c0, c1, c2, c3]] #[]] 126 (0, 0)))
    (HF : ∀ W, Below w.heap.size w W → Calls Tryz.prog 148 #[.agg #[c0, c1, c2, c3], aggV cs] W fun e w' => e = .returned (.bool q) ∧ Below W.heap.size W w') :
    Calls Tryz.prog 183 #[aggV cs, .pointer (some ⟨g, 0, none⟩)] w fun e w' => e = .returned (.bool (!q)) ∧ Below w.heap.size w w' := by
 obtain ⟨j, m, i, c, l, k, f, a, d, b, rfl⟩ := core_shape h;rw [show aggV [sL j x.1.1.length m, sL i x.1.2.length c, sL l x.2.1.length k, nI x.2.2.1, nI x.2.2.2.1, nI x.2.2.2.2.1.1, nI x.2.2.2.2.1.2.1, sL f x.2.2.2.2.1.2.2.length a, sL d x.2.2.2.2.2.length b] = .agg #[sL j x.1.1.length m, sL i x.1.2.length c, sL l x.2.1.length k, nI x.2.2.1, nI x.2.2.2.1, nI x.2.2.2.2.1.1, nI x.2.2.2.2.1.2.1, sL f x.2.2.2.2.1.2.2.length a, sL d x.2.2.2.2.2.length b] from rfl] at HF ⊢;have B := box_below w (.cells #[sL j x.1.1.length m, sL i x.1.2.length c, sL l x.2.1.length k, nI x.2.2.1, nI x.2.2.2.1, nI x.2.2.2.2.1.1, nI x.2.2.2.2.1.2.1, sL f x.2.2.2.2.1.2.2.length a, sL d x.2.2.2.2.2.length b] 98);have G := row_keep B hg;have n : Hid _ := HF;clear h hg HF;go_enter Tryz.func183, Tryz.ntmps183;go_upto_region 1 with fail
 have X := heap_at w (.cells #[sL j x.1.1.length m, sL i x.1.2.length c, sL l x.2.1.length k, nI x.2.2.1, nI x.2.2.2.1, nI x.2.2.2.2.1.1, nI x.2.2.2.2.1.2.1, sL f x.2.2.2.2.1.2.2.length a, sL d x.2.2.2.2.2.length b] 98);generalize w.alloc (.cells #[sL j x.1.1.length m, sL i x.1.2.length c, sL l x.2.1.length k, nI x.2.2.1, nI x.2.2.2.1, nI x.2.2.2.2.1.1, nI x.2.2.2.2.1.2.1, sL f x.2.2.2.2.1.2.2.length a, sL d x.2.2.2.2.2.length b] 98) = W0 at B G X ⊢;have A : W0.cell? ⟨g, 0, none⟩ = some (.func (.func 148) #[.agg #[c0, c1, c2, c3]] #[]) := by rw [cell_of_row W0 g 0 _ _ (0, 0) G]; rfl
 obtain ⟨z, r, C, p, D, y, E, s, v⟩ := cells_core X;clear G X;go_wp2_with fail
 refine (n.out _ B).mono ?_;rintro e w1 ⟨rfl, o⟩;replace B := below_step B o;clear A o z r C p D y E s v;go_wp2;go_ret
 exact ⟨rfl, B⟩
theorem allFitCore {p : CoreD → Bool} {c0 c1 c2 c3 : Value} (a : Option Addr) (xs : List CoreD) (cap : Nat) (w : World) (h : SlRd coreR w a xs) (hm : xs.length ≤ maxLen)
    (HF : ∀ (x : CoreD) (cs : List Value) (W : World), x ∈ xs → Below w.heap.size w W → coreR.rd W cs x → Calls Tryz.prog 148 #[.agg #[c0, c1, c2, c3], aggV cs] W fun e w' => e = .returned (.bool (p x)) ∧ Below W.heap.size W w') :
    Calls Tryz.prog 118 #[sL a xs.length cap, .func (.func 148) #[.agg #[c0, c1, c2, c3]] #[]] w fun e w' => e = .returned (.bool (xs.all p)) ∧ Below w.heap.size w w' := by
 have B := box_below w (.cells #[.func (.func 148) #[.agg #[c0, c1, c2, c3]] #[]] 126);have G := heap_at w (.cells #[.func (.func 148) #[.agg #[c0, c1, c2, c3]] #[]] 126);have c := conFnCore (p := p) (g := w.heap.size) a xs cap (w.alloc (.cells #[.func (.func 148) #[.agg #[c0, c1, c2, c3]] #[]] 126)) (slrd_next h B) hm (fun x cs W hx hb hr => closFitCore x cs W hr (row_keep hb G) (fun W2 hb2 => HF x cs W2 hx (below_step (below_step B hb) hb2) (rd_next hr hb2)));clear h hm HF G;generalize xs.all p = y at c ⊢;go_enter Tryz.func118, Tryz.ntmps118;go_wp2_with fail
 refine c.mono ?_;rintro e w1 ⟨rfl, b⟩;replace B := below_step B b;clear b;go_wp2;go_ret
 exact ⟨by simp, B⟩
theorem idxFnEntry {p : EntryD → Bool} {g : Nat} (a : Option Addr) (xs : List EntryD) (cap : Nat) (w : World) (h : SlRd entR w a xs) (hm : xs.length ≤ maxLen) (HP : ∀ (x : EntryD) (q : List Value) (W : World), x ∈ xs → Below w.heap.size w W → entR.rd W q x → Calls Tryz.prog 182 #[aggV q, .pointer (some ⟨g, 0, none⟩)] W fun e w' => e = .returned (.bool (!p x)) ∧ Below W.heap.size W w') :
    Calls Tryz.prog 226 #[sL a xs.length cap, .func (.func 182) #[] #[.pointer (some ⟨g, 0, none⟩)]] w fun e w' => e = .returned (nI (badP p xs)) ∧ Below w.heap.size w w' := by
 have O : xs.length ≤ 9223372036854775807 := hm;have S : Hid (∀ W, Below w.heap.size w W → SlRd entR W a xs) := fun W m => slrd_keep h fun k E => m.block k E;have y : Hid _ := HP;clear h hm HP;go_enter Tryz.func226, Tryz.ntmps226;go_wp2;go_loopw [8] (fun i wr => ∃ k : Nat, k ≤ xs.length ∧ i = nI k ∧ (∀ j v, j < k → xs[j]? = some v → p v = true) ∧ Below w.heap.size w wr) (fun i _ => xs.length - (intOf i).toNat)
 case atStart => exact ⟨0, Nat.zero_le _, rfl, fun j v hj => by omega, Below.refl _ _⟩
 case round =>
  obtain ⟨k, E, rfl, l, f⟩ := hrel;by_cases z : k < xs.length
  ·have G : (k : Int) < (xs.length : Int) := by omega
   obtain ⟨x, r⟩ : ∃ x, xs[k]? = some x := ⟨_, List.getElem?_eq_getElem z⟩;obtain ⟨b, T, q, rfl, d, c⟩ := slrd_at (S.out _ f) r;have o := y.out x q wr (List.mem_of_getElem? r) f d;obtain ⟨I, L, rfl⟩ := ent_shape d;rw [show aggV [nI x.1, nI x.2.1, .bool x.2.2.1, nI x.2.2.2.1, nI x.2.2.2.2.1, nI x.2.2.2.2.2.1, nI x.2.2.2.2.2.2.1, sL I x.2.2.2.2.2.2.2.length L] = .agg #[nI x.1, nI x.2.1, .bool x.2.2.1, nI x.2.2.2.1, nI x.2.2.2.2.1, nI x.2.2.2.2.2.1, nI x.2.2.2.2.2.2.1, sL I x.2.2.2.2.2.2.2.length L] from rfl] at o;obtain ⟨A, B, C, F, K, M, H, D⟩ := cellsAt8 c rfl;have J : Hid (xs[k]? = some x) := r;clear r c d;cases m : p x
   ·have s : Hid (badP p xs = k) := badP_at J.out m l;rw [m] at o;go_wp2_with fail
    refine o.mono ?_;rintro e R ⟨rfl, n⟩;replace f := below_step f n;clear n A B C F K M H D;go_wp2;go_ret
    exact ⟨ret_int s.out.symm, f⟩
   ·rw [m] at o;go_wp2_with fail
    refine o.mono ?_;rintro e R ⟨rfl, n⟩;replace f := below_step f n;clear n A B C F K M H D;go_wp2;go_roundw
    case rel =>
     refine ⟨k + 1, by omega, by go_num, fun j v hj hv => ?_, f⟩;by_cases N : j < k
     ·exact l j v N hv
     ·have : j = k := by omega
      subst this;rw [J.out] at hv;cases hv;exact m
    case measure => simp [intOf]; omega
  ·have s : Hid (badP p xs = -1) := badP_no fun j v hv => l j v (by have := (List.getElem?_eq_some_iff.1 hv).1; omega) hv;go_wp2;go_ret
   exact ⟨ret_int s.out.symm, f⟩
theorem conFnEntry {p : EntryD → Bool} {g : Nat} (a : Option Addr) (xs : List EntryD) (cap : Nat) (w : World) (h : SlRd entR w a xs) (hm : xs.length ≤ maxLen) (HP : ∀ (x : EntryD) (cs : List Value) (W : World), x ∈ xs → Below w.heap.size w W → entR.rd W cs x → Calls Tryz.prog 182 #[aggV cs, .pointer (some ⟨g, 0, none⟩)] W fun e w' => e = .returned (.bool (!p x)) ∧ Below W.heap.size W w') :
    Calls Tryz.prog 181 #[sL a xs.length cap, .func (.func 182) #[] #[.pointer (some ⟨g, 0, none⟩)]] w fun e w' => e = .returned (.bool (!xs.all p)) ∧ Below w.heap.size w w' := by
 have d := idxFnEntry a xs cap w h hm HP;have b := badP_all p xs;clear h hm HP;generalize badP p xs = q at d b;generalize xs.all p = y at b ⊢;subst b;by_cases i : q < 0
 ·have c : ¬ (0 ≤ q) := by omega
  go_enter Tryz.func181, Tryz.ntmps181;go_wp2_with fail
  refine d.mono ?_;rintro e j ⟨rfl, f⟩;go_wp2;go_ret
  exact ⟨by simp [i], f⟩
 ·have c : 0 ≤ q := by omega
  go_enter Tryz.func181, Tryz.ntmps181;go_wp2_with fail
  refine d.mono ?_;rintro e j ⟨rfl, f⟩;go_wp2;go_ret
  exact ⟨by simp [i], f⟩
theorem closFitEntry {q : Bool} {g : Nat} {c0 c1 c2 c3 : Value} (x : EntryD) (cs : List Value) (w : World) (h : entR.rd w cs x) (hg : w.heap[g]? = some (.cells #[.func (.func 147) #[.agg #[c0, c1, c2, c3]] #[]] 175 (0, 0)))
    (HF : ∀ W, Below w.heap.size w W → Calls Tryz.prog 147 #[.agg #[c0, c1, c2, c3], aggV cs] W fun e w' => e = .returned (.bool q) ∧ Below W.heap.size W w') :
    Calls Tryz.prog 182 #[aggV cs, .pointer (some ⟨g, 0, none⟩)] w fun e w' => e = .returned (.bool (!q)) ∧ Below w.heap.size w w' := by
 obtain ⟨a, b, rfl⟩ := ent_shape h;rw [show aggV [nI x.1, nI x.2.1, .bool x.2.2.1, nI x.2.2.2.1, nI x.2.2.2.2.1, nI x.2.2.2.2.2.1, nI x.2.2.2.2.2.2.1, sL a x.2.2.2.2.2.2.2.length b] = .agg #[nI x.1, nI x.2.1, .bool x.2.2.1, nI x.2.2.2.1, nI x.2.2.2.2.1, nI x.2.2.2.2.2.1, nI x.2.2.2.2.2.2.1, sL a x.2.2.2.2.2.2.2.length b] from rfl] at HF ⊢;have B := box_below w (.cells #[nI x.1, nI x.2.1, .bool x.2.2.1, nI x.2.2.2.1, nI x.2.2.2.2.1, nI x.2.2.2.2.2.1, nI x.2.2.2.2.2.2.1, sL a x.2.2.2.2.2.2.2.length b] 101);have G := row_keep B hg;have c : Hid _ := HF;clear h hg HF;go_enter Tryz.func182, Tryz.ntmps182;go_upto_region 1 with fail
 have X := heap_at w (.cells #[nI x.1, nI x.2.1, .bool x.2.2.1, nI x.2.2.2.1, nI x.2.2.2.2.1, nI x.2.2.2.2.2.1, nI x.2.2.2.2.2.2.1, sL a x.2.2.2.2.2.2.2.length b] 101);generalize w.alloc (.cells #[nI x.1, nI x.2.1, .bool x.2.2.1, nI x.2.2.2.1, nI x.2.2.2.2.1, nI x.2.2.2.2.2.1, nI x.2.2.2.2.2.2.1, sL a x.2.2.2.2.2.2.2.length b] 101) = W0 at B G X ⊢;have m : W0.cell? ⟨g, 0, none⟩ = some (.func (.func 147) #[.agg #[c0, c1, c2, c3]] #[]) := by rw [cell_of_row W0 g 0 _ _ (0, 0) G]; rfl
 obtain ⟨l, i, n, f, o, k, p, j⟩ := cells_8 X;clear G X;go_wp2_with fail
 refine (c.out _ B).mono ?_;rintro e w1 ⟨rfl, d⟩;replace B := below_step B d;clear m d l i n f o k p j;go_wp2;go_ret
 exact ⟨rfl, B⟩
theorem allFitEntry {p : EntryD → Bool} {c0 c1 c2 c3 : Value} (a : Option Addr) (xs : List EntryD) (cap : Nat) (w : World) (h : SlRd entR w a xs) (hm : xs.length ≤ maxLen)
    (HF : ∀ (x : EntryD) (cs : List Value) (W : World), x ∈ xs → Below w.heap.size w W → entR.rd W cs x → Calls Tryz.prog 147 #[.agg #[c0, c1, c2, c3], aggV cs] W fun e w' => e = .returned (.bool (p x)) ∧ Below W.heap.size W w') :
    Calls Tryz.prog 116 #[sL a xs.length cap, .func (.func 147) #[.agg #[c0, c1, c2, c3]] #[]] w fun e w' => e = .returned (.bool (xs.all p)) ∧ Below w.heap.size w w' := by
 have B := box_below w (.cells #[.func (.func 147) #[.agg #[c0, c1, c2, c3]] #[]] 175);have G := heap_at w (.cells #[.func (.func 147) #[.agg #[c0, c1, c2, c3]] #[]] 175);have c := conFnEntry (p := p) (g := w.heap.size) a xs cap (w.alloc (.cells #[.func (.func 147) #[.agg #[c0, c1, c2, c3]] #[]] 175)) (slrd_next h B) hm (fun x cs W hx hb hr => closFitEntry x cs W hr (row_keep hb G) (fun W2 hb2 => HF x cs W2 hx (below_step (below_step B hb) hb2) (rd_next hr hb2)));clear h hm HF G;generalize xs.all p = y at c ⊢;go_enter Tryz.func116, Tryz.ntmps116;go_wp2_with fail
 refine c.mono ?_;rintro e w1 ⟨rfl, b⟩;replace B := below_step B b;clear b;go_wp2;go_ret
 exact ⟨by simp, B⟩
theorem idxFnMsg {p : MsgD → Bool} {g : Nat} (a : Option Addr) (xs : List MsgD) (cap : Nat) (w : World) (h : SlRd msgR w a xs) (hm : xs.length ≤ maxLen) (HP : ∀ (x : MsgD) (q : List Value) (W : World), x ∈ xs → Below w.heap.size w W → msgR.rd W q x → Calls Tryz.prog 211 #[aggV q, .pointer (some ⟨g, 0, none⟩)] W fun e w' => e = .returned (.bool (!p x)) ∧ Below W.heap.size W w') :
    Calls Tryz.prog 243 #[sL a xs.length cap, .func (.func 211) #[] #[.pointer (some ⟨g, 0, none⟩)]] w fun e w' => e = .returned (nI (badP p xs)) ∧ Below w.heap.size w w' := by
 have N : xs.length ≤ 9223372036854775807 := hm;have R : Hid (∀ W, Below w.heap.size w W → SlRd msgR W a xs) := fun W m => slrd_keep h fun k D => m.block k D;have y : Hid _ := HP;clear h hm HP;go_enter Tryz.func243, Tryz.ntmps243;go_wp2;go_loopw [8] (fun i wr => ∃ k : Nat, k ≤ xs.length ∧ i = nI k ∧ (∀ j v, j < k → xs[j]? = some v → p v = true) ∧ Below w.heap.size w wr) (fun i _ => xs.length - (intOf i).toNat)
 case atStart => exact ⟨0, Nat.zero_le _, rfl, fun j v hj => by omega, Below.refl _ _⟩
 case round =>
  obtain ⟨k, D, rfl, l, f⟩ := hrel;by_cases z : k < xs.length
  ·have F : (k : Int) < (xs.length : Int) := by omega
   obtain ⟨x, r⟩ : ∃ x, xs[k]? = some x := ⟨_, List.getElem?_eq_getElem z⟩;obtain ⟨b, S, q, rfl, d, c⟩ := slrd_at (R.out _ f) r;have o := y.out x q wr (List.mem_of_getElem? r) f d;obtain ⟨H, K, rfl⟩ := msg_shape d;rw [show aggV [nI x.1, nI x.2.1, nI x.2.2.1, nI x.2.2.2.1, nI x.2.2.2.2.1, sL H x.2.2.2.2.2.1.length K, nI x.2.2.2.2.2.2] = .agg #[nI x.1, nI x.2.1, nI x.2.2.1, nI x.2.2.2.1, nI x.2.2.2.2.1, sL H x.2.2.2.2.2.1.length K, nI x.2.2.2.2.2.2] from rfl] at o;obtain ⟨A, B, C, E, J, L, G⟩ := cellsAt7 c rfl;have I : Hid (xs[k]? = some x) := r;clear r c d;cases m : p x
   ·have s : Hid (badP p xs = k) := badP_at I.out m l;rw [m] at o;go_wp2_with fail
    refine o.mono ?_;rintro e O ⟨rfl, n⟩;replace f := below_step f n;clear n A B C E J L G;go_wp2;go_ret
    exact ⟨ret_int s.out.symm, f⟩
   ·rw [m] at o;go_wp2_with fail
    refine o.mono ?_;rintro e O ⟨rfl, n⟩;replace f := below_step f n;clear n A B C E J L G;go_wp2;go_roundw
    case rel =>
     refine ⟨k + 1, by omega, by go_num, fun j v hj hv => ?_, f⟩;by_cases M : j < k
     ·exact l j v M hv
     ·have : j = k := by omega
      subst this;rw [I.out] at hv;cases hv;exact m
    case measure => simp [intOf]; omega
  ·have s : Hid (badP p xs = -1) := badP_no fun j v hv => l j v (by have := (List.getElem?_eq_some_iff.1 hv).1; omega) hv;go_wp2;go_ret
   exact ⟨ret_int s.out.symm, f⟩
theorem conFnMsg {p : MsgD → Bool} {g : Nat} (a : Option Addr) (xs : List MsgD) (cap : Nat) (w : World) (h : SlRd msgR w a xs) (hm : xs.length ≤ maxLen) (HP : ∀ (x : MsgD) (cs : List Value) (W : World), x ∈ xs → Below w.heap.size w W → msgR.rd W cs x → Calls Tryz.prog 211 #[aggV cs, .pointer (some ⟨g, 0, none⟩)] W fun e w' => e = .returned (.bool (!p x)) ∧ Below W.heap.size W w') :
    Calls Tryz.prog 208 #[sL a xs.length cap, .func (.func 211) #[] #[.pointer (some ⟨g, 0, none⟩)]] w fun e w' => e = .returned (.bool (!xs.all p)) ∧ Below w.heap.size w w' := by
 have d := idxFnMsg a xs cap w h hm HP;have b := badP_all p xs;clear h hm HP;generalize badP p xs = q at d b;generalize xs.all p = y at b ⊢;subst b;by_cases i : q < 0
 ·have c : ¬ (0 ≤ q) := by omega
  go_enter Tryz.func208, Tryz.ntmps208;go_wp2_with fail
  refine d.mono ?_;rintro e j ⟨rfl, f⟩;go_wp2;go_ret
  exact ⟨by simp [i], f⟩
 ·have c : 0 ≤ q := by omega
  go_enter Tryz.func208, Tryz.ntmps208;go_wp2_with fail
  refine d.mono ?_;rintro e j ⟨rfl, f⟩;go_wp2;go_ret
  exact ⟨by simp [i], f⟩
theorem closFitMsg {q : Bool} {g : Nat} {c0 c1 c2 c3 : Value} (x : MsgD) (cs : List Value) (w : World) (h : msgR.rd w cs x) (hg : w.heap[g]? = some (.cells #[.func (.func 153) #[.agg #[c0, c1, c2, c3]] #[]] 189 (0, 0)))
    (HF : ∀ W, Below w.heap.size w W → Calls Tryz.prog 153 #[.agg #[c0, c1, c2, c3], aggV cs] W fun e w' => e = .returned (.bool q) ∧ Below W.heap.size W w') :
    Calls Tryz.prog 211 #[aggV cs, .pointer (some ⟨g, 0, none⟩)] w fun e w' => e = .returned (.bool (!q)) ∧ Below w.heap.size w w' := by
 obtain ⟨b, a, rfl⟩ := msg_shape h;rw [show aggV [nI x.1, nI x.2.1, nI x.2.2.1, nI x.2.2.2.1, nI x.2.2.2.2.1, sL b x.2.2.2.2.2.1.length a, nI x.2.2.2.2.2.2] = .agg #[nI x.1, nI x.2.1, nI x.2.2.1, nI x.2.2.2.1, nI x.2.2.2.2.1, sL b x.2.2.2.2.2.1.length a, nI x.2.2.2.2.2.2] from rfl] at HF ⊢;have B := box_below w (.cells #[nI x.1, nI x.2.1, nI x.2.2.1, nI x.2.2.2.1, nI x.2.2.2.2.1, sL b x.2.2.2.2.2.1.length a, nI x.2.2.2.2.2.2] 131);have G := row_keep B hg;have c : Hid _ := HF;clear h hg HF;go_enter Tryz.func211, Tryz.ntmps211;go_upto_region 1 with fail
 have X := heap_at w (.cells #[nI x.1, nI x.2.1, nI x.2.2.1, nI x.2.2.2.1, nI x.2.2.2.2.1, sL b x.2.2.2.2.2.1.length a, nI x.2.2.2.2.2.2] 131);generalize w.alloc (.cells #[nI x.1, nI x.2.1, nI x.2.2.1, nI x.2.2.2.1, nI x.2.2.2.2.1, sL b x.2.2.2.2.2.1.length a, nI x.2.2.2.2.2.2] 131) = W0 at B G X ⊢;have k : W0.cell? ⟨g, 0, none⟩ = some (.func (.func 153) #[.agg #[c0, c1, c2, c3]] #[]) := by rw [cell_of_row W0 g 0 _ _ (0, 0) G]; rfl
 obtain ⟨j, i, m, o, n, f, l⟩ := cells_7 X;clear G X;go_wp2_with fail
 refine (c.out _ B).mono ?_;rintro e w1 ⟨rfl, d⟩;replace B := below_step B d;clear k d j i m o n f l;go_wp2;go_ret
 exact ⟨rfl, B⟩
theorem allFitMsg {p : MsgD → Bool} {c0 c1 c2 c3 : Value} (a : Option Addr) (xs : List MsgD) (cap : Nat) (w : World) (h : SlRd msgR w a xs) (hm : xs.length ≤ maxLen)
    (HF : ∀ (x : MsgD) (cs : List Value) (W : World), x ∈ xs → Below w.heap.size w W → msgR.rd W cs x → Calls Tryz.prog 153 #[.agg #[c0, c1, c2, c3], aggV cs] W fun e w' => e = .returned (.bool (p x)) ∧ Below W.heap.size W w') :
    Calls Tryz.prog 152 #[sL a xs.length cap, .func (.func 153) #[.agg #[c0, c1, c2, c3]] #[]] w fun e w' => e = .returned (.bool (xs.all p)) ∧ Below w.heap.size w w' := by
 have B := box_below w (.cells #[.func (.func 153) #[.agg #[c0, c1, c2, c3]] #[]] 189);have G := heap_at w (.cells #[.func (.func 153) #[.agg #[c0, c1, c2, c3]] #[]] 189);have c := conFnMsg (p := p) (g := w.heap.size) a xs cap (w.alloc (.cells #[.func (.func 153) #[.agg #[c0, c1, c2, c3]] #[]] 189)) (slrd_next h B) hm (fun x cs W hx hb hr => closFitMsg x cs W hr (row_keep hb G) (fun W2 hb2 => HF x cs W2 hx (below_step (below_step B hb) hb2) (rd_next hr hb2)));clear h hm HF G;generalize xs.all p = y at c ⊢;go_enter Tryz.func152, Tryz.ntmps152;go_wp2_with fail
 refine c.mono ?_;rintro e w1 ⟨rfl, b⟩;replace B := below_step B b;clear b;go_wp2;go_ret
 exact ⟨by simp, B⟩
end Go.Proofs.YtdamokokcdcedaaGreatDoor
