import Derived.Test.YtcocbafhcpdheaaGreatDoorS00Box
import Derived.Test.YtcocbafhcpdheaaGreatDoorS35Forgot
namespace Go.Proofs.YtcocbafhcpdheaaGreatDoor
set_option maxHeartbeats 2000000
set_option maxRecDepth 20000
open Go.ChangeShapes Go.WideShapes Go.ChangeAt Go.RowKit
set_option linter.unusedVariables false
theorem ent_shape {w : World} {cs : List Value} {x : EntryD} (h : entR.rd w cs x) : ∃ (ga : Option Addr) (gc : Nat), cs = [.int .i64 x.1, .int .i64 x.2.1, .bool x.2.2.1, .int .i64 x.2.2.2.1, .int .i64 x.2.2.2.2.1, .int .i64 x.2.2.2.2.2.1, .int .i64 x.2.2.2.2.2.2.1, .slice ga x.2.2.2.2.2.2.2.length gc] := by
 obtain ⟨a, c, rfl, -⟩ := ent_rd h;exact ⟨a, c, rfl⟩
theorem idxFnCore {p : CoreD → Bool} {g : Nat} (a : Option Addr) (xs : List CoreD) (cap : Nat) (w : World) (h : SlRd coreR w a xs) (hm : xs.length ≤ maxLen) (HP : ∀ (x : CoreD) (q : List Value) (W : World), x ∈ xs → Below w.heap.size w W → coreR.rd W q x → Calls Tryz.prog 171 #[aggV q, .pointer (some ⟨g, 0, none⟩)] W fun e w' => e = .returned (.bool (!p x)) ∧ Below W.heap.size W w') :
    Calls Tryz.prog 212 #[.slice a xs.length cap, .func (.func 171) #[] #[.pointer (some ⟨g, 0, none⟩)]] w fun e w' => e = .returned (.int .i64 (badP p xs)) ∧ Below w.heap.size w w' := by
 have N : xs.length ≤ 9223372036854775807 := hm;have S : Hid (∀ W, Below w.heap.size w W → SlRd coreR W a xs) := fun W m => slrd_keep h fun k H => m.block k H;have s : Hid _ := HP;clear h hm HP;go_enter Tryz.func212, Tryz.ntmps212;go_wp2;go_loopw [8] (fun i wr => ∃ k : Nat, k ≤ xs.length ∧ i = .int .i64 k ∧ (∀ j v, j < k → xs[j]? = some v → p v = true) ∧ Below w.heap.size w wr) (fun i _ => xs.length - (intOf i).toNat)
 case atStart => exact ⟨0, Nat.zero_le _, rfl, fun j v hj => by omega, Below.refl _ _⟩
 case round =>
  obtain ⟨k, H, rfl, l, f⟩ := hrel;by_cases y : k < xs.length
  ·have K : (k : Int) < (xs.length : Int) := by omega
   obtain ⟨x, r⟩ : ∃ x, xs[k]? = some x := ⟨_, List.getElem?_eq_getElem y⟩;obtain ⟨b, O, q, rfl, d, c⟩ := slrd_at (S.out _ f) r;have n := s.out x q wr (List.mem_of_getElem? r) f d;obtain ⟨ga, gc, gb, gd, ha, hc, ia, ic, ja, jc, rfl⟩ := core_shape d;rw [show aggV _ = .agg _ from rfl] at n;obtain ⟨I, L, F, E, B, J, G, C, D⟩ := cellsAt9 c rfl;have A : Hid (xs[k]? = some x) := r;clear r c d;cases m : p x
   ·have z : Hid (badP p xs = k) := badP_at A.out m l;rw [m] at n;go_wp2_with fail
    refine n.mono ?_;rintro e M ⟨rfl, o⟩;replace f := below_step f o;clear o I L F E B J G C D;go_wp2;go_ret
    exact ⟨ret_int z.out.symm, f⟩
   ·rw [m] at n;go_wp2_with fail
    refine n.mono ?_;rintro e M ⟨rfl, o⟩;replace f := below_step f o;clear o I L F E B J G C D;go_wp2;go_roundw
    case rel =>
     refine ⟨k + 1, by omega, by go_num, fun j v hj hv => ?_, f⟩;by_cases R : j < k
     ·exact l j v R hv
     ·have : j = k := by omega
      subst this;rw [A.out] at hv;cases hv;exact m
    case measure => simp [intOf]; omega
  ·have z : Hid (badP p xs = -1) := badP_no fun j v hv => l j v (by have := (List.getElem?_eq_some_iff.1 hv).1; omega) hv;go_wp2;go_ret
   exact ⟨ret_int z.out.symm, f⟩
theorem conFnCore {p : CoreD → Bool} {g : Nat} (a : Option Addr) (xs : List CoreD) (cap : Nat) (w : World) (h : SlRd coreR w a xs) (hm : xs.length ≤ maxLen) (HP : ∀ (x : CoreD) (cs : List Value) (W : World), x ∈ xs → Below w.heap.size w W → coreR.rd W cs x → Calls Tryz.prog 171 #[aggV cs, .pointer (some ⟨g, 0, none⟩)] W fun e w' => e = .returned (.bool (!p x)) ∧ Below W.heap.size W w') :
    Calls Tryz.prog 170 #[.slice a xs.length cap, .func (.func 171) #[] #[.pointer (some ⟨g, 0, none⟩)]] w fun e w' => e = .returned (.bool (!xs.all p)) ∧ Below w.heap.size w w' := by
 have c := idxFnCore a xs cap w h hm HP;have b := badP_all p xs;clear h hm HP;generalize badP p xs = q at c b;generalize xs.all p = y at b ⊢;subst b;by_cases i : q < 0
 ·have d : ¬ (0 ≤ q) := by omega
  go_enter Tryz.func170, Tryz.ntmps170;go_wp2_with fail
  refine c.mono ?_;rintro e j ⟨rfl, f⟩;go_wp2;go_ret
  exact ⟨by simp [i], f⟩
 ·have d : 0 ≤ q := by omega
  go_enter Tryz.func170, Tryz.ntmps170;go_wp2_with fail
  refine c.mono ?_;rintro e j ⟨rfl, f⟩;go_wp2;go_ret
  exact ⟨by simp [i], f⟩
theorem closFitCore {q : Bool} {g : Nat} {c0 c1 c2 c3 : Value} (x : CoreD) (cs : List Value) (w : World) (h : coreR.rd w cs x) (hg : w.heap[g]? = some (.cells #[.func (.func 124) #[.agg #[c0, c1, c2, c3]] #[]] 142 (0, 0)))
    (HF : ∀ W, Below w.heap.size w W → Calls Tryz.prog 124 #[.agg #[c0, c1, c2, c3], aggV cs] W fun e w' => e = .returned (.bool q) ∧ Below W.heap.size W w') :
    Calls Tryz.prog 171 #[aggV cs, .pointer (some ⟨g, 0, none⟩)] w fun e w' => e = .returned (.bool (!q)) ∧ Below w.heap.size w w' := by
 obtain ⟨C, z, E, F, s, D, n, A, p, f, rfl⟩ := core_shape h;rw [show aggV _ = .agg _ from rfl] at HF ⊢;have B := box_below w (.cells #[.slice C x.1.1.length z, .slice E x.1.2.length F, .slice s x.2.1.length D, .int .i64 x.2.2.1, .int .i64 x.2.2.2.1, .int .i64 x.2.2.2.2.1.1, .int .i64 x.2.2.2.2.1.2.1, .slice n x.2.2.2.2.1.2.2.length A, .slice p x.2.2.2.2.2.length f] 95);have G := row_keep B hg;have b : Hid _ := HF;clear h hg HF;go_enter Tryz.func171, Tryz.ntmps171;go_upto_region 1 with fail
 generalize a : w.alloc _ = W0;have X := boxH a;clear a;have i : W0.cell? ⟨g, 0, none⟩ = some (.func (.func 124) #[.agg #[c0, c1, c2, c3]] #[]) := by rw [cell_of_row W0 g 0 _ _ (0, 0) G]; rfl
 obtain ⟨j, y, d, v, k, l, r, m, o⟩ := cells_core X;clear G X;go_wp2_with fail
 refine (b.out _ B).mono ?_;rintro e w1 ⟨rfl, c⟩;replace B := below_step B c;clear i c j y d v k l r m o;go_wp2;go_ret
 exact ⟨rfl, B⟩
theorem allFitCore {p : CoreD → Bool} {c0 c1 c2 c3 : Value} (a : Option Addr) (xs : List CoreD) (cap : Nat) (w : World) (h : SlRd coreR w a xs) (hm : xs.length ≤ maxLen)
    (HF : ∀ (x : CoreD) (cs : List Value) (W : World), x ∈ xs → Below w.heap.size w W → coreR.rd W cs x → Calls Tryz.prog 124 #[.agg #[c0, c1, c2, c3], aggV cs] W fun e w' => e = .returned (.bool (p x)) ∧ Below W.heap.size W w') :
    Calls Tryz.prog 123 #[.slice a xs.length cap, .func (.func 124) #[.agg #[c0, c1, c2, c3]] #[]] w fun e w' => e = .returned (.bool (xs.all p)) ∧ Below w.heap.size w w' := by
 have B := box_below w (.cells #[.func (.func 124) #[.agg #[c0, c1, c2, c3]] #[]] 142);have G := heap_at w (.cells #[.func (.func 124) #[.agg #[c0, c1, c2, c3]] #[]] 142);have b := conFnCore (p := p) (g := w.heap.size) a xs cap (w.alloc (.cells #[.func (.func 124) #[.agg #[c0, c1, c2, c3]] #[]] 142)) (slrd_next h B) hm (fun x cs W hx hb hr => closFitCore x cs W hr (row_keep hb G) (fun W2 hb2 => HF x cs W2 hx (below_step (below_step B hb) hb2) (rd_next hr hb2)));clear h hm HF G;generalize xs.all p = y at b ⊢;go_enter Tryz.func123, Tryz.ntmps123;go_wp2_with fail
 refine b.mono ?_;rintro e w1 ⟨rfl, c⟩;replace B := below_step B c;clear c;go_wp2;go_ret
 exact ⟨by simp, B⟩
theorem idxFnEntry {p : EntryD → Bool} {g : Nat} (a : Option Addr) (xs : List EntryD) (cap : Nat) (w : World) (h : SlRd entR w a xs) (hm : xs.length ≤ maxLen) (HP : ∀ (x : EntryD) (q : List Value) (W : World), x ∈ xs → Below w.heap.size w W → entR.rd W q x → Calls Tryz.prog 164 #[aggV q, .pointer (some ⟨g, 0, none⟩)] W fun e w' => e = .returned (.bool (!p x)) ∧ Below W.heap.size W w') :
    Calls Tryz.prog 207 #[.slice a xs.length cap, .func (.func 164) #[] #[.pointer (some ⟨g, 0, none⟩)]] w fun e w' => e = .returned (.int .i64 (badP p xs)) ∧ Below w.heap.size w w' := by
 have M : xs.length ≤ 9223372036854775807 := hm;have R : Hid (∀ W, Below w.heap.size w W → SlRd entR W a xs) := fun W m => slrd_keep h fun k G => m.block k G;have s : Hid _ := HP;clear h hm HP;go_enter Tryz.func207, Tryz.ntmps207;go_wp2;go_loopw [8] (fun i wr => ∃ k : Nat, k ≤ xs.length ∧ i = .int .i64 k ∧ (∀ j v, j < k → xs[j]? = some v → p v = true) ∧ Below w.heap.size w wr) (fun i _ => xs.length - (intOf i).toNat)
 case atStart => exact ⟨0, Nat.zero_le _, rfl, fun j v hj => by omega, Below.refl _ _⟩
 case round =>
  obtain ⟨k, G, rfl, l, f⟩ := hrel;by_cases y : k < xs.length
  ·have J : (k : Int) < (xs.length : Int) := by omega
   obtain ⟨x, r⟩ : ∃ x, xs[k]? = some x := ⟨_, List.getElem?_eq_getElem y⟩;obtain ⟨b, N, q, rfl, d, c⟩ := slrd_at (R.out _ f) r;have n := s.out x q wr (List.mem_of_getElem? r) f d;obtain ⟨ga, gc, rfl⟩ := ent_shape d;rw [show aggV _ = .agg _ from rfl] at n;obtain ⟨H, K, E, D, B, I, F, C⟩ := cellsAt8 c rfl;have A : Hid (xs[k]? = some x) := r;clear r c d;cases m : p x
   ·have z : Hid (badP p xs = k) := badP_at A.out m l;rw [m] at n;go_wp2_with fail
    refine n.mono ?_;rintro e L ⟨rfl, o⟩;replace f := below_step f o;clear o H K E D B I F C;go_wp2;go_ret
    exact ⟨ret_int z.out.symm, f⟩
   ·rw [m] at n;go_wp2_with fail
    refine n.mono ?_;rintro e L ⟨rfl, o⟩;replace f := below_step f o;clear o H K E D B I F C;go_wp2;go_roundw
    case rel =>
     refine ⟨k + 1, by omega, by go_num, fun j v hj hv => ?_, f⟩;by_cases O : j < k
     ·exact l j v O hv
     ·have : j = k := by omega
      subst this;rw [A.out] at hv;cases hv;exact m
    case measure => simp [intOf]; omega
  ·have z : Hid (badP p xs = -1) := badP_no fun j v hv => l j v (by have := (List.getElem?_eq_some_iff.1 hv).1; omega) hv;go_wp2;go_ret
   exact ⟨ret_int z.out.symm, f⟩
theorem conFnEntry {p : EntryD → Bool} {g : Nat} (a : Option Addr) (xs : List EntryD) (cap : Nat) (w : World) (h : SlRd entR w a xs) (hm : xs.length ≤ maxLen) (HP : ∀ (x : EntryD) (cs : List Value) (W : World), x ∈ xs → Below w.heap.size w W → entR.rd W cs x → Calls Tryz.prog 164 #[aggV cs, .pointer (some ⟨g, 0, none⟩)] W fun e w' => e = .returned (.bool (!p x)) ∧ Below W.heap.size W w') :
    Calls Tryz.prog 163 #[.slice a xs.length cap, .func (.func 164) #[] #[.pointer (some ⟨g, 0, none⟩)]] w fun e w' => e = .returned (.bool (!xs.all p)) ∧ Below w.heap.size w w' := by
 have c := idxFnEntry a xs cap w h hm HP;have b := badP_all p xs;clear h hm HP;generalize badP p xs = q at c b;generalize xs.all p = y at b ⊢;subst b;by_cases i : q < 0
 ·have d : ¬ (0 ≤ q) := by omega
  go_enter Tryz.func163, Tryz.ntmps163;go_wp2_with fail
  refine c.mono ?_;rintro e j ⟨rfl, f⟩;go_wp2;go_ret
  exact ⟨by simp [i], f⟩
 ·have d : 0 ≤ q := by omega
  go_enter Tryz.func163, Tryz.ntmps163;go_wp2_with fail
  refine c.mono ?_;rintro e j ⟨rfl, f⟩;go_wp2;go_ret
  exact ⟨by simp [i], f⟩
theorem closFitEntry {q : Bool} {g : Nat} {c0 c1 c2 c3 : Value} (x : EntryD) (cs : List Value) (w : World) (h : entR.rd w cs x) (hg : w.heap[g]? = some (.cells #[.func (.func 122) #[.agg #[c0, c1, c2, c3]] #[]] 170 (0, 0)))
    (HF : ∀ W, Below w.heap.size w W → Calls Tryz.prog 122 #[.agg #[c0, c1, c2, c3], aggV cs] W fun e w' => e = .returned (.bool q) ∧ Below W.heap.size W w') :
    Calls Tryz.prog 164 #[aggV cs, .pointer (some ⟨g, 0, none⟩)] w fun e w' => e = .returned (.bool (!q)) ∧ Below w.heap.size w w' := by
 obtain ⟨r, p, rfl⟩ := ent_shape h;rw [show aggV _ = .agg _ from rfl] at HF ⊢;have B := box_below w (.cells #[.int .i64 x.1, .int .i64 x.2.1, .bool x.2.2.1, .int .i64 x.2.2.2.1, .int .i64 x.2.2.2.2.1, .int .i64 x.2.2.2.2.2.1, .int .i64 x.2.2.2.2.2.2.1, .slice r x.2.2.2.2.2.2.2.length p] 147);have G := row_keep B hg;have b : Hid _ := HF;clear h hg HF;go_enter Tryz.func164, Tryz.ntmps164;go_upto_region 1 with fail
 generalize a : w.alloc _ = W0;have X := boxH a;clear a;have f : W0.cell? ⟨g, 0, none⟩ = some (.func (.func 122) #[.agg #[c0, c1, c2, c3]] #[]) := by rw [cell_of_row W0 g 0 _ _ (0, 0) G]; rfl
 obtain ⟨i, o, d, n, j, k, m, l⟩ := cells_8 X;clear G X;go_wp2_with fail
 refine (b.out _ B).mono ?_;rintro e w1 ⟨rfl, c⟩;replace B := below_step B c;clear f c i o d n j k m l;go_wp2;go_ret
 exact ⟨rfl, B⟩
theorem allFitEntry {p : EntryD → Bool} {c0 c1 c2 c3 : Value} (a : Option Addr) (xs : List EntryD) (cap : Nat) (w : World) (h : SlRd entR w a xs) (hm : xs.length ≤ maxLen)
    (HF : ∀ (x : EntryD) (cs : List Value) (W : World), x ∈ xs → Below w.heap.size w W → entR.rd W cs x → Calls Tryz.prog 122 #[.agg #[c0, c1, c2, c3], aggV cs] W fun e w' => e = .returned (.bool (p x)) ∧ Below W.heap.size W w') :
    Calls Tryz.prog 121 #[.slice a xs.length cap, .func (.func 122) #[.agg #[c0, c1, c2, c3]] #[]] w fun e w' => e = .returned (.bool (xs.all p)) ∧ Below w.heap.size w w' := by
 have B := box_below w (.cells #[.func (.func 122) #[.agg #[c0, c1, c2, c3]] #[]] 170);have G := heap_at w (.cells #[.func (.func 122) #[.agg #[c0, c1, c2, c3]] #[]] 170);have b := conFnEntry (p := p) (g := w.heap.size) a xs cap (w.alloc (.cells #[.func (.func 122) #[.agg #[c0, c1, c2, c3]] #[]] 170)) (slrd_next h B) hm (fun x cs W hx hb hr => closFitEntry x cs W hr (row_keep hb G) (fun W2 hb2 => HF x cs W2 hx (below_step (below_step B hb) hb2) (rd_next hr hb2)));clear h hm HF G;generalize xs.all p = y at b ⊢;go_enter Tryz.func121, Tryz.ntmps121;go_wp2_with fail
 refine b.mono ?_;rintro e w1 ⟨rfl, c⟩;replace B := below_step B c;clear c;go_wp2;go_ret
 exact ⟨by simp, B⟩
theorem idxFnMsg {p : MsgD → Bool} {g : Nat} (a : Option Addr) (xs : List MsgD) (cap : Nat) (w : World) (h : SlRd msgR w a xs) (hm : xs.length ≤ maxLen) (HP : ∀ (x : MsgD) (q : List Value) (W : World), x ∈ xs → Below w.heap.size w W → msgR.rd W q x → Calls Tryz.prog 189 #[aggV q, .pointer (some ⟨g, 0, none⟩)] W fun e w' => e = .returned (.bool (!p x)) ∧ Below W.heap.size W w') :
    Calls Tryz.prog 227 #[.slice a xs.length cap, .func (.func 189) #[] #[.pointer (some ⟨g, 0, none⟩)]] w fun e w' => e = .returned (.int .i64 (badP p xs)) ∧ Below w.heap.size w w' := by
 have L : xs.length ≤ 9223372036854775807 := hm;have O : Hid (∀ W, Below w.heap.size w W → SlRd msgR W a xs) := fun W m => slrd_keep h fun k F => m.block k F;have s : Hid _ := HP;clear h hm HP;go_enter Tryz.func227, Tryz.ntmps227;go_wp2;go_loopw [8] (fun i wr => ∃ k : Nat, k ≤ xs.length ∧ i = .int .i64 k ∧ (∀ j v, j < k → xs[j]? = some v → p v = true) ∧ Below w.heap.size w wr) (fun i _ => xs.length - (intOf i).toNat)
 case atStart => exact ⟨0, Nat.zero_le _, rfl, fun j v hj => by omega, Below.refl _ _⟩
 case round =>
  obtain ⟨k, F, rfl, l, f⟩ := hrel;by_cases y : k < xs.length
  ·have I : (k : Int) < (xs.length : Int) := by omega
   obtain ⟨x, r⟩ : ∃ x, xs[k]? = some x := ⟨_, List.getElem?_eq_getElem y⟩;obtain ⟨b, M, q, rfl, d, c⟩ := slrd_at (O.out _ f) r;have n := s.out x q wr (List.mem_of_getElem? r) f d;obtain ⟨ga, gc, rfl⟩ := msg_shape d;rw [show aggV _ = .agg _ from rfl] at n;obtain ⟨G, J, D, C, B, H, E⟩ := cellsAt7 c rfl;have A : Hid (xs[k]? = some x) := r;clear r c d;cases m : p x
   ·have z : Hid (badP p xs = k) := badP_at A.out m l;rw [m] at n;go_wp2_with fail
    refine n.mono ?_;rintro e K ⟨rfl, o⟩;replace f := below_step f o;clear o G J D C B H E;go_wp2;go_ret
    exact ⟨ret_int z.out.symm, f⟩
   ·rw [m] at n;go_wp2_with fail
    refine n.mono ?_;rintro e K ⟨rfl, o⟩;replace f := below_step f o;clear o G J D C B H E;go_wp2;go_roundw
    case rel =>
     refine ⟨k + 1, by omega, by go_num, fun j v hj hv => ?_, f⟩;by_cases N : j < k
     ·exact l j v N hv
     ·have : j = k := by omega
      subst this;rw [A.out] at hv;cases hv;exact m
    case measure => simp [intOf]; omega
  ·have z : Hid (badP p xs = -1) := badP_no fun j v hv => l j v (by have := (List.getElem?_eq_some_iff.1 hv).1; omega) hv;go_wp2;go_ret
   exact ⟨ret_int z.out.symm, f⟩
theorem conFnMsg {p : MsgD → Bool} {g : Nat} (a : Option Addr) (xs : List MsgD) (cap : Nat) (w : World) (h : SlRd msgR w a xs) (hm : xs.length ≤ maxLen) (HP : ∀ (x : MsgD) (cs : List Value) (W : World), x ∈ xs → Below w.heap.size w W → msgR.rd W cs x → Calls Tryz.prog 189 #[aggV cs, .pointer (some ⟨g, 0, none⟩)] W fun e w' => e = .returned (.bool (!p x)) ∧ Below W.heap.size W w') :
    Calls Tryz.prog 186 #[.slice a xs.length cap, .func (.func 189) #[] #[.pointer (some ⟨g, 0, none⟩)]] w fun e w' => e = .returned (.bool (!xs.all p)) ∧ Below w.heap.size w w' := by
 have c := idxFnMsg a xs cap w h hm HP;have b := badP_all p xs;clear h hm HP;generalize badP p xs = q at c b;generalize xs.all p = y at b ⊢;subst b;by_cases i : q < 0
 ·have d : ¬ (0 ≤ q) := by omega
  go_enter Tryz.func186, Tryz.ntmps186;go_wp2_with fail
  refine c.mono ?_;rintro e j ⟨rfl, f⟩;go_wp2;go_ret
  exact ⟨by simp [i], f⟩
 ·have d : 0 ≤ q := by omega
  go_enter Tryz.func186, Tryz.ntmps186;go_wp2_with fail
  refine c.mono ?_;rintro e j ⟨rfl, f⟩;go_wp2;go_ret
  exact ⟨by simp [i], f⟩
theorem closFitMsg {q : Bool} {g : Nat} {c0 c1 c2 c3 : Value} (x : MsgD) (cs : List Value) (w : World) (h : msgR.rd w cs x) (hg : w.heap[g]? = some (.cells #[.func (.func 129) #[.agg #[c0, c1, c2, c3]] #[]] 173 (0, 0)))
    (HF : ∀ W, Below w.heap.size w W → Calls Tryz.prog 129 #[.agg #[c0, c1, c2, c3], aggV cs] W fun e w' => e = .returned (.bool q) ∧ Below W.heap.size W w') :
    Calls Tryz.prog 189 #[aggV cs, .pointer (some ⟨g, 0, none⟩)] w fun e w' => e = .returned (.bool (!q)) ∧ Below w.heap.size w w' := by
 obtain ⟨p, o, rfl⟩ := msg_shape h;rw [show aggV _ = .agg _ from rfl] at HF ⊢;have B := box_below w (.cells #[.int .i64 x.1, .int .i64 x.2.1, .int .i64 x.2.2.1, .int .i64 x.2.2.2.1, .int .i64 x.2.2.2.2.1, .slice p x.2.2.2.2.2.1.length o, .int .i64 x.2.2.2.2.2.2] 119);have G := row_keep B hg;have b : Hid _ := HF;clear h hg HF;go_enter Tryz.func189, Tryz.ntmps189;go_upto_region 1 with fail
 generalize a : w.alloc _ = W0;have X := boxH a;clear a;have f : W0.cell? ⟨g, 0, none⟩ = some (.func (.func 129) #[.agg #[c0, c1, c2, c3]] #[]) := by rw [cell_of_row W0 g 0 _ _ (0, 0) G]; rfl
 obtain ⟨i, n, d, m, j, k, l⟩ := cells_7 X;clear G X;go_wp2_with fail
 refine (b.out _ B).mono ?_;rintro e w1 ⟨rfl, c⟩;replace B := below_step B c;clear f c i n d m j k l;go_wp2;go_ret
 exact ⟨rfl, B⟩
theorem allFitMsg {p : MsgD → Bool} {c0 c1 c2 c3 : Value} (a : Option Addr) (xs : List MsgD) (cap : Nat) (w : World) (h : SlRd msgR w a xs) (hm : xs.length ≤ maxLen)
    (HF : ∀ (x : MsgD) (cs : List Value) (W : World), x ∈ xs → Below w.heap.size w W → msgR.rd W cs x → Calls Tryz.prog 129 #[.agg #[c0, c1, c2, c3], aggV cs] W fun e w' => e = .returned (.bool (p x)) ∧ Below W.heap.size W w') :
    Calls Tryz.prog 128 #[.slice a xs.length cap, .func (.func 129) #[.agg #[c0, c1, c2, c3]] #[]] w fun e w' => e = .returned (.bool (xs.all p)) ∧ Below w.heap.size w w' := by
 have B := box_below w (.cells #[.func (.func 129) #[.agg #[c0, c1, c2, c3]] #[]] 173);have G := heap_at w (.cells #[.func (.func 129) #[.agg #[c0, c1, c2, c3]] #[]] 173);have b := conFnMsg (p := p) (g := w.heap.size) a xs cap (w.alloc (.cells #[.func (.func 129) #[.agg #[c0, c1, c2, c3]] #[]] 173)) (slrd_next h B) hm (fun x cs W hx hb hr => closFitMsg x cs W hr (row_keep hb G) (fun W2 hb2 => HF x cs W2 hx (below_step (below_step B hb) hb2) (rd_next hr hb2)));clear h hm HF G;generalize xs.all p = y at b ⊢;go_enter Tryz.func128, Tryz.ntmps128;go_wp2_with fail
 refine b.mono ?_;rintro e w1 ⟨rfl, c⟩;replace B := below_step B c;clear c;go_wp2;go_ret
 exact ⟨by simp, B⟩
end Go.Proofs.YtcocbafhcpdheaaGreatDoor
