import Derived.Test.YtcocbafhcpdheaaGreatDoorS00Box
import Derived.Test.YtcocbafhcpdheaaGreatDoorS35
namespace Go.Proofs.YtcocbafhcpdheaaGreatDoor
set_option maxHeartbeats 2000000
set_option maxRecDepth 20000
open Go.ChangeShapes Go.WideShapes Go.ChangeAt Go.RowKit
set_option linter.unusedVariables false
theorem ent_shape {w : World} {cs : List Value} {x : EntryD} (h : entR.rd w cs x) : ∃ (ga : Option Addr) (gc : Nat), cs = [.int .i64 x.1, .int .i64 x.2.1, .bool x.2.2.1, .int .i64 x.2.2.2.1, .int .i64 x.2.2.2.2.1, .int .i64 x.2.2.2.2.2.1, .int .i64 x.2.2.2.2.2.2.1, .slice ga x.2.2.2.2.2.2.2.length gc] := by
 obtain ⟨a, c, rfl, -⟩ := ent_rd h;exact ⟨a, c, rfl⟩
theorem idxFnCore {p : CoreD → Bool} {g : Nat} (a : Option Addr) (xs : List CoreD) (cap : Nat) (w : World) (h : SlRd coreR w a xs) (hm : xs.length ≤ maxLen) (HP : ∀ (x : CoreD) (q : List Value) (W : World), x ∈ xs → Below w.heap.size w W → coreR.rd W q x → Calls Tryz.prog 171 #[aggV q, .pointer (some ⟨g, 0, none⟩)] W fun e w' => e = .returned (.bool (!p x)) ∧ Below W.heap.size W w') :
    Calls Tryz.prog 212 #[.slice a xs.length cap, .func (.func 171) #[] #[.pointer (some ⟨g, 0, none⟩)]] w fun e w' => e = .returned (.int .i64 (badP p xs)) ∧ Below w.heap.size w w' := by
 have M : xs.length ≤ 9223372036854775807 := hm;have O : Hid (∀ W, Below w.heap.size w W → SlRd coreR W a xs) := fun W m => slrd_keep h fun k L => m.block k L;have s : Hid _ := HP;clear h hm HP;go_enter Tryz.func212, Tryz.ntmps212;go_wp2;go_loopw [8] (fun i wr => ∃ k : Nat, k ≤ xs.length ∧ i = .int .i64 k ∧ (∀ j v, j < k → xs[j]? = some v → p v = true) ∧ Below w.heap.size w wr) (fun i _ => xs.length - (intOf i).toNat)
 case atStart => exact ⟨0, Nat.zero_le _, rfl, fun j v hj => by omega, Below.refl _ _⟩
 case round =>
  obtain ⟨k, L, rfl, l, f⟩ := hrel;by_cases y : k < xs.length
  ·have K : (k : Int) < (xs.length : Int) := by omega
   obtain ⟨x, r⟩ : ∃ x, xs[k]? = some x := ⟨_, List.getElem?_eq_getElem y⟩;obtain ⟨b, N, q, rfl, c, d⟩ := slrd_at (O.out _ f) r;have n := s.out x q wr (List.mem_of_getElem? r) f c;obtain ⟨ga, gc, gb, gd, ha, hc, ia, ic, ja, jc, rfl⟩ := core_shape c;rw [show aggV _ = .agg _ from rfl] at n;obtain ⟨B, G, I, E, F, C, J, D, A⟩ := cellsAt9 d rfl;have H : Hid (xs[k]? = some x) := r;clear r d c;cases m : p x
   ·have z : Hid (badP p xs = k) := badP_at H.out m l;rw [m] at n;go_wp2_with fail
    refine n.mono ?_;rintro e R ⟨rfl, o⟩;replace f := below_step f o;clear o B G I E F C J D A;go_wp2;go_ret
    exact ⟨ret_int z.out.symm, f⟩
   ·rw [m] at n;go_wp2_with fail
    refine n.mono ?_;rintro e R ⟨rfl, o⟩;replace f := below_step f o;clear o B G I E F C J D A;go_wp2;go_roundw
    case rel =>
     refine ⟨k + 1, by omega, by go_num, fun j v hj hv => ?_, f⟩;by_cases S : j < k
     ·exact l j v S hv
     ·have : j = k := by omega
      subst this;rw [H.out] at hv;cases hv;exact m
    case measure => simp [intOf]; omega
  ·have z : Hid (badP p xs = -1) := badP_no fun j v hv => l j v (by have := (List.getElem?_eq_some_iff.1 hv).1; omega) hv;go_wp2;go_ret
   exact ⟨ret_int z.out.symm, f⟩
theorem conFnCore {p : CoreD → Bool} {g : Nat} (a : Option Addr) (xs : List CoreD) (cap : Nat) (w : World) (h : SlRd coreR w a xs) (hm : xs.length ≤ maxLen) (HP : ∀ (x : CoreD) (cs : List Value) (W : World), x ∈ xs → Below w.heap.size w W → coreR.rd W cs x → Calls Tryz.prog 171 #[aggV cs, .pointer (some ⟨g, 0, none⟩)] W fun e w' => e = .returned (.bool (!p x)) ∧ Below W.heap.size W w') :
    Calls Tryz.prog 170 #[.slice a xs.length cap, .func (.func 171) #[] #[.pointer (some ⟨g, 0, none⟩)]] w fun e w' => e = .returned (.bool (!xs.all p)) ∧ Below w.heap.size w w' := by
 have d := idxFnCore a xs cap w h hm HP;have b := badP_all p xs;clear h hm HP;generalize badP p xs = q at d b;generalize xs.all p = y at b ⊢;subst b;by_cases i : q < 0
 ·have c : ¬ (0 ≤ q) := by omega
  go_enter Tryz.func170, Tryz.ntmps170;go_wp2_with fail
  refine d.mono ?_;rintro e j ⟨rfl, f⟩;go_wp2;go_ret
  exact ⟨by simp [i], f⟩
 ·have c : 0 ≤ q := by omega
  go_enter Tryz.func170, Tryz.ntmps170;go_wp2_with fail
  refine d.mono ?_;rintro e j ⟨rfl, f⟩;go_wp2;go_ret
  exact ⟨by simp [i], f⟩
theorem closFitCore {q : Bool} {g : Nat} {c0 c1 c2 c3 : Value} (x : CoreD) (cs : List Value) (w : World) (h : coreR.rd w cs x) (hg : w.heap[g]? = some (.cells #[.func (.func 124) #[.agg #[c0, c1, c2, c3]] #[]] 142 (0, 0)))
    (HF : ∀ W, Below w.heap.size w W → Calls Tryz.prog 124 #[.agg #[c0, c1, c2, c3], aggV cs] W fun e w' => e = .returned (.bool q) ∧ Below W.heap.size W w') :
    Calls Tryz.prog 171 #[aggV cs, .pointer (some ⟨g, 0, none⟩)] w fun e w' => e = .returned (.bool (!q)) ∧ Below w.heap.size w w' := by
 obtain ⟨d, E, i, o, p, z, f, F, j, l, rfl⟩ := core_shape h;rw [show aggV _ = .agg _ from rfl] at HF ⊢;have B := box_below w (.cells #[.slice d x.1.1.length E, .slice i x.1.2.length o, .slice p x.2.1.length z, .int .i64 x.2.2.1, .int .i64 x.2.2.2.1, .int .i64 x.2.2.2.2.1.1, .int .i64 x.2.2.2.2.1.2.1, .slice f x.2.2.2.2.1.2.2.length F, .slice j x.2.2.2.2.2.length l] 95);have G := row_keep B hg;have b : Hid _ := HF;clear h hg HF;go_enter Tryz.func171, Tryz.ntmps171;go_upto_region 1 with fail
 generalize a : w.alloc _ = W0;have X := boxH a;clear a;have v : W0.cell? ⟨g, 0, none⟩ = some (.func (.func 124) #[.agg #[c0, c1, c2, c3]] #[]) := by rw [cell_of_row W0 g 0 _ _ (0, 0) G]; rfl
 obtain ⟨C, n, k, r, D, s, m, y, A⟩ := cells_core X;clear G X;go_wp2_with fail
 refine (b.out _ B).mono ?_;rintro e w1 ⟨rfl, c⟩;replace B := below_step B c;clear v c C n k r D s m y A;go_wp2;go_ret
 exact ⟨rfl, B⟩
theorem allFitCore {p : CoreD → Bool} {c0 c1 c2 c3 : Value} (a : Option Addr) (xs : List CoreD) (cap : Nat) (w : World) (h : SlRd coreR w a xs) (hm : xs.length ≤ maxLen)
    (HF : ∀ (x : CoreD) (cs : List Value) (W : World), x ∈ xs → Below w.heap.size w W → coreR.rd W cs x → Calls Tryz.prog 124 #[.agg #[c0, c1, c2, c3], aggV cs] W fun e w' => e = .returned (.bool (p x)) ∧ Below W.heap.size W w') :
    Calls Tryz.prog 123 #[.slice a xs.length cap, .func (.func 124) #[.agg #[c0, c1, c2, c3]] #[]] w fun e w' => e = .returned (.bool (xs.all p)) ∧ Below w.heap.size w w' := by
 have B := box_below w (.cells #[.func (.func 124) #[.agg #[c0, c1, c2, c3]] #[]] 142);have G := heap_at w (.cells #[.func (.func 124) #[.agg #[c0, c1, c2, c3]] #[]] 142);have b := conFnCore (p := p) (g := w.heap.size) a xs cap (w.alloc (.cells #[.func (.func 124) #[.agg #[c0, c1, c2, c3]] #[]] 142)) (slrd_next h B) hm (fun x cs W hx hb hr => closFitCore x cs W hr (row_keep hb G) (fun W2 hb2 => HF x cs W2 hx (below_step (below_step B hb) hb2) (rd_next hr hb2)));clear h hm HF G;generalize xs.all p = y at b ⊢;go_enter Tryz.func123, Tryz.ntmps123;go_wp2_with fail
 refine b.mono ?_;rintro e w1 ⟨rfl, c⟩;replace B := below_step B c;clear c;go_wp2;go_ret
 exact ⟨by simp, B⟩
theorem idxFnEntry {p : EntryD → Bool} {g : Nat} (a : Option Addr) (xs : List EntryD) (cap : Nat) (w : World) (h : SlRd entR w a xs) (hm : xs.length ≤ maxLen) (HP : ∀ (x : EntryD) (q : List Value) (W : World), x ∈ xs → Below w.heap.size w W → entR.rd W q x → Calls Tryz.prog 164 #[aggV q, .pointer (some ⟨g, 0, none⟩)] W fun e w' => e = .returned (.bool (!p x)) ∧ Below W.heap.size W w') :
    Calls Tryz.prog 207 #[.slice a xs.length cap, .func (.func 164) #[] #[.pointer (some ⟨g, 0, none⟩)]] w fun e w' => e = .returned (.int .i64 (badP p xs)) ∧ Below w.heap.size w w' := by
 have L : xs.length ≤ 9223372036854775807 := hm;have N : Hid (∀ W, Below w.heap.size w W → SlRd entR W a xs) := fun W m => slrd_keep h fun k K => m.block k K;have s : Hid _ := HP;clear h hm HP;go_enter Tryz.func207, Tryz.ntmps207;go_wp2;go_loopw [8] (fun i wr => ∃ k : Nat, k ≤ xs.length ∧ i = .int .i64 k ∧ (∀ j v, j < k → xs[j]? = some v → p v = true) ∧ Below w.heap.size w wr) (fun i _ => xs.length - (intOf i).toNat)
 case atStart => exact ⟨0, Nat.zero_le _, rfl, fun j v hj => by omega, Below.refl _ _⟩
 case round =>
  obtain ⟨k, K, rfl, l, f⟩ := hrel;by_cases y : k < xs.length
  ·have J : (k : Int) < (xs.length : Int) := by omega
   obtain ⟨x, r⟩ : ∃ x, xs[k]? = some x := ⟨_, List.getElem?_eq_getElem y⟩;obtain ⟨b, M, q, rfl, c, d⟩ := slrd_at (N.out _ f) r;have n := s.out x q wr (List.mem_of_getElem? r) f c;obtain ⟨ga, gc, rfl⟩ := ent_shape c;rw [show aggV _ = .agg _ from rfl] at n;obtain ⟨A, F, H, D, E, B, I, C⟩ := cellsAt8 d rfl;have G : Hid (xs[k]? = some x) := r;clear r d c;cases m : p x
   ·have z : Hid (badP p xs = k) := badP_at G.out m l;rw [m] at n;go_wp2_with fail
    refine n.mono ?_;rintro e O ⟨rfl, o⟩;replace f := below_step f o;clear o A F H D E B I C;go_wp2;go_ret
    exact ⟨ret_int z.out.symm, f⟩
   ·rw [m] at n;go_wp2_with fail
    refine n.mono ?_;rintro e O ⟨rfl, o⟩;replace f := below_step f o;clear o A F H D E B I C;go_wp2;go_roundw
    case rel =>
     refine ⟨k + 1, by omega, by go_num, fun j v hj hv => ?_, f⟩;by_cases R : j < k
     ·exact l j v R hv
     ·have : j = k := by omega
      subst this;rw [G.out] at hv;cases hv;exact m
    case measure => simp [intOf]; omega
  ·have z : Hid (badP p xs = -1) := badP_no fun j v hv => l j v (by have := (List.getElem?_eq_some_iff.1 hv).1; omega) hv;go_wp2;go_ret
   exact ⟨ret_int z.out.symm, f⟩
theorem conFnEntry {p : EntryD → Bool} {g : Nat} (a : Option Addr) (xs : List EntryD) (cap : Nat) (w : World) (h : SlRd entR w a xs) (hm : xs.length ≤ maxLen) (HP : ∀ (x : EntryD) (cs : List Value) (W : World), x ∈ xs → Below w.heap.size w W → entR.rd W cs x → Calls Tryz.prog 164 #[aggV cs, .pointer (some ⟨g, 0, none⟩)] W fun e w' => e = .returned (.bool (!p x)) ∧ Below W.heap.size W w') :
    Calls Tryz.prog 163 #[.slice a xs.length cap, .func (.func 164) #[] #[.pointer (some ⟨g, 0, none⟩)]] w fun e w' => e = .returned (.bool (!xs.all p)) ∧ Below w.heap.size w w' := by
 have d := idxFnEntry a xs cap w h hm HP;have b := badP_all p xs;clear h hm HP;generalize badP p xs = q at d b;generalize xs.all p = y at b ⊢;subst b;by_cases i : q < 0
 ·have c : ¬ (0 ≤ q) := by omega
  go_enter Tryz.func163, Tryz.ntmps163;go_wp2_with fail
  refine d.mono ?_;rintro e j ⟨rfl, f⟩;go_wp2;go_ret
  exact ⟨by simp [i], f⟩
 ·have c : 0 ≤ q := by omega
  go_enter Tryz.func163, Tryz.ntmps163;go_wp2_with fail
  refine d.mono ?_;rintro e j ⟨rfl, f⟩;go_wp2;go_ret
  exact ⟨by simp [i], f⟩
theorem closFitEntry {q : Bool} {g : Nat} {c0 c1 c2 c3 : Value} (x : EntryD) (cs : List Value) (w : World) (h : entR.rd w cs x) (hg : w.heap[g]? = some (.cells #[.func (.func 122) #[.agg #[c0, c1, c2, c3]] #[]] 170 (0, 0)))
    (HF : ∀ W, Below w.heap.size w W → Calls Tryz.prog 122 #[.agg #[c0, c1, c2, c3], aggV cs] W fun e w' => e = .returned (.bool q) ∧ Below W.heap.size W w') :
    Calls Tryz.prog 164 #[aggV cs, .pointer (some ⟨g, 0, none⟩)] w fun e w' => e = .returned (.bool (!q)) ∧ Below w.heap.size w w' := by
 obtain ⟨d, r, rfl⟩ := ent_shape h;rw [show aggV _ = .agg _ from rfl] at HF ⊢;have B := box_below w (.cells #[.int .i64 x.1, .int .i64 x.2.1, .bool x.2.2.1, .int .i64 x.2.2.2.1, .int .i64 x.2.2.2.2.1, .int .i64 x.2.2.2.2.2.1, .int .i64 x.2.2.2.2.2.2.1, .slice d x.2.2.2.2.2.2.2.length r] 147);have G := row_keep B hg;have b : Hid _ := HF;clear h hg HF;go_enter Tryz.func164, Tryz.ntmps164;go_upto_region 1 with fail
 generalize a : w.alloc _ = W0;have X := boxH a;clear a;have m : W0.cell? ⟨g, 0, none⟩ = some (.func (.func 122) #[.agg #[c0, c1, c2, c3]] #[]) := by rw [cell_of_row W0 g 0 _ _ (0, 0) G]; rfl
 obtain ⟨o, j, f, k, p, l, i, n⟩ := cells_8 X;clear G X;go_wp2_with fail
 refine (b.out _ B).mono ?_;rintro e w1 ⟨rfl, c⟩;replace B := below_step B c;clear m c o j f k p l i n;go_wp2;go_ret
 exact ⟨rfl, B⟩
theorem allFitEntry {p : EntryD → Bool} {c0 c1 c2 c3 : Value} (a : Option Addr) (xs : List EntryD) (cap : Nat) (w : World) (h : SlRd entR w a xs) (hm : xs.length ≤ maxLen)
    (HF : ∀ (x : EntryD) (cs : List Value) (W : World), x ∈ xs → Below w.heap.size w W → entR.rd W cs x → Calls Tryz.prog 122 #[.agg #[c0, c1, c2, c3], aggV cs] W fun e w' => e = .returned (.bool (p x)) ∧ Below W.heap.size W w') :
    Calls Tryz.prog 121 #[.slice a xs.length cap, .func (.func 122) #[.agg #[c0, c1, c2, c3]] #[]] w fun e w' => e = .returned (.bool (xs.all p)) ∧ Below w.heap.size w w' := by
 have B := box_below w (.cells #[.func (.func 122) #[.agg #[c0, c1, c2, c3]] #[]] 170);have G := heap_at w (.cells #[.func (.func 122) #[.agg #[c0, c1, c2, c3]] #[]] 170);have b := conFnEntry (p := p) (g := w.heap.size) a xs cap (w.alloc (.cells #[.func (.func 122) #[.agg #[c0, c1, c2, c3]] #[]] 170)) (slrd_next h B) hm (fun x cs W hx hb hr => closFitEntry x cs W hr (row_keep hb G) (fun W2 hb2 => HF x cs W2 hx (below_step (below_step B hb) hb2) (rd_next hr hb2)));clear h hm HF G;generalize xs.all p = y at b ⊢;go_enter Tryz.func121, Tryz.ntmps121;go_wp2_with fail
 refine b.mono ?_;rintro e w1 ⟨rfl, c⟩;replace B := below_step B c;clear c;go_wp2;go_ret
 exact ⟨by simp, B⟩
theorem idxFnMsg {p : MsgD → Bool} {g : Nat} (a : Option Addr) (xs : List MsgD) (cap : Nat) (w : World) (h : SlRd msgR w a xs) (hm : xs.length ≤ maxLen) (HP : ∀ (x : MsgD) (q : List Value) (W : World), x ∈ xs → Below w.heap.size w W → msgR.rd W q x → Calls Tryz.prog 189 #[aggV q, .pointer (some ⟨g, 0, none⟩)] W fun e w' => e = .returned (.bool (!p x)) ∧ Below W.heap.size W w') :
    Calls Tryz.prog 227 #[.slice a xs.length cap, .func (.func 189) #[] #[.pointer (some ⟨g, 0, none⟩)]] w fun e w' => e = .returned (.int .i64 (badP p xs)) ∧ Below w.heap.size w w' := by
 have K : xs.length ≤ 9223372036854775807 := hm;have M : Hid (∀ W, Below w.heap.size w W → SlRd msgR W a xs) := fun W m => slrd_keep h fun k J => m.block k J;have s : Hid _ := HP;clear h hm HP;go_enter Tryz.func227, Tryz.ntmps227;go_wp2;go_loopw [8] (fun i wr => ∃ k : Nat, k ≤ xs.length ∧ i = .int .i64 k ∧ (∀ j v, j < k → xs[j]? = some v → p v = true) ∧ Below w.heap.size w wr) (fun i _ => xs.length - (intOf i).toNat)
 case atStart => exact ⟨0, Nat.zero_le _, rfl, fun j v hj => by omega, Below.refl _ _⟩
 case round =>
  obtain ⟨k, J, rfl, l, f⟩ := hrel;by_cases y : k < xs.length
  ·have I : (k : Int) < (xs.length : Int) := by omega
   obtain ⟨x, r⟩ : ∃ x, xs[k]? = some x := ⟨_, List.getElem?_eq_getElem y⟩;obtain ⟨b, L, q, rfl, c, d⟩ := slrd_at (M.out _ f) r;have n := s.out x q wr (List.mem_of_getElem? r) f c;obtain ⟨ga, gc, rfl⟩ := msg_shape c;rw [show aggV _ = .agg _ from rfl] at n;obtain ⟨A, E, G, C, D, B, H⟩ := cellsAt7 d rfl;have F : Hid (xs[k]? = some x) := r;clear r d c;cases m : p x
   ·have z : Hid (badP p xs = k) := badP_at F.out m l;rw [m] at n;go_wp2_with fail
    refine n.mono ?_;rintro e N ⟨rfl, o⟩;replace f := below_step f o;clear o A E G C D B H;go_wp2;go_ret
    exact ⟨ret_int z.out.symm, f⟩
   ·rw [m] at n;go_wp2_with fail
    refine n.mono ?_;rintro e N ⟨rfl, o⟩;replace f := below_step f o;clear o A E G C D B H;go_wp2;go_roundw
    case rel =>
     refine ⟨k + 1, by omega, by go_num, fun j v hj hv => ?_, f⟩;by_cases O : j < k
     ·exact l j v O hv
     ·have : j = k := by omega
      subst this;rw [F.out] at hv;cases hv;exact m
    case measure => simp [intOf]; omega
  ·have z : Hid (badP p xs = -1) := badP_no fun j v hv => l j v (by have := (List.getElem?_eq_some_iff.1 hv).1; omega) hv;go_wp2;go_ret
   exact ⟨ret_int z.out.symm, f⟩
theorem conFnMsg {p : MsgD → Bool} {g : Nat} (a : Option Addr) (xs : List MsgD) (cap : Nat) (w : World) (h : SlRd msgR w a xs) (hm : xs.length ≤ maxLen) (HP : ∀ (x : MsgD) (cs : List Value) (W : World), x ∈ xs → Below w.heap.size w W → msgR.rd W cs x → Calls Tryz.prog 189 #[aggV cs, .pointer (some ⟨g, 0, none⟩)] W fun e w' => e = .returned (.bool (!p x)) ∧ Below W.heap.size W w') :
    Calls Tryz.prog 186 #[.slice a xs.length cap, .func (.func 189) #[] #[.pointer (some ⟨g, 0, none⟩)]] w fun e w' => e = .returned (.bool (!xs.all p)) ∧ Below w.heap.size w w' := by
 have d := idxFnMsg a xs cap w h hm HP;have b := badP_all p xs;clear h hm HP;generalize badP p xs = q at d b;generalize xs.all p = y at b ⊢;subst b;by_cases i : q < 0
 ·have c : ¬ (0 ≤ q) := by omega
  go_enter Tryz.func186, Tryz.ntmps186;go_wp2_with fail
  refine d.mono ?_;rintro e j ⟨rfl, f⟩;go_wp2;go_ret
  exact ⟨by simp [i], f⟩
 ·have c : 0 ≤ q := by omega
  go_enter Tryz.func186, Tryz.ntmps186;go_wp2_with fail
  refine d.mono ?_;rintro e j ⟨rfl, f⟩;go_wp2;go_ret
  exact ⟨by simp [i], f⟩
theorem closFitMsg {q : Bool} {g : Nat} {c0 c1 c2 c3 : Value} (x : MsgD) (cs : List Value) (w : World) (h : msgR.rd w cs x) (hg : w.heap[g]? = some (.cells #[.func (.func 129) #[.agg #[c0, c1, c2, c3]] #[]] 173 (0, 0)))
    (HF : ∀ W, Below w.heap.size w W → Calls Tryz.prog 129 #[.agg #[c0, c1, c2, c3], aggV cs] W fun e w' => e = .returned (.bool q) ∧ Below W.heap.size W w') :
    Calls Tryz.prog 189 #[aggV cs, .pointer (some ⟨g, 0, none⟩)] w fun e w' => e = .returned (.bool (!q)) ∧ Below w.heap.size w w' := by
 obtain ⟨d, p, rfl⟩ := msg_shape h;rw [show aggV _ = .agg _ from rfl] at HF ⊢;have B := box_below w (.cells #[.int .i64 x.1, .int .i64 x.2.1, .int .i64 x.2.2.1, .int .i64 x.2.2.2.1, .int .i64 x.2.2.2.2.1, .slice d x.2.2.2.2.2.1.length p, .int .i64 x.2.2.2.2.2.2] 119);have G := row_keep B hg;have b : Hid _ := HF;clear h hg HF;go_enter Tryz.func189, Tryz.ntmps189;go_upto_region 1 with fail
 generalize a : w.alloc _ = W0;have X := boxH a;clear a;have m : W0.cell? ⟨g, 0, none⟩ = some (.func (.func 129) #[.agg #[c0, c1, c2, c3]] #[]) := by rw [cell_of_row W0 g 0 _ _ (0, 0) G]; rfl
 obtain ⟨n, j, f, k, o, l, i⟩ := cells_7 X;clear G X;go_wp2_with fail
 refine (b.out _ B).mono ?_;rintro e w1 ⟨rfl, c⟩;replace B := below_step B c;clear m c n j f k o l i;go_wp2;go_ret
 exact ⟨rfl, B⟩
theorem allFitMsg {p : MsgD → Bool} {c0 c1 c2 c3 : Value} (a : Option Addr) (xs : List MsgD) (cap : Nat) (w : World) (h : SlRd msgR w a xs) (hm : xs.length ≤ maxLen)
    (HF : ∀ (x : MsgD) (cs : List Value) (W : World), x ∈ xs → Below w.heap.size w W → msgR.rd W cs x → Calls Tryz.prog 129 #[.agg #[c0, c1, c2, c3], aggV cs] W fun e w' => e = .returned (.bool (p x)) ∧ Below W.heap.size W w') :
    Calls Tryz.prog 128 #[.slice a xs.length cap, .func (.func 129) #[.agg #[c0, c1, c2, c3]] #[]] w fun e w' => e = .returned (.bool (xs.all p)) ∧ Below w.heap.size w w' := by
 have B := box_below w (.cells #[.func (.func 129) #[.agg #[c0, c1, c2, c3]] #[]] 173);have G := heap_at w (.cells #[.func (.func 129) #[.agg #[c0, c1, c2, c3]] #[]] 173);have b := conFnMsg (p := p) (g := w.heap.size) a xs cap (w.alloc (.cells #[.func (.func 129) #[.agg #[c0, c1, c2, c3]] #[]] 173)) (slrd_next h B) hm (fun x cs W hx hb hr => closFitMsg x cs W hr (row_keep hb G) (fun W2 hb2 => HF x cs W2 hx (below_step (below_step B hb) hb2) (rd_next hr hb2)));clear h hm HF G;generalize xs.all p = y at b ⊢;go_enter Tryz.func128, Tryz.ntmps128;go_wp2_with fail
 refine b.mono ?_;rintro e w1 ⟨rfl, c⟩;replace B := below_step B c;clear c;go_wp2;go_ret
 exact ⟨by simp, B⟩
end Go.Proofs.YtcocbafhcpdheaaGreatDoor
