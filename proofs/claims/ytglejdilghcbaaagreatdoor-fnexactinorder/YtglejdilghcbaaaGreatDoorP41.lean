import Derived.Test.YtglejdilghcbaaaGreatDoorP00Box
import Derived.Test.YtglejdilghcbaaaGreatDoorP31
namespace Go.Proofs.YtglejdilghcbaaaGreatDoor
set_option maxHeartbeats 4000000
set_option maxRecDepth 20000
open Go.ChangeShapes Go.WideShapes Go.ChangeAt Go.RowKit
set_option linter.unusedVariables false
set_option linter.unusedSimpArgs false
theorem take_same {xs ys : List Int} {k : Nat} {a b : Int} (h : xs.take k = ys.take k) (hx : xs[k]? = some a) (hy : ys[k]? = some b) (he : a = b) : xs.take (k + 1) = ys.take (k + 1) := by
 rw [List.take_add_one, List.take_add_one, h, hx, hy, he]
theorem l1Same_any (a b : Option Addr) (xs ys : List Int) (c d : Nat) (w : World) (h1 : SlRd intR w a xs) (h2 : SlRd intR w b ys) (hm : xs.length ≤ 1048576) (hn : ys.length ≤ 1048576) :
    Calls Tryz.prog 16 #[sL a xs.length c, sL b ys.length d] w fun e w' => e = .returned (.bool (decide (xs = ys))) ∧ Bl w w' := by
 by_cases m : xs.length = ys.length
 ·have C : Hid _ := m;rw [← m];have J : Hid (∀ W, Bl w W → SlRd intR W a xs) := fun W hb => slrd_next h1 hb;have N : Hid (∀ W, Bl w W → SlRd intR W b ys) := fun W hb => slrd_next h2 hb;clear h1 h2 m hn;go_enter Tryz.func16, Tryz.ntmps16;go_wp2;go_loopw [5] (fun i wr => ∃ k : Nat, k ≤ xs.length ∧ i = nI k ∧ Hid (xs.take k = ys.take k) ∧ Bl w wr) (fun i _ => xs.length - (intOf i).toNat)
  case atStart => exact ⟨0, Nat.zero_le _, rfl, by unfold Hid; rfl, Below.refl _ _⟩
  case round =>
   obtain ⟨k, hk, rfl, f, j⟩ := hrel;by_cases y : k < xs.length
   ·have B : (k : Int) < (xs.length : Int) := by omega
    have A : k < ys.length := by have := C.out; omega
    obtain ⟨p, s⟩ : ∃ p, xs[k]? = some p := ⟨_, List.getElem?_eq_getElem y⟩;obtain ⟨q, v⟩ : ∃ q, ys[k]? = some q := ⟨_, List.getElem?_eq_getElem A⟩;obtain ⟨g1, G, O, rfl, ⟨rfl, -⟩, r⟩ := slrd_at (J.out _ j) s;obtain ⟨g2, E, K, rfl, ⟨rfl, -⟩, o⟩ := slrd_at (N.out _ j) v;have H := r 0 _ rfl;rw [show G + (k * intR.size + 0) = G + k from by rw [show intR.size = 1 from rfl]; omega] at H;have I := o 0 _ rfl;rw [show E + (k * intR.size + 0) = E + k from by rw [show intR.size = 1 from rfl]; omega] at I;have F : Hid _ := s;have D : Hid _ := v;clear r o s v;by_cases z : p = q
    ·have l : Hid _ := take_same f.out F.out D.out z;have g : Hid _ := j;subst z;clear f j;go_wp2_with fail
     go_quiet (fail)
     go_wp2;go_roundw
     case rel => exact ⟨k + 1, by omega, by go_num, l, be_drewN g.out _⟩
     case measure => simp [intOf]; omega
    ·have l : Hid (decide (xs = ys) = false) := decide_eq_false fun e => z (by have n := F.out; rw [e, D.out] at n; exact (Option.some.inj n).symm);have g : Hid _ := j;clear f j;go_wp2_with fail
     go_quiet (fail)
     go_wp2;go_ret
     exact ⟨ret_bool l.out.symm, be_drewN g.out _⟩
   ·have M : k = xs.length := by omega
    have l : Hid (decide (xs = ys) = true) := decide_eq_true (by
     have n := f.out;rw [List.take_of_length_le (by omega), List.take_of_length_le (by have := C.out; omega)] at n
     exact n)
    clear f;go_wp2;go_ret
    exact ⟨ret_bool l.out.symm, j⟩
 ·have l : Hid (decide (xs = ys) = false) := decide_eq_false fun e => m (by rw [e]);have L : ¬ ((xs.length : Int) = (ys.length : Int)) := by omega
  clear h1 h2 m;go_enter Tryz.func16, Tryz.ntmps16;go_wp2;go_ret
  exact ⟨ret_bool l.out.symm, Below.refl _ _⟩
theorem l1Same_q (a b : Option Addr) (xs ys : List Int) (c d : Nat) (w : World) (h1 : SlRd intR w a xs) (h2 : SlRd intR w b ys) (hm : xs.length ≤ 1048576) (hn : ys.length ≤ 1048576) :
    Calls Tryz.prog 16 #[sL a xs.length c, sL b ys.length d] w fun e w' => e = .returned (.bool (decide (xs = ys))) ∧ ∃ q, w' = w.drewN q := by
 by_cases n : xs.length = ys.length
 ·have E : Hid _ := n;rw [← n];have L : Hid (∀ W, Bl w W → SlRd intR W a xs) := fun W hb => slrd_next h1 hb;have R : Hid (∀ W, Bl w W → SlRd intR W b ys) := fun W hb => slrd_next h2 hb;clear h1 h2 n hn;go_enter Tryz.func16, Tryz.ntmps16;go_wp2;go_loopw [5] (fun i wr => ∃ k : Nat, k ≤ xs.length ∧ i = nI k ∧ Hid (xs.take k = ys.take k) ∧ ∃ q, wr = w.drewN q) (fun i _ => xs.length - (intOf i).toNat)
  case atStart => exact ⟨0, Nat.zero_le _, rfl, by unfold Hid; rfl, 0, rfl⟩
  case round =>
   obtain ⟨k, hk, rfl, f, S, j⟩ := hrel;have g : Hid _ := j;have m : Bl w wr := by rw [j]; exact be_drewN (Below.refl w.heap.size w) S
   clear j;by_cases z : k < xs.length
   ·have D : (k : Int) < (xs.length : Int) := by omega
    have C : k < ys.length := by have := E.out; omega
    obtain ⟨p, v⟩ : ∃ p, xs[k]? = some p := ⟨_, List.getElem?_eq_getElem z⟩;obtain ⟨q, y⟩ : ∃ q, ys[k]? = some q := ⟨_, List.getElem?_eq_getElem C⟩;obtain ⟨g1, I, T, rfl, ⟨rfl, -⟩, s⟩ := slrd_at (L.out _ m) v;obtain ⟨g2, G, M, rfl, ⟨rfl, -⟩, r⟩ := slrd_at (R.out _ m) y;have J := s 0 _ rfl;rw [show I + (k * intR.size + 0) = I + k from by rw [show intR.size = 1 from rfl]; omega] at J;have K := r 0 _ rfl;rw [show G + (k * intR.size + 0) = G + k from by rw [show intR.size = 1 from rfl]; omega] at K;have H : Hid _ := v;have F : Hid _ := y;clear s r v y;by_cases A : p = q
    ·have l : Hid _ := take_same f.out H.out F.out A;have B : Hid _ := m;subst A;clear f m;go_wp2_with fail
     go_quiet (fail)
     go_wp2;go_roundw
     case rel => exact ⟨k + 1, by omega, by go_num, l, _, by rw [g.out, World.drewN_drewN]⟩
     case measure => simp [intOf]; omega
    ·have l : Hid (decide (xs = ys) = false) := decide_eq_false fun e => A (by have o := H.out; rw [e, F.out] at o; exact (Option.some.inj o).symm);have B : Hid _ := m;clear f m;go_wp2_with fail
     go_quiet (fail)
     go_wp2;go_ret
     exact ⟨ret_bool l.out.symm, _, by rw [g.out, World.drewN_drewN]⟩
   ·have O : k = xs.length := by omega
    have l : Hid (decide (xs = ys) = true) := decide_eq_true (by
     have o := f.out;rw [List.take_of_length_le (by omega), List.take_of_length_le (by have := E.out; omega)] at o
     exact o)
    clear f;go_wp2;go_ret
    exact ⟨ret_bool l.out.symm, _, g.out⟩
 ·have l : Hid (decide (xs = ys) = false) := decide_eq_false fun e => n (by rw [e]);have N : ¬ ((xs.length : Int) = (ys.length : Int)) := by omega
  clear h1 h2 n;go_enter Tryz.func16, Tryz.ntmps16;go_wp2;go_ret
  exact ⟨ret_bool l.out.symm, 0, rfl⟩
theorem equalI_any (a b : Option Addr) (xs ys : List Int) (c d : Nat) (w : World) (h1 : SlRd intR w a xs) (h2 : SlRd intR w b ys) (hm : xs.length ≤ 1048576) (hn : ys.length ≤ 1048576) :
    Calls Tryz.prog 167 #[sL a xs.length c, sL b ys.length d] w fun e w' => e = .returned (.bool (decide (xs = ys))) ∧ Bl w w' := by
 by_cases m : xs.length = ys.length
 ·have C : Hid _ := m;rw [← m];have J : Hid (∀ W, Bl w W → SlRd intR W a xs) := fun W hb => slrd_next h1 hb;have N : Hid (∀ W, Bl w W → SlRd intR W b ys) := fun W hb => slrd_next h2 hb;clear h1 h2 m hn;go_enter Tryz.func167, Tryz.ntmps167;go_wp2;go_loopw [13] (fun i wr => ∃ k : Nat, k ≤ xs.length ∧ i = nI k ∧ Hid (xs.take k = ys.take k) ∧ Bl w wr) (fun i _ => xs.length - (intOf i).toNat)
  case atStart => exact ⟨0, Nat.zero_le _, rfl, by unfold Hid; rfl, Below.refl _ _⟩
  case round =>
   obtain ⟨k, hk, rfl, f, j⟩ := hrel;by_cases y : k < xs.length
   ·have B : (k : Int) < (xs.length : Int) := by omega
    have A : k < ys.length := by have := C.out; omega
    obtain ⟨p, s⟩ : ∃ p, xs[k]? = some p := ⟨_, List.getElem?_eq_getElem y⟩;obtain ⟨q, v⟩ : ∃ q, ys[k]? = some q := ⟨_, List.getElem?_eq_getElem A⟩;obtain ⟨g1, G, O, rfl, ⟨rfl, -⟩, r⟩ := slrd_at (J.out _ j) s;obtain ⟨g2, E, K, rfl, ⟨rfl, -⟩, o⟩ := slrd_at (N.out _ j) v;have H := r 0 _ rfl;rw [show G + (k * intR.size + 0) = G + k from by rw [show intR.size = 1 from rfl]; omega] at H;have I := o 0 _ rfl;rw [show E + (k * intR.size + 0) = E + k from by rw [show intR.size = 1 from rfl]; omega] at I;have F : Hid _ := s;have D : Hid _ := v;clear r o s v;by_cases z : p = q
    ·have l : Hid _ := take_same f.out F.out D.out z;have g : Hid _ := j;subst z;clear f j;go_wp2_with fail
     go_quiet (fail)
     go_wp2;go_roundw
     case rel => exact ⟨k + 1, by omega, by go_num, l, be_drewN g.out _⟩
     case measure => simp [intOf]; omega
    ·have l : Hid (decide (xs = ys) = false) := decide_eq_false fun e => z (by have n := F.out; rw [e, D.out] at n; exact (Option.some.inj n).symm);have g : Hid _ := j;clear f j;go_wp2_with fail
     go_quiet (fail)
     go_wp2;go_ret
     exact ⟨ret_bool l.out.symm, be_drewN g.out _⟩
   ·have M : k = xs.length := by omega
    have l : Hid (decide (xs = ys) = true) := decide_eq_true (by
     have n := f.out;rw [List.take_of_length_le (by omega), List.take_of_length_le (by have := C.out; omega)] at n
     exact n)
    clear f;go_wp2;go_ret
    exact ⟨ret_bool l.out.symm, j⟩
 ·have l : Hid (decide (xs = ys) = false) := decide_eq_false fun e => m (by rw [e]);have L : ¬ ((xs.length : Int) = (ys.length : Int)) := by omega
  clear h1 h2 m;go_enter Tryz.func167, Tryz.ntmps167;go_wp2;go_ret
  exact ⟨ret_bool l.out.symm, Below.refl _ _⟩
theorem event_shape1 {w : World} {cs : List Value} {u : EventD} (h : eventR.rd w cs u) : ∃ (ea : Option Addr) (ec : Nat), cs = [nI u.1, nI u.2.1.1, nI u.2.1.2.1, nI u.2.1.2.2.1, nI u.2.1.2.2.2, nI u.2.2.1, nI u.2.2.2.1, sL ea u.2.2.2.2.1.length ec, nI u.2.2.2.2.2] ∧ u.2.2.2.2.1.length ≤ ec ∧ ec ≤ maxLen ∧ SlRd intR w ea u.2.2.2.2.1 := by
 obtain ⟨v1, v2, v3, v4, v7, rfl, -, g, -, -, ⟨a, c, e, f, d, q⟩, -⟩ := event_rd h;obtain ⟨b, -⟩ := op_rd4 g;simp only [List.cons.injEq, and_true] at b e;obtain ⟨rfl, rfl, rfl, rfl⟩ := b;obtain rfl := e;exact ⟨a, c, rfl, f, d, q⟩
theorem event_shape0 {w : World} {cs : List Value} {u : EventD} (h : eventR.rd w cs u) : ∃ (ea : Option Addr) (ec : Nat), cs = [nI u.1, nI u.2.1.1, nI u.2.1.2.1, nI u.2.1.2.2.1, nI u.2.1.2.2.2, nI u.2.2.1, nI u.2.2.2.1, sL ea u.2.2.2.2.1.length ec, nI u.2.2.2.2.2] := by
 obtain ⟨a, c, e, -⟩ := event_shape1 h;exact ⟨a, c, e⟩
theorem idxFnEvent {p : EventD → Bool} {g : Nat} (a : Option Addr) (xs : List EventD) (cap : Nat) (w : World) (h : SlRd eventR w a xs) (hm : xs.length ≤ maxLen) (HP : ∀ (x : EventD) (q : List Value) (W : World), x ∈ xs → Below w.heap.size w W → eventR.rd W q x → Calls Tryz.prog 160 #[aggV q, .pointer (some ⟨g, 0, none⟩)] W fun e w' => e = .returned (.bool (!p x)) ∧ Below W.heap.size W w') :
    Calls Tryz.prog 198 #[sL a xs.length cap, .func (.func 160) #[] #[.pointer (some ⟨g, 0, none⟩)]] w fun e w' => e = .returned (nI (badP p xs)) ∧ Below w.heap.size w w' := by
 have S : xs.length ≤ 9223372036854775807 := hm;have U : Hid (∀ W, Below w.heap.size w W → SlRd eventR W a xs) := fun W m => slrd_keep h fun k J => m.block k J;have z : Hid _ := HP;clear h hm HP;go_enter Tryz.func198, Tryz.ntmps198;go_wp2;go_loopw [8] (fun i wr => ∃ k : Nat, k ≤ xs.length ∧ i = nI k ∧ (∀ j v, j < k → xs[j]? = some v → p v = true) ∧ Below w.heap.size w wr) (fun i _ => xs.length - (intOf i).toNat)
 case atStart => exact ⟨0, Nat.zero_le _, rfl, fun j v hj => by omega, Below.refl _ _⟩
 case round =>
  obtain ⟨k, J, rfl, l, f⟩ := hrel;by_cases s : k < xs.length
  ·have E : (k : Int) < (xs.length : Int) := by omega
   obtain ⟨x, r⟩ : ∃ x, xs[k]? = some x := ⟨_, List.getElem?_eq_getElem s⟩;obtain ⟨b, R, q, rfl, d, c⟩ := slrd_at (U.out _ f) r;have o := z.out x q wr (List.mem_of_getElem? r) f d;obtain ⟨F, A, rfl⟩ := event_shape0 d;rw [show aggV [nI x.1, nI x.2.1.1, nI x.2.1.2.1, nI x.2.1.2.2.1, nI x.2.1.2.2.2, nI x.2.2.1, nI x.2.2.2.1, sL F x.2.2.2.2.1.length A, nI x.2.2.2.2.2] = .agg #[nI x.1, nI x.2.1.1, nI x.2.1.2.1, nI x.2.1.2.2.1, nI x.2.1.2.2.2, nI x.2.2.1, nI x.2.2.2.1, sL F x.2.2.2.2.1.length A, nI x.2.2.2.2.2] from rfl] at o;obtain ⟨L, C, M, B, G, D, K, H, I⟩ := cellsAt9 c rfl;have N : Hid (xs[k]? = some x) := r;clear r c d;cases m : p x
   ·have y : Hid (badP p xs = k) := badP_at N.out m l;rw [m] at o;go_wp2_with fail
    refine o.mono ?_;rintro e T ⟨rfl, n⟩;replace f := below_step f n;clear n L C M B G D K H I;go_wp2;go_ret
    exact ⟨ret_int y.out.symm, f⟩
   ·rw [m] at o;go_wp2_with fail
    refine o.mono ?_;rintro e T ⟨rfl, n⟩;replace f := below_step f n;clear n L C M B G D K H I;go_wp2;go_roundw
    case rel =>
     refine ⟨k + 1, by omega, by go_num, fun j v hj hv => ?_, f⟩;by_cases O : j < k
     ·exact l j v O hv
     ·have : j = k := by omega
      subst this;rw [N.out] at hv;cases hv;exact m
    case measure => simp [intOf]; omega
  ·have y : Hid (badP p xs = -1) := badP_no fun j v hv => l j v (by have := (List.getElem?_eq_some_iff.1 hv).1; omega) hv;go_wp2;go_ret
   exact ⟨ret_int y.out.symm, f⟩
theorem conFnEvent {p : EventD → Bool} {g : Nat} (a : Option Addr) (xs : List EventD) (cap : Nat) (w : World) (h : SlRd eventR w a xs) (hm : xs.length ≤ maxLen) (HP : ∀ (x : EventD) (cs : List Value) (W : World), x ∈ xs → Below w.heap.size w W → eventR.rd W cs x → Calls Tryz.prog 160 #[aggV cs, .pointer (some ⟨g, 0, none⟩)] W fun e w' => e = .returned (.bool (!p x)) ∧ Below W.heap.size W w') :
    Calls Tryz.prog 159 #[sL a xs.length cap, .func (.func 160) #[] #[.pointer (some ⟨g, 0, none⟩)]] w fun e w' => e = .returned (.bool (!xs.all p)) ∧ Below w.heap.size w w' := by
 have f := idxFnEvent a xs cap w h hm HP;have b := badP_all p xs;clear h hm HP;generalize badP p xs = q at f b;generalize xs.all p = y at b ⊢;subst b;by_cases i : q < 0
 ·have c : ¬ (0 ≤ q) := by omega
  go_enter Tryz.func159, Tryz.ntmps159;go_wp2_with fail
  refine f.mono ?_;rintro e j ⟨rfl, d⟩;go_wp2;go_ret
  exact ⟨by simp [i], d⟩
 ·have c : 0 ≤ q := by omega
  go_enter Tryz.func159, Tryz.ntmps159;go_wp2_with fail
  refine f.mono ?_;rintro e j ⟨rfl, d⟩;go_wp2;go_ret
  exact ⟨by simp [i], d⟩
theorem closFitEvent {q : Bool} {g : Nat} (x : EventD) (cs : List Value) (w : World) (h : eventR.rd w cs x) (hg : w.heap[g]? = some (.cells #[.func (.func 106) #[] #[]] 119 (0, 0)))
    (HF : ∀ W, Below w.heap.size w W → Calls Tryz.prog 106 #[aggV cs] W fun e w' => e = .returned (.bool q) ∧ Below W.heap.size W w') :
    Calls Tryz.prog 160 #[aggV cs, .pointer (some ⟨g, 0, none⟩)] w fun e w' => e = .returned (.bool (!q)) ∧ Below w.heap.size w w' := by
 obtain ⟨b, a, rfl⟩ := event_shape0 h;rw [show aggV [nI x.1, nI x.2.1.1, nI x.2.1.2.1, nI x.2.1.2.2.1, nI x.2.1.2.2.2, nI x.2.2.1, nI x.2.2.2.1, sL b x.2.2.2.2.1.length a, nI x.2.2.2.2.2] = .agg #[nI x.1, nI x.2.1.1, nI x.2.1.2.1, nI x.2.1.2.2.1, nI x.2.1.2.2.2, nI x.2.2.1, nI x.2.2.2.1, sL b x.2.2.2.2.1.length a, nI x.2.2.2.2.2] from rfl] at HF ⊢;have B := box_below w (.cells #[nI x.1, nI x.2.1.1, nI x.2.1.2.1, nI x.2.1.2.2.1, nI x.2.1.2.2.2, nI x.2.2.1, nI x.2.2.2.1, sL b x.2.2.2.2.1.length a, nI x.2.2.2.2.2] 71);have G := row_keep B hg;have c : Hid _ := HF;clear h hg HF;go_enter Tryz.func160, Tryz.ntmps160;go_upto_region 1 with fail
 have X := heap_at w (.cells #[nI x.1, nI x.2.1.1, nI x.2.1.2.1, nI x.2.1.2.2.1, nI x.2.1.2.2.2, nI x.2.2.1, nI x.2.2.2.1, sL b x.2.2.2.2.1.length a, nI x.2.2.2.2.2] 71);generalize w.alloc (.cells #[nI x.1, nI x.2.1.1, nI x.2.1.2.1, nI x.2.1.2.2.1, nI x.2.1.2.2.2, nI x.2.2.1, nI x.2.2.2.1, sL b x.2.2.2.2.1.length a, nI x.2.2.2.2.2] 71) = W0 at B G X ⊢;have n : W0.cell? ⟨g, 0, none⟩ = some (.func (.func 106) #[] #[]) := by rw [cell_of_row W0 g 0 _ _ (0, 0) G]; rfl
 obtain ⟨r, f, k, m, j, l, p, o, i⟩ := cells_core X;clear G X;go_wp2_with fail
 refine (c.out _ B).mono ?_;rintro e w1 ⟨rfl, d⟩;replace B := below_step B d;clear n d r f k m j l p o i;go_wp2;go_ret
 exact ⟨rfl, B⟩
theorem allFitEvent {p : EventD → Bool} (a : Option Addr) (xs : List EventD) (cap : Nat) (w : World) (h : SlRd eventR w a xs) (hm : xs.length ≤ maxLen)
    (HF : ∀ (x : EventD) (cs : List Value) (W : World), x ∈ xs → Below w.heap.size w W → eventR.rd W cs x → Calls Tryz.prog 106 #[aggV cs] W fun e w' => e = .returned (.bool (p x)) ∧ Below W.heap.size W w') :
    Calls Tryz.prog 105 #[sL a xs.length cap, .func (.func 106) #[] #[]] w fun e w' => e = .returned (.bool (xs.all p)) ∧ Below w.heap.size w w' := by
 have B := box_below w (.cells #[.func (.func 106) #[] #[]] 119);have G := heap_at w (.cells #[.func (.func 106) #[] #[]] 119);have c := conFnEvent (p := p) (g := w.heap.size) a xs cap (w.alloc (.cells #[.func (.func 106) #[] #[]] 119)) (slrd_next h B) hm (fun x cs W hx hb hr => closFitEvent x cs W hr (row_keep hb G) (fun W2 hb2 => HF x cs W2 hx (below_step (below_step B hb) hb2) (rd_next hr hb2)));clear h hm HF G;generalize xs.all p = y at c ⊢;go_enter Tryz.func105, Tryz.ntmps105;go_wp2_with fail
 refine c.mono ?_;rintro e w1 ⟨rfl, b⟩;replace B := below_step B b;clear b;go_wp2;go_ret
 exact ⟨by simp, B⟩
end Go.Proofs.YtglejdilghcbaaaGreatDoor
