import Derived.Test.YtdamokokcdcedaaGreatDoorG00Box
import Derived.Test.YtdamokokcdcedaaGreatDoorG37
namespace Go.Proofs.YtdamokokcdcedaaGreatDoor
set_option maxHeartbeats 2000000
set_option maxRecDepth 20000
open Go.ChangeShapes Go.WideShapes Go.ChangeAt Go.RowKit
set_option linter.unusedVariables false
def toldB (u : DescD) (ws : List Int) : Bool := if u.1 then decide (ws.length = 0) else isL ws
def toldL (xs : List DescD) (ys : List (List Int)) : Bool := decide (xs.length = ys.length) && (xs.zip ys).all fun z => toldB z.1 z.2
def descsB (xs : List DescD) : Bool := decide (xs.length ≤ 30) && xs.all descB
def placeB1 (x : DmaD) : Bool := betw x.2.1 0 x.1.length
def waitB1 (x : DmaD) : Bool := !x.2.2.1 || decide (x.2.1 < (x.1.length : Int))
def dmaB (x : DmaD) : Bool := descsB x.1 && (placeB1 x && (waitB1 x && toldL (x.1.take x.2.1.toNat) x.2.2.2))
theorem toldL_no {xs : List DescD} {ys : List (List Int)} {k : Nat} {u : DescD} {v : List Int} (hu : xs[k]? = some u) (hv : ys[k]? = some v) (h : toldB u v = false) : toldL xs ys = false := by
 have a : (u, v) ∈ xs.zip ys := List.mem_of_getElem? (by rw [List.getElem?_zip_eq_some]; exact ⟨hu, hv⟩);have : (xs.zip ys).all (fun z => toldB z.1 z.2) = false := by
  cases q : (xs.zip ys).all (fun z => toldB z.1 z.2)
  ·rfl
  ·have := List.all_eq_true.1 q _ a;simp only at this
   rw [h] at this;cases this
 unfold toldL;rw [this, Bool.and_false]
theorem toldL_yes {xs : List DescD} {ys : List (List Int)} (hl : xs.length = ys.length) (h : ∀ (k : Nat) u v, xs[k]? = some u → ys[k]? = some v → toldB u v = true) : toldL xs ys = true := by
 unfold toldL;rw [decide_eq_true hl, Bool.true_and, List.all_eq_true];rintro ⟨u, v⟩ b;obtain ⟨k, a⟩ := List.getElem?_of_mem b;rw [List.getElem?_zip_eq_some] at a;exact h k u v a.1 a.2
theorem desc_shape {w : World} {cs : List Value} {u : DescD} (h : descR.rd w cs u) : ∃ (ua : Option Addr) (uc : Nat), cs = [.bool u.1, nI u.2.1, nI u.2.2.1, sL ua u.2.2.2.length uc] ∧ SlRd intR w ua u.2.2.2 := by
 obtain ⟨a, c, rfl, -, -, -, -, q⟩ := desc_rd h;exact ⟨a, c, rfl, q⟩
theorem descsOk1_any (u : DescD) (ua : Option Addr) (uc : Nat) (w : World) (h : SlRd intR w ua u.2.2.2) :
    Calls Tryz.prog 239 #[.agg #[.bool u.1, nI u.2.1, nI u.2.2.1, sL ua u.2.2.2.length uc]] w fun e w' => e = .returned (.bool (!descB u)) ∧ Bl w w' := by
 have B := box_below w (.cells #[.bool u.1, nI u.2.1, nI u.2.2.1, sL ua u.2.2.2.length uc] 187);have a : Hid (∀ W, Bl w W → Calls Tryz.prog 240 #[.agg #[.bool u.1, nI u.2.1, nI u.2.2.1, sL ua u.2.2.2.length uc]] W fun e w' => e = .returned (.bool (descB u)) ∧ Bl W w') := fun W hb => implDescOk_any u.1 u.2.1 u.2.2.1 u.2.2.2 ua uc W (slrd_next h hb);generalize descB u = q at a ⊢;clear h;go_enter Tryz.func239, Tryz.ntmps239;go_wp2_with fail
 generalize w.alloc (.cells #[.bool u.1, nI u.2.1, nI u.2.2.1, sL ua u.2.2.2.length uc] 187) = W0 at B ⊢;refine (a.out _ B).mono ?_;rintro e w1 ⟨rfl, b⟩;go_wp2;go_ret
 exact ⟨rfl, below_step B b⟩
theorem idxBadD (a : Option Addr) (xs : List DescD) (cap : Nat) (w : World) (h : SlRd descR w a xs) (hm : xs.length ≤ maxLen) :
    Calls Tryz.prog 265 #[sL a xs.length cap, .func (.func 239) #[] #[]] w fun e w' => e = .returned (nI (badP descB xs)) ∧ Bl w w' := by
 have F : xs.length ≤ 9223372036854775807 := hm;have H : Hid (∀ W, Bl w W → SlRd descR W a xs) := fun W g => slrd_keep h fun k y => g.block k y;clear h hm;go_enter Tryz.func265, Tryz.ntmps265;go_wp2;go_loopw [8] (fun i wr => ∃ k : Nat, k ≤ xs.length ∧ i = nI k ∧ (∀ j v, j < k → xs[j]? = some v → descB v = true) ∧ Bl w wr) (fun i _ => xs.length - (intOf i).toNat)
 case atStart => exact ⟨0, Nat.zero_le _, rfl, fun j v hj => by omega, Below.refl _ _⟩
 case round =>
  obtain ⟨k, y, rfl, f, d⟩ := hrel;by_cases p : k < xs.length
  ·have A : (k : Int) < (xs.length : Int) := by omega
   obtain ⟨u, o⟩ : ∃ x, xs[k]? = some x := ⟨_, List.getElem?_eq_getElem p⟩;obtain ⟨bb, J, cs, rfl, c, b⟩ := slrd_at (H.out _ d) o;obtain ⟨I, D, rfl, B⟩ := desc_shape c;have m := descsOk1_any u I D wr B;obtain ⟨q, r, s, z⟩ := cellsAt4 b rfl;have C : Hid (xs[k]? = some u) := o;clear o b c B;cases g : descB u
   ·have n : Hid (badP descB xs = k) := badP_at C.out g f;rw [g] at m;go_wp2_with fail
    refine m.mono ?_;rintro e G ⟨rfl, l⟩;replace d := below_step d l;clear l q r s z;go_wp2;go_ret
    exact ⟨ret_int n.out.symm, d⟩
   ·rw [g] at m;go_wp2_with fail
    refine m.mono ?_;rintro e G ⟨rfl, l⟩;replace d := below_step d l;clear l q r s z;go_wp2;go_roundw
    case rel =>
     refine ⟨k + 1, by omega, by go_num, fun j v hj hv => ?_, d⟩;by_cases E : j < k
     ·exact f j v E hv
     ·have : j = k := by omega
      subst this;rw [C.out] at hv;cases hv;exact g
    case measure => simp [intOf]; omega
  ·have n : Hid (badP descB xs = -1) := badP_no fun j v hv => f j v (by have := (List.getElem?_eq_some_iff.1 hv).1; omega) hv;go_wp2;go_ret
   exact ⟨ret_int n.out.symm, d⟩
theorem conBadD (a : Option Addr) (xs : List DescD) (cap : Nat) (w : World) (h : SlRd descR w a xs) (hm : xs.length ≤ maxLen) :
    Calls Tryz.prog 238 #[sL a xs.length cap, .func (.func 239) #[] #[]] w fun e w' => e = .returned (.bool (!xs.all descB)) ∧ Bl w w' := by
 have d := idxBadD a xs cap w h hm;have b := badP_all descB xs;clear h hm;generalize badP descB xs = q at d b;generalize xs.all descB = y at b ⊢;subst b;by_cases g : q < 0
 ·have c : ¬ (0 ≤ q) := by omega
  go_enter Tryz.func238, Tryz.ntmps238;go_wp2_with fail
  refine d.mono ?_;rintro e i ⟨rfl, f⟩;go_wp2;go_ret
  exact ⟨by simp [g], f⟩
 ·have c : 0 ≤ q := by omega
  go_enter Tryz.func238, Tryz.ntmps238;go_wp2_with fail
  refine d.mono ?_;rintro e i ⟨rfl, f⟩;go_wp2;go_ret
  exact ⟨by simp [g], f⟩
theorem implDescsOk_any (a : Option Addr) (xs : List DescD) (cap : Nat) (w : World) (h : SlRd descR w a xs) (hm : xs.length ≤ maxLen) :
    Calls Tryz.prog 199 #[sL a xs.length cap] w fun e w' => e = .returned (.bool (descsB xs)) ∧ Bl w w' := by
 have c := conBadD a xs cap w h hm;have d : xs.length ≤ 9223372036854775807 := hm;unfold descsB;generalize xs.all descB = y at c ⊢;clear h hm;by_cases g : xs.length ≤ 30
 ·have b : (xs.length : Int) ≤ 30 := by omega
  go_enter Tryz.func199, Tryz.ntmps199;go_wp2_with fail
  refine c.mono ?_;rintro e w1 ⟨rfl, f⟩;go_wp2;go_ret
  exact ⟨by simp [g], f⟩
 ·have b : ¬ ((xs.length : Int) ≤ 30) := by omega
  go_enter Tryz.func199, Tryz.ntmps199;go_wp2;go_ret
  exact ⟨by simp, Below.refl _ _⟩
theorem queue_any (x : DmaD) (a b : Option Addr) (ca cb : Nat) (w : World) :
    Calls Tryz.prog 173 #[.agg #[sL a x.1.length ca, nI x.2.1, .bool x.2.2.1, sL b x.2.2.2.length cb]] w fun e w' => e = .returned (.agg #[sL a x.1.length ca, nI x.2.1]) ∧ Bl w w' := by
 have c : Hid (∀ o o', Bl w ((w.alloc o).alloc o')) := fun o o' => below_step (box_below w o) (box_below _ o');go_enter Tryz.func173, Tryz.ntmps173;go_wp2;refine bodyPost_ret (v := .agg #[sL a x.1.length ca, nI x.2.1]) (by simp [results, Tryz.results173, go_sem]) rfl ⟨rfl, ?_⟩;exact c.out _ _
theorem place_any (x : DmaD) (a : Option Addr) (ca : Nat) (w : World) (hl : x.1.length ≤ maxLen) :
    Calls Tryz.prog 200 #[.agg #[sL a x.1.length ca, nI x.2.1]] w fun e w' => e = .returned (.bool (placeB1 x)) ∧ Bl w w' := by
 have d : x.1.length ≤ 9223372036854775807 := hl;have B := box_below w (.cells #[sL a x.1.length ca, nI x.2.1] 222);have b : Hid (∀ W, Calls Tryz.prog 156 #[nI x.2.1, nI 0, nI (x.1.length : Int)] W fun e w' => e = .returned (.bool (placeB1 x)) ∧ Bl W w') := fun W => (between_any x.2.1 0 x.1.length W).mono fun e w' ⟨q, r⟩ => ⟨q, be_eq r⟩;generalize placeB1 x = q at b ⊢;clear hl;go_enter Tryz.func200, Tryz.ntmps200;go_wp2_with fail
 generalize w.alloc (.cells #[sL a x.1.length ca, nI x.2.1] 222) = W0 at B ⊢;refine (b.out _).mono ?_;rintro e w1 ⟨rfl, c⟩;replace B := below_step B c;clear c;go_wp2;go_ret
 exact ⟨rfl, B⟩
theorem hasNext_any (x : DmaD) (a : Option Addr) (ca : Nat) (w : World) (hl : x.1.length ≤ maxLen) :
    Calls Tryz.prog 174 #[.agg #[sL a x.1.length ca, nI x.2.1]] w fun e w' => e = .returned (.bool (decide (x.2.1 < (x.1.length : Int)))) ∧ Bl w w' := by
 have d : x.1.length ≤ 9223372036854775807 := hl;have c : Hid _ := box_below w (.cells #[sL a x.1.length ca, nI x.2.1] 222);clear hl;by_cases b : x.2.1 < (x.1.length : Int)
 ·go_enter Tryz.func174, Tryz.ntmps174;go_wp2;go_ret
  exact ⟨by simp [b], c.out⟩
 ·go_enter Tryz.func174, Tryz.ntmps174;go_wp2;go_ret
  exact ⟨by simp [b], c.out⟩
theorem done_any (x : DmaD) (a : Option Addr) (ca : Nat) (w : World) (h0 : 0 ≤ x.2.1) (h1 : x.2.1 ≤ (x.1.length : Int)) (h2 : x.1.length ≤ ca) (h3 : ca ≤ maxLen) :
    Calls Tryz.prog 203 #[.agg #[sL a x.1.length ca, nI x.2.1]] w fun e w' => e = .returned (sL a x.2.1.toNat ca) ∧ Bl w w' := by
 have d : ca ≤ 9223372036854775807 := h3;have c : Hid (∀ o, Bl w (w.alloc o)) := fun o => box_below w o;obtain ⟨n, b⟩ : ∃ n : Nat, x.2.1 = n := ⟨x.2.1.toNat, by omega⟩;rw [b] at h1 ⊢;have f : n ≤ x.1.length := by omega
 have g : n ≤ ca := by omega
 have i : (n : Int) ≤ (ca : Int) := by omega
 clear h0 h3 b;go_enter Tryz.func203, Tryz.ntmps203;go_wp2;go_ret
 exact ⟨by simp, c.out _⟩
theorem waitsOk_any (x : DmaD) (a b : Option Addr) (ca cb : Nat) (w : World) (hl : x.1.length ≤ maxLen) :
    Calls Tryz.prog 201 #[.agg #[sL a x.1.length ca, nI x.2.1, .bool x.2.2.1, sL b x.2.2.2.length cb]] w fun e w' => e = .returned (.bool (waitB1 x)) ∧ Bl w w' := by
 have k : Hid (∀ W, Calls Tryz.prog 173 #[.agg #[sL a x.1.length ca, nI x.2.1, .bool x.2.2.1, sL b x.2.2.2.length cb]] W fun e w' => e = .returned (.agg #[sL a x.1.length ca, nI x.2.1]) ∧ Bl W w') := fun W => queue_any x a b ca cb W;have r : Hid (∀ W, Calls Tryz.prog 174 #[.agg #[sL a x.1.length ca, nI x.2.1]] W fun e w' => e = .returned (.bool (decide (x.2.1 < (x.1.length : Int)))) ∧ Bl W w') := fun W => hasNext_any x a ca W hl;unfold waitB1;generalize decide (x.2.1 < (x.1.length : Int)) = q2 at r ⊢;clear hl;cases q : x.2.2.1
 ·skip
  rw [q] at k;have B := Below.refl w.heap.size w;go_enter Tryz.func201, Tryz.ntmps201;go_upto_region 1 with fail
  generalize c : w.alloc _ = u1w;have D := boxH c;have i := boxB c;have f := boxL c;clear c;replace B := below_step B i;clear i;have l := lE f;have j := lE f.symm;clear f;obtain ⟨Dc0, Dc1, Dc2, Dc3⟩ := cells_4 D;have Dlt := (ltH D);have m : Hid _ := B;clear B D;go_wp2;go_ret
  exact ⟨by simp, m.out⟩
 ·skip
  rw [q] at k;have B := Below.refl w.heap.size w;go_enter Tryz.func201, Tryz.ntmps201;go_upto_region 1 with fail
  generalize c : w.alloc _ = u1w;have D := boxH c;have i := boxB c;have f := boxL c;clear c;replace B := below_step B i;clear i;have l := lE f;have j := lE f.symm;clear f;obtain ⟨Dc0, Dc1, Dc2, Dc3⟩ := cells_4 D;have Dlt := (ltH D);go_wp2_with fail
  clear Dc0 Dc1 Dc2 Dc3 Dlt;refine (k.out _).mono ?_;rintro e g ⟨rfl, d⟩;have o : u1w.heap.size ≤ g.heap.size := d.size;replace B := below_step B d;replace D := row_keep d D;clear d;obtain ⟨Dc0, Dc1, Dc2, Dc3⟩ := cells_4 D;have Dlt := (ltH D);go_wp2_with fail
  clear Dc0 Dc1 Dc2 Dc3 Dlt;refine (r.out _).mono ?_;rintro e n ⟨rfl, d⟩;have p : g.heap.size ≤ n.heap.size := d.size;replace B := below_step B d;replace D := row_keep d D;clear d;obtain ⟨Dc0, Dc1, Dc2, Dc3⟩ := cells_4 D;have Dlt := (ltH D);have m : Hid _ := B;clear B D;go_wp2;go_ret
  exact ⟨by simp, m.out⟩
theorem toldOk_any (u : DescD) (ua : Option Addr) (uc : Nat) (ws : List Int) (wa : Option Addr) (wc : Nat) (w : World) (h : SlRd intR w wa ws) (hl : ws.length ≤ maxLen) :
    Calls Tryz.prog 204 #[.agg #[.bool u.1, nI u.2.1, nI u.2.2.1, sL ua u.2.2.2.length uc], sL wa ws.length wc] w fun e w' => e = .returned (.bool (toldB u ws)) ∧ Bl w w' := by
 have o : Hid (∀ W, Bl w W → Calls Tryz.prog 91 #[sL wa ws.length wc] W fun e w' => e = .returned (.bool (isL ws)) ∧ Bl W w') := fun W hb => implLineOk_any wa ws wc W (reads_of (slrd_next h hb));have n : ws.length ≤ 9223372036854775807 := hl;unfold toldB;clear h hl;cases hw : u.1
 ·skip
  have B := Below.refl w.heap.size w;go_enter Tryz.func204, Tryz.ntmps204;go_upto_region 1 with fail
  generalize a : w.alloc _ = u1w;have D := boxH a;have c := boxB a;have b := boxL a;clear a;replace B := below_step B c;clear c;have g := lE b;have f := lE b.symm;clear b;obtain ⟨Dc0, Dc1, Dc2, Dc3⟩ := cells_4 D;have Dlt := (ltH D);go_wp2_with fail
  clear Dc0 Dc1 Dc2 Dc3 Dlt;refine (o.out _ B).mono ?_;rintro e l ⟨rfl, j⟩;have m : u1w.heap.size ≤ l.heap.size := j.size;replace B := below_step B j;replace D := row_keep j D;clear j;obtain ⟨Dc0, Dc1, Dc2, Dc3⟩ := cells_4 D;have Dlt := (ltH D);have i : Hid _ := B;clear B D;go_wp2;go_ret
  exact ⟨by simp, i.out⟩
 ·by_cases d : ws.length = 0
  ·have p : ((ws.length : Int) == 0) = true := by simp [d]
   have k : Hid (ws = []) := List.length_eq_zero_iff.1 d;clear d;have B := Below.refl w.heap.size w;go_enter Tryz.func204, Tryz.ntmps204;go_upto_region 1 with fail
   generalize a : w.alloc _ = u1w;have D := boxH a;have c := boxB a;have b := boxL a;clear a;replace B := below_step B c;clear c;have g := lE b;have f := lE b.symm;clear b;obtain ⟨Dc0, Dc1, Dc2, Dc3⟩ := cells_4 D;have Dlt := (ltH D);have i : Hid _ := B;clear B D;go_wp2;go_ret
   exact ⟨by simp [k.out], i.out⟩
  ·have p : ((ws.length : Int) == 0) = false := by simp [d]
   have k : Hid (¬ ws = []) := fun q => d (List.length_eq_zero_iff.2 q);clear d;have B := Below.refl w.heap.size w;go_enter Tryz.func204, Tryz.ntmps204;go_upto_region 1 with fail
   generalize a : w.alloc _ = u1w;have D := boxH a;have c := boxB a;have b := boxL a;clear a;replace B := below_step B c;clear c;have g := lE b;have f := lE b.symm;clear b;obtain ⟨Dc0, Dc1, Dc2, Dc3⟩ := cells_4 D;have Dlt := (ltH D);have i : Hid _ := B;clear B D;go_wp2;go_ret
   exact ⟨by simp [k.out], i.out⟩
theorem eqFn_any (a b : Option Addr) (xs : List DescD) (ys : List (List Int)) (ca cb : Nat) (w : World) (h1 : SlRd descR w a xs) (h2 : SlRd intsR w b ys) (m1 : xs.length ≤ maxLen) (m2 : ys.length ≤ maxLen) :
    Calls Tryz.prog 202 #[sL a xs.length ca, sL b ys.length cb, .func (.func 204) #[] #[]] w fun e w' => e = .returned (.bool (toldL xs ys)) ∧ Bl w w' := by
 have fA : xs.length ≤ 9223372036854775807 := m1;have G : ys.length ≤ 9223372036854775807 := m2;by_cases r : xs.length = ys.length
 ·have H : Hid (xs.length = ys.length) := r;have Z : ((xs.length : Int) != (xs.length : Int)) = false := by simp
  have V : Hid (∀ W, Bl w W → SlRd descR W a xs) := fun W f => slrd_next h1 f;have H2 : Hid (∀ W, Bl w W → SlRd intsR W b ys) := fun W f => slrd_next h2 f;rw [← r];clear h1 h2 m1 m2 r G;go_enter Tryz.func202, Tryz.ntmps202;go_wp2;go_loopw [17] (fun i wr => ∃ k : Nat, k ≤ xs.length ∧ i = nI k ∧ (∀ j u v, j < k → xs[j]? = some u → ys[j]? = some v → toldB u v = true) ∧ Bl w wr) (fun i _ => xs.length - (intOf i).toNat)
  case atStart => exact ⟨0, Nat.zero_le _, rfl, fun j u v hj => by omega, Below.refl _ _⟩
  case round =>
   obtain ⟨k, hk, rfl, p, g⟩ := hrel;by_cases J : k < xs.length
   ·have N : (k : Int) < (xs.length : Int) := by omega
    obtain ⟨u, F⟩ : ∃ x, xs[k]? = some x := ⟨_, List.getElem?_eq_getElem J⟩;obtain ⟨v, q⟩ : ∃ v, ys[k]? = some v := ⟨_, List.getElem?_eq_getElem (by have := H.out; omega)⟩;obtain ⟨bb, gA, cs, rfl, l, c⟩ := slrd_at (V.out _ g) F;obtain ⟨I, E, rfl, -⟩ := desc_shape l;obtain ⟨U, s, ds, rfl, y, d⟩ := slrd_at (H2.out _ g) q;obtain ⟨R, wc, rfl, n1, n2, O⟩ := y;obtain ⟨C, K, L, M⟩ := cellsAt4 c rfl;have A := d 0 _ rfl;rw [show s + (k * intsR.size + 0) = s + k from by rw [show intsR.size = 1 from rfl]; omega] at A;have z : Hid (∀ W, Bl wr W → Calls Tryz.prog 204 #[.agg #[.bool u.1, nI u.2.1, nI u.2.2.1, sL I u.2.2.2.length E], sL R v.length wc] W fun e w' => e = .returned (.bool (toldB u v)) ∧ Bl W w') := fun W f => toldOk_any u I E v R wc W (slrd_next O f) (Nat.le_trans n1 n2);have B : Hid (xs[k]? = some u ∧ ys[k]? = some v) := ⟨F, q⟩;have Y : U < wr.heap.size := cell_lt A;have T : bb < wr.heap.size := cell_lt C;have X : k < ys.length := by have := H.out; omega
    have S : (k : Int) < (ys.length : Int) := by omega
    clear F q c d l O;have m := box_below wr (.cells #[.bool u.1, nI u.2.1, nI u.2.2.1, sL I u.2.2.2.length E] 187);cases f : toldB u v
    ·have n : Hid (toldL xs ys = false) := toldL_no B.out.1 B.out.2 f;rw [f] at z;go_wp2_with fail
     refine (z.out _ m).mono ?_;rintro e w2 ⟨rfl, o⟩;replace g := below_step (below_step g m) o;clear o m C K L M A;go_wp2;go_ret
     exact ⟨ret_bool n.out.symm, g⟩
    ·rw [f] at z;go_wp2_with fail
     refine (z.out _ m).mono ?_;rintro e w2 ⟨rfl, o⟩;replace g := below_step (below_step g m) o;clear o m C K L M A;go_wp2;go_roundw
     case rel =>
      refine ⟨k + 1, by omega, by go_num, fun j u' v' hj hu' hv' => ?_, g⟩;by_cases D : j < k
      ·exact p j u' v' D hu' hv'
      ·have : j = k := by omega
       subst this;rw [B.out.1] at hu';rw [B.out.2] at hv';cases hu'
       cases hv'
       exact f
     case measure => simp [intOf]; omega
   ·have n : Hid (toldL xs ys = true) := toldL_yes H.out fun j u v hu q => p j u v (by have := (List.getElem?_eq_some_iff.1 hu).1; omega) hu q;go_wp2;go_ret
    exact ⟨ret_bool n.out.symm, g⟩
 ·have Z : ((xs.length : Int) != (ys.length : Int)) = true := by simp; omega
  have n : Hid (toldL xs ys = false) := by unfold Hid toldL; rw [decide_eq_false r, Bool.false_and]
  clear h1 h2 m1 m2 r;go_enter Tryz.func202, Tryz.ntmps202;go_wp2;go_ret
  exact ⟨ret_bool n.out.symm, Below.refl _ _⟩
end Go.Proofs.YtdamokokcdcedaaGreatDoor
