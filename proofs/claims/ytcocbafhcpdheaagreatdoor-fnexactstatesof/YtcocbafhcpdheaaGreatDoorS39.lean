import Derived.Test.YtcocbafhcpdheaaGreatDoorS00Box
import Derived.Test.YtcocbafhcpdheaaGreatDoorS38
namespace Go.Proofs.YtcocbafhcpdheaaGreatDoor
set_option maxHeartbeats 2000000
set_option maxRecDepth 20000
open Go.ChangeShapes Go.WideShapes Go.ChangeAt Go.RowKit
set_option linter.unusedVariables false
def toldB (u : DescD) (ws : List Int) : Bool := if u.1 then decide (ws.length = 0) else isL ws
def toldL (xs : List DescD) (ys : List (List Int)) : Bool := decide (xs.length = ys.length) && (xs.zip ys).all fun z => toldB z.1 z.2
def descsB (xs : List DescD) : Bool := decide (xs.length ≤ 30) && xs.all descB
def placeB1 (x : DmaD) : Bool := betw x.2.1 0 x.1.length
def waitB1 (x : DmaD) : Bool := !x.2.2.1 || decide (x.2.1 < (x.1.length : Int))
def dmaB (x : DmaD) : Bool := descsB x.1 && (placeB1 x && (waitB1 x && toldL (x.1.take x.2.1.toNat) x.2.2.2))
theorem toldL_no {xs : List DescD} {ys : List (List Int)} {k : Nat} {u : DescD} {v : List Int} (hu : xs[k]? = some u) (hv : ys[k]? = some v) (h : toldB u v = false) : toldL xs ys = false := by
 have a : (u, v) ∈ xs.zip ys := List.mem_of_getElem? (by rw [List.getElem?_zip_eq_some]; exact ⟨hu, hv⟩);have : (xs.zip ys).all (fun z => toldB z.1 z.2) = false := by
  cases q : (xs.zip ys).all (fun z => toldB z.1 z.2)
  ·rfl
  ·have := List.all_eq_true.1 q _ a;simp only at this
   rw [h] at this;cases this
 unfold toldL;rw [this, Bool.and_false]
theorem toldL_yes {xs : List DescD} {ys : List (List Int)} (hl : xs.length = ys.length) (h : ∀ (k : Nat) u v, xs[k]? = some u → ys[k]? = some v → toldB u v = true) : toldL xs ys = true := by
 unfold toldL;rw [decide_eq_true hl, Bool.true_and, List.all_eq_true];rintro ⟨u, v⟩ b;obtain ⟨k, a⟩ := List.getElem?_of_mem b;rw [List.getElem?_zip_eq_some] at a;exact h k u v a.1 a.2
theorem desc_shape {w : World} {cs : List Value} {u : DescD} (h : descR.rd w cs u) : ∃ (ua : Option Addr) (uc : Nat), cs = [.bool u.1, .int .i64 u.2.1, .int .i64 u.2.2.1, .slice ua u.2.2.2.length uc] ∧ SlRd intR w ua u.2.2.2 := by
 obtain ⟨a, c, rfl, -, -, -, -, q⟩ := desc_rd h;exact ⟨a, c, rfl, q⟩
theorem descsOk1_any (u : DescD) (ua : Option Addr) (uc : Nat) (w : World) (h : SlRd intR w ua u.2.2.2) :
    Calls Tryz.prog 221 #[.agg #[.bool u.1, .int .i64 u.2.1, .int .i64 u.2.2.1, .slice ua u.2.2.2.length uc]] w fun e w' => e = .returned (.bool (!descB u)) ∧ Below w.heap.size w w' := by
 have B := box_below w (.cells #[.bool u.1, .int .i64 u.2.1, .int .i64 u.2.2.1, .slice ua u.2.2.2.length uc] 165);have a : Hid _ := fun (W : World) (hb : Below w.heap.size w W) => implDescOk_any u.1 u.2.1 u.2.2.1 u.2.2.2 ua uc W (slrd_next h hb);generalize descB u = q at a ⊢;clear h;go_enter Tryz.func221, Tryz.ntmps221;go_wp2_with fail
 generalize w.alloc (.cells #[.bool u.1, .int .i64 u.2.1, .int .i64 u.2.2.1, .slice ua u.2.2.2.length uc] 165) = W0 at B ⊢;refine (a.out _ B).mono ?_;rintro e w1 ⟨rfl, b⟩;go_wp2;go_ret
 exact ⟨rfl, below_step B b⟩
theorem idxBadD (a : Option Addr) (xs : List DescD) (cap : Nat) (w : World) (h : SlRd descR w a xs) (hm : xs.length ≤ maxLen) :
    Calls Tryz.prog 255 #[.slice a xs.length cap, .func (.func 221) #[] #[]] w fun e w' => e = .returned (.int .i64 (badP descB xs)) ∧ Below w.heap.size w w' := by
 have D : xs.length ≤ 9223372036854775807 := hm;have F : Hid (∀ W, Below w.heap.size w W → SlRd descR W a xs) := fun W g => slrd_keep h fun k C => g.block k C;clear h hm;go_enter Tryz.func255, Tryz.ntmps255;go_wp2;go_loopw [8] (fun i wr => ∃ k : Nat, k ≤ xs.length ∧ i = .int .i64 k ∧ (∀ j v, j < k → xs[j]? = some v → descB v = true) ∧ Below w.heap.size w wr) (fun i _ => xs.length - (intOf i).toNat)
 case atStart => exact ⟨0, Nat.zero_le _, rfl, fun j v hj => by omega, Below.refl _ _⟩
 case round =>
  obtain ⟨k, C, rfl, f, d⟩ := hrel;by_cases n : k < xs.length
  ·have B : (k : Int) < (xs.length : Int) := by omega
   obtain ⟨u, o⟩ : ∃ x, xs[k]? = some x := ⟨_, List.getElem?_eq_getElem n⟩;obtain ⟨bb, E, cs, rfl, c, b⟩ := slrd_at (F.out _ d) o;obtain ⟨I, H, rfl, y⟩ := desc_shape c;have m := descsOk1_any u I H wr y;obtain ⟨q, s, A, r⟩ := cellsAt4 b rfl;have z : Hid (xs[k]? = some u) := o;clear o b c y;cases g : descB u
   ·have p : Hid (badP descB xs = k) := badP_at z.out g f;rw [g] at m;go_wp2_with fail
    refine m.mono ?_;rintro e G ⟨rfl, l⟩;replace d := below_step d l;clear l q s A r;go_wp2;go_ret
    exact ⟨ret_int p.out.symm, d⟩
   ·rw [g] at m;go_wp2_with fail
    refine m.mono ?_;rintro e G ⟨rfl, l⟩;replace d := below_step d l;clear l q s A r;go_wp2;go_roundw
    case rel =>
     refine ⟨k + 1, by omega, by go_num, fun j v hj hv => ?_, d⟩;by_cases J : j < k
     ·exact f j v J hv
     ·have : j = k := by omega
      subst this;rw [z.out] at hv;cases hv;exact g
    case measure => simp [intOf]; omega
  ·have p : Hid (badP descB xs = -1) := badP_no fun j v hv => f j v (by have := (List.getElem?_eq_some_iff.1 hv).1; omega) hv;go_wp2;go_ret
   exact ⟨ret_int p.out.symm, d⟩
theorem conBadD (a : Option Addr) (xs : List DescD) (cap : Nat) (w : World) (h : SlRd descR w a xs) (hm : xs.length ≤ maxLen) :
    Calls Tryz.prog 220 #[.slice a xs.length cap, .func (.func 221) #[] #[]] w fun e w' => e = .returned (.bool (!xs.all descB)) ∧ Below w.heap.size w w' := by
 have d := idxBadD a xs cap w h hm;have b := badP_all descB xs;clear h hm;generalize badP descB xs = q at d b;generalize xs.all descB = y at b ⊢;subst b;by_cases g : q < 0
 ·have c : ¬ (0 ≤ q) := by omega
  go_enter Tryz.func220, Tryz.ntmps220;go_wp2_with fail
  refine d.mono ?_;rintro e i ⟨rfl, f⟩;go_wp2;go_ret
  exact ⟨by simp [g], f⟩
 ·have c : 0 ≤ q := by omega
  go_enter Tryz.func220, Tryz.ntmps220;go_wp2_with fail
  refine d.mono ?_;rintro e i ⟨rfl, f⟩;go_wp2;go_ret
  exact ⟨by simp [g], f⟩
theorem implDescsOk_any (a : Option Addr) (xs : List DescD) (cap : Nat) (w : World) (h : SlRd descR w a xs) (hm : xs.length ≤ maxLen) :
    Calls Tryz.prog 176 #[.slice a xs.length cap] w fun e w' => e = .returned (.bool (descsB xs)) ∧ Below w.heap.size w w' := by
 have c := conBadD a xs cap w h hm;have d : xs.length ≤ 9223372036854775807 := hm;unfold descsB;generalize xs.all descB = y at c ⊢;clear h hm;by_cases g : xs.length ≤ 30
 ·have b : (xs.length : Int) ≤ 30 := by omega
  go_enter Tryz.func176, Tryz.ntmps176;go_wp2_with fail
  refine c.mono ?_;rintro e w1 ⟨rfl, f⟩;go_wp2;go_ret
  exact ⟨by simp [g], f⟩
 ·have b : ¬ ((xs.length : Int) ≤ 30) := by omega
  go_enter Tryz.func176, Tryz.ntmps176;go_wp2;go_ret
  exact ⟨by simp, Below.refl _ _⟩
theorem queue_any (x : DmaD) (a b : Option Addr) (ca cb : Nat) (w : World) :
    Calls Tryz.prog 177 #[.agg #[.slice a x.1.length ca, .int .i64 x.2.1, .bool x.2.2.1, .slice b x.2.2.2.length cb]] w fun e w' => e = .returned (.agg #[.slice a x.1.length ca, .int .i64 x.2.1]) ∧ Below w.heap.size w w' := by
 have c : Hid (∀ o o', Below w.heap.size w ((w.alloc o).alloc o')) := fun o o' => below_step (box_below w o) (box_below _ o');go_enter Tryz.func177, Tryz.ntmps177;go_wp2;refine bodyPost_ret (v := .agg #[.slice a x.1.length ca, .int .i64 x.2.1]) (by simp [results, Tryz.results177, go_sem]) rfl ⟨rfl, ?_⟩;exact c.out _ _
theorem place_any (x : DmaD) (a : Option Addr) (ca : Nat) (w : World) (hl : x.1.length ≤ maxLen) :
    Calls Tryz.prog 178 #[.agg #[.slice a x.1.length ca, .int .i64 x.2.1]] w fun e w' => e = .returned (.bool (placeB1 x)) ∧ Below w.heap.size w w' := by
 have d : x.1.length ≤ 9223372036854775807 := hl;have B := box_below w (.cells #[.slice a x.1.length ca, .int .i64 x.2.1] 206);have b : Hid (∀ W, Calls Tryz.prog 76 #[.int .i64 x.2.1, .int .i64 0, .int .i64 (x.1.length : Int)] W fun e w' => e = .returned (.bool (placeB1 x)) ∧ Below W.heap.size W w') := fun W => (between_any x.2.1 0 x.1.length W).mono fun e w' ⟨q, r⟩ => ⟨q, be_eq r⟩;generalize placeB1 x = q at b ⊢;clear hl;go_enter Tryz.func178, Tryz.ntmps178;go_wp2_with fail
 generalize w.alloc (.cells #[.slice a x.1.length ca, .int .i64 x.2.1] 206) = W0 at B ⊢;refine (b.out _).mono ?_;rintro e w1 ⟨rfl, c⟩;replace B := below_step B c;clear c;go_wp2;go_ret
 exact ⟨rfl, B⟩
theorem hasNext_any (x : DmaD) (a : Option Addr) (ca : Nat) (w : World) (hl : x.1.length ≤ maxLen) :
    Calls Tryz.prog 223 #[.agg #[.slice a x.1.length ca, .int .i64 x.2.1]] w fun e w' => e = .returned (.bool (decide (x.2.1 < (x.1.length : Int)))) ∧ Below w.heap.size w w' := by
 have d : x.1.length ≤ 9223372036854775807 := hl;have b : Hid _ := box_below w (.cells #[.slice a x.1.length ca, .int .i64 x.2.1] 206);clear hl;by_cases c : x.2.1 < (x.1.length : Int)
 ·go_enter Tryz.func223, Tryz.ntmps223;go_wp2;go_ret
  exact ⟨by simp [c], b.out⟩
 ·go_enter Tryz.func223, Tryz.ntmps223;go_wp2;go_ret
  exact ⟨by simp [c], b.out⟩
theorem done_any (x : DmaD) (a : Option Addr) (ca : Nat) (w : World) (h0 : 0 ≤ x.2.1) (h1 : x.2.1 ≤ (x.1.length : Int)) (h2 : x.1.length ≤ ca) (h3 : ca ≤ maxLen) :
    Calls Tryz.prog 181 #[.agg #[.slice a x.1.length ca, .int .i64 x.2.1]] w fun e w' => e = .returned (.slice a x.2.1.toNat ca) ∧ Below w.heap.size w w' := by
 have i : ca ≤ 9223372036854775807 := h3;have d : Hid _ := fun (W : World) (hb : Below w.heap.size w (w.alloc W)) := fun W => box_below w W;obtain ⟨n, b⟩ : ∃ n : Nat, x.2.1 = n := ⟨x.2.1.toNat, by omega⟩;rw [b] at h1 ⊢;have g : n ≤ x.1.length := by omega
 have f : n ≤ ca := by omega
 have c : (n : Int) ≤ (ca : Int) := by omega
 clear h0 h3 b;go_enter Tryz.func181, Tryz.ntmps181;go_wp2;go_ret
 exact ⟨by simp, d.out _⟩
theorem waitsOk_any (x : DmaD) (a b : Option Addr) (ca cb : Nat) (w : World) (hl : x.1.length ≤ maxLen) :
    Calls Tryz.prog 179 #[.agg #[.slice a x.1.length ca, .int .i64 x.2.1, .bool x.2.2.1, .slice b x.2.2.2.length cb]] w fun e w' => e = .returned (.bool (waitB1 x)) ∧ Below w.heap.size w w' := by
 have l : Hid (∀ W, Calls Tryz.prog 177 #[.agg #[.slice a x.1.length ca, .int .i64 x.2.1, .bool x.2.2.1, .slice b x.2.2.2.length cb]] W fun e w' => e = .returned (.agg #[.slice a x.1.length ca, .int .i64 x.2.1]) ∧ Below W.heap.size W w') := fun W => queue_any x a b ca cb W;have p : Hid (∀ W, Calls Tryz.prog 223 #[.agg #[.slice a x.1.length ca, .int .i64 x.2.1]] W fun e w' => e = .returned (.bool (decide (x.2.1 < (x.1.length : Int)))) ∧ Below W.heap.size W w') := fun W => hasNext_any x a ca W hl;unfold waitB1;generalize decide (x.2.1 < (x.1.length : Int)) = q2 at p ⊢;clear hl;cases q : x.2.2.1
 ·skip
  rw [q] at l;have B := Below.refl w.heap.size w;go_enter Tryz.func179, Tryz.ntmps179;go_upto_region 1 with fail
  generalize c : w.alloc _ = u1w;have D := boxH c;have i := boxB c;have f := boxL c;clear c;replace B := below_step B i;clear i;have n := Nat.le_of_eq f;have j := Nat.le_of_eq f.symm;clear f;obtain ⟨Dc0, Dc1, Dc2, Dc3⟩ := cells_4 D;have Dlt := (ltH D);have m : Hid _ := B;clear B D;go_wp2;go_ret
  exact ⟨by simp, m.out⟩
 ·skip
  rw [q] at l;have B := Below.refl w.heap.size w;go_enter Tryz.func179, Tryz.ntmps179;go_upto_region 1 with fail
  generalize c : w.alloc _ = u1w;have D := boxH c;have i := boxB c;have f := boxL c;clear c;replace B := below_step B i;clear i;have n := Nat.le_of_eq f;have j := Nat.le_of_eq f.symm;clear f;obtain ⟨Dc0, Dc1, Dc2, Dc3⟩ := cells_4 D;have Dlt := (ltH D);go_wp2_with fail
  clear Dc0 Dc1 Dc2 Dc3 Dlt;refine (l.out _).mono ?_;rintro e g ⟨rfl, d⟩;have r : u1w.heap.size ≤ g.heap.size := d.size;replace B := below_step B d;replace D := row_keep d D;clear d;obtain ⟨Dc0, Dc1, Dc2, Dc3⟩ := cells_4 D;have Dlt := (ltH D);go_wp2_with fail
  clear Dc0 Dc1 Dc2 Dc3 Dlt;refine (p.out _).mono ?_;rintro e k ⟨rfl, d⟩;have o : g.heap.size ≤ k.heap.size := d.size;replace B := below_step B d;replace D := row_keep d D;clear d;obtain ⟨Dc0, Dc1, Dc2, Dc3⟩ := cells_4 D;have Dlt := (ltH D);have m : Hid _ := B;clear B D;go_wp2;go_ret
  exact ⟨by simp, m.out⟩
theorem toldOk_any (u : DescD) (ua : Option Addr) (uc : Nat) (ws : List Int) (wa : Option Addr) (wc : Nat) (w : World) (h : SlRd intR w wa ws) (hl : ws.length ≤ maxLen) :
    Calls Tryz.prog 182 #[.agg #[.bool u.1, .int .i64 u.2.1, .int .i64 u.2.2.1, .slice ua u.2.2.2.length uc], .slice wa ws.length wc] w fun e w' => e = .returned (.bool (toldB u ws)) ∧ Below w.heap.size w w' := by
 have n : Hid (∀ W, Below w.heap.size w W) => implLineOk_any wa ws wc W (reads_of (slrd_next h hb));have o : ws.length ≤ 9223372036854775807 := hl;unfold toldB;clear h hl;cases hw : u.1
 ·skip
  have B := Below.refl w.heap.size w;go_enter Tryz.func182, Tryz.ntmps182;go_upto_region 1 with fail
  generalize a : w.alloc _ = u1w;have D := boxH a;have c := boxB a;have b := boxL a;clear a;replace B := below_step B c;clear c;have i := Nat.le_of_eq b;have f := Nat.le_of_eq b.symm;clear b;obtain ⟨Dc0, Dc1, Dc2, Dc3⟩ := cells_4 D;have Dlt := (ltH D);go_wp2_with fail
  clear Dc0 Dc1 Dc2 Dc3 Dlt;refine (n.out _ B).mono ?_;rintro e l ⟨rfl, j⟩;have m : u1w.heap.size ≤ l.heap.size := j.size;replace B := below_step B j;replace D := row_keep j D;clear j;obtain ⟨Dc0, Dc1, Dc2, Dc3⟩ := cells_4 D;have Dlt := (ltH D);have g : Hid _ := B;clear B D;go_wp2;go_ret
  exact ⟨by simp, g.out⟩
 ·by_cases d : ws.length = 0
  ·have p : ((ws.length : Int) == 0) = true := by simp [d]
   have k : Hid (ws = []) := List.length_eq_zero_iff.1 d;clear d;have B := Below.refl w.heap.size w;go_enter Tryz.func182, Tryz.ntmps182;go_upto_region 1 with fail
   generalize a : w.alloc _ = u1w;have D := boxH a;have c := boxB a;have b := boxL a;clear a;replace B := below_step B c;clear c;have i := Nat.le_of_eq b;have f := Nat.le_of_eq b.symm;clear b;obtain ⟨Dc0, Dc1, Dc2, Dc3⟩ := cells_4 D;have Dlt := (ltH D);have g : Hid _ := B;clear B D;go_wp2;go_ret
   exact ⟨by simp [k.out], g.out⟩
  ·have p : ((ws.length : Int) == 0) = false := by simp [d]
   have k : Hid (¬ ws = []) := fun q => d (List.length_eq_zero_iff.2 q);clear d;have B := Below.refl w.heap.size w;go_enter Tryz.func182, Tryz.ntmps182;go_upto_region 1 with fail
   generalize a : w.alloc _ = u1w;have D := boxH a;have c := boxB a;have b := boxL a;clear a;replace B := below_step B c;clear c;have i := Nat.le_of_eq b;have f := Nat.le_of_eq b.symm;clear b;obtain ⟨Dc0, Dc1, Dc2, Dc3⟩ := cells_4 D;have Dlt := (ltH D);have g : Hid _ := B;clear B D;go_wp2;go_ret
   exact ⟨by simp [k.out], g.out⟩
theorem eqFn_any (a b : Option Addr) (xs : List DescD) (ys : List (List Int)) (ca cb : Nat) (w : World) (h1 : SlRd descR w a xs) (h2 : SlRd intsR w b ys) (m1 : xs.length ≤ maxLen) (m2 : ys.length ≤ maxLen) :
    Calls Tryz.prog 180 #[.slice a xs.length ca, .slice b ys.length cb, .func (.func 182) #[] #[]] w fun e w' => e = .returned (.bool (toldL xs ys)) ∧ Below w.heap.size w w' := by
 have eA : xs.length ≤ 9223372036854775807 := m1;have E : ys.length ≤ 9223372036854775807 := m2;by_cases s : xs.length = ys.length
 ·have H : Hid (xs.length = ys.length) := s;have hz : ((xs.length : Int) != (xs.length : Int)) = false := by simp
  have V : Hid (∀ W, Below w.heap.size w W → SlRd descR W a xs) := fun W f => slrd_next h1 f;have Y : Hid (∀ W, Below w.heap.size w W → SlRd intsR W b ys) := fun W f => slrd_next h2 f;rw [← s];clear h1 h2 m1 m2 s E;go_enter Tryz.func180, Tryz.ntmps180;go_wp2;go_loopw [17] (fun i wr => ∃ k : Nat, k ≤ xs.length ∧ i = .int .i64 k ∧ (∀ j u v, j < k → xs[j]? = some u → ys[j]? = some v → toldB u v = true) ∧ Below w.heap.size w wr) (fun i _ => xs.length - (intOf i).toNat)
  case atStart => exact ⟨0, Nat.zero_le _, rfl, fun j u v hj => by omega, Below.refl _ _⟩
  case round =>
   obtain ⟨k, hk, rfl, p, g⟩ := hrel;by_cases D : k < xs.length
   ·have N : (k : Int) < (xs.length : Int) := by omega
    obtain ⟨u, F⟩ : ∃ x, xs[k]? = some x := ⟨_, List.getElem?_eq_getElem D⟩;obtain ⟨v, o⟩ : ∃ v, ys[k]? = some v := ⟨_, List.getElem?_eq_getElem (by have := H.out; omega)⟩;obtain ⟨bb, U, cs, rfl, l, c⟩ := slrd_at (V.out _ g) F;obtain ⟨R, M, rfl, -⟩ := desc_shape l;obtain ⟨Z, q, ds, rfl, r, d⟩ := slrd_at (Y.out _ g) o;obtain ⟨wa, wc, rfl, n1, S, L⟩ := r;obtain ⟨C, K, O, I⟩ := cellsAt4 c rfl;have B := d 0 _ rfl;rw [show q + (k * intsR.size + 0) = q + k from by rw [show intsR.size = 1 from rfl]; omega] at B;have z : Hid _ := fun (W : World) (f : Below wr.heap.size wr W) => toldOk_any u R M v wa wc W (slrd_next L f) (Nat.le_trans n1 S);have A : Hid (xs[k]? = some u ∧ ys[k]? = some v) := ⟨F, o⟩;have dA : Z < wr.heap.size := cell_lt B;have bA : bb < wr.heap.size := cell_lt C;have T : k < ys.length := by have := H.out; omega
    have J : (k : Int) < (ys.length : Int) := by omega
    clear F o c d l L;have m := box_below wr (.cells #[.bool u.1, .int .i64 u.2.1, .int .i64 u.2.2.1, .slice R u.2.2.2.length M] 165);cases f : toldB u v
    ·have y : Hid (toldL xs ys = false) := toldL_no A.out.1 A.out.2 f;rw [f] at z;go_wp2_with fail
     refine (z.out _ m).mono ?_;rintro e X ⟨rfl, n⟩;replace g := below_step (below_step g m) n;clear n m C K O I B;go_wp2;go_ret
     exact ⟨ret_bool y.out.symm, g⟩
    ·rw [f] at z;go_wp2_with fail
     refine (z.out _ m).mono ?_;rintro e X ⟨rfl, n⟩;replace g := below_step (below_step g m) n;clear n m C K O I B;go_wp2;go_roundw
     case rel =>
      refine ⟨k + 1, by omega, by go_num, fun j u' v' hj hu' hv' => ?_, g⟩;by_cases G : j < k
      ·exact p j u' v' G hu' hv'
      ·have : j = k := by omega
       subst this;rw [A.out.1] at hu';rw [A.out.2] at hv';cases hu'
       cases hv'
       exact f
     case measure => simp [intOf]; omega
   ·have y : Hid (toldL xs ys = true) := toldL_yes H.out fun j u v hu o => p j u v (by have := (List.getElem?_eq_some_iff.1 hu).1; omega) hu o;go_wp2;go_ret
    exact ⟨ret_bool y.out.symm, g⟩
 ·have hz : ((xs.length : Int) != (ys.length : Int)) = true := by simp; omega
  have y : Hid (toldL xs ys = false) := by unfold Hid toldL; rw [decide_eq_false s, Bool.false_and]
  clear h1 h2 m1 m2 s;go_enter Tryz.func180, Tryz.ntmps180;go_wp2;go_ret
  exact ⟨ret_bool y.out.symm, Below.refl _ _⟩
end Go.Proofs.YtcocbafhcpdheaaGreatDoor
