import Derived.Test.YtmaopldahnejdaaGreatDoorH00Box
import Derived.Test.YtmaopldahnejdaaGreatDoorH11
import Derived.Test.YtmaopldahnejdaaGreatDoorH13
namespace Go.Proofs.YtmaopldahnejdaaGreatDoor
set_option maxHeartbeats 4000000
set_option maxRecDepth 20000
open Go.ChangeShapes Go.WideShapes Go.ChangeAt Go.RowKit
set_option linter.unusedVariables false
def houseB (x : HouseD) : Bool := memOk x.1 && (decide (x.2.length = x.1.length) && x.2.all entB)
theorem house_len {x : HouseD} (h : houseM.bk x ≤ 1048576) : x.1.length ≤ 1048576 ∧ x.2.length ≤ 1048576 := by
 have e : houseM.bk x = (x.1.length + sumbk intsM x.1) + (x.2.length + sumbk entM x.2) := rfl;omega
theorem ent_at {w : World} {a : Option Addr} {xs : List EntryD} {k : Nat} {x : EntryD} (h : SlRd entR w a xs) (hx : xs[k]? = some x) :
    ∃ b d f g, a = some ⟨b, d, none⟩ ∧ w.cell? ⟨b, d + k * 8, none⟩ = some (nI x.1) ∧ w.cell? ⟨b, d + k * 8 + 1, none⟩ = some (nI x.2.1) ∧ w.cell? ⟨b, d + k * 8 + 2, none⟩ = some (.bool x.2.2.1) ∧ w.cell? ⟨b, d + k * 8 + 3, none⟩ = some (nI x.2.2.2.1) ∧ w.cell? ⟨b, d + k * 8 + 4, none⟩ = some (nI x.2.2.2.2.1) ∧ w.cell? ⟨b, d + k * 8 + 5, none⟩ = some (nI x.2.2.2.2.2.1) ∧ w.cell? ⟨b, d + k * 8 + 6, none⟩ = some (nI x.2.2.2.2.2.2.1) ∧ w.cell? ⟨b, d + k * 8 + 7, none⟩ = some (sL f x.2.2.2.2.2.2.2.length g) ∧ SlRd intR w f x.2.2.2.2.2.2.2 := by
 obtain ⟨b, d, cs, rfl, i, c⟩ := slrd_at h hx;obtain ⟨f, g, rfl, -, -, -, -, -, -, -, -, j⟩ := ent_rd i;exact ⟨b, d, f, g, rfl, c 0 _ rfl, c 1 _ rfl, c 2 _ rfl, c 3 _ rfl, c 4 _ rfl, c 5 _ rfl, c 6 _ rfl, c 7 _ rfl, j⟩
theorem bookOk1_any (x : EntryD) (ad : Option Addr) (cp : Nat) (w : World) (h : SlRd intR w ad x.2.2.2.2.2.2.2) :
    Calls Tryz.prog 101 #[.agg #[nI x.1, nI x.2.1, .bool x.2.2.1, nI x.2.2.2.1, nI x.2.2.2.2.1, nI x.2.2.2.2.2.1, nI x.2.2.2.2.2.2.1, sL ad x.2.2.2.2.2.2.2.length cp]] w fun e w' => e = .returned (.bool (!entB x)) ∧ Bl w w' := by
 have B := box_below w (.cells #[nI x.1, nI x.2.1, .bool x.2.2.1, nI x.2.2.2.1, nI x.2.2.2.2.1, nI x.2.2.2.2.2.1, nI x.2.2.2.2.2.2.1, sL ad x.2.2.2.2.2.2.2.length cp] 48);have a : Hid (∀ W, Bl w W → Calls Tryz.prog 102 #[.agg #[nI x.1, nI x.2.1, .bool x.2.2.1, nI x.2.2.2.1, nI x.2.2.2.2.1, nI x.2.2.2.2.2.1, nI x.2.2.2.2.2.2.1, sL ad x.2.2.2.2.2.2.2.length cp]] W fun e w' => e = .returned (.bool (entB x)) ∧ Bl W w') := fun W hb => implEntryOk_any x.1 x.2.1 x.2.2.2.1 x.2.2.2.2.1 x.2.2.2.2.2.1 x.2.2.2.2.2.2.1 x.2.2.1 x.2.2.2.2.2.2.2 ad cp W (slrd_next h hb);generalize entB x = q at a ⊢;clear h;go_enter Tryz.func101, Tryz.ntmps101;go_wp2_with fail
 generalize w.alloc (.cells #[nI x.1, nI x.2.1, .bool x.2.2.1, nI x.2.2.2.1, nI x.2.2.2.2.1, nI x.2.2.2.2.2.1, nI x.2.2.2.2.2.2.1, sL ad x.2.2.2.2.2.2.2.length cp] 48) = W0 at B ⊢;refine (a.out _ B).mono ?_;rintro e w1 ⟨rfl, b⟩;go_wp2;go_ret
 exact ⟨rfl, below_step B b⟩
theorem indexBadE_any (a : Option Addr) (xs : List EntryD) (cap : Nat) (w : World) (h : SlRd entR w a xs) (hm : xs.length ≤ maxLen) :
    Calls Tryz.prog 129 #[sL a xs.length cap, .func (.func 101) #[] #[]] w fun e w' => e = .returned (nI (badP entB xs)) ∧ Bl w w' := by
 have M : xs.length ≤ 9223372036854775807 := hm;have J : Hid (∀ W, Bl w W → SlRd entR W a xs) := fun W f => slrd_keep h fun k B => f.block k B;clear h hm;go_enter Tryz.func129, Tryz.ntmps129;go_wp2;go_loopw [8] (fun i wr => ∃ k : Nat, k ≤ xs.length ∧ i = nI k ∧ (∀ j v, j < k → xs[j]? = some v → entB v = true) ∧ Bl w wr) (fun i _ => xs.length - (intOf i).toNat)
 case atStart => exact ⟨0, Nat.zero_le _, rfl, fun j v hj => by omega, Below.refl _ _⟩
 case round =>
  obtain ⟨k, B, rfl, d, c⟩ := hrel;by_cases o : k < xs.length
  ·have E : (k : Int) < (xs.length : Int) := by omega
   obtain ⟨x, n⟩ : ∃ x, xs[k]? = some x := ⟨_, List.getElem?_eq_getElem o⟩;obtain ⟨b, K, H, G, rfl, y, D, C, q, z, p, r, A, F⟩ := ent_at (J.out _ c) n;have l := bookOk1_any x H G wr F;clear F;have s : Hid (xs[k]? = some x) := n;clear n;cases f : entB x
   ·have m : Hid (badP entB xs = k) := badP_at s.out f d;rw [f] at l;go_wp2_with fail
    refine l.mono ?_;rintro e I ⟨rfl, g⟩;replace c := below_step c g;clear g y D C q z p r A;go_wp2;go_ret
    exact ⟨ret_int m.out.symm, c⟩
   ·rw [f] at l;go_wp2_with fail
    refine l.mono ?_;rintro e I ⟨rfl, g⟩;replace c := below_step c g;clear g y D C q z p r A;go_wp2;go_roundw
    case rel =>
     refine ⟨k + 1, by omega, by go_num, fun j v hj hv => ?_, c⟩;by_cases L : j < k
     ·exact d j v L hv
     ·have : j = k := by omega
      subst this;rw [s.out] at hv;cases hv;exact f
    case measure => simp [intOf]; omega
  ·have m : Hid (badP entB xs = -1) := badP_no fun j v hv => d j v (by have := (List.getElem?_eq_some_iff.1 hv).1; omega) hv;go_wp2;go_ret
   exact ⟨ret_int m.out.symm, c⟩
theorem containsBadE_any (a : Option Addr) (xs : List EntryD) (cap : Nat) (w : World) (h : SlRd entR w a xs) (hm : xs.length ≤ maxLen) :
    Calls Tryz.prog 100 #[sL a xs.length cap, .func (.func 101) #[] #[]] w fun e w' => e = .returned (.bool (!xs.all entB)) ∧ Bl w w' := by
 have d := indexBadE_any a xs cap w h hm;have b := badP_all entB xs;clear h hm;generalize badP entB xs = q at d b;generalize xs.all entB = y at b ⊢;subst b;by_cases g : q < 0
 ·have f : ¬ (0 ≤ q) := by omega
  go_enter Tryz.func100, Tryz.ntmps100;go_wp2_with fail
  refine d.mono ?_;rintro e i ⟨rfl, c⟩;go_wp2;go_ret
  exact ⟨by simp [g], c⟩
 ·have f : 0 ≤ q := by omega
  go_enter Tryz.func100, Tryz.ntmps100;go_wp2_with fail
  refine d.mono ?_;rintro e i ⟨rfl, c⟩;go_wp2;go_ret
  exact ⟨by simp [g], c⟩
theorem implBookOk_any (a : Option Addr) (xs : List EntryD) (cap : Nat) (w : World) (h : SlRd entR w a xs) (hm : xs.length ≤ maxLen) :
    Calls Tryz.prog 53 #[sL a xs.length cap] w fun e w' => e = .returned (.bool (xs.all entB)) ∧ Bl w w' := by
 have b := containsBadE_any a xs cap w h hm;generalize xs.all entB = y at b ⊢;clear h hm;go_enter Tryz.func53, Tryz.ntmps53;go_wp2_with fail
 refine b.mono ?_;rintro e w1 ⟨rfl, c⟩;go_wp2;go_ret
 exact ⟨by simp, c⟩
theorem implHouseOk_u (cs : List Value) (x : HouseD) (w : World) (h : houseR.rd w cs x) :
    Calls Tryz.prog 15 #[aggV cs] w fun e w' => e = .returned (.bool (houseB x)) ∧ Bl w w' := by
 obtain ⟨v0, v1, rfl, ⟨f, d, p, g, j, o⟩, ⟨c, b, v, k, l, s⟩⟩ := house_rd h;simp only [List.cons.injEq, and_true] at p v;obtain rfl := p;obtain rfl := v;clear h;change Calls Tryz.prog 15 #[.agg #[sL f x.1.length d, sL c x.2.length b]] w _
 have z : Hid (∀ W, Bl w W → Calls Tryz.prog 52 #[sL f x.1.length d] W fun e w' => e = .returned (.bool (memOk x.1)) ∧ Bl W w') := fun W hb => implMemoryOk_any f x.1 d W (readsM_of (slrd_next o hb)) (Nat.le_trans g j);have y : Hid (∀ W, Bl w W → Calls Tryz.prog 53 #[sL c x.2.length b] W fun e w' => e = .returned (.bool (x.2.all entB)) ∧ Bl W w') := fun W hb => implBookOk_any c x.2 b W (slrd_next s hb) (Nat.le_trans k l);have C : x.1.length ≤ 9223372036854775807 := Nat.le_trans g j;have F : x.2.length ≤ 9223372036854775807 := Nat.le_trans k l;clear o s g j k l;have X := heap_at w (.cells #[sL f x.1.length d, sL c x.2.length b] 27);have B := box_below w (.cells #[sL f x.1.length d, sL c x.2.length b] 27);unfold houseB;generalize memOk x.1 = q at z ⊢;generalize x.2.all entB = r at y ⊢;generalize x.1.length = n at *;generalize x.2.length = m at *;go_enter Tryz.func15, Tryz.ntmps15;go_wp2_with fail
 generalize w.alloc (.cells #[sL f n d, sL c m b] 27) = W0 at X B ⊢;refine (z.out _ B).mono ?_;rintro e w1 ⟨rfl, a⟩;replace X := row_keep a X;replace B := below_step B a;clear a;obtain ⟨D, E⟩ := cells_house X;cases q
 ·clear X;go_wp2;go_ret
  exact ⟨rfl, B⟩
 ·by_cases A : m = n
  ·subst A;have i : ((m : Int) == (m : Int)) = true := by simp
   go_wp2_with fail
   refine (y.out _ B).mono ?_;rintro e w2 ⟨rfl, a⟩;replace B := below_step B a;clear a X D E;go_wp2;go_ret
   exact ⟨by simp, B⟩
  ·have i : ((m : Int) == (n : Int)) = false := by simp; omega
   clear X;go_wp2;go_ret
   exact ⟨by simp [A], B⟩
theorem specHouseOk_u (cs : List Value) (x : HouseD) (w : World) (h : houseR.rd w cs x) (K : houseM.bk x ≤ 1048576) :
    Calls Tryz.prog 16 #[aggV cs] w fun e w' => e = .returned (.bool (houseB x)) ∧ Bl w w' := by
 obtain ⟨v0, v1, rfl, ⟨f, d, e0, l1, l2, q0⟩, ⟨l, p, H, m1, m2, q1⟩⟩ := house_rd h;simp only [List.cons.injEq, and_true] at e0 H;obtain rfl := e0;obtain rfl := H;clear h;obtain ⟨J, DA⟩ := house_len K;change Calls Tryz.prog 16 #[.agg #[sL f x.1.length d, sL l x.2.length p]] w _
 have s : Hid (∀ W, Bl w W → Calls Tryz.prog 54 #[sL f x.1.length d] W fun e w' => e = .returned (.bool (memOk x.1)) ∧ Bl W w') := fun W o => (specMemoryOk_any f x.1 d W (readsM_of (slrd_next q0 o)) (by omega)).mono fun e w' ⟨q, r⟩ => ⟨q, be_eq r⟩;have HE : Hid (∀ W, Bl w W → SlRd entR W l x.2) := fun W o => slrd_next q1 o;clear q0 q1 l1 l2 m1 m2 K;have X := heap_at w (.cells #[sL f x.1.length d, sL l x.2.length p] 27);have B := box_below w (.cells #[sL f x.1.length d, sL l x.2.length p] 27);have R : Hid (memOk x.1 = false → houseB x = false) := fun e => by unfold houseB; rw [e]; rfl
 have N : Hid (¬ x.2.length = x.1.length → houseB x = false) := fun e => by unfold houseB; simp [e]
 have HB : Hid (∀ j u, x.2[j]? = some u → entB u = false → houseB x = false) := fun j u hu e => by
  have : x.2.all entB = false := by
   cases hh : x.2.all entB
   ·rfl
   ·rw [List.all_eq_true] at hh;rw [hh u (List.mem_of_getElem? hu)] at e;cases e
  unfold houseB;simp [this]
 have S : Hid (memOk x.1 = true → x.2.length = x.1.length → (∀ j u, x.2[j]? = some u → entB u = true) → houseB x = true) := fun H e2 e3 => by
  have : x.2.all entB = true := List.all_eq_true.2 fun u hu => by
   obtain ⟨j, O⟩ := List.getElem?_of_mem hu;exact e3 j u O
  unfold houseB;simp [H, e2, this]
 cases a : memOk x.1
 ·rw [R.out a];rw [a] at s;generalize x.1.length = n at *;generalize x.2.length = m at *;go_enter Tryz.func16, Tryz.ntmps16;go_wp2_with fail
  generalize w.alloc (.cells #[sL f n d, sL l m p] 27) = W0 at X B ⊢;refine (s.out _ B).mono ?_;rintro e T ⟨rfl, c⟩;replace B := below_step B c;clear c X;go_wp2;go_ret
  exact ⟨rfl, B⟩
 by_cases z : x.2.length = x.1.length
 ·rw [a] at s;have I : Hid ((∀ j u, x.2[j]? = some u → entB u = true) → houseB x = true) := S.out a z;rw [← z] at s X B ⊢;clear S R N a J z;go_enter Tryz.func16, Tryz.ntmps16;go_wp2_with fail
  generalize w.alloc (.cells #[sL f x.2.length d, sL l x.2.length p] 27) = W0 at X B ⊢;refine (s.out _ B).mono ?_;rintro e T ⟨rfl, c⟩;replace X := row_keep c X;replace B := below_step B c;clear c;obtain ⟨E, F⟩ := cells_house X;go_wp2;clear E F;go_loopw [3] (fun i wr => ∃ k : Nat, k ≤ x.2.length ∧ i = nI k ∧ (∀ j v, j < k → x.2[j]? = some v → entB v = true) ∧ Bl w wr ∧ wr.heap[w.heap.size]? = some (.cells #[sL f x.2.length d, sL l x.2.length p] 27 (0, 0))) (fun i _ => x.2.length - (intOf i).toNat)
  case atStart => exact ⟨0, Nat.zero_le _, rfl, fun j v O => by omega, B, X⟩
  case round =>
   obtain ⟨k, K, rfl, C, g, D⟩ := hrel;obtain ⟨E, F⟩ := cells_house D;by_cases L : k < x.2.length
   ·have mA : (k : Int) < (x.2.length : Int) := by omega
    obtain ⟨y, M⟩ : ∃ y, x.2[k]? = some y := ⟨_, List.getElem?_eq_getElem L⟩;obtain ⟨b, AA, ad, cp, rfl, z0, z1, V, z3, Z, z5, U, z7, hd⟩ := ent_at (HE.out _ g) M;have G := specEntryOk_any y.1 y.2.1 y.2.2.2.1 y.2.2.2.2.1 y.2.2.2.2.2.1 y.2.2.2.2.2.2.1 y.2.2.1 y.2.2.2.2.2.2.2 ad cp wr hd;rw [show entB (y.1, y.2.1, y.2.2.1, y.2.2.2.1, y.2.2.2.2.1, y.2.2.2.2.2.1, y.2.2.2.2.2.2.1, y.2.2.2.2.2.2.2) = entB y from rfl] at G;have Y : Hid (x.2[k]? = some y) := M;clear M hd;cases o : entB y
    ·rw [o] at G;go_wp2_with fail
     refine G.mono ?_;rintro e w2 ⟨rfl, A⟩;replace g := below_step g A;clear A z0 z1 V z3 Z z5 U z7 E F D X B;go_wp2;go_ret
     exact ⟨ret_bool (HB.out k y Y.out o).symm, g⟩
    ·rw [o] at G;go_wp2_with fail
     refine G.mono ?_;rintro e w2 ⟨rfl, A⟩;replace g := below_step g A;replace D := row_keep A D;clear A z0 z1 V z3 Z z5 U z7 E F X B;go_wp2;go_roundw
     case rel =>
      refine ⟨k + 1, by omega, by go_num, fun j v O hv => ?_, g, D⟩;by_cases z : j < k
      ·exact C j v z hv
      ·have : j = k := by omega
       subst this;rw [Y.out] at hv;cases hv;exact o
     case measure => simp [intOf]; omega
   ·have HR : Hid (houseB x = true) := I.out fun j v hv => C j v (by have := (List.getElem?_eq_some_iff.1 hv).1; omega) hv;go_wp2;go_ret
    exact ⟨ret_bool HR.out.symm, g⟩
 ·rw [N.out z];rw [a] at s;have vA : ¬ ((x.2.length : Int) = (x.1.length : Int)) := by omega
  have sA : ((x.2.length : Int) != (x.1.length : Int)) = true := by simp; omega
  clear S R N HB HE a z;generalize x.1.length = n at *;generalize x.2.length = m at *;go_enter Tryz.func16, Tryz.ntmps16;go_wp2_with fail
  generalize w.alloc (.cells #[sL f n d, sL l m p] 27) = W0 at X B ⊢;refine (s.out _ B).mono ?_;rintro e T ⟨rfl, c⟩;replace X := row_keep c X;replace B := below_step B c;clear c;obtain ⟨E, F⟩ := cells_house X;clear X;go_wp2;go_ret
  exact ⟨rfl, B⟩
theorem Tryz.infoI64 : (Tryz.prog.info? 2).map (fun i => (i.zero, i.size, i.bytes)) = some (some (nI 0), 1, 8) := by kernel_rfl
def mems (s : Int) : Nat → List Int
 | 0 => []
 | k + 1 => if inB s k then mems s k ++ [(k : Int)] else mems s k
theorem mems_le (s : Int) : ∀ k, (mems s k).length ≤ k
 | 0 => Nat.le_refl _
 | k + 1 => by
  have := mems_le s k;unfold mems;split
  ·simp; omega
  ·omega
theorem mems_hit {s : Int} {k : Nat} (h : inB s k = true) : mems s (k + 1) = mems s k ++ [(k : Int)] := by simp [mems, h]
theorem mems_miss {s : Int} {k : Nat} (h : inB s k = false) : mems s (k + 1) = mems s k := by simp [mems, h]
theorem mem_keep {B k : Nat} {s : Int} {w wr w1 : World} {v v' : Value} {o : Obj} (hin : inB s k = true) (hB : B ≤ wr.heap.size)
    (hown : wr.ownsRow B 2 1 v (mems s k).length ((mems s k).map (Value.int .i64))) (hnx : Below B w wr)
    (hown' : w1.ownsRow B 2 1 v' ((mems s k).length + 1) ((mems s k).map (Value.int .i64) ++ [nI (k : Int)])) (hgrow : (wr.alloc o).grownBy w1 v.ownBlock) :
    w1.ownsRow B 2 1 v' (mems s (k + 1)).length ((mems s (k + 1)).map (Value.int .i64)) ∧ Below B w w1 := by
 refine ⟨by rw [mems_hit hin]; simpa using hown', (hnx.alloc hB o).grown hgrow (by simp; omega) (fun j hj => (hown.lt j hj).1)⟩
theorem own_shape {w : World} {B : Nat} {e : TypeId} {v : Value} {n : Nat} {xs : List Value} (h : w.ownsRow B e 1 v n xs) (hv : v ≠ sL none 0 0) :
    ∃ g a, v = sL (some ⟨g, 0, none⟩) n a ∧ B ≤ g ∧ g < w.heap.size ∧ n ≤ a ∧ a ≤ maxLen := by
 rcases h.2 with ⟨rfl, _⟩ | ⟨g, a, c, rfl, b, i, f, d, _⟩
 ·exact absurd rfl hv
 ·exact ⟨g, a, rfl, b, (ltH i), f, d⟩
theorem specMembers_any (s : Int) (w : World) :
    Calls Tryz.prog 82 #[nI s] w fun e m => ∃ g d, e = .returned (sL (some ⟨g, 0, none⟩) (mems s 8).length d) ∧ w.heap.size ≤ g ∧ g < m.heap.size ∧
     m.ownsRow w.heap.size 2 1 (sL (some ⟨g, 0, none⟩) (mems s 8).length d) (mems s 8).length ((mems s 8).map (Value.int .i64)) ∧ Bl w m := by
 obtain ⟨F, H, r, z, q⟩ := info_parts Tryz.infoI64;go_enter Tryz.func82, Tryz.ntmps82;go_wp2;go_loopw [3, 4] (fun v i wr => ∃ k : Nat, k ≤ 8 ∧ i = nI k ∧ v ≠ sL none 0 0 ∧ wr.ownsRow w.heap.size 2 1 v (mems s k).length ((mems s k).map (Value.int .i64)) ∧ Bl w wr)
  (fun _ i _ => 8 - (intOf i).toNat)
 case atStart => exact ⟨0, by omega, rfl, by simp, World.ownsRow_lit _ #[] 0 (Nat.le_refl _) (Nat.zero_le _) rfl, (Below.refl _ _).alloc (Nat.le_refl _) _⟩
 case round =>
  obtain ⟨k, hk, rfl, E, a, f⟩ := hrel;have J := mems_le s k;have y := f.size;by_cases I : k < 8
  ·cases n : inB s k
   ·have K : Hid (mems s (k + 1) = mems s k) := mems_miss n;go_wp2_with (go_at_call 111; refine (specIn_any _ _ _).mono ?_; rintro e m ⟨rfl, rfl⟩)
    go_roundw
    case rel => exact ⟨k + 1, by omega, by go_num, E, by rw [K.out]; exact a, f⟩
    case measure => simp [intOf]; omega
   ·go_wp2_with (first
      | (go_at_call 111; refine (specIn_any _ _ _).mono ?_; rintro e m ⟨rfl, rfl⟩)
      | (at_builtin; refine wpList_append_own _ rfl _ _ 28 rfl w.heap.size 2 F (.int .i64 0) 1 8 Tryz.underlying28 H r z q rfl (by decide) _ _ _ rfl (a.alloc _) ⟨_, 0, none⟩ 1 1 [.int .i64 (k : Int)] rfl rfl ?c1 ?c2 ?c3 ?c4 ?c5 ?_))
    case c1 =>
     intro j u o;match j, o with
     | 0, o => simp at o; subst o; simp [Addr.add]
    case c2 => intro u D; simp at D; subst D; rfl
    case c3 => unfold maxLen; omega
    case c4 => omega
    case c5 => simp; omega
    ·intro G w1 c b l;have R := mem_keep n y a f c b;have B : G ≠ sL none 0 0 := l;clear c b a l;go_wp2;go_roundw
     case rel => exact ⟨k + 1, by omega, by go_num, B, R.1, R.2⟩
     case measure => simp [intOf]; omega
  ·have p : k = 8 := by omega
   subst p;obtain ⟨g, d, rfl, C, A, _⟩ := own_shape a E;go_wp2;go_ret
   exact ⟨g, d, rfl, C, A, a, f⟩
def orI (s i : Int) : Int := bits BinOp.or IntKind.i64 s (2 ^ i.toNat)
def andNotI (s i : Int) : Int := bits BinOp.andNot IntKind.i64 s (2 ^ i.toNat)
def withI (s i : Int) : Int := if setB s then (if itemB i then orI s i else s) else -1
def withoutI (s i : Int) : Int := if setB s then (if itemB i then andNotI s i else s) else -1
theorem with_in (s i : Int) (w : World) (h5 : 0 ≤ i) (h6 : i ≤ 7) :
    Calls Tryz.prog 177 #[nI s, nI i] w fun e a => e = .returned (nI (orI s i)) ∧ a = w := by
 go_enter Tryz.func177, Tryz.ntmps177;go_wp2_with (go_at_call 158; refine (bitOf_any _ _ h5 h6).mono ?_; rintro e a ⟨rfl, rfl⟩)
 go_ret
 exact ⟨rfl, rfl⟩
theorem without_in (s i : Int) (w : World) (h5 : 0 ≤ i) (h6 : i ≤ 7) :
    Calls Tryz.prog 174 #[nI s, nI i] w fun e a => e = .returned (nI (andNotI s i)) ∧ a = w := by
 go_enter Tryz.func174, Tryz.ntmps174;go_wp2_with (go_at_call 158; refine (bitOf_any _ _ h5 h6).mono ?_; rintro e a ⟨rfl, rfl⟩)
 go_ret
 exact ⟨rfl, rfl⟩
theorem specWith_any (s i : Int) (w : World) :
    Calls Tryz.prog 127 #[nI s, nI i] w fun e a => e = .returned (nI (withI s i)) ∧ a = w := by
 cases b : setB s
 ·have H : Hid (withI s i = -1) := by unfold Hid; simp [withI, b]
  go_enter Tryz.func127, Tryz.ntmps127;go_wp2_with (go_at_call 136; refine (l1Set_any _ _).mono ?_; rintro e a ⟨rfl, rfl⟩)
  go_ret
  exact ⟨ret_int H.out.symm, rfl⟩
 ·cases c : itemB i
  ·have H : Hid (withI s i = s) := by unfold Hid; simp [withI, b, c]
   go_enter Tryz.func127, Tryz.ntmps127
   go_wp2_with (first
    | (go_at_call 136; refine (l1Set_any _ _).mono ?_; rintro e a ⟨rfl, rfl⟩)
    | (go_at_call 137; refine (l1Item_any _ _).mono ?_; rintro e a ⟨rfl, rfl⟩))
   go_ret
   exact ⟨ret_int H.out.symm, rfl⟩
  ·obtain ⟨d, f⟩ := itemB_bd c;have H : Hid (withI s i = orI s i) := by unfold Hid; simp [withI, b, c]
   have P : Hid (wrap64 (2 ^ i.toNat) = 2 ^ i.toNat) := pow_small i d f;go_enter Tryz.func127, Tryz.ntmps127
   go_wp2_with (first
    | (go_at_call 136; refine (l1Set_any _ _).mono ?_; rintro e a ⟨rfl, rfl⟩)
    | (go_at_call 137; refine (l1Item_any _ _).mono ?_; rintro e a ⟨rfl, rfl⟩))
   go_ret
   exact ⟨ret_int (by rw [H.out, P.out]; rfl), rfl⟩
theorem specWithout_any (s i : Int) (w : World) :
    Calls Tryz.prog 125 #[nI s, nI i] w fun e a => e = .returned (nI (withoutI s i)) ∧ a = w := by
 cases b : setB s
 ·have H : Hid (withoutI s i = -1) := by unfold Hid; simp [withoutI, b]
  go_enter Tryz.func125, Tryz.ntmps125;go_wp2_with (go_at_call 136; refine (l1Set_any _ _).mono ?_; rintro e a ⟨rfl, rfl⟩)
  go_ret
  exact ⟨ret_int H.out.symm, rfl⟩
 ·cases c : itemB i
  ·have H : Hid (withoutI s i = s) := by unfold Hid; simp [withoutI, b, c]
   go_enter Tryz.func125, Tryz.ntmps125
   go_wp2_with (first
    | (go_at_call 136; refine (l1Set_any _ _).mono ?_; rintro e a ⟨rfl, rfl⟩)
    | (go_at_call 137; refine (l1Item_any _ _).mono ?_; rintro e a ⟨rfl, rfl⟩))
   go_ret
   exact ⟨ret_int H.out.symm, rfl⟩
  ·obtain ⟨d, f⟩ := itemB_bd c;have H : Hid (withoutI s i = andNotI s i) := by unfold Hid; simp [withoutI, b, c]
   have P : Hid (wrap64 (2 ^ i.toNat) = 2 ^ i.toNat) := pow_small i d f;go_enter Tryz.func125, Tryz.ntmps125
   go_wp2_with (first
    | (go_at_call 136; refine (l1Set_any _ _).mono ?_; rintro e a ⟨rfl, rfl⟩)
    | (go_at_call 137; refine (l1Item_any _ _).mono ?_; rintro e a ⟨rfl, rfl⟩))
   go_ret
   exact ⟨ret_int (by rw [H.out, P.out]; rfl), rfl⟩
def ownB (o c : Int) : Bool := betw c 0 3 && decide (c = o)
def holB (o s c : Int) : Bool := ownB o c || inB s c
def holL (o s : Int) : Nat → List Int
 | 0 => []
 | k + 1 => if holB o s k then holL o s k ++ [(k : Int)] else holL o s k
theorem holL_le (o s : Int) : ∀ k, (holL o s k).length ≤ k
 | 0 => Nat.le_refl _
 | k + 1 => by
  have := holL_le o s k;unfold holL;split
  ·simp; omega
  ·omega
theorem holL_hit {o s : Int} {k : Nat} (h : holB o s k = true) : holL o s (k + 1) = holL o s k ++ [(k : Int)] := by simp [holL, h]
theorem holL_miss {o s : Int} {k : Nat} (h : holB o s k = false) : holL o s (k + 1) = holL o s k := by simp [holL, h]
def hoI (o s : Int) : List Int := if 0 ≤ o then [o] else mems s 8
theorem mems_zero : mems 0 8 = [] := by decide +kernel
theorem who_alone {o s : Int} (h : whoB o s = true) (ho : 0 ≤ o) : s = 0 := by
 simp [whoB] at h
 have := h.2.2;omega
theorem holL_none (s : Int) : ∀ k, holL (-1) s k = mems s k
 | 0 => rfl
 | k + 1 => by
  have e : holB (-1) s k = inB s k := by
   unfold holB ownB;rw [show decide ((k : Int) = -1) = false from decide_eq_false (by omega)];simp
  unfold holL mems;rw [e, holL_none s k]
theorem holL_fin : ∀ o : Fin 4, holL (o.val : Int) 0 8 = [(o.val : Int)] := by decide +kernel
theorem holL_eq {o s : Int} (h : whoB o s = true) : holL o s 8 = hoI o s := by
 unfold hoI;by_cases a : 0 ≤ o
 ·rw [if_pos a, who_alone h a];have b : o ≤ 3 := by simp [whoB, betw] at h; omega
  have := holL_fin ⟨o.toNat, by omega⟩;simpa [Int.toNat_of_nonneg a] using this
 ·rw [if_neg a];have b : o = -1 := by simp [whoB, betw] at h; omega
  rw [b];exact holL_none s 8
def fgO (o c : Int) : Int := if ownB o c then -1 else o
def fgS (s c : Int) : Int := if inB s c then andNotI s c else s
theorem cells_2p {w : World} {g : Nat} {x0 x1 : Value} {t : TypeId} (h : w.heap[g]? = some (.cells #[x0, x1] t (0, 0))) :
    w.cell? ⟨g, 0, none⟩ = some x0 ∧ w.cell? ⟨g, 1, none⟩ = some x1 :=
 ⟨by rw [cell_of_row w g 0 _ t (0, 0) h]; rfl, by rw [cell_of_row w g 1 _ t (0, 0) h]; rfl⟩
theorem owns_any (o s c : Int) (w : World) :
    Calls Tryz.prog 134 #[.agg #[nI s, nI o], nI c] w fun e b => e = .returned (.bool (ownB o c)) ∧ Bl w b := by
 have f : Hid _ := box_below w;cases d : betw c 0 3
 ·have a : Hid (ownB o c = false) := by unfold Hid ownB; simp [d]
  rw [a.out];go_enter Tryz.func134, Tryz.ntmps134;go_wp2_with (go_at_call 145; refine (coreOk_any _ _).mono ?_; rintro e b ⟨rfl, rfl⟩)
  go_ret
  exact ⟨rfl, f.out _⟩
 ·have a : Hid (ownB o c = (c == o)) := by unfold Hid ownB; rw [d]; by_cases e : c = o <;> simp [e]
  rw [a.out];generalize (c == o) = t at a ⊢;by_cases i : c = o
  ·subst i;have g : t = true := by rw [← a.out]; unfold ownB; simp [d]
   subst g;clear a;go_enter Tryz.func134, Tryz.ntmps134;go_wp2_with (go_at_call 145; refine (coreOk_any _ _).mono ?_; rintro e b ⟨rfl, rfl⟩)
   go_ret
   exact ⟨rfl, f.out _⟩
  ·have j : (c == o) = false := beq_false_of_ne i;have g : t = false := by rw [← a.out]; unfold ownB; simp [i]
   subst g;clear a;go_enter Tryz.func134, Tryz.ntmps134;go_wp2_with (go_at_call 145; refine (coreOk_any _ _).mono ?_; rintro e b ⟨rfl, rfl⟩)
   go_ret
   exact ⟨rfl, f.out _⟩
theorem holds_any (o s c : Int) (w : World) :
    Calls Tryz.prog 106 #[.agg #[nI s, nI o], nI c] w fun e b => e = .returned (.bool (holB o s c)) ∧ Bl w b := by
 have f : Hid (∀ W, Calls Tryz.prog 134 #[.agg #[nI s, nI o], nI c] W fun e b => e = .returned (.bool (ownB o c)) ∧ Bl W b) := fun W => owns_any o s c W;unfold holB;generalize ownB o c = p at f ⊢;go_enter Tryz.func106, Tryz.ntmps106;go_wp2_with fail
 generalize a : w.alloc _ = W0;have X := boxH a;have B := boxB a;clear a;refine (f.out _).mono ?_;rintro e w1 ⟨rfl, d⟩;replace X := row_keep d X;replace B := below_step B d;obtain ⟨x0, x1⟩ := cells_2p X;clear d f X;cases p
 ·go_wp2_with (go_at_call 135; refine (has_any _ _ _).mono ?_; rintro e b ⟨rfl, rfl⟩)
  go_ret
  exact ⟨rfl, B⟩
 ·go_wp2_with fail
  go_ret
  exact ⟨rfl, B⟩
theorem chosenP_any (o s : Int) (w : World) :
    Calls Tryz.prog 104 #[.func (.func 106) #[.agg #[nI s, nI o]] #[]] w fun e C => ∃ v, e = .returned v ∧ Made w C v (holL o s 8) := by
 obtain ⟨S, T, G, I, F⟩ := info_parts Tryz.infoI64;go_enter Tryz.func104, Tryz.ntmps104;go_wp2;go_loopw [3, 4] (fun v i wr => ∃ k : Nat, k ≤ 8 ∧ i = nI k ∧ v ≠ sL none 0 0 ∧ wr.ownsRow w.heap.size 2 1 v (holL o s k).length ((holL o s k).map (Value.int .i64)) ∧ Bl w wr)
  (fun _ i _ => 8 - (intOf i).toNat)
 case atStart => exact ⟨0, by omega, rfl, by simp, World.ownsRow_lit _ #[] 0 (Nat.le_refl _) (Nat.zero_le _) rfl, (Below.refl _ _).alloc (Nat.le_refl _) _⟩
 case round =>
  obtain ⟨k, hk, rfl, D, a, c⟩ := hrel;have Y := holL_le o s k;have X := c.size;by_cases V : k < 8
  ·have J : Hid (∀ W, Calls Tryz.prog 106 #[.agg #[nI s, nI o], nI (k : Int)] W fun e C => e = .returned (.bool (holB o s k)) ∧ Bl W C) := fun W => holds_any o s k W;have O : Hid (∀ b, holB o s k = b → if b then holL o s (k + 1) = holL o s k ++ [(k : Int)] else holL o s (k + 1) = holL o s k) := fun b e => by
    cases b
    ·exact holL_miss e
    ·exact holL_hit e
   obtain ⟨q, H⟩ : ∃ q, holB o s k = q := ⟨_, rfl⟩;rw [H] at J;have B := O.out q H;clear O H;obtain ⟨g, cp, rfl, z, l, Z, U⟩ := own_shape a D;cases q
   ·have p : Hid (holL o s (k + 1) = holL o s k) := B;clear B;go_wp2_with (go_at_call 106; refine (J.out _).mono ?_; rintro e C ⟨rfl, n⟩; replace a := own_below a n l; replace c := below_step c n; clear n)
    go_roundw
    case rel => exact ⟨k + 1, by omega, by go_num, D, by rw [p.out]; exact a, c⟩
    case measure => simp [intOf]; omega
   ·have p : Hid (holL o s (k + 1) = holL o s k ++ [(k : Int)]) := B;clear B;go_wp2_with fail
    refine (J.out _).mono ?_;rintro e w2 ⟨rfl, n⟩;replace a := own_below a n l;replace c := below_step c n;have A := c.size;clear n l;go_wp2_with (at_builtin; refine wpList_append_own _ rfl _ _ 28 rfl w.heap.size 2 S (nI 0) 1 8 Tryz.underlying28 T G I F rfl (by decide) _ _ _ rfl (a.alloc _) ⟨_, 0, none⟩ 1 1 [nI (k : Int)] rfl rfl ?c1 ?c2 ?c3 ?c4 ?c5 ?_)
    case c1 =>
     intro j u r;match j, r with
     | 0, r => simp at r; subst r; simp [Addr.add]
    case c2 => intro u M; simp at M; subst M; rfl
    case c3 => unfold maxLen; omega
    case c4 => omega
    case c5 => simp; omega
    ·intro N L f d m;have R : L.ownsRow w.heap.size 2 1 N (holL o s (k + 1)).length ((holL o s (k + 1)).map (Value.int .i64)) ∧ Bl w L :=
      ⟨by rw [p.out]; simpa using f, (c.alloc A _).grown d (by simp; omega) (fun j r => (a.lt j r).1)⟩
     have K : N ≠ sL none 0 0 := m;clear f d a m;go_wp2;go_roundw
     case rel => exact ⟨k + 1, by omega, by go_num, K, R.1, R.2⟩
     case measure => simp [intOf]; omega
  ·have E : k = 8 := by omega
   subst E;obtain ⟨g, y, rfl, z, l, _⟩ := own_shape a D;have HM : Hid (Made w wr (sL (some ⟨g, 0, none⟩) (holL o s 8).length y) (holL o s 8)) := ⟨g, y, rfl, z, l, a, c⟩;clear a c D;go_wp2;go_ret
   exact ⟨_, rfl, HM.out⟩
end Go.Proofs.YtmaopldahnejdaaGreatDoor
