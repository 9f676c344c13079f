import Derived.Test.YtcocbafhcpdheaaGreatDoorP00Box
import Derived.Test.YtcocbafhcpdheaaGreatDoorP13StoreC
import Derived.Test.YtcocbafhcpdheaaGreatDoorP16OkLink
import Derived.Laws.EntriesVeiled
import Derived.Deep.WholeRow
namespace Go.Proofs.YtcocbafhcpdheaaGreatDoor
set_option maxHeartbeats 4000000
set_option maxRecDepth 20000
open Go.ChangeShapes Go.WideShapes Go.ChangeAt Go.RowKit Go.Shelf
set_option linter.unusedVariables false
attribute [local go_sem] Oper.semAt_some
def waysIn (l : Int) (x : CacheD) : Bool := x.1.all fun row => row.all (wayIn l)
def cacheIn (s y l : Int) (x : CacheD) (m : Nat) : Bool := decide ((x.1.length : Int) = s) && (decide ((m : Int) = y) && waysIn l x)
theorem waysIn_yes {l : Int} {x : CacheD} {m : Nat} (hm : 0 < m) (hrow : ∀ row ∈ x.1, row.length = m) (h : ∀ j, j < x.1.length * m → wayIn l (wayK x m j) = true) : waysIn l x = true := by
 refine List.all_eq_true.2 fun row hr => List.all_eq_true.2 fun u hu => ?_;obtain ⟨i, d⟩ := List.getElem?_of_mem hr;obtain ⟨j, f⟩ := List.getElem?_of_mem hu;have hl := hrow row hr;have b := (List.getElem?_eq_some_iff.1 d).1;have g := (List.getElem?_eq_some_iff.1 f).1;have a : j < m := by omega
 have k : (m * i + j) / m = i := by rw [Nat.mul_add_div hm, Nat.div_eq_of_lt a, Nat.add_zero]
 have n : (m * i + j) % m = j := by rw [Nat.mul_add_mod, Nat.mod_eq_of_lt a]
 have c : m * i + j < x.1.length * m := by
  have : m * (i + 1) ≤ m * x.1.length := Nat.mul_le_mul_left m b;rw [Nat.mul_add, Nat.mul_one] at this;rw [Nat.mul_comm x.1.length m];omega
 have q := h _ c;unfold wayK at q;have p : x.1.getD i [] = row := by rw [List.getD_eq_getElem?_getD, d]; rfl
 have o : row.getD j emptyW = u := by rw [List.getD_eq_getElem?_getD, f]; rfl
 rw [k, n, p, o] at q;exact q
theorem waysIn_no {l : Int} {x : CacheD} {m k : Nat} (hm : 0 < m) (hrow : ∀ a ∈ x.1, a.length = m) (hk : k < x.1.length * m) (h : wayIn l (wayK x m k) = false) : waysIn l x = false := by
 obtain ⟨a, c, d⟩ := wayK_get hm hrow hk;cases q : waysIn l x
 ·rfl
 ·have b := List.all_eq_true.1 (List.all_eq_true.1 q a (List.mem_of_getElem? c)) _ (List.mem_of_getElem? d);rw [h] at b;cases b
def FOk (w : World) (Bc : Nat) (cf : Array Value) (v u : Value) (x : CacheD) (m : Nat) (l : Int) (k : Nat) (W : World) : Prop :=
 (∀ j, j < k → wayIn l (wayK x m j) = true) ∧ W.heap[w.heap.size]? = some (.cells cf 39 (0, 0)) ∧ W.heap[w.heap.size + 1 + 1]? = some (.cells #[.bool false] 4 (0, 0)) ∧ W.heap[Bc]? = some (.cells #[v, u] 92 (0, 0)) ∧ Below w.heap.size w W
theorem fok_own {w : World} {Bc : Nat} {cf : Array Value} {v u : Value} {x : CacheD} {m B : Nat} {l : Int} (hB : w.heap.size ≤ B) : OwnFrom B (fun k W => FOk w Bc cf v u x m l k W) := by
 rintro k X Y a ⟨j, g, d, f, i⟩ b c;exact ⟨j, own_heap (β := Unit) _ _ _ _ () X Y a g b c, own_heap (β := Unit) _ _ _ _ () X Y a d b c, own_heap (β := Unit) _ _ _ _ () X Y a f b c, ownFrom_below (β := Unit) (Nat.le_refl _) hB () X Y a i b c⟩
theorem fok_below {w : World} {Bc : Nat} {cf : Array Value} {v u : Value} {x : CacheD} {m k : Nat} {l : Int} {W W' : World} (h : FOk w Bc cf v u x m l k W) (hb : Below W.heap.size W W') : FOk w Bc cf v u x m l k W' := by
 obtain ⟨f, c, a, b, d⟩ := h;exact ⟨f, row_keep hb c, row_keep hb a, row_keep hb b, below_step d hb⟩
theorem fitsCache_any (c s y l : Int) (a b : Option Addr) (x : CacheD) (cap cp m : Nat) (w : World) (hc : codeI c s y l = 0) (h1 : SlRd waysR w a x.1) (hp : x.1.length = 1 ∨ x.1.length = 2 ∨ x.1.length = 4) (hm : m = 1 ∨ m = 2 ∨ m = 4) (hrow : ∀ bA ∈ x.1, bA.length = m) :
    Calls Tryz.prog 174 #[.agg #[.int .i64 c, .int .i64 s, .int .i64 y, .int .i64 l], .agg #[.slice a x.1.length cap, .slice b x.2.length cp]] w fun e D => e = .returned (.bool (cacheIn s y l x m)) ∧ Below w.heap.size w D := by
 have v : 0 < m := by omega
 have vB : x.1.length = 1 ∨ x.1.length = 2 ∨ x.1.length = 4 := hp;obtain ⟨f, d, q, rfl, mA, DA⟩ := setsAt_of h1 (fun e => by rw [e] at hp; simp at hp) v hrow;have HG : Hid (∀ k, k < x.1.length * m → ((q (k / m)).way (k % m)).line = (wayK x m k).1 ∧ ((q (k / m)).way (k % m)).state = (wayK x m k).2.1 ∧ ((q (k / m)).way (k % m)).len = (wayK x m k).2.2.length) := fun k O => by
  obtain ⟨bA, e1, e2⟩ := wayK_get v hrow O;obtain ⟨q1, R, U, q4, q5, q6⟩ := DA _ _ bA _ e1 e2;exact ⟨q1, R, U⟩
 have HP : Hid (x.1.length = 1 ∨ x.1.length = 2 ∨ x.1.length = 4) := hp;have HM : Hid (m = 1 ∨ m = 2 ∨ m = 4) := hm;have HA : Hid _ := mA;have HY : Hid ((∀ j, j < x.1.length * m → wayIn l (wayK x m j) = true) → waysIn l x = true) := fun h => waysIn_yes v hrow h;have HN : Hid (∀ k, k < x.1.length * m → wayIn l (wayK x m k) = false → waysIn l x = false) := fun k O h => waysIn_no v hrow O h;have HF : Hid (∀ (u : WayD) (ua : Option Addr) (uc : Nat) (W : World), Calls Tryz.prog 175 #[.agg #[.int .i64 c, .int .i64 s, .int .i64 y, .int .i64 l], .agg #[.int .i64 u.1, .int .i64 u.2.1, .slice ua u.2.2.length uc]] W fun e D => e = .returned (.bool (wayIn l u)) ∧ Below W.heap.size W D) := fun u ua uc W => fitsWay_any c s y l u ua uc W hc;have cA := (mA 0 (by omega)).1;have BA : Hid (∀ W, Below w.heap.size w W → Calls Tryz.prog 218 #[.agg #[.slice (some ⟨f, d, none⟩) x.1.length cap, .slice b x.2.length cp]] W fun e D => e = .returned (.int .i64 (m : Int)) ∧ Below W.heap.size W D) := fun W hb => ways_any f d x.1.length cap _ _ _ _ rfl _ m _ W (by omega) (cell_keep hb cA (cell_lt cA));clear h1 DA hrow hp hm mA cA;have B := below_step (below_step (box_below w (.cells #[.int .i64 c, .int .i64 s, .int .i64 y, .int .i64 l] 39)) (box_below _ (.cells #[.slice (some ⟨f, d, none⟩) x.1.length cap, .slice b x.2.length cp] 92))) (box_below _ (.cells #[.bool false] 4));have k0 := heap_on (.cells #[.bool false] 4) (heap_on (.cells #[.slice (some ⟨f, d, none⟩) x.1.length cap, .slice b x.2.length cp] 92) (heap_at w (.cells #[.int .i64 c, .int .i64 s, .int .i64 y, .int .i64 l] 39)));have k1 := heap_on (.cells #[.bool false] 4) (heap_at (w.alloc (.cells #[.int .i64 c, .int .i64 s, .int .i64 y, .int .i64 l] 39)) (.cells #[.slice (some ⟨f, d, none⟩) x.1.length cap, .slice b x.2.length cp] 92));have T := heap_at ((w.alloc (.cells #[.int .i64 c, .int .i64 s, .int .i64 y, .int .i64 l] 39)).alloc (.cells #[.slice (some ⟨f, d, none⟩) x.1.length cap, .slice b x.2.length cp] 92)) (.cells #[.bool false] 4);rw [alloc_len] at k1;rw [alloc_len, alloc_len] at T;have e3 : w.heap.size + 1 + 1 + 1 ≤ (((w.alloc (.cells #[.int .i64 c, .int .i64 s, .int .i64 y, .int .i64 l] 39)).alloc (.cells #[.slice (some ⟨f, d, none⟩) x.1.length cap, .slice b x.2.length cp] 92)).alloc (.cells #[.bool false] 4)).heap.size := by simp
 refine (callsIn_wide (n := 0)).1 ?_;refine callsIn_of_wp_marks Tryz.func174 rfl trivial ?_ rfl;simp only [Tryz.ntmps174, List.size_toArray, List.length_cons, List.length_nil, Nat.reduceAdd, Nat.reduceSub, Array.replicate_succ, Array.replicate_zero, List.push_toArray, List.append_toArray, List.nil_append, List.cons_append];gi_wp2
 generalize (((w.alloc (.cells #[.int .i64 c, .int .i64 s, .int .i64 y, .int .i64 l] 39)).alloc (.cells #[.slice (some ⟨f, d, none⟩) x.1.length cap, .slice b x.2.length cp] 92)).alloc (.cells #[.bool false] 4)) = W3 at B k0 k1 T e3 ⊢;obtain ⟨G, I, E, J⟩ := cells_4 k0;obtain ⟨L, V⟩ := cells_two k1;by_cases hs : (x.1.length : Int) = s
 ·subst hs;have z1 : ((x.1.length : Int) != (x.1.length : Int)) = false := by simp
  by_cases hy : (m : Int) = y
  ·subst hy;have z2 : ((m : Int) != (m : Int)) = false := by simp
   have aA : ∀ n' : Cls (fun wx => Below W3.heap.size W3 wx), n'.w.cell? ⟨w.heap.size, 0, none⟩ = some (.int .i64 c) := fun n' => cell_keep n'.h G (cell_lt G);have dA : ∀ n' : Cls (fun wx => Below W3.heap.size W3 wx), n'.w.cell? ⟨w.heap.size, 1, none⟩ = some (.int .i64 (x.1.length : Int)) := fun n' => cell_keep n'.h I (cell_lt I);have gA : ∀ n' : Cls (fun wx => Below W3.heap.size W3 wx), n'.w.cell? ⟨w.heap.size, 2, none⟩ = some (.int .i64 (m : Int)) := fun n' => cell_keep n'.h E (cell_lt E);have jA : ∀ n' : Cls (fun wx => Below W3.heap.size W3 wx), n'.w.cell? ⟨w.heap.size, 3, none⟩ = some (.int .i64 l) := fun n' => cell_keep n'.h J (cell_lt J);have pA : ∀ n' : Cls (fun wx => Below W3.heap.size W3 wx), n'.w.cell? ⟨w.heap.size + 1, 0, none⟩ = some (.slice (some ⟨f, d, none⟩) x.1.length cap) := fun n' => cell_keep n'.h L (cell_lt L);have fA : ∀ n' : Cls (fun wx => Below W3.heap.size W3 wx), n'.w.cell? ⟨w.heap.size + 1, 1, none⟩ = some (.slice b x.2.length cp) := fun n' => cell_keep n'.h V (cell_lt V);have C : Hid (∀ n' : Cls (fun wx => Below W3.heap.size W3 wx), _) := fun n' => BA.out n'.w (below_step B n'.h);refine wpIn_wide.2 ?_;refine region_class (fun wx => Below W3.heap.size W3 wx) (by kernel_rfl) (by kernel_rfl) ((Below.refl _ W3).drew) ?_;intro eA;repeat (quiet_step (first | (go_at_call 218; exact calls_class (C.out _) (fun D hc bb => below_step hc bb))))
   refine wpQuiet_nil ?_;intro i r;clear eA C aA dA gA jA pA fA G I E J L V;replace k0 := row_keep r k0;replace k1 := row_keep r k1;replace T := row_keep r T;replace B := below_step B r;replace e3 := Nat.le_trans e3 r.size;clear r;obtain ⟨L, V⟩ := cells_two k1;gi_wp2
   refine ⟨trivial, rfl, (callsIn_wide.2 (everyWay_any _ _ _ _ _ _ _ _ rfl rfl _)).mono ?_⟩;rintro e D ⟨rfl, rfl⟩;gi_wp2
   have bz := box_below i (.cells #[.slice (some ⟨f, d, none⟩) x.1.length cap, .slice b x.2.length cp] 92);have kc := heap_at i (.cells #[.slice (some ⟨f, d, none⟩) x.1.length cap, .slice b x.2.length cp] 92);have e4 : (i.alloc (.cells #[.slice (some ⟨f, d, none⟩) x.1.length cap, .slice b x.2.length cp] 92)).heap.size = i.heap.size + 1 := by simp
   have Z : FOk w i.heap.size #[.int .i64 c, .int .i64 (x.1.length : Int), .int .i64 (m : Int), .int .i64 l] (.slice (some ⟨f, d, none⟩) x.1.length cap) (.slice b x.2.length cp) x m l 0 (i.alloc (.cells #[.slice (some ⟨f, d, none⟩) x.1.length cap, .slice b x.2.length cp] 92)) := ⟨fun j hj => by omega, row_keep bz k0, row_keep bz T, kc, below_step B bz⟩;clear k0 k1 T kc bz B L V;generalize i.alloc (.cells #[.slice (some ⟨f, d, none⟩) x.1.length cap, .slice b x.2.length cp] 92) = W0 at e4 Z ⊢;generalize i.heap.size = Bc at e3 e4 Z ⊢;refine range_iter (N := x.1.length * m) (lb := #[.pointer (some ⟨Bc, 0, none⟩)]) (gf := 253) rfl (enters_of Tryz.func253 (by kernel_rfl) rfl)
    (everyWay1_iter Bc f d x.1.length m cap q (by have := HP.out; omega) (by have := HM.out; omega) (by have := HP.out; omega) v) (fun _ => rfl)
    (fun k W => FOk w Bc #[.int .i64 c, .int .i64 (x.1.length : Int), .int .i64 (m : Int), .int .i64 l] (.slice (some ⟨f, d, none⟩) x.1.length cap) (.slice b x.2.length cp) x m l k W)
    (fun z k W => z = .ret ∧ waysIn l x = false ∧ W.heap[w.heap.size + 1 + 1]? = some (.cells #[.bool false] 4 (0, 0)) ∧ Below w.heap.size w W)
    (fok_own (by omega)) (fun z => OwnFrom.and (ownFrom_pure _ _) (OwnFrom.and (ownFrom_pure _ _) (OwnFrom.and (own_heap _ _ _ _) (ownFrom_below (Nat.le_refl _) (by omega))))) ?hR Z
    (fun k a' W => ∃ B6, W0.heap.size < B6 ∧ W.heap[B6]? = some (.cells #[.int .i64 ((q (k / m)).way (k % m)).line, .int .i64 ((q (k / m)).way (k % m)).state, .slice ((q (k / m)).way (k % m)).addr ((q (k / m)).way (k % m)).len ((q (k / m)).way (k % m)).cap] 88 (0, 0)) ∧ FOk w Bc #[.int .i64 c, .int .i64 (x.1.length : Int), .int .i64 (m : Int), .int .i64 l] (.slice (some ⟨f, d, none⟩) x.1.length cap) (.slice b x.2.length cp) x m l k W ∧
     a' = { tmps := #[.agg #[.int .i64 c, .int .i64 (x.1.length : Int), .int .i64 (m : Int), .int .i64 l], .agg #[.slice (some ⟨f, d, none⟩) x.1.length cap, .slice b x.2.length cp], .pointer (some ⟨w.heap.size, 0, none⟩), .pointer (some ⟨w.heap.size + 1, 0, none⟩), .pointer (some ⟨w.heap.size + 1 + 1, 0, none⟩), undef, .pointer (some ⟨B6, 0, none⟩), .pointer (some ⟨w.heap.size + 1, 0, none⟩), .slice (some ⟨f, d, none⟩) x.1.length cap, .int .i64 (x.1.length : Int), .pointer (some ⟨w.heap.size, 1, none⟩), .int .i64 (x.1.length : Int), .bool false, .bool false, .agg #[.slice (some ⟨f, d, none⟩) x.1.length cap, .slice b x.2.length cp], .int .i64 (m : Int), .pointer (some ⟨w.heap.size, 2, none⟩), .int .i64 (m : Int), .bool false, .bool false, .agg #[.slice (some ⟨f, d, none⟩) x.1.length cap, .slice b x.2.length cp], .func (.func 253) #[] #[.pointer (some ⟨Bc, 0, none⟩)], .agg #[.int .i64 (k / m : Nat), .int .i64 (k % m : Nat)], ((q (k / m)).way (k % m)).agg, undef, undef, undef, undef], defers := [] })
    ?hA ?hassign ?hbody ?hdone ?hstop
   case hR =>
    rintro k W ⟨_, _, _, g3, g4⟩;exact ⟨by rw [cell_of_row W _ 0 _ _ (0, 0) g3]; rfl, setsAt_below HA.out g4 v⟩
   case hA =>
    rintro k a' ⟨⟩ X Y M ⟨B6, l6, g6, A, rfl⟩ hg hr;exact ⟨B6, l6, own_heap (β := Unit) _ _ _ _ () X Y M g6 hg hr, fok_own (B := W0.heap.size) (by omega) k X Y M A hg hr, rfl⟩
   case hassign =>
    rintro k W K O A NA hK;gi_wp2
    have z1 := box_below W (.cells #[.int .i64 ((q (k / m)).way (k % m)).line, .int .i64 ((q (k / m)).way (k % m)).state, .slice ((q (k / m)).way (k % m)).addr ((q (k / m)).way (k % m)).len ((q (k / m)).way (k % m)).cap] 88);exact hK _ _ (Kept.below z1) ⟨W.heap.size, by omega, heap_at _ _, fok_below A z1, rfl⟩
   case hbody =>
    rintro k a' V1 O ⟨B6, l6, g6, A, rfl⟩ NA hD hL;obtain ⟨q1, R, U⟩ := HG.out k O;rw [q1, R, U] at g6;have EA : ((q (k / m)).way (k % m)).agg = .agg #[.int .i64 (wayK x m k).1, .int .i64 (wayK x m k).2.1, .slice ((q (k / m)).way (k % m)).addr (wayK x m k).2.2.length ((q (k / m)).way (k % m)).cap] := by rw [WCells.agg, q1, R, U]
    rw [EA];clear EA q1 R U;generalize ((q (k / m)).way (k % m)).addr = ad at g6 ⊢;generalize ((q (k / m)).way (k % m)).cap = cpw at g6 ⊢;have HE : Hid (∀ W, Calls Tryz.prog 175 #[.agg #[.int .i64 c, .int .i64 (x.1.length : Int), .int .i64 (m : Int), .int .i64 l], .agg #[.int .i64 (wayK x m k).1, .int .i64 (wayK x m k).2.1, .slice ad (wayK x m k).2.2.length cpw]] W fun e D => e = .returned (.bool (wayIn l (wayK x m k))) ∧ Below W.heap.size W D) := fun W => HF.out (wayK x m k) ad cpw W;obtain ⟨x0, x1, x2⟩ := cells_three g6;obtain ⟨G, I, E, J⟩ := cells_4 A.2.1;cases F : wayIn l (wayK x m k)
    ·rw [F] at HE;have SA : Hid (waysIn l x = false) := HN.out k O F;gi_wp2
     refine ⟨trivial, rfl, (CallsIn.inRound _ (callsIn_wide.2 (HE.out _))).mono ?_⟩;rintro e V2 ⟨rfl, b1⟩;obtain ⟨A, g1, H, g3, g4⟩ := fok_below A b1;have r2 : V2.cell? ⟨w.heap.size + 1 + 1, 0, none⟩ = some (.bool false) := by rw [cell_of_row V2 _ 0 _ _ (0, 0) H]; rfl
     have r3 : V2.frozen? ⟨w.heap.size + 1 + 1, 0, none⟩ = false := frozen_of_row V2 _ 0 _ _ H;clear x0 x1 x2 G I E J;gi_wp2
     refine ⟨Kept.trans (Kept.below b1) (Kept.chg (S := fun j => j = w.heap.size + 1 + 1) (chg_grown (grownBy_setCell' V2 (w.heap.size + 1 + 1) _) rfl) (fun j e => by omega)), rfl, SA.out, heap_setCell_same V2 (w.heap.size + 1 + 1) 0 _ _ (.bool false) H, g4.setCell (p := ⟨w.heap.size + 1 + 1, 0, none⟩) (by simp; omega) _⟩
    ·rw [F] at HE;gi_wp2
     refine ⟨trivial, rfl, (CallsIn.inRound _ (callsIn_wide.2 (HE.out _))).mono ?_⟩;rintro e V2 ⟨rfl, b1⟩;obtain ⟨A, g1, H, g3, g4⟩ := fok_below A b1;clear x0 x1 x2 G I E J;gi_wp2
     refine ⟨Kept.below b1, fun j hj => ?_, g1, H, g3, g4⟩;by_cases he : j < k
     ·exact A j he
     ·have : j = k := by omega
      subst this;exact F
   case hdone =>
    rintro W ⟨A, g1, H, g3, g4⟩ hK;have R : W.cell? ⟨w.heap.size + 1 + 1, 0, none⟩ = some (.bool false) := by rw [cell_of_row W _ 0 _ _ (0, 0) H]; rfl
    have U : W.frozen? ⟨w.heap.size + 1 + 1, 0, none⟩ = false := frozen_of_row W _ 0 _ _ H;gi_wp2
    have g8 := heap_setCell_same W (w.heap.size + 1 + 1) 0 _ _ (.bool true) H;have zA : (W.setCell ⟨w.heap.size + 1 + 1, 0, none⟩ (.bool true)).heap[W0.heap.size]? = some (.deferred (some [])) := (heap_setCell_other W ⟨w.heap.size + 1 + 1, 0, none⟩ _ _ (by simp; omega)).trans hK;refine ⟨by simp, .inl ⟨_, _, rfl, run_takeDeferred zA, ?_⟩⟩;have g9 := (World.putObj_heap_other (o := .deferred none) (show w.heap.size + 1 + 1 ≠ W0.heap.size by omega)).trans g8;have g := cell_of_row _ _ 0 _ _ (0, 0) g9;refine ⟨.bool true, ?_, ret_bool (by unfold cacheIn; rw [HY.out A]; simp), (g4.setCell (p := ⟨w.heap.size + 1 + 1, 0, none⟩) (by simp; omega) _).trans ((Below.refl _ _).grown (grownBy_putObj' _ _ _) (by have := (ltH zA); omega) (fun k e => by cases e; omega))⟩;simp at g
    simp [results, Tryz.results174, go_sem, g]
   case hstop =>
    rintro z k W O ⟨rfl, hf, g5, g7⟩ hK;gi_wp2
    refine ⟨by simp, .inl ⟨_, _, rfl, run_takeDeferred hK, ?_⟩⟩;have g9 := (World.putObj_heap_other (o := .deferred none) (show w.heap.size + 1 + 1 ≠ W0.heap.size by omega)).trans g5;have g := cell_of_row _ _ 0 _ _ (0, 0) g9;refine ⟨.bool false, ?_, ret_bool (by unfold cacheIn; rw [hf]; simp), g7.trans ((Below.refl _ _).grown (grownBy_putObj' _ _ _) (by have := (ltH hK); omega) (fun k e => by cases e; omega))⟩;simp at g
    simp [results, Tryz.results174, go_sem, g]
  ·have z2 : ((m : Int) != y) = true := by simp [hy]
   have aA : ∀ n' : Cls (fun wx => Below W3.heap.size W3 wx), n'.w.cell? ⟨w.heap.size, 0, none⟩ = some (.int .i64 c) := fun n' => cell_keep n'.h G (cell_lt G);have dA : ∀ n' : Cls (fun wx => Below W3.heap.size W3 wx), n'.w.cell? ⟨w.heap.size, 1, none⟩ = some (.int .i64 (x.1.length : Int)) := fun n' => cell_keep n'.h I (cell_lt I);have gA : ∀ n' : Cls (fun wx => Below W3.heap.size W3 wx), n'.w.cell? ⟨w.heap.size, 2, none⟩ = some (.int .i64 y) := fun n' => cell_keep n'.h E (cell_lt E);have jA : ∀ n' : Cls (fun wx => Below W3.heap.size W3 wx), n'.w.cell? ⟨w.heap.size, 3, none⟩ = some (.int .i64 l) := fun n' => cell_keep n'.h J (cell_lt J);have pA : ∀ n' : Cls (fun wx => Below W3.heap.size W3 wx), n'.w.cell? ⟨w.heap.size + 1, 0, none⟩ = some (.slice (some ⟨f, d, none⟩) x.1.length cap) := fun n' => cell_keep n'.h L (cell_lt L);have fA : ∀ n' : Cls (fun wx => Below W3.heap.size W3 wx), n'.w.cell? ⟨w.heap.size + 1, 1, none⟩ = some (.slice b x.2.length cp) := fun n' => cell_keep n'.h V (cell_lt V);have C : Hid (∀ n' : Cls (fun wx => Below W3.heap.size W3 wx), _) := fun n' => BA.out n'.w (below_step B n'.h);refine wpIn_wide.2 ?_;refine region_class (fun wx => Below W3.heap.size W3 wx) (by kernel_rfl) (by kernel_rfl) ((Below.refl _ W3).drew) ?_;intro eA;repeat (quiet_step (first | (go_at_call 218; exact calls_class (C.out _) (fun D hc bb => below_step hc bb))))
   refine wpQuiet_nil ?_;intro i r;clear eA C aA dA gA jA pA fA G I E J L V z2;have HH := hy;clear hy;have j2 := row_keep r T;have R : i.cell? ⟨w.heap.size + 1 + 1, 0, none⟩ = some (.bool false) := by rw [cell_of_row i _ 0 _ _ (0, 0) j2]; rfl
   have U : i.frozen? ⟨w.heap.size + 1 + 1, 0, none⟩ = false := frozen_of_row i _ 0 _ _ j2;have BB := below_step B r;gi_wp2
   have g9 := heap_setCell_same i (w.heap.size + 1 + 1) 0 _ _ (.bool false) j2;have g := cell_of_row _ _ 0 _ _ (0, 0) g9;refine ⟨.bool false, ?_, ret_bool (by unfold cacheIn; simp [HH]), BB.setCell (p := ⟨w.heap.size + 1 + 1, 0, none⟩) (by simp; omega) _⟩;simp at g
   simp [results, Tryz.results174, go_sem, g]
 ·have z1 : ((x.1.length : Int) != s) = true := by simp [hs]
  refine wpIn_wide.2 ?_;go_quiet (fail)
  have HH := hs;clear hs;have r : Below W3.heap.size W3 (W3.drewN nq) := be_drewN (Below.refl _ _) nq;generalize W3.drewN nq = i at r ⊢;have j2 := row_keep r T;have R : i.cell? ⟨w.heap.size + 1 + 1, 0, none⟩ = some (.bool false) := by rw [cell_of_row i _ 0 _ _ (0, 0) j2]; rfl
  have U : i.frozen? ⟨w.heap.size + 1 + 1, 0, none⟩ = false := frozen_of_row i _ 0 _ _ j2;have BB := below_step B r;gi_wp2
  have g9 := heap_setCell_same i (w.heap.size + 1 + 1) 0 _ _ (.bool false) j2;have g := cell_of_row _ _ 0 _ _ (0, 0) g9;refine ⟨.bool false, ?_, ret_bool (by unfold cacheIn; simp [HH]), BB.setCell (p := ⟨w.heap.size + 1 + 1, 0, none⟩) (by simp; omega) _⟩;simp at g
  simp [results, Tryz.results174, go_sem, g]
def badP {α : Type} (p : α → Bool) (xs : List α) : Int := match xs.findIdx? (fun u => !p u) with
 | some i => (i : Int)
 | none => -1
theorem badP_at {α : Type} {p : α → Bool} {xs : List α} {k : Nat} {u : α} (hu : xs[k]? = some u) (hp : p u = false) (hno : ∀ j v, j < k → xs[j]? = some v → p v = true) : badP p xs = (k : Int) := by
 have a := (List.getElem?_eq_some_iff.1 hu).1;have : xs.findIdx? (fun u => !p u) = some k := by
  rw [List.findIdx?_eq_some_iff_getElem];refine ⟨a, ?_, fun j hj => ?_⟩
  ·rw [List.getElem?_eq_getElem a] at hu;cases hu;simp [hp]
  ·have := hno j _ hj (List.getElem?_eq_getElem (by omega));simp [this]
 unfold badP;rw [this]
theorem badP_no {α : Type} {p : α → Bool} {xs : List α} (hno : ∀ (j : Nat) (v : α), xs[j]? = some v → p v = true) : badP p xs = -1 := by
 have : xs.findIdx? (fun u => !p u) = none := by
  rw [List.findIdx?_eq_none_iff];intro u a;obtain ⟨j, b⟩ := List.getElem?_of_mem a;simp [hno j u b]
 unfold badP;rw [this]
theorem badP_all {α : Type} (p : α → Bool) (xs : List α) : xs.all p = decide (badP p xs < 0) := by
 cases h : xs.all p
 ·have b : ¬ ∀ x ∈ xs, p x = true := fun hh => by rw [List.all_eq_true.2 hh] at h; cases h
  cases a : xs.findIdx? (fun u => !p u) with
  | none =>
   rw [List.findIdx?_eq_none_iff] at a;exact (b fun x hx => by have := a x hx; simpa using this).elim
  | some i => simp [badP, a]
 ·rw [badP_no fun j v hv => List.all_eq_true.1 h v (List.mem_of_getElem? hv)];rfl
open Go.ChangeShapes Go.WideShapes Go.ChangeAt Go.RowKit
def opMostA (k : Int) : Int := if k = 1 then 0 else 9999
def opMostB (k : Int) : Int := if k = 5 then 9999 else 0
def opB (k a x y : Int) : Bool := betw k 1 5 && (betw a 0 31 && (betw x 0 (opMostA k) && betw y 0 (opMostB k)))
theorem setRow_last (w : World) (o : Obj) (c c' : Array Value) (t : TypeId) : ((w.alloc o).alloc (.cells c t)).setRow (w.heap.size + 1) c' = (w.alloc o).alloc (.cells c' t) := by
 have := World.setRow_alloc_new (w.alloc o) c c' t;rwa [show (w.alloc o).heap.size = w.heap.size + 1 by simp] at this
theorem heap_last (w : World) (o o2 : Obj) : ((w.alloc o).alloc o2).heap[w.heap.size + 1]? = some o2 := by
 have := heap_alloc_last (w.alloc o) o2;rwa [show (w.alloc o).heap.size = w.heap.size + 1 by simp] at this
theorem op_cls {W : World} {g : Nat} {v0 v1 v2 v3 : Value} {t : TypeId} (R : W.heap[g]? = some (.cells #[v0, v1, v2, v3] t (0, 0))) :
    (∀ n : Cls (fun wx => Below W.heap.size W wx), n.w.cell? ⟨g, 0, none⟩ = some v0) ∧ (∀ n : Cls (fun wx => Below W.heap.size W wx), n.w.cell? ⟨g, 1, none⟩ = some v1) ∧
     (∀ n : Cls (fun wx => Below W.heap.size W wx), n.w.cell? ⟨g, 2, none⟩ = some v2) ∧ (∀ n : Cls (fun wx => Below W.heap.size W wx), n.w.cell? ⟨g, 3, none⟩ = some v3) := by
 refine ⟨fun n => ?_, fun n => ?_, fun n => ?_, fun n => ?_⟩
 ·rw [cell_of_row n.w g 0 _ t (0, 0) (row_keep n.h R)]; rfl
 ·rw [cell_of_row n.w g 1 _ t (0, 0) (row_keep n.h R)]; rfl
 ·rw [cell_of_row n.w g 2 _ t (0, 0) (row_keep n.h R)]; rfl
 ·rw [cell_of_row n.w g 3 _ t (0, 0) (row_keep n.h R)]; rfl
theorem bl_drew {w w' : World} {n : Nat} (h : Below n w w') {k : Nat} : Below n w (w'.drewN k) := ⟨h.os, h.tape, h.output, h.size, h.block⟩
theorem opKind {k : Int} (h : betw k 1 5 = true) : k = 1 ∨ k = 2 ∨ k = 3 ∨ k = 4 ∨ k = 5 := by simp [betw] at h; omega
theorem deedOf1 (w : World) :
    Calls Tryz.prog 262 #[.int .i64 1] w fun e w' => e = .returned (.agg #[.int .i64 0, .int .i64 0, .func (.func 277) #[] #[], .func (.func 278) #[] #[]]) ∧ Below w.heap.size w w' := by
 go_enter Tryz.func262, Tryz.ntmps262;go_upto_region 1 with fail
 iterate 23 go_step
 refine wp_store_row 300 _ _ rfl (w.heap.size + 1) _ (by rfl) (by rfl) 300 _ (heap_last _ _ _) (by kernel_rfl) (by rfl) (by kernel_rfl) ?_;rw [setRow_last];go_wp2;refine bodyPost_ret (v := .agg #[.int .i64 0, .int .i64 0, .func (.func 277) #[] #[], .func (.func 278) #[] #[]]) (by simp [results, Tryz.results262, go_sem]) rfl ⟨rfl, ?_⟩;repeat first
  | exact Below.refl _ _
  | refine Below.setCell ?_ (by simp <;> omega) _
  | refine Below.alloc ?_ (by simp <;> omega) _
  | refine Below.drew ?_
theorem deedOf2 (w : World) :
    Calls Tryz.prog 262 #[.int .i64 2] w fun e w' => e = .returned (.agg #[.int .i64 9999, .int .i64 0, .func (.func 279) #[] #[], .func (.func 280) #[] #[]]) ∧ Below w.heap.size w w' := by
 go_enter Tryz.func262, Tryz.ntmps262;go_upto_region 1 with fail
 iterate 23 go_step
 refine wp_store_row 300 _ _ rfl (w.heap.size + 1) _ (by rfl) (by rfl) 300 _ (heap_last _ _ _) (by kernel_rfl) (by rfl) (by kernel_rfl) ?_;rw [setRow_last];go_wp2;refine bodyPost_ret (v := .agg #[.int .i64 9999, .int .i64 0, .func (.func 279) #[] #[], .func (.func 280) #[] #[]]) (by simp [results, Tryz.results262, go_sem]) rfl ⟨rfl, ?_⟩;repeat first
  | exact Below.refl _ _
  | refine Below.setCell ?_ (by simp <;> omega) _
  | refine Below.alloc ?_ (by simp <;> omega) _
  | refine Below.drew ?_
theorem deedOf3 (w : World) :
    Calls Tryz.prog 262 #[.int .i64 3] w fun e w' => e = .returned (.agg #[.int .i64 9999, .int .i64 0, .func (.func 281) #[] #[], .func (.func 278) #[] #[]]) ∧ Below w.heap.size w w' := by
 go_enter Tryz.func262, Tryz.ntmps262;go_upto_region 1 with fail
 iterate 23 go_step
 refine wp_store_row 300 _ _ rfl (w.heap.size + 1) _ (by rfl) (by rfl) 300 _ (heap_last _ _ _) (by kernel_rfl) (by rfl) (by kernel_rfl) ?_;rw [setRow_last];go_wp2;refine bodyPost_ret (v := .agg #[.int .i64 9999, .int .i64 0, .func (.func 281) #[] #[], .func (.func 278) #[] #[]]) (by simp [results, Tryz.results262, go_sem]) rfl ⟨rfl, ?_⟩;repeat first
  | exact Below.refl _ _
  | refine Below.setCell ?_ (by simp <;> omega) _
  | refine Below.alloc ?_ (by simp <;> omega) _
  | refine Below.drew ?_
theorem deedOf4 (w : World) :
    Calls Tryz.prog 262 #[.int .i64 4] w fun e w' => e = .returned (.agg #[.int .i64 9999, .int .i64 0, .func (.func 279) #[] #[], .func (.func 278) #[] #[]]) ∧ Below w.heap.size w w' := by
 go_enter Tryz.func262, Tryz.ntmps262;go_upto_region 1 with fail
 iterate 23 go_step
 refine wp_store_row 300 _ _ rfl (w.heap.size + 1) _ (by rfl) (by rfl) 300 _ (heap_last _ _ _) (by kernel_rfl) (by rfl) (by kernel_rfl) ?_;rw [setRow_last];go_wp2;refine bodyPost_ret (v := .agg #[.int .i64 9999, .int .i64 0, .func (.func 279) #[] #[], .func (.func 278) #[] #[]]) (by simp [results, Tryz.results262, go_sem]) rfl ⟨rfl, ?_⟩;repeat first
  | exact Below.refl _ _
  | refine Below.setCell ?_ (by simp <;> omega) _
  | refine Below.alloc ?_ (by simp <;> omega) _
  | refine Below.drew ?_
theorem deedOf5 (w : World) :
    Calls Tryz.prog 262 #[.int .i64 5] w fun e w' => e = .returned (.agg #[.int .i64 9999, .int .i64 9999, .func (.func 282) #[] #[], .func (.func 278) #[] #[]]) ∧ Below w.heap.size w w' := by
 go_enter Tryz.func262, Tryz.ntmps262;go_upto_region 1 with fail
 iterate 23 go_step
 refine wp_store_row 300 _ _ rfl (w.heap.size + 1) _ (by rfl) (by rfl) 300 _ (heap_last _ _ _) (by kernel_rfl) (by rfl) (by kernel_rfl) ?_;rw [setRow_last];go_wp2;refine bodyPost_ret (v := .agg #[.int .i64 9999, .int .i64 9999, .func (.func 282) #[] #[], .func (.func 278) #[] #[]]) (by simp [results, Tryz.results262, go_sem]) rfl ⟨rfl, ?_⟩;repeat first
  | exact Below.refl _ _
  | refine Below.setCell ?_ (by simp <;> omega) _
  | refine Below.alloc ?_ (by simp <;> omega) _
  | refine Below.drew ?_
theorem fits_any (p q : Int) (f g : Value) (k a x y : Int) (w : World) :
    Calls Tryz.prog 263 #[.agg #[.int .i64 p, .int .i64 q, f, g], .agg #[.int .i64 k, .int .i64 a, .int .i64 x, .int .i64 y]] w fun e b => e = .returned (.bool (betw x 0 p && betw y 0 q)) ∧ Below w.heap.size w b := by
 cases h : betw x 0 p
 all_goals
  go_enter Tryz.func263, Tryz.ntmps263;go_wp2_with (go_at_call 76; refine (between_any _ _ _ _).mono ?_; rintro e b ⟨rfl, rfl⟩)
  go_ret
  refine ⟨rfl, ?_⟩;exact (Below.alloc (Below.alloc (Below.refl _ _) (Nat.le_refl _) _) (by simp) _)
theorem implOpOk_any (k a x y : Int) (w : World) :
    Calls Tryz.prog 232 #[.agg #[.int .i64 k, .int .i64 a, .int .i64 x, .int .i64 y]] w fun e w' => e = .returned (.bool (opB k a x y)) ∧ Below w.heap.size w w' := by
 have B := (Below.refl w.heap.size w).alloc (Nat.le_refl _);cases j : betw k 1 5
 ·have H : Hid (opB k a x y = false) := by unfold Hid opB; simp [j]
  go_enter Tryz.func232, Tryz.ntmps232;go_wp2;go_quiet (first | (go_at_call 76; exact Calls.quiet_of_same (between_any _ _ _ _)))
  go_wp2;go_ret
  exact ⟨ret_bool H.out.symm, bl_drew (B _)⟩
 ·cases l : betw a 0 31
  ·have H : Hid (opB k a x y = false) := by unfold Hid opB; simp [l]
   go_enter Tryz.func232, Tryz.ntmps232;go_wp2;go_quiet (first | (go_at_call 76; exact Calls.quiet_of_same (between_any _ _ _ _)))
   go_wp2;go_ret
   exact ⟨ret_bool H.out.symm, bl_drew (B _)⟩
  ·rcases opKind j with rfl | rfl | rfl | rfl | rfl
   ·have H : Hid (opB 1 a x y = (betw x 0 0 && betw y 0 0)) := by unfold Hid opB; rw [j, l]; rfl
    have R := heap_alloc_new w (.cells #[.int .i64 1, .int .i64 a, .int .i64 x, .int .i64 y] 121);replace B := B (.cells #[.int .i64 1, .int .i64 a, .int .i64 x, .int .i64 y] 121);go_enter Tryz.func232, Tryz.ntmps232;go_wp2;generalize w.alloc (.cells #[.int .i64 1, .int .i64 a, .int .i64 x, .int .i64 y] 121) = W at R B ⊢;obtain ⟨d, f, g, c⟩ := op_cls R;clear R;refine region_class (fun wx => Below W.heap.size W wx) (by kernel_rfl) (by kernel_rfl) ((Below.refl _ W).drew) ?_;intro b
    repeat (quiet_step (first
     | (go_at_call 76; exact calls_class_same (between_any _ _ _ _))
     | (go_at_call 262; exact calls_class (deedOf1 _) (fun w' hc bb => below_step hc bb))
     | (go_at_call 263; exact calls_class (fits_any _ _ _ _ _ _ _ _ _) (fun w' hc bb => below_step hc bb))))
    refine wpQuiet_nil ?_;intro wx i;clear d f g c b;go_wp2;go_ret
    exact ⟨ret_bool H.out.symm, below_step B i⟩
   ·have H : Hid (opB 2 a x y = (betw x 0 9999 && betw y 0 0)) := by unfold Hid opB; rw [j, l]; rfl
    have R := heap_alloc_new w (.cells #[.int .i64 2, .int .i64 a, .int .i64 x, .int .i64 y] 121);replace B := B (.cells #[.int .i64 2, .int .i64 a, .int .i64 x, .int .i64 y] 121);go_enter Tryz.func232, Tryz.ntmps232;go_wp2;generalize w.alloc (.cells #[.int .i64 2, .int .i64 a, .int .i64 x, .int .i64 y] 121) = W at R B ⊢;obtain ⟨d, f, g, c⟩ := op_cls R;clear R;refine region_class (fun wx => Below W.heap.size W wx) (by kernel_rfl) (by kernel_rfl) ((Below.refl _ W).drew) ?_;intro b
    repeat (quiet_step (first
     | (go_at_call 76; exact calls_class_same (between_any _ _ _ _))
     | (go_at_call 262; exact calls_class (deedOf2 _) (fun w' hc bb => below_step hc bb))
     | (go_at_call 263; exact calls_class (fits_any _ _ _ _ _ _ _ _ _) (fun w' hc bb => below_step hc bb))))
    refine wpQuiet_nil ?_;intro wx i;clear d f g c b;go_wp2;go_ret
    exact ⟨ret_bool H.out.symm, below_step B i⟩
   ·have H : Hid (opB 3 a x y = (betw x 0 9999 && betw y 0 0)) := by unfold Hid opB; rw [j, l]; rfl
    have R := heap_alloc_new w (.cells #[.int .i64 3, .int .i64 a, .int .i64 x, .int .i64 y] 121);replace B := B (.cells #[.int .i64 3, .int .i64 a, .int .i64 x, .int .i64 y] 121);go_enter Tryz.func232, Tryz.ntmps232;go_wp2;generalize w.alloc (.cells #[.int .i64 3, .int .i64 a, .int .i64 x, .int .i64 y] 121) = W at R B ⊢;obtain ⟨d, f, g, c⟩ := op_cls R;clear R;refine region_class (fun wx => Below W.heap.size W wx) (by kernel_rfl) (by kernel_rfl) ((Below.refl _ W).drew) ?_;intro b
    repeat (quiet_step (first
     | (go_at_call 76; exact calls_class_same (between_any _ _ _ _))
     | (go_at_call 262; exact calls_class (deedOf3 _) (fun w' hc bb => below_step hc bb))
     | (go_at_call 263; exact calls_class (fits_any _ _ _ _ _ _ _ _ _) (fun w' hc bb => below_step hc bb))))
    refine wpQuiet_nil ?_;intro wx i;clear d f g c b;go_wp2;go_ret
    exact ⟨ret_bool H.out.symm, below_step B i⟩
   ·have H : Hid (opB 4 a x y = (betw x 0 9999 && betw y 0 0)) := by unfold Hid opB; rw [j, l]; rfl
    have R := heap_alloc_new w (.cells #[.int .i64 4, .int .i64 a, .int .i64 x, .int .i64 y] 121);replace B := B (.cells #[.int .i64 4, .int .i64 a, .int .i64 x, .int .i64 y] 121);go_enter Tryz.func232, Tryz.ntmps232;go_wp2;generalize w.alloc (.cells #[.int .i64 4, .int .i64 a, .int .i64 x, .int .i64 y] 121) = W at R B ⊢;obtain ⟨d, f, g, c⟩ := op_cls R;clear R;refine region_class (fun wx => Below W.heap.size W wx) (by kernel_rfl) (by kernel_rfl) ((Below.refl _ W).drew) ?_;intro b
    repeat (quiet_step (first
     | (go_at_call 76; exact calls_class_same (between_any _ _ _ _))
     | (go_at_call 262; exact calls_class (deedOf4 _) (fun w' hc bb => below_step hc bb))
     | (go_at_call 263; exact calls_class (fits_any _ _ _ _ _ _ _ _ _) (fun w' hc bb => below_step hc bb))))
    refine wpQuiet_nil ?_;intro wx i;clear d f g c b;go_wp2;go_ret
    exact ⟨ret_bool H.out.symm, below_step B i⟩
   ·have H : Hid (opB 5 a x y = (betw x 0 9999 && betw y 0 9999)) := by unfold Hid opB; rw [j, l]; rfl
    have R := heap_alloc_new w (.cells #[.int .i64 5, .int .i64 a, .int .i64 x, .int .i64 y] 121);replace B := B (.cells #[.int .i64 5, .int .i64 a, .int .i64 x, .int .i64 y] 121);go_enter Tryz.func232, Tryz.ntmps232;go_wp2;generalize w.alloc (.cells #[.int .i64 5, .int .i64 a, .int .i64 x, .int .i64 y] 121) = W at R B ⊢;obtain ⟨d, f, g, c⟩ := op_cls R;clear R;refine region_class (fun wx => Below W.heap.size W wx) (by kernel_rfl) (by kernel_rfl) ((Below.refl _ W).drew) ?_;intro b
    repeat (quiet_step (first
     | (go_at_call 76; exact calls_class_same (between_any _ _ _ _))
     | (go_at_call 262; exact calls_class (deedOf5 _) (fun w' hc bb => below_step hc bb))
     | (go_at_call 263; exact calls_class (fits_any _ _ _ _ _ _ _ _ _) (fun w' hc bb => below_step hc bb))))
    refine wpQuiet_nil ?_;intro wx i;clear d f g c b;go_wp2;go_ret
    exact ⟨ret_bool H.out.symm, below_step B i⟩
theorem specOpOk_any (k a x y : Int) (w : World) :
    Calls Tryz.prog 147 #[.agg #[.int .i64 k, .int .i64 a, .int .i64 x, .int .i64 y]] w fun e b => e = .returned (.bool (opB k a x y)) ∧ Below w.heap.size w b := by
 have B := (Below.refl w.heap.size w).alloc (Nat.le_refl _);cases f : betw k 1 5 <;> cases g : betw a 0 31 <;> cases d : okW x <;> cases c : okW y
 case true.true.true.true =>
  rcases opKind f with rfl | rfl | rfl | rfl | rfl
  ·have H : Hid (opB 1 a x y = (x == 0 && y == 0)) := by
     unfold Hid opB opMostA opMostB;unfold okW betw at d c;rw [f, g];unfold betw;rw [Bool.eq_iff_iff];simp at d c ⊢
     omega
   by_cases j : x = 0 <;> by_cases i : y = 0
   all_goals
    go_enter Tryz.func147, Tryz.ntmps147
    go_wp2_with (first
     | (go_at_call 98; refine (l1In_any _ _ _ _).mono ?_; rintro e b ⟨rfl, rfl⟩)
     | (go_at_call 199; refine (l3Word_any _ _).mono ?_; rintro e b ⟨rfl, rfl⟩))
    go_ret
    exact ⟨ret_bool (H.out.trans (by simp [j, i])).symm, B _⟩
  ·have H : Hid (opB 2 a x y = (y == 0)) := by
     unfold Hid opB opMostA opMostB;unfold okW betw at d c;rw [f, g];unfold betw;rw [Bool.eq_iff_iff];simp at d c ⊢
     omega
   by_cases i : y = 0
   all_goals
    go_enter Tryz.func147, Tryz.ntmps147
    go_wp2_with (first
     | (go_at_call 98; refine (l1In_any _ _ _ _).mono ?_; rintro e b ⟨rfl, rfl⟩)
     | (go_at_call 199; refine (l3Word_any _ _).mono ?_; rintro e b ⟨rfl, rfl⟩))
    go_ret
    exact ⟨ret_bool (H.out.trans (by simp [i])).symm, B _⟩
  ·have H : Hid (opB 3 a x y = (y == 0)) := by
     unfold Hid opB opMostA opMostB;unfold okW betw at d c;rw [f, g];unfold betw;rw [Bool.eq_iff_iff];simp at d c ⊢
     omega
   by_cases i : y = 0
   all_goals
    go_enter Tryz.func147, Tryz.ntmps147
    go_wp2_with (first
     | (go_at_call 98; refine (l1In_any _ _ _ _).mono ?_; rintro e b ⟨rfl, rfl⟩)
     | (go_at_call 199; refine (l3Word_any _ _).mono ?_; rintro e b ⟨rfl, rfl⟩))
    go_ret
    exact ⟨ret_bool (H.out.trans (by simp [i])).symm, B _⟩
  ·have H : Hid (opB 4 a x y = (y == 0)) := by
     unfold Hid opB opMostA opMostB;unfold okW betw at d c;rw [f, g];unfold betw;rw [Bool.eq_iff_iff];simp at d c ⊢
     omega
   by_cases i : y = 0
   all_goals
    go_enter Tryz.func147, Tryz.ntmps147
    go_wp2_with (first
     | (go_at_call 98; refine (l1In_any _ _ _ _).mono ?_; rintro e b ⟨rfl, rfl⟩)
     | (go_at_call 199; refine (l3Word_any _ _).mono ?_; rintro e b ⟨rfl, rfl⟩))
    go_ret
    exact ⟨ret_bool (H.out.trans (by simp [i])).symm, B _⟩
  ·have H : Hid (opB 5 a x y = true) := by
     unfold Hid opB opMostA opMostB;unfold okW betw at d c;rw [f, g];unfold betw;rw [Bool.eq_iff_iff];simp at d c ⊢
     omega
   skip
   all_goals
    go_enter Tryz.func147, Tryz.ntmps147
    go_wp2_with (first
     | (go_at_call 98; refine (l1In_any _ _ _ _).mono ?_; rintro e b ⟨rfl, rfl⟩)
     | (go_at_call 199; refine (l3Word_any _ _).mono ?_; rintro e b ⟨rfl, rfl⟩))
    go_ret
    exact ⟨ret_bool (H.out.trans (by simp [])).symm, B _⟩
 all_goals
  have H : Hid (opB k a x y = false) := by
   unfold Hid opB opMostA opMostB;unfold okW betw at d c;unfold betw at f g ⊢;rw [Bool.eq_iff_iff];simp at f g d c ⊢
   intros
   try split
   all_goals omega
  go_enter Tryz.func147, Tryz.ntmps147
  go_wp2_with (first
        | (go_at_call 98; refine (l1In_any _ _ _ _).mono ?_; rintro e b ⟨rfl, rfl⟩)
        | (go_at_call 199; refine (l3Word_any _ _).mono ?_; rintro e b ⟨rfl, rfl⟩))
  go_ret
  exact ⟨ret_bool H.out.symm, B _⟩
end Go.Proofs.YtcocbafhcpdheaaGreatDoor
