import Derived.Test.YtdamokokcdcedaaGreatDoorF00Box
import Derived.Test.YtdamokokcdcedaaGreatDoorF13
import Derived.Test.YtdamokokcdcedaaGreatDoorF16
namespace Go.Proofs.YtdamokokcdcedaaGreatDoor
open Go.ChangeShapes Go.WideShapes Go.ChangeAt Go.RowKit Go.Shelf
set_option linter.unusedVariables false
attribute [local go_sem] Oper.semAt_some
def waysIn (l : Int) (x : CacheD) : Bool := x.1.all fun row => row.all (wayIn l)
def cacheIn (s y l : Int) (x : CacheD) (m : Nat) : Bool := decide ((x.1.length : Int) = s) && (decide ((m : Int) = y) && waysIn l x)
theorem waysIn_yes {l : Int} {x : CacheD} {m : Nat} (hm : 0 < m) (hrow : ∀ row ∈ x.1, row.length = m) (h : ∀ j, j < x.1.length * m → wayIn l (wayK x m j) = true) : waysIn l x = true := by
 refine List.all_eq_true.2 fun row hr => List.all_eq_true.2 fun u hu => ?_;obtain ⟨i, d⟩ := List.getElem?_of_mem hr;obtain ⟨j, f⟩ := List.getElem?_of_mem hu;have hl := hrow row hr;have c := (List.getElem?_eq_some_iff.1 d).1;have o := (List.getElem?_eq_some_iff.1 f).1;have a : j < m := by omega
 have n : (m * i + j) / m = i := by rw [Nat.mul_add_div hm, Nat.div_eq_of_lt a, Nat.add_zero]
 have g : (m * i + j) % m = j := by rw [Nat.mul_add_mod, Nat.mod_eq_of_lt a]
 have b : m * i + j < x.1.length * m := by
  have : m * (i + 1) ≤ m * x.1.length := Nat.mul_le_mul_left m c;rw [Nat.mul_add, Nat.mul_one] at this;rw [Nat.mul_comm x.1.length m];omega
 have q := h _ b;unfold wayK at q;have k : x.1.getD i [] = row := by rw [List.getD_eq_getElem?_getD, d]; rfl
 have p : row.getD j emptyW = u := by rw [List.getD_eq_getElem?_getD, f]; rfl
 rw [n, g, k, p] at q;exact q
theorem waysIn_no {l : Int} {x : CacheD} {m k : Nat} (hm : 0 < m) (hrow : ∀ a ∈ x.1, a.length = m) (hk : k < x.1.length * m) (h : wayIn l (wayK x m k) = false) : waysIn l x = false := by
 obtain ⟨a, d, c⟩ := wayK_get hm hrow hk;cases q : waysIn l x
 ·rfl
 ·have b := List.all_eq_true.1 (List.all_eq_true.1 q a (List.mem_of_getElem? d)) _ (List.mem_of_getElem? c);rw [h] at b;cases b
def FOk (w : World) (Bc : Nat) (cf : Array Value) (v u : Value) (x : CacheD) (m : Nat) (l : Int) (k : Nat) (W : World) : Prop :=
 (∀ j, j < k → wayIn l (wayK x m j) = true) ∧ W.heap[w.heap.size]? = some (.cells cf 38 (0, 0)) ∧ W.heap[w.heap.size + 1 + 1]? = some (.cells #[.bool false] 4 (0, 0)) ∧ W.heap[Bc]? = some (.cells #[v, u] 95 (0, 0)) ∧ Below w.heap.size w W
theorem fok_own {w : World} {Bc : Nat} {cf : Array Value} {v u : Value} {x : CacheD} {m B : Nat} {l : Int} (hB : w.heap.size ≤ B) : OwnFrom B (fun k W => FOk w Bc cf v u x m l k W) := by
 rintro k X Y a ⟨g, j, f, i, d⟩ b c;exact ⟨g, own_heap (β := Unit) _ _ _ _ () X Y a j b c, own_heap (β := Unit) _ _ _ _ () X Y a f b c, own_heap (β := Unit) _ _ _ _ () X Y a i b c, ownFrom_below (β := Unit) (Nat.le_refl _) hB () X Y a d b c⟩
theorem fok_below {w : World} {Bc : Nat} {cf : Array Value} {v u : Value} {x : CacheD} {m k : Nat} {l : Int} {W W' : World} (h : FOk w Bc cf v u x m l k W) (hb : Bl W W') : FOk w Bc cf v u x m l k W' := by
 obtain ⟨d, f, b, c, a⟩ := h;exact ⟨d, row_keep hb f, row_keep hb b, row_keep hb c, below_step a hb⟩
set_option maxHeartbeats 4000000 in
set_option maxRecDepth 20000 in
theorem fitsCache_any (c s y l : Int) (a b : Option Addr) (x : CacheD) (cap cp m : Nat) (w : World) (hc : codeI c s y l = 0) (h1 : SlRd waysR w a x.1) (hp : x.1.length = 1 ∨ x.1.length = 2 ∨ x.1.length = 4) (hm : m = 1 ∨ m = 2 ∨ m = 4) (hrow : ∀ eA ∈ x.1, eA.length = m) :
    Calls Tryz.prog 197 #[.agg #[nI c, nI s, nI y, nI l], .agg #[sL a x.1.length cap, sL b x.2.length cp]] w fun e D => e = .returned (.bool (cacheIn s y l x m)) ∧ Bl w D := by
 have r : 0 < m := by omega
 have lB : x.1.length = 1 ∨ x.1.length = 2 ∨ x.1.length = 4 := hp;obtain ⟨f, d, q, rfl, mA, AA⟩ := setsAt_of h1 (fun e => by rw [e] at hp; simp at hp) r hrow;have HG : Hid (∀ k, k < x.1.length * m → ((q (k / m)).way (k % m)).line = (wayK x m k).1 ∧ ((q (k / m)).way (k % m)).state = (wayK x m k).2.1 ∧ ((q (k / m)).way (k % m)).len = (wayK x m k).2.2.length) := fun k L => by
  obtain ⟨eA, e1, e2⟩ := wayK_get r hrow L;obtain ⟨q1, M, T, q4, q5, q6⟩ := AA _ _ eA _ e1 e2;exact ⟨q1, M, T⟩
 have HP : Hid (x.1.length = 1 ∨ x.1.length = 2 ∨ x.1.length = 4) := hp;have HM : Hid (m = 1 ∨ m = 2 ∨ m = 4) := hm;have HA : Hid _ := mA;have HY : Hid ((∀ j, j < x.1.length * m → wayIn l (wayK x m j) = true) → waysIn l x = true) := fun h => waysIn_yes r hrow h;have HN : Hid (∀ k, k < x.1.length * m → wayIn l (wayK x m k) = false → waysIn l x = false) := fun k L h => waysIn_no r hrow L h;have HF : Hid (∀ (u : WayD) (ua : Option Addr) (uc : Nat) (W : World), Calls Tryz.prog 198 #[.agg #[nI c, nI s, nI y, nI l], .agg #[nI u.1, nI u.2.1, sL ua u.2.2.length uc]] W fun e D => e = .returned (.bool (wayIn l u)) ∧ Bl W D) := fun u ua uc W => fitsWay_any c s y l u ua uc W hc;have pA := (mA 0 (by omega)).1;have DA : Hid (∀ W, Bl w W → Calls Tryz.prog 237 #[.agg #[sL (some ⟨f, d, none⟩) x.1.length cap, sL b x.2.length cp]] W fun e D => e = .returned (nI (m : Int)) ∧ Bl W D) := fun W hb => ways_any f d x.1.length cap _ _ _ _ rfl _ m _ W (by omega) (cell_keep hb pA (cell_lt pA));clear h1 AA hrow hp hm mA pA;have B := below_step (below_step (box_below w (.cells #[nI c, nI s, nI y, nI l] 38)) (box_below _ (.cells #[sL (some ⟨f, d, none⟩) x.1.length cap, sL b x.2.length cp] 95))) (box_below _ (.cells #[.bool false] 4));have k0 := heap_on (.cells #[.bool false] 4) (heap_on (.cells #[sL (some ⟨f, d, none⟩) x.1.length cap, sL b x.2.length cp] 95) (heap_at w (.cells #[nI c, nI s, nI y, nI l] 38)));have k1 := heap_on (.cells #[.bool false] 4) (heap_at (w.alloc (.cells #[nI c, nI s, nI y, nI l] 38)) (.cells #[sL (some ⟨f, d, none⟩) x.1.length cap, sL b x.2.length cp] 95));have O := heap_at ((w.alloc (.cells #[nI c, nI s, nI y, nI l] 38)).alloc (.cells #[sL (some ⟨f, d, none⟩) x.1.length cap, sL b x.2.length cp] 95)) (.cells #[.bool false] 4);rw [alloc_len] at k1;rw [alloc_len, alloc_len] at O;have e3 : w.heap.size + 1 + 1 + 1 ≤ (((w.alloc (.cells #[nI c, nI s, nI y, nI l] 38)).alloc (.cells #[sL (some ⟨f, d, none⟩) x.1.length cap, sL b x.2.length cp] 95)).alloc (.cells #[.bool false] 4)).heap.size := by simp
 refine (callsIn_wide (n := 0)).1 ?_;refine callsIn_of_wp_marks Tryz.func197 rfl trivial ?_ rfl;simp only [Tryz.ntmps197, List.size_toArray, List.length_cons, List.length_nil, Nat.reduceAdd, Nat.reduceSub, Array.replicate_succ, Array.replicate_zero, List.push_toArray, List.append_toArray, List.nil_append, List.cons_append];gi_wp2
 generalize (((w.alloc (.cells #[nI c, nI s, nI y, nI l] 38)).alloc (.cells #[sL (some ⟨f, d, none⟩) x.1.length cap, sL b x.2.length cp] 95)).alloc (.cells #[.bool false] 4)) = W3 at B k0 k1 O e3 ⊢;obtain ⟨E, I, H, F⟩ := cells_4 k0;obtain ⟨R, V⟩ := cells_two k1;by_cases hs : (x.1.length : Int) = s
 ·subst hs;have z1 : ((x.1.length : Int) != (x.1.length : Int)) = false := by simp
  by_cases hy : (m : Int) = y
  ·subst hy;have z2 : ((m : Int) != (m : Int)) = false := by simp
   have cA : ∀ n' : Cls (fun wx => Bl W3 wx), n'.w.cell? ⟨w.heap.size, 0, none⟩ = some (nI c) := fun n' => cell_keep n'.h E (cell_lt E);have nA : ∀ n' : Cls (fun wx => Bl W3 wx), n'.w.cell? ⟨w.heap.size, 1, none⟩ = some (nI (x.1.length : Int)) := fun n' => cell_keep n'.h I (cell_lt I);have gA : ∀ n' : Cls (fun wx => Bl W3 wx), n'.w.cell? ⟨w.heap.size, 2, none⟩ = some (nI (m : Int)) := fun n' => cell_keep n'.h H (cell_lt H);have dA : ∀ n' : Cls (fun wx => Bl W3 wx), n'.w.cell? ⟨w.heap.size, 3, none⟩ = some (nI l) := fun n' => cell_keep n'.h F (cell_lt F);have fA : ∀ n' : Cls (fun wx => Bl W3 wx), n'.w.cell? ⟨w.heap.size + 1, 0, none⟩ = some (sL (some ⟨f, d, none⟩) x.1.length cap) := fun n' => cell_keep n'.h R (cell_lt R);have jA : ∀ n' : Cls (fun wx => Bl W3 wx), n'.w.cell? ⟨w.heap.size + 1, 1, none⟩ = some (sL b x.2.length cp) := fun n' => cell_keep n'.h V (cell_lt V);have C : Hid (∀ n' : Cls (fun wx => Bl W3 wx), _) := fun n' => DA.out n'.w (below_step B n'.h);refine wpIn_wide.2 ?_;refine region_class (fun wx => Bl W3 wx) (by kernel_rfl) (by kernel_rfl) ((Below.refl _ W3).drew) ?_;intro aA;repeat (quiet_step (first | (go_at_call 237; exact calls_class (C.out _) (fun D hc bb => below_step hc bb))))
   refine wpQuiet_nil ?_;intro i v;clear aA C cA nA gA dA fA jA E I H F R V;replace k0 := row_keep v k0;replace k1 := row_keep v k1;replace O := row_keep v O;replace B := below_step B v;replace e3 := Nat.le_trans e3 v.size;clear v;obtain ⟨R, V⟩ := cells_two k1;gi_wp2
   refine ⟨trivial, rfl, (callsIn_wide.2 (everyWay_any _ _ _ _ _ _ _ _ rfl rfl _)).mono ?_⟩;rintro e D ⟨rfl, rfl⟩;gi_wp2
   have bz := box_below i (.cells #[sL (some ⟨f, d, none⟩) x.1.length cap, sL b x.2.length cp] 95);have kc := heap_at i (.cells #[sL (some ⟨f, d, none⟩) x.1.length cap, sL b x.2.length cp] 95);have e4 : (i.alloc (.cells #[sL (some ⟨f, d, none⟩) x.1.length cap, sL b x.2.length cp] 95)).heap.size = i.heap.size + 1 := by simp
   have Z : FOk w i.heap.size #[nI c, nI (x.1.length : Int), nI (m : Int), nI l] (sL (some ⟨f, d, none⟩) x.1.length cap) (sL b x.2.length cp) x m l 0 (i.alloc (.cells #[sL (some ⟨f, d, none⟩) x.1.length cap, sL b x.2.length cp] 95)) := ⟨fun j hj => by omega, row_keep bz k0, row_keep bz O, kc, below_step B bz⟩;clear k0 k1 O kc bz B R V;generalize i.alloc (.cells #[sL (some ⟨f, d, none⟩) x.1.length cap, sL b x.2.length cp] 95) = W0 at e4 Z ⊢;generalize i.heap.size = Bc at e3 e4 Z ⊢;refine range_iter (N := x.1.length * m) (lb := #[.pointer (some ⟨Bc, 0, none⟩)]) (gf := 158) rfl (enters_of Tryz.func158 (by kernel_rfl) rfl)
    (everyWay1_iter Bc f d x.1.length m cap q (by have := HP.out; omega) (by have := HM.out; omega) (by have := HP.out; omega) r) (fun _ => rfl)
    (fun k W => FOk w Bc #[nI c, nI (x.1.length : Int), nI (m : Int), nI l] (sL (some ⟨f, d, none⟩) x.1.length cap) (sL b x.2.length cp) x m l k W)
    (fun z k W => z = .ret ∧ waysIn l x = false ∧ W.heap[w.heap.size + 1 + 1]? = some (.cells #[.bool false] 4 (0, 0)) ∧ Bl w W)
    (fok_own (by omega)) (fun z => OwnFrom.and (ownFrom_pure _ _) (OwnFrom.and (ownFrom_pure _ _) (OwnFrom.and (own_heap _ _ _ _) (ownFrom_below (Nat.le_refl _) (by omega))))) ?hR Z
    (fun k a' W => ∃ B6, W0.heap.size < B6 ∧ W.heap[B6]? = some (.cells #[nI ((q (k / m)).way (k % m)).line, nI ((q (k / m)).way (k % m)).state, .slice ((q (k / m)).way (k % m)).addr ((q (k / m)).way (k % m)).len ((q (k / m)).way (k % m)).cap] 74 (0, 0)) ∧ FOk w Bc #[nI c, nI (x.1.length : Int), nI (m : Int), nI l] (sL (some ⟨f, d, none⟩) x.1.length cap) (sL b x.2.length cp) x m l k W ∧
     a' = { tmps := #[.agg #[nI c, nI (x.1.length : Int), nI (m : Int), nI l], .agg #[sL (some ⟨f, d, none⟩) x.1.length cap, sL b x.2.length cp], .pointer (some ⟨w.heap.size, 0, none⟩), .pointer (some ⟨w.heap.size + 1, 0, none⟩), .pointer (some ⟨w.heap.size + 1 + 1, 0, none⟩), undef, .pointer (some ⟨B6, 0, none⟩), .pointer (some ⟨w.heap.size + 1, 0, none⟩), sL (some ⟨f, d, none⟩) x.1.length cap, nI (x.1.length : Int), .pointer (some ⟨w.heap.size, 1, none⟩), nI (x.1.length : Int), .bool false, .bool false, .agg #[sL (some ⟨f, d, none⟩) x.1.length cap, sL b x.2.length cp], nI (m : Int), .pointer (some ⟨w.heap.size, 2, none⟩), nI (m : Int), .bool false, .bool false, .agg #[sL (some ⟨f, d, none⟩) x.1.length cap, sL b x.2.length cp], .func (.func 158) #[] #[.pointer (some ⟨Bc, 0, none⟩)], .agg #[nI (k / m : Nat), nI (k % m : Nat)], ((q (k / m)).way (k % m)).agg, undef, undef, undef, undef], defers := [] })
    ?hA ?hassign ?hbody ?hdone ?hstop
   case hR =>
    rintro k W ⟨_, _, _, g3, g4⟩;exact ⟨by rw [cell_of_row W _ 0 _ _ (0, 0) g3]; rfl, setsAt_below HA.out g4 r⟩
   case hA =>
    rintro k a' ⟨⟩ X Y U ⟨B6, l6, g6, A, rfl⟩ hg hr;exact ⟨B6, l6, own_heap (β := Unit) _ _ _ _ () X Y U g6 hg hr, fok_own (B := W0.heap.size) (by omega) k X Y U A hg hr, rfl⟩
   case hassign =>
    rintro k W K L A OA hK;gi_wp2
    have z1 := box_below W (.cells #[nI ((q (k / m)).way (k % m)).line, nI ((q (k / m)).way (k % m)).state, .slice ((q (k / m)).way (k % m)).addr ((q (k / m)).way (k % m)).len ((q (k / m)).way (k % m)).cap] 74);exact hK _ _ (Kept.below z1) ⟨W.heap.size, by omega, heap_at _ _, fok_below A z1, rfl⟩
   case hbody =>
    rintro k a' V1 L ⟨B6, l6, g6, A, rfl⟩ OA hD hL;obtain ⟨q1, M, T⟩ := HG.out k L;rw [q1, M, T] at g6;have CA : ((q (k / m)).way (k % m)).agg = .agg #[nI (wayK x m k).1, nI (wayK x m k).2.1, .slice ((q (k / m)).way (k % m)).addr (wayK x m k).2.2.length ((q (k / m)).way (k % m)).cap] := by rw [WCells.agg, q1, M, T]
    rw [CA];clear CA q1 M T;generalize ((q (k / m)).way (k % m)).addr = ad at g6 ⊢;generalize ((q (k / m)).way (k % m)).cap = cpw at g6 ⊢;have HE : Hid (∀ W, Calls Tryz.prog 198 #[.agg #[nI c, nI (x.1.length : Int), nI (m : Int), nI l], .agg #[nI (wayK x m k).1, nI (wayK x m k).2.1, sL ad (wayK x m k).2.2.length cpw]] W fun e D => e = .returned (.bool (wayIn l (wayK x m k))) ∧ Bl W D) := fun W => HF.out (wayK x m k) ad cpw W;obtain ⟨x0, x1, x2⟩ := cells_three g6;obtain ⟨E, I, H, F⟩ := cells_4 A.2.1;cases J : wayIn l (wayK x m k)
    ·rw [J] at HE;have MA : Hid (waysIn l x = false) := HN.out k L J;gi_wp2
     refine ⟨trivial, rfl, (CallsIn.inRound _ (callsIn_wide.2 (HE.out _))).mono ?_⟩;rintro e V2 ⟨rfl, b1⟩;obtain ⟨A, g1, G, g3, g4⟩ := fok_below A b1;have r2 : V2.cell? ⟨w.heap.size + 1 + 1, 0, none⟩ = some (.bool false) := by rw [cell_of_row V2 _ 0 _ _ (0, 0) G]; rfl
     have r3 : V2.frozen? ⟨w.heap.size + 1 + 1, 0, none⟩ = false := frozen_of_row V2 _ 0 _ _ G;clear x0 x1 x2 E I H F;gi_wp2
     refine ⟨Kept.trans (Kept.below b1) (Kept.chg (S := fun j => j = w.heap.size + 1 + 1) (chg_grown (grownBy_setCell' V2 (w.heap.size + 1 + 1) _) rfl) (fun j e => by omega)), rfl, MA.out, heap_setCell_same V2 (w.heap.size + 1 + 1) 0 _ _ (.bool false) G, g4.setCell (p := ⟨w.heap.size + 1 + 1, 0, none⟩) (by simp; omega) _⟩
    ·rw [J] at HE;gi_wp2
     refine ⟨trivial, rfl, (CallsIn.inRound _ (callsIn_wide.2 (HE.out _))).mono ?_⟩;rintro e V2 ⟨rfl, b1⟩;obtain ⟨A, g1, G, g3, g4⟩ := fok_below A b1;clear x0 x1 x2 E I H F;gi_wp2
     refine ⟨Kept.below b1, fun j hj => ?_, g1, G, g3, g4⟩;by_cases he : j < k
     ·exact A j he
     ·have : j = k := by omega
      subst this;exact J
   case hdone =>
    rintro W ⟨A, g1, G, g3, g4⟩ hK;have M : W.cell? ⟨w.heap.size + 1 + 1, 0, none⟩ = some (.bool false) := by rw [cell_of_row W _ 0 _ _ (0, 0) G]; rfl
    have T : W.frozen? ⟨w.heap.size + 1 + 1, 0, none⟩ = false := frozen_of_row W _ 0 _ _ G;gi_wp2
    have g8 := heap_setCell_same W (w.heap.size + 1 + 1) 0 _ _ (.bool true) G;have BA : (W.setCell ⟨w.heap.size + 1 + 1, 0, none⟩ (.bool true)).heap[W0.heap.size]? = some (.deferred (some [])) := (heap_setCell_other W ⟨w.heap.size + 1 + 1, 0, none⟩ _ _ (by simp; omega)).trans hK;refine ⟨by simp, .inl ⟨_, _, rfl, run_takeDeferred BA, ?_⟩⟩;have g9 := (World.putObj_heap_other (o := .deferred none) (show w.heap.size + 1 + 1 ≠ W0.heap.size by omega)).trans g8;have g := cell_of_row _ _ 0 _ _ (0, 0) g9;refine ⟨.bool true, ?_, ret_bool (by unfold cacheIn; rw [HY.out A]; simp), (g4.setCell (p := ⟨w.heap.size + 1 + 1, 0, none⟩) (by simp; omega) _).trans ((Below.refl _ _).grown (grownBy_putObj' _ _ _) (by have := (ltH BA); omega) (fun k e => by cases e; omega))⟩;simp at g
    simp [results, Tryz.results197, go_sem, g]
   case hstop =>
    rintro z k W L ⟨rfl, hf, g5, g7⟩ hK;gi_wp2
    refine ⟨by simp, .inl ⟨_, _, rfl, run_takeDeferred hK, ?_⟩⟩;have g9 := (World.putObj_heap_other (o := .deferred none) (show w.heap.size + 1 + 1 ≠ W0.heap.size by omega)).trans g5;have g := cell_of_row _ _ 0 _ _ (0, 0) g9;refine ⟨.bool false, ?_, ret_bool (by unfold cacheIn; rw [hf]; simp), g7.trans ((Below.refl _ _).grown (grownBy_putObj' _ _ _) (by have := (ltH hK); omega) (fun k e => by cases e; omega))⟩;simp at g
    simp [results, Tryz.results197, go_sem, g]
  ·have z2 : ((m : Int) != y) = true := by simp [hy]
   have cA : ∀ n' : Cls (fun wx => Bl W3 wx), n'.w.cell? ⟨w.heap.size, 0, none⟩ = some (nI c) := fun n' => cell_keep n'.h E (cell_lt E);have nA : ∀ n' : Cls (fun wx => Bl W3 wx), n'.w.cell? ⟨w.heap.size, 1, none⟩ = some (nI (x.1.length : Int)) := fun n' => cell_keep n'.h I (cell_lt I);have gA : ∀ n' : Cls (fun wx => Bl W3 wx), n'.w.cell? ⟨w.heap.size, 2, none⟩ = some (nI y) := fun n' => cell_keep n'.h H (cell_lt H);have dA : ∀ n' : Cls (fun wx => Bl W3 wx), n'.w.cell? ⟨w.heap.size, 3, none⟩ = some (nI l) := fun n' => cell_keep n'.h F (cell_lt F);have fA : ∀ n' : Cls (fun wx => Bl W3 wx), n'.w.cell? ⟨w.heap.size + 1, 0, none⟩ = some (sL (some ⟨f, d, none⟩) x.1.length cap) := fun n' => cell_keep n'.h R (cell_lt R);have jA : ∀ n' : Cls (fun wx => Bl W3 wx), n'.w.cell? ⟨w.heap.size + 1, 1, none⟩ = some (sL b x.2.length cp) := fun n' => cell_keep n'.h V (cell_lt V);have C : Hid (∀ n' : Cls (fun wx => Bl W3 wx), _) := fun n' => DA.out n'.w (below_step B n'.h);refine wpIn_wide.2 ?_;refine region_class (fun wx => Bl W3 wx) (by kernel_rfl) (by kernel_rfl) ((Below.refl _ W3).drew) ?_;intro aA;repeat (quiet_step (first | (go_at_call 237; exact calls_class (C.out _) (fun D hc bb => below_step hc bb))))
   refine wpQuiet_nil ?_;intro i v;clear aA C cA nA gA dA fA jA E I H F R V z2;have HH := hy;clear hy;have j2 := row_keep v O;have M : i.cell? ⟨w.heap.size + 1 + 1, 0, none⟩ = some (.bool false) := by rw [cell_of_row i _ 0 _ _ (0, 0) j2]; rfl
   have T : i.frozen? ⟨w.heap.size + 1 + 1, 0, none⟩ = false := frozen_of_row i _ 0 _ _ j2;have BB := below_step B v;gi_wp2
   have g9 := heap_setCell_same i (w.heap.size + 1 + 1) 0 _ _ (.bool false) j2;have g := cell_of_row _ _ 0 _ _ (0, 0) g9;refine ⟨.bool false, ?_, ret_bool (by unfold cacheIn; simp [HH]), BB.setCell (p := ⟨w.heap.size + 1 + 1, 0, none⟩) (by simp; omega) _⟩;simp at g
   simp [results, Tryz.results197, go_sem, g]
 ·have z1 : ((x.1.length : Int) != s) = true := by simp [hs]
  refine wpIn_wide.2 ?_;go_quiet (fail)
  have HH := hs;clear hs;have v : Bl W3 (W3.drewN nq) := be_drewN (Below.refl _ _) nq;generalize W3.drewN nq = i at v ⊢;have j2 := row_keep v O;have M : i.cell? ⟨w.heap.size + 1 + 1, 0, none⟩ = some (.bool false) := by rw [cell_of_row i _ 0 _ _ (0, 0) j2]; rfl
  have T : i.frozen? ⟨w.heap.size + 1 + 1, 0, none⟩ = false := frozen_of_row i _ 0 _ _ j2;have BB := below_step B v;gi_wp2
  have g9 := heap_setCell_same i (w.heap.size + 1 + 1) 0 _ _ (.bool false) j2;have g := cell_of_row _ _ 0 _ _ (0, 0) g9;refine ⟨.bool false, ?_, ret_bool (by unfold cacheIn; simp [HH]), BB.setCell (p := ⟨w.heap.size + 1 + 1, 0, none⟩) (by simp; omega) _⟩;simp at g
  simp [results, Tryz.results197, go_sem, g]
end Go.Proofs.YtdamokokcdcedaaGreatDoor
