import Derived.Test.YtdamokokcdcedaaGreatDoorE00Box
import Derived.Test.YtdamokokcdcedaaGreatDoorE14
import Derived.Test.YtdamokokcdcedaaGreatDoorE16
import Derived.Laws.EntriesVeiled
import Derived.Deep.WholeRow
namespace Go.Proofs.YtdamokokcdcedaaGreatDoor
set_option maxHeartbeats 4000000
set_option maxRecDepth 20000
open Go.ChangeShapes Go.WideShapes Go.ChangeAt Go.RowKit Go.Shelf
set_option linter.unusedVariables false
attribute [local go_sem] Oper.semAt_some
def waysIn (l : Int) (x : CacheD) : Bool := x.1.all fun row => row.all (wayIn l)
def cacheIn (s y l : Int) (x : CacheD) (m : Nat) : Bool := decide ((x.1.length : Int) = s) && (decide ((m : Int) = y) && waysIn l x)
theorem waysIn_yes {l : Int} {x : CacheD} {m : Nat} (hm : 0 < m) (hrow : ∀ row ∈ x.1, row.length = m) (h : ∀ j, j < x.1.length * m → wayIn l (wayK x m j) = true) : waysIn l x = true := by
 refine List.all_eq_true.2 fun row hr => List.all_eq_true.2 fun u hu => ?_;obtain ⟨i, d⟩ := List.getElem?_of_mem hr;obtain ⟨j, f⟩ := List.getElem?_of_mem hu;have hl := hrow row hr;have c := (List.getElem?_eq_some_iff.1 d).1;have o := (List.getElem?_eq_some_iff.1 f).1;have a : j < m := by omega
 have n : (m * i + j) / m = i := by rw [Nat.mul_add_div hm, Nat.div_eq_of_lt a, Nat.add_zero]
 have k : (m * i + j) % m = j := by rw [Nat.mul_add_mod, Nat.mod_eq_of_lt a]
 have b : m * i + j < x.1.length * m := by
  have : m * (i + 1) ≤ m * x.1.length := Nat.mul_le_mul_left m c;rw [Nat.mul_add, Nat.mul_one] at this;rw [Nat.mul_comm x.1.length m];omega
 have q := h _ b;unfold wayK at q;have p : x.1.getD i [] = row := by rw [List.getD_eq_getElem?_getD, d]; rfl
 have g : row.getD j emptyW = u := by rw [List.getD_eq_getElem?_getD, f]; rfl
 rw [n, k, p, g] at q;exact q
theorem waysIn_no {l : Int} {x : CacheD} {m k : Nat} (hm : 0 < m) (hrow : ∀ a ∈ x.1, a.length = m) (hk : k < x.1.length * m) (h : wayIn l (wayK x m k) = false) : waysIn l x = false := by
 obtain ⟨a, c, d⟩ := wayK_get hm hrow hk;cases q : waysIn l x
 ·rfl
 ·have b := List.all_eq_true.1 (List.all_eq_true.1 q a (List.mem_of_getElem? c)) _ (List.mem_of_getElem? d);rw [h] at b;cases b
def FOk (w : World) (Bc : Nat) (cf : Array Value) (v u : Value) (x : CacheD) (m : Nat) (l : Int) (k : Nat) (W : World) : Prop :=
 (∀ j, j < k → wayIn l (wayK x m j) = true) ∧ W.heap[w.heap.size]? = some (.cells cf 38 (0, 0)) ∧ W.heap[w.heap.size + 1 + 1]? = some (.cells #[.bool false] 4 (0, 0)) ∧ W.heap[Bc]? = some (.cells #[v, u] 95 (0, 0)) ∧ Below w.heap.size w W
theorem fok_own {w : World} {Bc : Nat} {cf : Array Value} {v u : Value} {x : CacheD} {m B : Nat} {l : Int} (hB : w.heap.size ≤ B) : OwnFrom B (fun k W => FOk w Bc cf v u x m l k W) := by
 rintro k X Y a ⟨i, f, j, d, g⟩ c b;exact ⟨i, own_heap (β := Unit) _ _ _ _ () X Y a f c b, own_heap (β := Unit) _ _ _ _ () X Y a j c b, own_heap (β := Unit) _ _ _ _ () X Y a d c b, ownFrom_below (β := Unit) (Nat.le_refl _) hB () X Y a g c b⟩
theorem fok_below {w : World} {Bc : Nat} {cf : Array Value} {v u : Value} {x : CacheD} {m k : Nat} {l : Int} {W W' : World} (h : FOk w Bc cf v u x m l k W) (hb : Bl W W') : FOk w Bc cf v u x m l k W' := by
 obtain ⟨d, b, f, a, c⟩ := h;exact ⟨d, row_keep hb b, row_keep hb f, row_keep hb a, below_step c hb⟩
theorem fitsCache_any (c s y l : Int) (a b : Option Addr) (x : CacheD) (cap cp m : Nat) (w : World) (hc : codeI c s y l = 0) (h1 : SlRd waysR w a x.1) (hp : x.1.length = 1 ∨ x.1.length = 2 ∨ x.1.length = 4) (hm : m = 1 ∨ m = 2 ∨ m = 4) (hrow : ∀ eA ∈ x.1, eA.length = m) :
    Calls Tryz.prog 197 #[.agg #[nI c, nI s, nI y, nI l], .agg #[sL a x.1.length cap, sL b x.2.length cp]] w fun e D => e = .returned (.bool (cacheIn s y l x m)) ∧ Bl w D := by
 have v : 0 < m := by omega
 have lB : x.1.length = 1 ∨ x.1.length = 2 ∨ x.1.length = 4 := hp;obtain ⟨g, d, i, rfl, kA, DA⟩ := setsAt_of h1 (fun e => by rw [e] at hp; simp at hp) v hrow;have HG : Hid (∀ k, k < x.1.length * m → ((i (k / m)).way (k % m)).line = (wayK x m k).1 ∧ ((i (k / m)).way (k % m)).state = (wayK x m k).2.1 ∧ ((i (k / m)).way (k % m)).len = (wayK x m k).2.2.length) := fun k L => by
  obtain ⟨eA, e1, e2⟩ := wayK_get v hrow L;obtain ⟨q1, O, T, q4, q5, q6⟩ := DA _ _ eA _ e1 e2;exact ⟨q1, O, T⟩
 have HP : Hid (x.1.length = 1 ∨ x.1.length = 2 ∨ x.1.length = 4) := hp;have HM : Hid (m = 1 ∨ m = 2 ∨ m = 4) := hm;have HA : Hid _ := kA;have HY : Hid ((∀ j, j < x.1.length * m → wayIn l (wayK x m j) = true) → waysIn l x = true) := fun h => waysIn_yes v hrow h;have HN : Hid (∀ k, k < x.1.length * m → wayIn l (wayK x m k) = false → waysIn l x = false) := fun k L h => waysIn_no v hrow L h;have HF : Hid (∀ (u : WayD) (ua : Option Addr) (uc : Nat) (W : World), Calls Tryz.prog 198 #[.agg #[nI c, nI s, nI y, nI l], .agg #[nI u.1, nI u.2.1, sL ua u.2.2.length uc]] W fun e D => e = .returned (.bool (wayIn l u)) ∧ Bl W D) := fun u ua uc W => fitsWay_any c s y l u ua uc W hc;have dA := (kA 0 (by omega)).1;have EA : Hid (∀ W, Bl w W → Calls Tryz.prog 237 #[.agg #[sL (some ⟨g, d, none⟩) x.1.length cap, sL b x.2.length cp]] W fun e D => e = .returned (nI (m : Int)) ∧ Bl W D) := fun W hb => ways_any g d x.1.length cap _ _ _ _ rfl _ m _ W (by omega) (cell_keep hb dA (cell_lt dA));clear h1 DA hrow hp hm kA dA;have B := below_step (below_step (box_below w (.cells #[nI c, nI s, nI y, nI l] 38)) (box_below _ (.cells #[sL (some ⟨g, d, none⟩) x.1.length cap, sL b x.2.length cp] 95))) (box_below _ (.cells #[.bool false] 4));have k0 := heap_on (.cells #[.bool false] 4) (heap_on (.cells #[sL (some ⟨g, d, none⟩) x.1.length cap, sL b x.2.length cp] 95) (heap_at w (.cells #[nI c, nI s, nI y, nI l] 38)));have k1 := heap_on (.cells #[.bool false] 4) (heap_at (w.alloc (.cells #[nI c, nI s, nI y, nI l] 38)) (.cells #[sL (some ⟨g, d, none⟩) x.1.length cap, sL b x.2.length cp] 95));have M := heap_at ((w.alloc (.cells #[nI c, nI s, nI y, nI l] 38)).alloc (.cells #[sL (some ⟨g, d, none⟩) x.1.length cap, sL b x.2.length cp] 95)) (.cells #[.bool false] 4);rw [alloc_len] at k1;rw [alloc_len, alloc_len] at M;have e3 : w.heap.size + 1 + 1 + 1 ≤ (((w.alloc (.cells #[nI c, nI s, nI y, nI l] 38)).alloc (.cells #[sL (some ⟨g, d, none⟩) x.1.length cap, sL b x.2.length cp] 95)).alloc (.cells #[.bool false] 4)).heap.size := by simp
 refine (callsIn_wide (n := 0)).1 ?_;refine callsIn_of_wp_marks Tryz.func197 rfl trivial ?_ rfl;simp only [Tryz.ntmps197, List.size_toArray, List.length_cons, List.length_nil, Nat.reduceAdd, Nat.reduceSub, Array.replicate_succ, Array.replicate_zero, List.push_toArray, List.append_toArray, List.nil_append, List.cons_append];gi_wp2
 generalize (((w.alloc (.cells #[nI c, nI s, nI y, nI l] 38)).alloc (.cells #[sL (some ⟨g, d, none⟩) x.1.length cap, sL b x.2.length cp] 95)).alloc (.cells #[.bool false] 4)) = W3 at B k0 k1 M e3 ⊢;obtain ⟨I, H, G, E⟩ := cells_4 k0;obtain ⟨V, U⟩ := cells_two k1;by_cases hs : (x.1.length : Int) = s
 ·subst hs;have z1 : ((x.1.length : Int) != (x.1.length : Int)) = false := by simp
  by_cases hy : (m : Int) = y
  ·subst hy;have z2 : ((m : Int) != (m : Int)) = false := by simp
   have pA : ∀ n' : Cls (fun wx => Bl W3 wx), n'.w.cell? ⟨w.heap.size, 0, none⟩ = some (nI c) := fun n' => cell_keep n'.h I (cell_lt I);have aA : ∀ n' : Cls (fun wx => Bl W3 wx), n'.w.cell? ⟨w.heap.size, 1, none⟩ = some (nI (x.1.length : Int)) := fun n' => cell_keep n'.h H (cell_lt H);have gA : ∀ n' : Cls (fun wx => Bl W3 wx), n'.w.cell? ⟨w.heap.size, 2, none⟩ = some (nI (m : Int)) := fun n' => cell_keep n'.h G (cell_lt G);have Z : ∀ n' : Cls (fun wx => Bl W3 wx), n'.w.cell? ⟨w.heap.size, 3, none⟩ = some (nI l) := fun n' => cell_keep n'.h E (cell_lt E);have lA : ∀ n' : Cls (fun wx => Bl W3 wx), n'.w.cell? ⟨w.heap.size + 1, 0, none⟩ = some (sL (some ⟨g, d, none⟩) x.1.length cap) := fun n' => cell_keep n'.h V (cell_lt V);have mA : ∀ n' : Cls (fun wx => Bl W3 wx), n'.w.cell? ⟨w.heap.size + 1, 1, none⟩ = some (sL b x.2.length cp) := fun n' => cell_keep n'.h U (cell_lt U);have C : Hid (∀ n' : Cls (fun wx => Bl W3 wx), _) := fun n' => EA.out n'.w (below_step B n'.h);refine wpIn_wide.2 ?_;refine region_class (fun wx => Bl W3 wx) (by kernel_rfl) (by kernel_rfl) ((Below.refl _ W3).drew) ?_;intro fA;repeat (quiet_step (first | (go_at_call 237; exact calls_class (C.out _) (fun D hc bb => below_step hc bb))))
   refine wpQuiet_nil ?_;intro q r;clear fA C pA aA gA Z lA mA I H G E V U;replace k0 := row_keep r k0;replace k1 := row_keep r k1;replace M := row_keep r M;replace B := below_step B r;replace e3 := Nat.le_trans e3 r.size;clear r;obtain ⟨V, U⟩ := cells_two k1;gi_wp2
   refine ⟨trivial, rfl, (callsIn_wide.2 (everyWay_any _ _ _ _ _ _ _ _ rfl rfl _)).mono ?_⟩;rintro e D ⟨rfl, rfl⟩;gi_wp2
   have bz := box_below q (.cells #[sL (some ⟨g, d, none⟩) x.1.length cap, sL b x.2.length cp] 95);have kc := heap_at q (.cells #[sL (some ⟨g, d, none⟩) x.1.length cap, sL b x.2.length cp] 95);have e4 : (q.alloc (.cells #[sL (some ⟨g, d, none⟩) x.1.length cap, sL b x.2.length cp] 95)).heap.size = q.heap.size + 1 := by simp
   have bA : FOk w q.heap.size #[nI c, nI (x.1.length : Int), nI (m : Int), nI l] (sL (some ⟨g, d, none⟩) x.1.length cap) (sL b x.2.length cp) x m l 0 (q.alloc (.cells #[sL (some ⟨g, d, none⟩) x.1.length cap, sL b x.2.length cp] 95)) := ⟨fun j hj => by omega, row_keep bz k0, row_keep bz M, kc, below_step B bz⟩;clear k0 k1 M kc bz B V U;generalize q.alloc (.cells #[sL (some ⟨g, d, none⟩) x.1.length cap, sL b x.2.length cp] 95) = W0 at e4 bA ⊢;generalize q.heap.size = Bc at e3 e4 bA ⊢;refine range_iter (N := x.1.length * m) (lb := #[.pointer (some ⟨Bc, 0, none⟩)]) (gf := 158) rfl (enters_of Tryz.func158 (by kernel_rfl) rfl)
    (everyWay1_iter Bc g d x.1.length m cap i (by have := HP.out; omega) (by have := HM.out; omega) (by have := HP.out; omega) v) (fun _ => rfl)
    (fun k W => FOk w Bc #[nI c, nI (x.1.length : Int), nI (m : Int), nI l] (sL (some ⟨g, d, none⟩) x.1.length cap) (sL b x.2.length cp) x m l k W)
    (fun z k W => z = .ret ∧ waysIn l x = false ∧ W.heap[w.heap.size + 1 + 1]? = some (.cells #[.bool false] 4 (0, 0)) ∧ Bl w W)
    (fok_own (by omega)) (fun z => OwnFrom.and (ownFrom_pure _ _) (OwnFrom.and (ownFrom_pure _ _) (OwnFrom.and (own_heap _ _ _ _) (ownFrom_below (Nat.le_refl _) (by omega))))) ?hR bA
    (fun k a' W => ∃ B6, W0.heap.size < B6 ∧ W.heap[B6]? = some (.cells #[nI ((i (k / m)).way (k % m)).line, nI ((i (k / m)).way (k % m)).state, .slice ((i (k / m)).way (k % m)).addr ((i (k / m)).way (k % m)).len ((i (k / m)).way (k % m)).cap] 74 (0, 0)) ∧ FOk w Bc #[nI c, nI (x.1.length : Int), nI (m : Int), nI l] (sL (some ⟨g, d, none⟩) x.1.length cap) (sL b x.2.length cp) x m l k W ∧
     a' = { tmps := #[.agg #[nI c, nI (x.1.length : Int), nI (m : Int), nI l], .agg #[sL (some ⟨g, d, none⟩) x.1.length cap, sL b x.2.length cp], .pointer (some ⟨w.heap.size, 0, none⟩), .pointer (some ⟨w.heap.size + 1, 0, none⟩), .pointer (some ⟨w.heap.size + 1 + 1, 0, none⟩), undef, .pointer (some ⟨B6, 0, none⟩), .pointer (some ⟨w.heap.size + 1, 0, none⟩), sL (some ⟨g, d, none⟩) x.1.length cap, nI (x.1.length : Int), .pointer (some ⟨w.heap.size, 1, none⟩), nI (x.1.length : Int), .bool false, .bool false, .agg #[sL (some ⟨g, d, none⟩) x.1.length cap, sL b x.2.length cp], nI (m : Int), .pointer (some ⟨w.heap.size, 2, none⟩), nI (m : Int), .bool false, .bool false, .agg #[sL (some ⟨g, d, none⟩) x.1.length cap, sL b x.2.length cp], .func (.func 158) #[] #[.pointer (some ⟨Bc, 0, none⟩)], .agg #[nI (k / m : Nat), nI (k % m : Nat)], ((i (k / m)).way (k % m)).agg, undef, undef, undef, undef], defers := [] })
    ?hA ?hassign ?hbody ?hdone ?hstop
   case hR =>
    rintro k W ⟨_, _, _, g3, g4⟩;exact ⟨by rw [cell_of_row W _ 0 _ _ (0, 0) g3]; rfl, setsAt_below HA.out g4 v⟩
   case hA =>
    rintro k a' ⟨⟩ X Y R ⟨B6, l6, g6, A, rfl⟩ hg hr;exact ⟨B6, l6, own_heap (β := Unit) _ _ _ _ () X Y R g6 hg hr, fok_own (B := W0.heap.size) (by omega) k X Y R A hg hr, rfl⟩
   case hassign =>
    rintro k W K L A TA hK;gi_wp2
    have z1 := box_below W (.cells #[nI ((i (k / m)).way (k % m)).line, nI ((i (k / m)).way (k % m)).state, .slice ((i (k / m)).way (k % m)).addr ((i (k / m)).way (k % m)).len ((i (k / m)).way (k % m)).cap] 74);exact hK _ _ (Kept.below z1) ⟨W.heap.size, by omega, heap_at _ _, fok_below A z1, rfl⟩
   case hbody =>
    rintro k a' V1 L ⟨B6, l6, g6, A, rfl⟩ TA hD hL;obtain ⟨q1, O, T⟩ := HG.out k L;rw [q1, O, T] at g6;have zA : ((i (k / m)).way (k % m)).agg = .agg #[nI (wayK x m k).1, nI (wayK x m k).2.1, .slice ((i (k / m)).way (k % m)).addr (wayK x m k).2.2.length ((i (k / m)).way (k % m)).cap] := by rw [WCells.agg, q1, O, T]
    rw [zA];clear zA q1 O T;generalize ((i (k / m)).way (k % m)).addr = ad at g6 ⊢;generalize ((i (k / m)).way (k % m)).cap = cpw at g6 ⊢;have HE : Hid (∀ W, Calls Tryz.prog 198 #[.agg #[nI c, nI (x.1.length : Int), nI (m : Int), nI l], .agg #[nI (wayK x m k).1, nI (wayK x m k).2.1, sL ad (wayK x m k).2.2.length cpw]] W fun e D => e = .returned (.bool (wayIn l (wayK x m k))) ∧ Bl W D) := fun W => HF.out (wayK x m k) ad cpw W;obtain ⟨x0, x1, x2⟩ := cells_three g6;obtain ⟨I, H, G, E⟩ := cells_4 A.2.1;cases J : wayIn l (wayK x m k)
    ·rw [J] at HE;have NA : Hid (waysIn l x = false) := HN.out k L J;gi_wp2
     refine ⟨trivial, rfl, (CallsIn.inRound _ (callsIn_wide.2 (HE.out _))).mono ?_⟩;rintro e V2 ⟨rfl, b1⟩;obtain ⟨A, g1, F, g3, g4⟩ := fok_below A b1;have r2 : V2.cell? ⟨w.heap.size + 1 + 1, 0, none⟩ = some (.bool false) := by rw [cell_of_row V2 _ 0 _ _ (0, 0) F]; rfl
     have r3 : V2.frozen? ⟨w.heap.size + 1 + 1, 0, none⟩ = false := frozen_of_row V2 _ 0 _ _ F;clear x0 x1 x2 I H G E;gi_wp2
     refine ⟨Kept.trans (Kept.below b1) (Kept.chg (S := fun j => j = w.heap.size + 1 + 1) (chg_grown (grownBy_setCell' V2 (w.heap.size + 1 + 1) _) rfl) (fun j e => by omega)), rfl, NA.out, heap_setCell_same V2 (w.heap.size + 1 + 1) 0 _ _ (.bool false) F, g4.setCell (p := ⟨w.heap.size + 1 + 1, 0, none⟩) (by simp; omega) _⟩
    ·rw [J] at HE;gi_wp2
     refine ⟨trivial, rfl, (CallsIn.inRound _ (callsIn_wide.2 (HE.out _))).mono ?_⟩;rintro e V2 ⟨rfl, b1⟩;obtain ⟨A, g1, F, g3, g4⟩ := fok_below A b1;clear x0 x1 x2 I H G E;gi_wp2
     refine ⟨Kept.below b1, fun j hj => ?_, g1, F, g3, g4⟩;by_cases he : j < k
     ·exact A j he
     ·have : j = k := by omega
      subst this;exact J
   case hdone =>
    rintro W ⟨A, g1, F, g3, g4⟩ hK;have O : W.cell? ⟨w.heap.size + 1 + 1, 0, none⟩ = some (.bool false) := by rw [cell_of_row W _ 0 _ _ (0, 0) F]; rfl
    have T : W.frozen? ⟨w.heap.size + 1 + 1, 0, none⟩ = false := frozen_of_row W _ 0 _ _ F;gi_wp2
    have g8 := heap_setCell_same W (w.heap.size + 1 + 1) 0 _ _ (.bool true) F;have BA : (W.setCell ⟨w.heap.size + 1 + 1, 0, none⟩ (.bool true)).heap[W0.heap.size]? = some (.deferred (some [])) := (heap_setCell_other W ⟨w.heap.size + 1 + 1, 0, none⟩ _ _ (by simp; omega)).trans hK;refine ⟨by simp, .inl ⟨_, _, rfl, run_takeDeferred BA, ?_⟩⟩;have g9 := (World.putObj_heap_other (o := .deferred none) (show w.heap.size + 1 + 1 ≠ W0.heap.size by omega)).trans g8;have f := cell_of_row _ _ 0 _ _ (0, 0) g9;refine ⟨.bool true, ?_, ret_bool (by unfold cacheIn; rw [HY.out A]; simp), (g4.setCell (p := ⟨w.heap.size + 1 + 1, 0, none⟩) (by simp; omega) _).trans ((Below.refl _ _).grown (grownBy_putObj' _ _ _) (by have := (ltH BA); omega) (fun k e => by cases e; omega))⟩;simp at f
    simp [results, Tryz.results197, go_sem, f]
   case hstop =>
    rintro z k W L ⟨rfl, hf, g5, g7⟩ hK;gi_wp2
    refine ⟨by simp, .inl ⟨_, _, rfl, run_takeDeferred hK, ?_⟩⟩;have g9 := (World.putObj_heap_other (o := .deferred none) (show w.heap.size + 1 + 1 ≠ W0.heap.size by omega)).trans g5;have f := cell_of_row _ _ 0 _ _ (0, 0) g9;refine ⟨.bool false, ?_, ret_bool (by unfold cacheIn; rw [hf]; simp), g7.trans ((Below.refl _ _).grown (grownBy_putObj' _ _ _) (by have := (ltH hK); omega) (fun k e => by cases e; omega))⟩;simp at f
    simp [results, Tryz.results197, go_sem, f]
  ·have z2 : ((m : Int) != y) = true := by simp [hy]
   have pA : ∀ n' : Cls (fun wx => Bl W3 wx), n'.w.cell? ⟨w.heap.size, 0, none⟩ = some (nI c) := fun n' => cell_keep n'.h I (cell_lt I);have aA : ∀ n' : Cls (fun wx => Bl W3 wx), n'.w.cell? ⟨w.heap.size, 1, none⟩ = some (nI (x.1.length : Int)) := fun n' => cell_keep n'.h H (cell_lt H);have gA : ∀ n' : Cls (fun wx => Bl W3 wx), n'.w.cell? ⟨w.heap.size, 2, none⟩ = some (nI y) := fun n' => cell_keep n'.h G (cell_lt G);have Z : ∀ n' : Cls (fun wx => Bl W3 wx), n'.w.cell? ⟨w.heap.size, 3, none⟩ = some (nI l) := fun n' => cell_keep n'.h E (cell_lt E);have lA : ∀ n' : Cls (fun wx => Bl W3 wx), n'.w.cell? ⟨w.heap.size + 1, 0, none⟩ = some (sL (some ⟨g, d, none⟩) x.1.length cap) := fun n' => cell_keep n'.h V (cell_lt V);have mA : ∀ n' : Cls (fun wx => Bl W3 wx), n'.w.cell? ⟨w.heap.size + 1, 1, none⟩ = some (sL b x.2.length cp) := fun n' => cell_keep n'.h U (cell_lt U);have C : Hid (∀ n' : Cls (fun wx => Bl W3 wx), _) := fun n' => EA.out n'.w (below_step B n'.h);refine wpIn_wide.2 ?_;refine region_class (fun wx => Bl W3 wx) (by kernel_rfl) (by kernel_rfl) ((Below.refl _ W3).drew) ?_;intro fA;repeat (quiet_step (first | (go_at_call 237; exact calls_class (C.out _) (fun D hc bb => below_step hc bb))))
   refine wpQuiet_nil ?_;intro q r;clear fA C pA aA gA Z lA mA I H G E V U z2;have HH := hy;clear hy;have j2 := row_keep r M;have O : q.cell? ⟨w.heap.size + 1 + 1, 0, none⟩ = some (.bool false) := by rw [cell_of_row q _ 0 _ _ (0, 0) j2]; rfl
   have T : q.frozen? ⟨w.heap.size + 1 + 1, 0, none⟩ = false := frozen_of_row q _ 0 _ _ j2;have BB := below_step B r;gi_wp2
   have g9 := heap_setCell_same q (w.heap.size + 1 + 1) 0 _ _ (.bool false) j2;have f := cell_of_row _ _ 0 _ _ (0, 0) g9;refine ⟨.bool false, ?_, ret_bool (by unfold cacheIn; simp [HH]), BB.setCell (p := ⟨w.heap.size + 1 + 1, 0, none⟩) (by simp; omega) _⟩;simp at f
   simp [results, Tryz.results197, go_sem, f]
 ·have z1 : ((x.1.length : Int) != s) = true := by simp [hs]
  refine wpIn_wide.2 ?_;go_quiet (fail)
  have HH := hs;clear hs;have r : Bl W3 (W3.drewN nq) := be_drewN (Below.refl _ _) nq;generalize W3.drewN nq = q at r ⊢;have j2 := row_keep r M;have O : q.cell? ⟨w.heap.size + 1 + 1, 0, none⟩ = some (.bool false) := by rw [cell_of_row q _ 0 _ _ (0, 0) j2]; rfl
  have T : q.frozen? ⟨w.heap.size + 1 + 1, 0, none⟩ = false := frozen_of_row q _ 0 _ _ j2;have BB := below_step B r;gi_wp2
  have g9 := heap_setCell_same q (w.heap.size + 1 + 1) 0 _ _ (.bool false) j2;have f := cell_of_row _ _ 0 _ _ (0, 0) g9;refine ⟨.bool false, ?_, ret_bool (by unfold cacheIn; simp [HH]), BB.setCell (p := ⟨w.heap.size + 1 + 1, 0, none⟩) (by simp; omega) _⟩;simp at f
  simp [results, Tryz.results197, go_sem, f]
def badP {α : Type} (p : α → Bool) (xs : List α) : Int := match xs.findIdx? (fun u => !p u) with
 | some i => (i : Int)
 | none => -1
theorem badP_at {α : Type} {p : α → Bool} {xs : List α} {k : Nat} {u : α} (hu : xs[k]? = some u) (hp : p u = false) (hno : ∀ j v, j < k → xs[j]? = some v → p v = true) : badP p xs = (k : Int) := by
 have a := (List.getElem?_eq_some_iff.1 hu).1;have : xs.findIdx? (fun u => !p u) = some k := by
  rw [List.findIdx?_eq_some_iff_getElem];refine ⟨a, ?_, fun j hj => ?_⟩
  ·rw [List.getElem?_eq_getElem a] at hu;cases hu;simp [hp]
  ·have := hno j _ hj (List.getElem?_eq_getElem (by omega));simp [this]
 unfold badP;rw [this]
theorem badP_no {α : Type} {p : α → Bool} {xs : List α} (hno : ∀ (j : Nat) (v : α), xs[j]? = some v → p v = true) : badP p xs = -1 := by
 have : xs.findIdx? (fun u => !p u) = none := by
  rw [List.findIdx?_eq_none_iff];intro u a;obtain ⟨j, b⟩ := List.getElem?_of_mem a;simp [hno j u b]
 unfold badP;rw [this]
theorem badP_all {α : Type} (p : α → Bool) (xs : List α) : xs.all p = decide (badP p xs < 0) := by
 cases h : xs.all p
 ·have b : ¬ ∀ x ∈ xs, p x = true := fun hh => by rw [List.all_eq_true.2 hh] at h; cases h
  cases a : xs.findIdx? (fun u => !p u) with
  | none =>
   rw [List.findIdx?_eq_none_iff] at a;exact (b fun x hx => by have := a x hx; simpa using this).elim
  | some i => simp [badP, a]
 ·rw [badP_no fun j v hv => List.all_eq_true.1 h v (List.mem_of_getElem? hv)];rfl
open Go.ChangeShapes Go.WideShapes Go.ChangeAt Go.RowKit
def opMostA (k : Int) : Int := if k = 1 then 0 else 9999
def opMostB (k : Int) : Int := if k = 5 then 9999 else 0
def opB (k a x y : Int) : Bool := betw k 1 5 && (betw a 0 31 && (betw x 0 (opMostA k) && betw y 0 (opMostB k)))
theorem setRow_last (w : World) (o : Obj) (c c' : Array Value) (t : TypeId) : ((w.alloc o).alloc (.cells c t)).setRow (w.heap.size + 1) c' = (w.alloc o).alloc (.cells c' t) := by
 have := World.setRow_alloc_new (w.alloc o) c c' t;rwa [show (w.alloc o).heap.size = w.heap.size + 1 by simp] at this
theorem heap_last (w : World) (o o2 : Obj) : ((w.alloc o).alloc o2).heap[w.heap.size + 1]? = some o2 := by
 have := heap_alloc_last (w.alloc o) o2;rwa [show (w.alloc o).heap.size = w.heap.size + 1 by simp] at this
theorem op_cls {W : World} {g : Nat} {v0 v1 v2 v3 : Value} {t : TypeId} (R : W.heap[g]? = some (.cells #[v0, v1, v2, v3] t (0, 0))) :
    (∀ n : Cls (fun wx => Bl W wx), n.w.cell? ⟨g, 0, none⟩ = some v0) ∧ (∀ n : Cls (fun wx => Bl W wx), n.w.cell? ⟨g, 1, none⟩ = some v1) ∧
     (∀ n : Cls (fun wx => Bl W wx), n.w.cell? ⟨g, 2, none⟩ = some v2) ∧ (∀ n : Cls (fun wx => Bl W wx), n.w.cell? ⟨g, 3, none⟩ = some v3) := by
 refine ⟨fun n => ?_, fun n => ?_, fun n => ?_, fun n => ?_⟩
 ·rw [cell_of_row n.w g 0 _ t (0, 0) (row_keep n.h R)]; rfl
 ·rw [cell_of_row n.w g 1 _ t (0, 0) (row_keep n.h R)]; rfl
 ·rw [cell_of_row n.w g 2 _ t (0, 0) (row_keep n.h R)]; rfl
 ·rw [cell_of_row n.w g 3 _ t (0, 0) (row_keep n.h R)]; rfl
theorem bl_drew {w w' : World} {n : Nat} (h : Below n w w') {k : Nat} : Below n w (w'.drewN k) := ⟨h.os, h.tape, h.output, h.size, h.block⟩
theorem opKind {k : Int} (h : betw k 1 5 = true) : k = 1 ∨ k = 2 ∨ k = 3 ∨ k = 4 ∨ k = 5 := by simp [betw] at h; omega
theorem deedOf1 (w : World) :
    Calls Tryz.prog 271 #[nI 1] w fun e w' => e = .returned (.agg #[nI 0, nI 0, .func (.func 283) #[] #[], .func (.func 284) #[] #[]]) ∧ Bl w w' := by
 go_enter Tryz.func271, Tryz.ntmps271;go_upto_region 1 with fail
 iterate 23 go_step
 refine wp_store_row 309 _ _ rfl (w.heap.size + 1) _ (by rfl) (by rfl) 309 _ (heap_last _ _ _) (by kernel_rfl) (by rfl) (by kernel_rfl) ?_;rw [setRow_last];go_wp2;refine bodyPost_ret (v := .agg #[nI 0, nI 0, .func (.func 283) #[] #[], .func (.func 284) #[] #[]]) (by simp [results, Tryz.results271, go_sem]) rfl ⟨rfl, ?_⟩;repeat first
  | exact Below.refl _ _
  | refine Below.setCell ?_ (by simp <;> omega) _
  | refine Below.alloc ?_ (by simp <;> omega) _
  | refine Below.drew ?_
theorem deedOf2 (w : World) :
    Calls Tryz.prog 271 #[nI 2] w fun e w' => e = .returned (.agg #[nI 9999, nI 0, .func (.func 285) #[] #[], .func (.func 286) #[] #[]]) ∧ Bl w w' := by
 go_enter Tryz.func271, Tryz.ntmps271;go_upto_region 1 with fail
 iterate 23 go_step
 refine wp_store_row 309 _ _ rfl (w.heap.size + 1) _ (by rfl) (by rfl) 309 _ (heap_last _ _ _) (by kernel_rfl) (by rfl) (by kernel_rfl) ?_;rw [setRow_last];go_wp2;refine bodyPost_ret (v := .agg #[nI 9999, nI 0, .func (.func 285) #[] #[], .func (.func 286) #[] #[]]) (by simp [results, Tryz.results271, go_sem]) rfl ⟨rfl, ?_⟩;repeat first
  | exact Below.refl _ _
  | refine Below.setCell ?_ (by simp <;> omega) _
  | refine Below.alloc ?_ (by simp <;> omega) _
  | refine Below.drew ?_
theorem deedOf3 (w : World) :
    Calls Tryz.prog 271 #[nI 3] w fun e w' => e = .returned (.agg #[nI 9999, nI 0, .func (.func 287) #[] #[], .func (.func 284) #[] #[]]) ∧ Bl w w' := by
 go_enter Tryz.func271, Tryz.ntmps271;go_upto_region 1 with fail
 iterate 23 go_step
 refine wp_store_row 309 _ _ rfl (w.heap.size + 1) _ (by rfl) (by rfl) 309 _ (heap_last _ _ _) (by kernel_rfl) (by rfl) (by kernel_rfl) ?_;rw [setRow_last];go_wp2;refine bodyPost_ret (v := .agg #[nI 9999, nI 0, .func (.func 287) #[] #[], .func (.func 284) #[] #[]]) (by simp [results, Tryz.results271, go_sem]) rfl ⟨rfl, ?_⟩;repeat first
  | exact Below.refl _ _
  | refine Below.setCell ?_ (by simp <;> omega) _
  | refine Below.alloc ?_ (by simp <;> omega) _
  | refine Below.drew ?_
theorem deedOf4 (w : World) :
    Calls Tryz.prog 271 #[nI 4] w fun e w' => e = .returned (.agg #[nI 9999, nI 0, .func (.func 285) #[] #[], .func (.func 284) #[] #[]]) ∧ Bl w w' := by
 go_enter Tryz.func271, Tryz.ntmps271;go_upto_region 1 with fail
 iterate 23 go_step
 refine wp_store_row 309 _ _ rfl (w.heap.size + 1) _ (by rfl) (by rfl) 309 _ (heap_last _ _ _) (by kernel_rfl) (by rfl) (by kernel_rfl) ?_;rw [setRow_last];go_wp2;refine bodyPost_ret (v := .agg #[nI 9999, nI 0, .func (.func 285) #[] #[], .func (.func 284) #[] #[]]) (by simp [results, Tryz.results271, go_sem]) rfl ⟨rfl, ?_⟩;repeat first
  | exact Below.refl _ _
  | refine Below.setCell ?_ (by simp <;> omega) _
  | refine Below.alloc ?_ (by simp <;> omega) _
  | refine Below.drew ?_
theorem deedOf5 (w : World) :
    Calls Tryz.prog 271 #[nI 5] w fun e w' => e = .returned (.agg #[nI 9999, nI 9999, .func (.func 288) #[] #[], .func (.func 284) #[] #[]]) ∧ Bl w w' := by
 go_enter Tryz.func271, Tryz.ntmps271;go_upto_region 1 with fail
 iterate 23 go_step
 refine wp_store_row 309 _ _ rfl (w.heap.size + 1) _ (by rfl) (by rfl) 309 _ (heap_last _ _ _) (by kernel_rfl) (by rfl) (by kernel_rfl) ?_;rw [setRow_last];go_wp2;refine bodyPost_ret (v := .agg #[nI 9999, nI 9999, .func (.func 288) #[] #[], .func (.func 284) #[] #[]]) (by simp [results, Tryz.results271, go_sem]) rfl ⟨rfl, ?_⟩;repeat first
  | exact Below.refl _ _
  | refine Below.setCell ?_ (by simp <;> omega) _
  | refine Below.alloc ?_ (by simp <;> omega) _
  | refine Below.drew ?_
theorem fits_any (p q : Int) (f g : Value) (k a x y : Int) (w : World) :
    Calls Tryz.prog 272 #[.agg #[nI p, nI q, f, g], .agg #[nI k, nI a, nI x, nI y]] w fun e b => e = .returned (.bool (betw x 0 p && betw y 0 q)) ∧ Bl w b := by
 cases h : betw x 0 p
 all_goals
  go_enter Tryz.func272, Tryz.ntmps272;go_wp2_with (go_at_call 156; refine (between_any _ _ _ _).mono ?_; rintro e b ⟨rfl, rfl⟩)
  go_ret
  refine ⟨rfl, ?_⟩;exact (Below.alloc (Below.alloc (Below.refl _ _) (Nat.le_refl _) _) (by simp) _)
theorem implOpOk_any (k a x y : Int) (w : World) :
    Calls Tryz.prog 247 #[.agg #[nI k, nI a, nI x, nI y]] w fun e w' => e = .returned (.bool (opB k a x y)) ∧ Bl w w' := by
 have B := (Below.refl w.heap.size w).alloc (Nat.le_refl _);cases j : betw k 1 5
 ·have H : Hid (opB k a x y = false) := by unfold Hid opB; simp [j]
  go_enter Tryz.func247, Tryz.ntmps247;go_wp2;go_quiet (first | (go_at_call 156; exact Calls.quiet_of_same (between_any _ _ _ _)))
  go_wp2;go_ret
  exact ⟨ret_bool H.out.symm, bl_drew (B _)⟩
 ·cases l : betw a 0 31
  ·have H : Hid (opB k a x y = false) := by unfold Hid opB; simp [l]
   go_enter Tryz.func247, Tryz.ntmps247;go_wp2;go_quiet (first | (go_at_call 156; exact Calls.quiet_of_same (between_any _ _ _ _)))
   go_wp2;go_ret
   exact ⟨ret_bool H.out.symm, bl_drew (B _)⟩
  ·rcases opKind j with rfl | rfl | rfl | rfl | rfl
   ·have H : Hid (opB 1 a x y = (betw x 0 0 && betw y 0 0)) := by unfold Hid opB; rw [j, l]; rfl
    have R := heap_alloc_new w (.cells #[nI 1, nI a, nI x, nI y] 133);replace B := B (.cells #[nI 1, nI a, nI x, nI y] 133);go_enter Tryz.func247, Tryz.ntmps247;go_wp2;generalize w.alloc (.cells #[nI 1, nI a, nI x, nI y] 133) = W at R B ⊢;obtain ⟨c, d, i, g⟩ := op_cls R;clear R;refine region_class (fun wx => Bl W wx) (by kernel_rfl) (by kernel_rfl) ((Below.refl _ W).drew) ?_;intro b
    repeat (quiet_step (first
     | (go_at_call 156; exact calls_class_same (between_any _ _ _ _))
     | (go_at_call 271; exact calls_class (deedOf1 _) (fun w' hc bb => below_step hc bb))
     | (go_at_call 272; exact calls_class (fits_any _ _ _ _ _ _ _ _ _) (fun w' hc bb => below_step hc bb))))
    refine wpQuiet_nil ?_;intro wx f;clear c d i g b;go_wp2;go_ret
    exact ⟨ret_bool H.out.symm, below_step B f⟩
   ·have H : Hid (opB 2 a x y = (betw x 0 9999 && betw y 0 0)) := by unfold Hid opB; rw [j, l]; rfl
    have R := heap_alloc_new w (.cells #[nI 2, nI a, nI x, nI y] 133);replace B := B (.cells #[nI 2, nI a, nI x, nI y] 133);go_enter Tryz.func247, Tryz.ntmps247;go_wp2;generalize w.alloc (.cells #[nI 2, nI a, nI x, nI y] 133) = W at R B ⊢;obtain ⟨c, d, i, g⟩ := op_cls R;clear R;refine region_class (fun wx => Bl W wx) (by kernel_rfl) (by kernel_rfl) ((Below.refl _ W).drew) ?_;intro b
    repeat (quiet_step (first
     | (go_at_call 156; exact calls_class_same (between_any _ _ _ _))
     | (go_at_call 271; exact calls_class (deedOf2 _) (fun w' hc bb => below_step hc bb))
     | (go_at_call 272; exact calls_class (fits_any _ _ _ _ _ _ _ _ _) (fun w' hc bb => below_step hc bb))))
    refine wpQuiet_nil ?_;intro wx f;clear c d i g b;go_wp2;go_ret
    exact ⟨ret_bool H.out.symm, below_step B f⟩
   ·have H : Hid (opB 3 a x y = (betw x 0 9999 && betw y 0 0)) := by unfold Hid opB; rw [j, l]; rfl
    have R := heap_alloc_new w (.cells #[nI 3, nI a, nI x, nI y] 133);replace B := B (.cells #[nI 3, nI a, nI x, nI y] 133);go_enter Tryz.func247, Tryz.ntmps247;go_wp2;generalize w.alloc (.cells #[nI 3, nI a, nI x, nI y] 133) = W at R B ⊢;obtain ⟨c, d, i, g⟩ := op_cls R;clear R;refine region_class (fun wx => Bl W wx) (by kernel_rfl) (by kernel_rfl) ((Below.refl _ W).drew) ?_;intro b
    repeat (quiet_step (first
     | (go_at_call 156; exact calls_class_same (between_any _ _ _ _))
     | (go_at_call 271; exact calls_class (deedOf3 _) (fun w' hc bb => below_step hc bb))
     | (go_at_call 272; exact calls_class (fits_any _ _ _ _ _ _ _ _ _) (fun w' hc bb => below_step hc bb))))
    refine wpQuiet_nil ?_;intro wx f;clear c d i g b;go_wp2;go_ret
    exact ⟨ret_bool H.out.symm, below_step B f⟩
   ·have H : Hid (opB 4 a x y = (betw x 0 9999 && betw y 0 0)) := by unfold Hid opB; rw [j, l]; rfl
    have R := heap_alloc_new w (.cells #[nI 4, nI a, nI x, nI y] 133);replace B := B (.cells #[nI 4, nI a, nI x, nI y] 133);go_enter Tryz.func247, Tryz.ntmps247;go_wp2;generalize w.alloc (.cells #[nI 4, nI a, nI x, nI y] 133) = W at R B ⊢;obtain ⟨c, d, i, g⟩ := op_cls R;clear R;refine region_class (fun wx => Bl W wx) (by kernel_rfl) (by kernel_rfl) ((Below.refl _ W).drew) ?_;intro b
    repeat (quiet_step (first
     | (go_at_call 156; exact calls_class_same (between_any _ _ _ _))
     | (go_at_call 271; exact calls_class (deedOf4 _) (fun w' hc bb => below_step hc bb))
     | (go_at_call 272; exact calls_class (fits_any _ _ _ _ _ _ _ _ _) (fun w' hc bb => below_step hc bb))))
    refine wpQuiet_nil ?_;intro wx f;clear c d i g b;go_wp2;go_ret
    exact ⟨ret_bool H.out.symm, below_step B f⟩
   ·have H : Hid (opB 5 a x y = (betw x 0 9999 && betw y 0 9999)) := by unfold Hid opB; rw [j, l]; rfl
    have R := heap_alloc_new w (.cells #[nI 5, nI a, nI x, nI y] 133);replace B := B (.cells #[nI 5, nI a, nI x, nI y] 133);go_enter Tryz.func247, Tryz.ntmps247;go_wp2;generalize w.alloc (.cells #[nI 5, nI a, nI x, nI y] 133) = W at R B ⊢;obtain ⟨c, d, i, g⟩ := op_cls R;clear R;refine region_class (fun wx => Bl W wx) (by kernel_rfl) (by kernel_rfl) ((Below.refl _ W).drew) ?_;intro b
    repeat (quiet_step (first
     | (go_at_call 156; exact calls_class_same (between_any _ _ _ _))
     | (go_at_call 271; exact calls_class (deedOf5 _) (fun w' hc bb => below_step hc bb))
     | (go_at_call 272; exact calls_class (fits_any _ _ _ _ _ _ _ _ _) (fun w' hc bb => below_step hc bb))))
    refine wpQuiet_nil ?_;intro wx f;clear c d i g b;go_wp2;go_ret
    exact ⟨ret_bool H.out.symm, below_step B f⟩
theorem specOpOk_any (k a x y : Int) (w : World) :
    Calls Tryz.prog 134 #[.agg #[nI k, nI a, nI x, nI y]] w fun e b => e = .returned (.bool (opB k a x y)) ∧ Bl w b := by
 have B := (Below.refl w.heap.size w).alloc (Nat.le_refl _);cases f : betw k 1 5 <;> cases i : betw a 0 31 <;> cases d : okW x <;> cases c : okW y
 case true.true.true.true =>
  rcases opKind f with rfl | rfl | rfl | rfl | rfl
  ·have H : Hid (opB 1 a x y = (x == 0 && y == 0)) := by
     unfold Hid opB opMostA opMostB;unfold okW betw at d c;rw [f, i];unfold betw;rw [Bool.eq_iff_iff];simp at d c ⊢
     omega
   by_cases j : x = 0 <;> by_cases g : y = 0
   all_goals
    go_enter Tryz.func134, Tryz.ntmps134
    go_wp2_with (first
     | (go_at_call 126; refine (l1In_any _ _ _ _).mono ?_; rintro e b ⟨rfl, rfl⟩)
     | (go_at_call 185; refine (l3Word_any _ _).mono ?_; rintro e b ⟨rfl, rfl⟩))
    go_ret
    exact ⟨ret_bool (H.out.trans (by simp [j, g])).symm, B _⟩
  ·have H : Hid (opB 2 a x y = (y == 0)) := by
     unfold Hid opB opMostA opMostB;unfold okW betw at d c;rw [f, i];unfold betw;rw [Bool.eq_iff_iff];simp at d c ⊢
     omega
   by_cases g : y = 0
   all_goals
    go_enter Tryz.func134, Tryz.ntmps134
    go_wp2_with (first
     | (go_at_call 126; refine (l1In_any _ _ _ _).mono ?_; rintro e b ⟨rfl, rfl⟩)
     | (go_at_call 185; refine (l3Word_any _ _).mono ?_; rintro e b ⟨rfl, rfl⟩))
    go_ret
    exact ⟨ret_bool (H.out.trans (by simp [g])).symm, B _⟩
  ·have H : Hid (opB 3 a x y = (y == 0)) := by
     unfold Hid opB opMostA opMostB;unfold okW betw at d c;rw [f, i];unfold betw;rw [Bool.eq_iff_iff];simp at d c ⊢
     omega
   by_cases g : y = 0
   all_goals
    go_enter Tryz.func134, Tryz.ntmps134
    go_wp2_with (first
     | (go_at_call 126; refine (l1In_any _ _ _ _).mono ?_; rintro e b ⟨rfl, rfl⟩)
     | (go_at_call 185; refine (l3Word_any _ _).mono ?_; rintro e b ⟨rfl, rfl⟩))
    go_ret
    exact ⟨ret_bool (H.out.trans (by simp [g])).symm, B _⟩
  ·have H : Hid (opB 4 a x y = (y == 0)) := by
     unfold Hid opB opMostA opMostB;unfold okW betw at d c;rw [f, i];unfold betw;rw [Bool.eq_iff_iff];simp at d c ⊢
     omega
   by_cases g : y = 0
   all_goals
    go_enter Tryz.func134, Tryz.ntmps134
    go_wp2_with (first
     | (go_at_call 126; refine (l1In_any _ _ _ _).mono ?_; rintro e b ⟨rfl, rfl⟩)
     | (go_at_call 185; refine (l3Word_any _ _).mono ?_; rintro e b ⟨rfl, rfl⟩))
    go_ret
    exact ⟨ret_bool (H.out.trans (by simp [g])).symm, B _⟩
  ·have H : Hid (opB 5 a x y = true) := by
     unfold Hid opB opMostA opMostB;unfold okW betw at d c;rw [f, i];unfold betw;rw [Bool.eq_iff_iff];simp at d c ⊢
     omega
   skip
   all_goals
    go_enter Tryz.func134, Tryz.ntmps134
    go_wp2_with (first
     | (go_at_call 126; refine (l1In_any _ _ _ _).mono ?_; rintro e b ⟨rfl, rfl⟩)
     | (go_at_call 185; refine (l3Word_any _ _).mono ?_; rintro e b ⟨rfl, rfl⟩))
    go_ret
    exact ⟨ret_bool (H.out.trans (by simp [])).symm, B _⟩
 all_goals
  have H : Hid (opB k a x y = false) := by
   unfold Hid opB opMostA opMostB;unfold okW betw at d c;unfold betw at f i ⊢;rw [Bool.eq_iff_iff];simp at f i d c ⊢
   intros
   try split
   all_goals omega
  go_enter Tryz.func134, Tryz.ntmps134
  go_wp2_with (first
        | (go_at_call 126; refine (l1In_any _ _ _ _).mono ?_; rintro e b ⟨rfl, rfl⟩)
        | (go_at_call 185; refine (l3Word_any _ _).mono ?_; rintro e b ⟨rfl, rfl⟩))
  go_ret
  exact ⟨ret_bool H.out.symm, B _⟩
end Go.Proofs.YtdamokokcdcedaaGreatDoor
