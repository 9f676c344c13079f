import Derived.Test.YtcocbafhcpdheaaGreatDoorP00Box
import Derived.Test.YtcocbafhcpdheaaGreatDoorP13
import Derived.Test.YtcocbafhcpdheaaGreatDoorP16
import Derived.Laws.EntriesVeiled
import Derived.Deep.WholeRow
namespace Go.Proofs.YtcocbafhcpdheaaGreatDoor
set_option maxHeartbeats 4000000
set_option maxRecDepth 20000
open Go.ChangeShapes Go.WideShapes Go.ChangeAt Go.RowKit Go.Shelf
set_option linter.unusedVariables false
attribute [local go_sem] Oper.semAt_some
def waysIn (l : Int) (x : CacheD) : Bool := x.1.all fun row => row.all (wayIn l)
def cacheIn (s y l : Int) (x : CacheD) (m : Nat) : Bool := decide ((x.1.length : Int) = s) && (decide ((m : Int) = y) && waysIn l x)
theorem waysIn_yes {l : Int} {x : CacheD} {m : Nat} (hm : 0 < m) (hrow : ∀ row ∈ x.1, row.length = m) (h : ∀ j, j < x.1.length * m → wayIn l (wayK x m j) = true) : waysIn l x = true := by
 refine List.all_eq_true.2 fun row hr => List.all_eq_true.2 fun u hu => ?_;obtain ⟨i, hi⟩ := List.getElem?_of_mem hr;obtain ⟨j, hj⟩ := List.getElem?_of_mem hu;have hl := hrow row hr;have hi' := (List.getElem?_eq_some_iff.1 hi).1;have hj' := (List.getElem?_eq_some_iff.1 hj).1;have hjm : j < m := by omega
 have e1 : (m * i + j) / m = i := by rw [Nat.mul_add_div hm, Nat.div_eq_of_lt hjm, Nat.add_zero]
 have e2 : (m * i + j) % m = j := by rw [Nat.mul_add_mod, Nat.mod_eq_of_lt hjm]
 have hlt : m * i + j < x.1.length * m := by
  have : m * (i + 1) ≤ m * x.1.length := Nat.mul_le_mul_left m hi';rw [Nat.mul_add, Nat.mul_one] at this;rw [Nat.mul_comm x.1.length m];omega
 have q := h _ hlt;unfold wayK at q;have e3 : x.1.getD i [] = row := by rw [List.getD_eq_getElem?_getD, hi]; rfl
 have e4 : row.getD j emptyW = u := by rw [List.getD_eq_getElem?_getD, hj]; rfl
 rw [e1, e2, e3, e4] at q;exact q
theorem waysIn_no {l : Int} {x : CacheD} {m k : Nat} (hm : 0 < m) (hrow : ∀ row ∈ x.1, row.length = m) (hk : k < x.1.length * m) (h : wayIn l (wayK x m k) = false) : waysIn l x = false := by
 obtain ⟨row, e1, e2⟩ := wayK_get hm hrow hk;cases q : waysIn l x
 ·rfl
 ·have q1 := List.all_eq_true.1 (List.all_eq_true.1 q row (List.mem_of_getElem? e1)) _ (List.mem_of_getElem? e2);rw [h] at q1;cases q1
def FOk (w : World) (Bc : Nat) (cf : Array Value) (v u : Value) (x : CacheD) (m : Nat) (l : Int) (k : Nat) (W : World) : Prop :=
 (∀ j, j < k → wayIn l (wayK x m j) = true) ∧ W.heap[w.heap.size]? = some (.cells cf 39 (0, 0)) ∧ W.heap[w.heap.size + 1 + 1]? = some (.cells #[.bool false] 4 (0, 0)) ∧ W.heap[Bc]? = some (.cells #[v, u] 92 (0, 0)) ∧ Below w.heap.size w W
theorem fok_own {w : World} {Bc : Nat} {cf : Array Value} {v u : Value} {x : CacheD} {m B : Nat} {l : Int} (hB : w.heap.size ≤ B) : OwnFrom B (fun k W => FOk w Bc cf v u x m l k W) := by
 rintro k X Y row ⟨g0, g1, g2, g3, g4⟩ hg hr;exact ⟨g0, own_heap (β := Unit) _ _ _ _ () X Y row g1 hg hr, own_heap (β := Unit) _ _ _ _ () X Y row g2 hg hr, own_heap (β := Unit) _ _ _ _ () X Y row g3 hg hr, ownFrom_below (β := Unit) (Nat.le_refl _) hB () X Y row g4 hg hr⟩
theorem fok_below {w : World} {Bc : Nat} {cf : Array Value} {v u : Value} {x : CacheD} {m k : Nat} {l : Int} {W W' : World} (h : FOk w Bc cf v u x m l k W) (hb : Below W.heap.size W W') : FOk w Bc cf v u x m l k W' := by
 obtain ⟨g0, g1, g2, g3, g4⟩ := h;exact ⟨g0, row_keep hb g1, row_keep hb g2, row_keep hb g3, below_step g4 hb⟩
theorem fitsCache_any (c s y l : Int) (a b : Option Addr) (x : CacheD) (cap cp m : Nat) (w : World) (hc : codeI c s y l = 0) (h1 : SlRd waysR w a x.1) (hp : x.1.length = 1 ∨ x.1.length = 2 ∨ x.1.length = 4) (hm : m = 1 ∨ m = 2 ∨ m = 4) (hrow : ∀ row ∈ x.1, row.length = m) :
    Calls Tryz.prog 174 #[.agg #[.int .i64 c, .int .i64 s, .int .i64 y, .int .i64 l], .agg #[.slice a x.1.length cap, .slice b x.2.length cp]] w fun e w' => e = .returned (.bool (cacheIn s y l x m)) ∧ Below w.heap.size w w' := by
 have hm0 : 0 < m := by omega
 have hmt : x.1.length = 1 ∨ x.1.length = 2 ∨ x.1.length = 4 := hp;obtain ⟨b0, off0, cc, rfl, hat, hcc⟩ := setsAt_of h1 (fun e => by rw [e] at hp; simp at hp) hm0 hrow;have HG : Hid (∀ k, k < x.1.length * m → ((cc (k / m)).way (k % m)).line = (wayK x m k).1 ∧ ((cc (k / m)).way (k % m)).state = (wayK x m k).2.1 ∧ ((cc (k / m)).way (k % m)).len = (wayK x m k).2.2.length) := fun k hk => by
  obtain ⟨row, e1, e2⟩ := wayK_get hm0 hrow hk;obtain ⟨q1, q2, q3, q4, q5, q6⟩ := hcc _ _ row _ e1 e2;exact ⟨q1, q2, q3⟩
 have HP : Hid (x.1.length = 1 ∨ x.1.length = 2 ∨ x.1.length = 4) := hp;have HM : Hid (m = 1 ∨ m = 2 ∨ m = 4) := hm;have HA : Hid _ := hat;have HY : Hid ((∀ j, j < x.1.length * m → wayIn l (wayK x m j) = true) → waysIn l x = true) := fun h => waysIn_yes hm0 hrow h;have HN : Hid (∀ k, k < x.1.length * m → wayIn l (wayK x m k) = false → waysIn l x = false) := fun k hk h => waysIn_no hm0 hrow hk h;have HF : Hid (∀ (u : WayD) (ua : Option Addr) (uc : Nat) (W : World), Calls Tryz.prog 175 #[.agg #[.int .i64 c, .int .i64 s, .int .i64 y, .int .i64 l], .agg #[.int .i64 u.1, .int .i64 u.2.1, .slice ua u.2.2.length uc]] W fun e w' => e = .returned (.bool (wayIn l u)) ∧ Below W.heap.size W w') := fun u ua uc W => fitsWay_any c s y l u ua uc W hc;have h00 := (hat 0 (by omega)).1;have HWY : Hid (∀ W, Below w.heap.size w W → Calls Tryz.prog 218 #[.agg #[.slice (some ⟨b0, off0, none⟩) x.1.length cap, .slice b x.2.length cp]] W fun e w' => e = .returned (.int .i64 (m : Int)) ∧ Below W.heap.size W w') := fun W hb => ways_any b0 off0 x.1.length cap _ _ _ _ rfl _ m _ W (by omega) (cell_keep hb h00 (cell_lt h00));clear h1 hcc hrow hp hm hat h00;have B := below_step (below_step (box_below w (.cells #[.int .i64 c, .int .i64 s, .int .i64 y, .int .i64 l] 39)) (box_below _ (.cells #[.slice (some ⟨b0, off0, none⟩) x.1.length cap, .slice b x.2.length cp] 92))) (box_below _ (.cells #[.bool false] 4));have k0 := heap_on (.cells #[.bool false] 4) (heap_on (.cells #[.slice (some ⟨b0, off0, none⟩) x.1.length cap, .slice b x.2.length cp] 92) (heap_at w (.cells #[.int .i64 c, .int .i64 s, .int .i64 y, .int .i64 l] 39)));have k1 := heap_on (.cells #[.bool false] 4) (heap_at (w.alloc (.cells #[.int .i64 c, .int .i64 s, .int .i64 y, .int .i64 l] 39)) (.cells #[.slice (some ⟨b0, off0, none⟩) x.1.length cap, .slice b x.2.length cp] 92));have k2 := heap_at ((w.alloc (.cells #[.int .i64 c, .int .i64 s, .int .i64 y, .int .i64 l] 39)).alloc (.cells #[.slice (some ⟨b0, off0, none⟩) x.1.length cap, .slice b x.2.length cp] 92)) (.cells #[.bool false] 4);rw [alloc_len] at k1;rw [alloc_len, alloc_len] at k2;have e3 : w.heap.size + 1 + 1 + 1 ≤ (((w.alloc (.cells #[.int .i64 c, .int .i64 s, .int .i64 y, .int .i64 l] 39)).alloc (.cells #[.slice (some ⟨b0, off0, none⟩) x.1.length cap, .slice b x.2.length cp] 92)).alloc (.cells #[.bool false] 4)).heap.size := by simp
 refine (callsIn_wide (n := 0)).1 ?_;refine callsIn_of_wp_marks Tryz.func174 rfl trivial ?_ rfl;simp only [Tryz.ntmps174, List.size_toArray, List.length_cons, List.length_nil, Nat.reduceAdd, Nat.reduceSub, Array.replicate_succ, Array.replicate_zero, List.push_toArray, List.append_toArray, List.nil_append, List.cons_append];gi_wp2
 generalize (((w.alloc (.cells #[.int .i64 c, .int .i64 s, .int .i64 y, .int .i64 l] 39)).alloc (.cells #[.slice (some ⟨b0, off0, none⟩) x.1.length cap, .slice b x.2.length cp] 92)).alloc (.cells #[.bool false] 4)) = W3 at B k0 k1 k2 e3 ⊢;obtain ⟨c0, c1, c2, c3⟩ := cells_4 k0;obtain ⟨d0, d1⟩ := cells_two k1;by_cases hs : (x.1.length : Int) = s
 ·subst hs;have z1 : ((x.1.length : Int) != (x.1.length : Int)) = false := by simp
  by_cases hy : (m : Int) = y
  ·subst hy;have z2 : ((m : Int) != (m : Int)) = false := by simp
   have c0k : ∀ n' : Cls (fun wx => Below W3.heap.size W3 wx), n'.w.cell? ⟨w.heap.size, 0, none⟩ = some (.int .i64 c) := fun n' => cell_keep n'.h c0 (cell_lt c0);have c1k : ∀ n' : Cls (fun wx => Below W3.heap.size W3 wx), n'.w.cell? ⟨w.heap.size, 1, none⟩ = some (.int .i64 (x.1.length : Int)) := fun n' => cell_keep n'.h c1 (cell_lt c1);have c2k : ∀ n' : Cls (fun wx => Below W3.heap.size W3 wx), n'.w.cell? ⟨w.heap.size, 2, none⟩ = some (.int .i64 (m : Int)) := fun n' => cell_keep n'.h c2 (cell_lt c2);have c3k : ∀ n' : Cls (fun wx => Below W3.heap.size W3 wx), n'.w.cell? ⟨w.heap.size, 3, none⟩ = some (.int .i64 l) := fun n' => cell_keep n'.h c3 (cell_lt c3);have d0k : ∀ n' : Cls (fun wx => Below W3.heap.size W3 wx), n'.w.cell? ⟨w.heap.size + 1, 0, none⟩ = some (.slice (some ⟨b0, off0, none⟩) x.1.length cap) := fun n' => cell_keep n'.h d0 (cell_lt d0);have d1k : ∀ n' : Cls (fun wx => Below W3.heap.size W3 wx), n'.w.cell? ⟨w.heap.size + 1, 1, none⟩ = some (.slice b x.2.length cp) := fun n' => cell_keep n'.h d1 (cell_lt d1);have HWc : Hid (∀ n' : Cls (fun wx => Below W3.heap.size W3 wx), _) := fun n' => HWY.out n'.w (below_step B n'.h);refine wpIn_wide.2 ?_;refine region_class (fun wx => Below W3.heap.size W3 wx) (by kernel_rfl) (by kernel_rfl) ((Below.refl _ W3).drew) ?_;intro hne;repeat (quiet_step (first | (go_at_call 218; exact calls_class (HWc.out _) (fun w' hc bb => below_step hc bb))))
   refine wpQuiet_nil ?_;intro W4 bq;clear hne HWc c0k c1k c2k c3k d0k d1k c0 c1 c2 c3 d0 d1;replace k0 := row_keep bq k0;replace k1 := row_keep bq k1;replace k2 := row_keep bq k2;replace B := below_step B bq;replace e3 := Nat.le_trans e3 bq.size;clear bq;obtain ⟨d0, d1⟩ := cells_two k1;gi_wp2
   refine ⟨trivial, rfl, (callsIn_wide.2 (everyWay_any _ _ _ _ _ _ _ _ rfl rfl _)).mono ?_⟩;rintro e w' ⟨rfl, rfl⟩;gi_wp2
   have bz := box_below W4 (.cells #[.slice (some ⟨b0, off0, none⟩) x.1.length cap, .slice b x.2.length cp] 92);have kc := heap_at W4 (.cells #[.slice (some ⟨b0, off0, none⟩) x.1.length cap, .slice b x.2.length cp] 92);have e4 : (W4.alloc (.cells #[.slice (some ⟨b0, off0, none⟩) x.1.length cap, .slice b x.2.length cp] 92)).heap.size = W4.heap.size + 1 := by simp
   have hI0 : FOk w W4.heap.size #[.int .i64 c, .int .i64 (x.1.length : Int), .int .i64 (m : Int), .int .i64 l] (.slice (some ⟨b0, off0, none⟩) x.1.length cap) (.slice b x.2.length cp) x m l 0 (W4.alloc (.cells #[.slice (some ⟨b0, off0, none⟩) x.1.length cap, .slice b x.2.length cp] 92)) := ⟨fun j hj => by omega, row_keep bz k0, row_keep bz k2, kc, below_step B bz⟩;clear k0 k1 k2 kc bz B d0 d1;generalize W4.alloc (.cells #[.slice (some ⟨b0, off0, none⟩) x.1.length cap, .slice b x.2.length cp] 92) = W0 at e4 hI0 ⊢;generalize W4.heap.size = Bc at e3 e4 hI0 ⊢;refine range_iter (N := x.1.length * m) (lb := #[.pointer (some ⟨Bc, 0, none⟩)]) (gf := 253) rfl (enters_of Tryz.func253 (by kernel_rfl) rfl)
    (everyWay1_iter Bc b0 off0 x.1.length m cap cc (by have := HP.out; omega) (by have := HM.out; omega) (by have := HP.out; omega) hm0) (fun _ => rfl)
    (fun k W => FOk w Bc #[.int .i64 c, .int .i64 (x.1.length : Int), .int .i64 (m : Int), .int .i64 l] (.slice (some ⟨b0, off0, none⟩) x.1.length cap) (.slice b x.2.length cp) x m l k W)
    (fun z k W => z = .ret ∧ waysIn l x = false ∧ W.heap[w.heap.size + 1 + 1]? = some (.cells #[.bool false] 4 (0, 0)) ∧ Below w.heap.size w W)
    (fok_own (by omega)) (fun z => OwnFrom.and (ownFrom_pure _ _) (OwnFrom.and (ownFrom_pure _ _) (OwnFrom.and (own_heap _ _ _ _) (ownFrom_below (Nat.le_refl _) (by omega))))) ?hR hI0
    (fun k a' W => ∃ B6, W0.heap.size < B6 ∧ W.heap[B6]? = some (.cells #[.int .i64 ((cc (k / m)).way (k % m)).line, .int .i64 ((cc (k / m)).way (k % m)).state, .slice ((cc (k / m)).way (k % m)).addr ((cc (k / m)).way (k % m)).len ((cc (k / m)).way (k % m)).cap] 88 (0, 0)) ∧ FOk w Bc #[.int .i64 c, .int .i64 (x.1.length : Int), .int .i64 (m : Int), .int .i64 l] (.slice (some ⟨b0, off0, none⟩) x.1.length cap) (.slice b x.2.length cp) x m l k W ∧
     a' = { tmps := #[.agg #[.int .i64 c, .int .i64 (x.1.length : Int), .int .i64 (m : Int), .int .i64 l], .agg #[.slice (some ⟨b0, off0, none⟩) x.1.length cap, .slice b x.2.length cp], .pointer (some ⟨w.heap.size, 0, none⟩), .pointer (some ⟨w.heap.size + 1, 0, none⟩), .pointer (some ⟨w.heap.size + 1 + 1, 0, none⟩), undef, .pointer (some ⟨B6, 0, none⟩), .pointer (some ⟨w.heap.size + 1, 0, none⟩), .slice (some ⟨b0, off0, none⟩) x.1.length cap, .int .i64 (x.1.length : Int), .pointer (some ⟨w.heap.size, 1, none⟩), .int .i64 (x.1.length : Int), .bool false, .bool false, .agg #[.slice (some ⟨b0, off0, none⟩) x.1.length cap, .slice b x.2.length cp], .int .i64 (m : Int), .pointer (some ⟨w.heap.size, 2, none⟩), .int .i64 (m : Int), .bool false, .bool false, .agg #[.slice (some ⟨b0, off0, none⟩) x.1.length cap, .slice b x.2.length cp], .func (.func 253) #[] #[.pointer (some ⟨Bc, 0, none⟩)], .agg #[.int .i64 (k / m : Nat), .int .i64 (k % m : Nat)], ((cc (k / m)).way (k % m)).agg, undef, undef, undef, undef], defers := [] })
    ?hA ?hassign ?hbody ?hdone ?hstop
   case hR =>
    rintro k W ⟨_, _, _, g3, g4⟩;exact ⟨by rw [cell_of_row W _ 0 _ _ (0, 0) g3]; rfl, setsAt_below HA.out g4 hm0⟩
   case hA =>
    rintro k a' ⟨⟩ X Y row' ⟨B6, l6, g6, g0, rfl⟩ hg hr;exact ⟨B6, l6, own_heap (β := Unit) _ _ _ _ () X Y row' g6 hg hr, fok_own (B := W0.heap.size) (by omega) k X Y row' g0 hg hr, rfl⟩
   case hassign =>
    rintro k W K hk g0 hlt hK;gi_wp2
    have z1 := box_below W (.cells #[.int .i64 ((cc (k / m)).way (k % m)).line, .int .i64 ((cc (k / m)).way (k % m)).state, .slice ((cc (k / m)).way (k % m)).addr ((cc (k / m)).way (k % m)).len ((cc (k / m)).way (k % m)).cap] 88);exact hK _ _ (Kept.below z1) ⟨W.heap.size, by omega, heap_at _ _, fok_below g0 z1, rfl⟩
   case hbody =>
    rintro k a' V1 hk ⟨B6, l6, g6, g0, rfl⟩ hlt hD hL;obtain ⟨q1, q2, q3⟩ := HG.out k hk;rw [q1, q2, q3] at g6;have hag : ((cc (k / m)).way (k % m)).agg = .agg #[.int .i64 (wayK x m k).1, .int .i64 (wayK x m k).2.1, .slice ((cc (k / m)).way (k % m)).addr (wayK x m k).2.2.length ((cc (k / m)).way (k % m)).cap] := by rw [WCells.agg, q1, q2, q3]
    rw [hag];clear hag q1 q2 q3;generalize ((cc (k / m)).way (k % m)).addr = ad at g6 ⊢;generalize ((cc (k / m)).way (k % m)).cap = cpw at g6 ⊢;have HE : Hid (∀ W, Calls Tryz.prog 175 #[.agg #[.int .i64 c, .int .i64 (x.1.length : Int), .int .i64 (m : Int), .int .i64 l], .agg #[.int .i64 (wayK x m k).1, .int .i64 (wayK x m k).2.1, .slice ad (wayK x m k).2.2.length cpw]] W fun e w' => e = .returned (.bool (wayIn l (wayK x m k))) ∧ Below W.heap.size W w') := fun W => HF.out (wayK x m k) ad cpw W;obtain ⟨x0, x1, x2⟩ := cells_three g6;obtain ⟨c0, c1, c2, c3⟩ := cells_4 g0.2.1;cases hfl : wayIn l (wayK x m k)
    ·rw [hfl] at HE;have HNN : Hid (waysIn l x = false) := HN.out k hk hfl;gi_wp2
     refine ⟨trivial, rfl, (CallsIn.inRound _ (callsIn_wide.2 (HE.out _))).mono ?_⟩;rintro e V2 ⟨rfl, b1⟩;obtain ⟨g0, g1, g2, g3, g4⟩ := fok_below g0 b1;have r2 : V2.cell? ⟨w.heap.size + 1 + 1, 0, none⟩ = some (.bool false) := by rw [cell_of_row V2 _ 0 _ _ (0, 0) g2]; rfl
     have r3 : V2.frozen? ⟨w.heap.size + 1 + 1, 0, none⟩ = false := frozen_of_row V2 _ 0 _ _ g2;clear x0 x1 x2 c0 c1 c2 c3;gi_wp2
     refine ⟨Kept.trans (Kept.below b1) (Kept.chg (S := fun j => j = w.heap.size + 1 + 1) (chg_grown (grownBy_setCell' V2 (w.heap.size + 1 + 1) _) rfl) (fun j e => by omega)), rfl, HNN.out, heap_setCell_same V2 (w.heap.size + 1 + 1) 0 _ _ (.bool false) g2, g4.setCell (p := ⟨w.heap.size + 1 + 1, 0, none⟩) (by simp; omega) _⟩
    ·rw [hfl] at HE;gi_wp2
     refine ⟨trivial, rfl, (CallsIn.inRound _ (callsIn_wide.2 (HE.out _))).mono ?_⟩;rintro e V2 ⟨rfl, b1⟩;obtain ⟨g0, g1, g2, g3, g4⟩ := fok_below g0 b1;clear x0 x1 x2 c0 c1 c2 c3;gi_wp2
     refine ⟨Kept.below b1, fun j hj => ?_, g1, g2, g3, g4⟩;by_cases he : j < k
     ·exact g0 j he
     ·have : j = k := by omega
      subst this;exact hfl
   case hdone =>
    rintro W ⟨g0, g1, g2, g3, g4⟩ hK;have q2 : W.cell? ⟨w.heap.size + 1 + 1, 0, none⟩ = some (.bool false) := by rw [cell_of_row W _ 0 _ _ (0, 0) g2]; rfl
    have q3 : W.frozen? ⟨w.heap.size + 1 + 1, 0, none⟩ = false := frozen_of_row W _ 0 _ _ g2;gi_wp2
    have g8 := heap_setCell_same W (w.heap.size + 1 + 1) 0 _ _ (.bool true) g2;have hK' : (W.setCell ⟨w.heap.size + 1 + 1, 0, none⟩ (.bool true)).heap[W0.heap.size]? = some (.deferred (some [])) := (heap_setCell_other W ⟨w.heap.size + 1 + 1, 0, none⟩ _ _ (by simp; omega)).trans hK;refine ⟨by simp, .inl ⟨_, _, rfl, run_takeDeferred hK', ?_⟩⟩;have g9 := (World.putObj_heap_other (o := .deferred none) (show w.heap.size + 1 + 1 ≠ W0.heap.size by omega)).trans g8;have hc5 := cell_of_row _ _ 0 _ _ (0, 0) g9;refine ⟨.bool true, ?_, ret_bool (by unfold cacheIn; rw [HY.out g0]; simp), (g4.setCell (p := ⟨w.heap.size + 1 + 1, 0, none⟩) (by simp; omega) _).trans ((Below.refl _ _).grown (grownBy_putObj' _ _ _) (by have := (ltH hK'); omega) (fun k e => by cases e; omega))⟩;simp at hc5
    simp [results, Tryz.results174, go_sem, hc5]
   case hstop =>
    rintro z k W hk ⟨rfl, hf, g5, g7⟩ hK;gi_wp2
    refine ⟨by simp, .inl ⟨_, _, rfl, run_takeDeferred hK, ?_⟩⟩;have g9 := (World.putObj_heap_other (o := .deferred none) (show w.heap.size + 1 + 1 ≠ W0.heap.size by omega)).trans g5;have hc5 := cell_of_row _ _ 0 _ _ (0, 0) g9;refine ⟨.bool false, ?_, ret_bool (by unfold cacheIn; rw [hf]; simp), g7.trans ((Below.refl _ _).grown (grownBy_putObj' _ _ _) (by have := (ltH hK); omega) (fun k e => by cases e; omega))⟩;simp at hc5
    simp [results, Tryz.results174, go_sem, hc5]
  ·have z2 : ((m : Int) != y) = true := by simp [hy]
   have c0k : ∀ n' : Cls (fun wx => Below W3.heap.size W3 wx), n'.w.cell? ⟨w.heap.size, 0, none⟩ = some (.int .i64 c) := fun n' => cell_keep n'.h c0 (cell_lt c0);have c1k : ∀ n' : Cls (fun wx => Below W3.heap.size W3 wx), n'.w.cell? ⟨w.heap.size, 1, none⟩ = some (.int .i64 (x.1.length : Int)) := fun n' => cell_keep n'.h c1 (cell_lt c1);have c2k : ∀ n' : Cls (fun wx => Below W3.heap.size W3 wx), n'.w.cell? ⟨w.heap.size, 2, none⟩ = some (.int .i64 y) := fun n' => cell_keep n'.h c2 (cell_lt c2);have c3k : ∀ n' : Cls (fun wx => Below W3.heap.size W3 wx), n'.w.cell? ⟨w.heap.size, 3, none⟩ = some (.int .i64 l) := fun n' => cell_keep n'.h c3 (cell_lt c3);have d0k : ∀ n' : Cls (fun wx => Below W3.heap.size W3 wx), n'.w.cell? ⟨w.heap.size + 1, 0, none⟩ = some (.slice (some ⟨b0, off0, none⟩) x.1.length cap) := fun n' => cell_keep n'.h d0 (cell_lt d0);have d1k : ∀ n' : Cls (fun wx => Below W3.heap.size W3 wx), n'.w.cell? ⟨w.heap.size + 1, 1, none⟩ = some (.slice b x.2.length cp) := fun n' => cell_keep n'.h d1 (cell_lt d1);have HWc : Hid (∀ n' : Cls (fun wx => Below W3.heap.size W3 wx), _) := fun n' => HWY.out n'.w (below_step B n'.h);refine wpIn_wide.2 ?_;refine region_class (fun wx => Below W3.heap.size W3 wx) (by kernel_rfl) (by kernel_rfl) ((Below.refl _ W3).drew) ?_;intro hne;repeat (quiet_step (first | (go_at_call 218; exact calls_class (HWc.out _) (fun w' hc bb => below_step hc bb))))
   refine wpQuiet_nil ?_;intro W4 bq;clear hne HWc c0k c1k c2k c3k d0k d1k c0 c1 c2 c3 d0 d1 z2;have HH := hy;clear hy;have j2 := row_keep bq k2;have q2 : W4.cell? ⟨w.heap.size + 1 + 1, 0, none⟩ = some (.bool false) := by rw [cell_of_row W4 _ 0 _ _ (0, 0) j2]; rfl
   have q3 : W4.frozen? ⟨w.heap.size + 1 + 1, 0, none⟩ = false := frozen_of_row W4 _ 0 _ _ j2;have BB := below_step B bq;gi_wp2
   have g9 := heap_setCell_same W4 (w.heap.size + 1 + 1) 0 _ _ (.bool false) j2;have hc5 := cell_of_row _ _ 0 _ _ (0, 0) g9;refine ⟨.bool false, ?_, ret_bool (by unfold cacheIn; simp [HH]), BB.setCell (p := ⟨w.heap.size + 1 + 1, 0, none⟩) (by simp; omega) _⟩;simp at hc5
   simp [results, Tryz.results174, go_sem, hc5]
 ·have z1 : ((x.1.length : Int) != s) = true := by simp [hs]
  refine wpIn_wide.2 ?_;go_quiet (fail)
  have HH := hs;clear hs;have bq : Below W3.heap.size W3 (W3.drewN nq) := be_drewN (Below.refl _ _) nq;generalize W3.drewN nq = W4 at bq ⊢;have j2 := row_keep bq k2;have q2 : W4.cell? ⟨w.heap.size + 1 + 1, 0, none⟩ = some (.bool false) := by rw [cell_of_row W4 _ 0 _ _ (0, 0) j2]; rfl
  have q3 : W4.frozen? ⟨w.heap.size + 1 + 1, 0, none⟩ = false := frozen_of_row W4 _ 0 _ _ j2;have BB := below_step B bq;gi_wp2
  have g9 := heap_setCell_same W4 (w.heap.size + 1 + 1) 0 _ _ (.bool false) j2;have hc5 := cell_of_row _ _ 0 _ _ (0, 0) g9;refine ⟨.bool false, ?_, ret_bool (by unfold cacheIn; simp [HH]), BB.setCell (p := ⟨w.heap.size + 1 + 1, 0, none⟩) (by simp; omega) _⟩;simp at hc5
  simp [results, Tryz.results174, go_sem, hc5]
def badP {α : Type} (p : α → Bool) (xs : List α) : Int := match xs.findIdx? (fun u => !p u) with
 | some i => (i : Int)
 | none => -1
theorem badP_at {α : Type} {p : α → Bool} {xs : List α} {k : Nat} {u : α} (hu : xs[k]? = some u) (hp : p u = false) (hno : ∀ j v, j < k → xs[j]? = some v → p v = true) : badP p xs = (k : Int) := by
 have hk := (List.getElem?_eq_some_iff.1 hu).1;have : xs.findIdx? (fun u => !p u) = some k := by
  rw [List.findIdx?_eq_some_iff_getElem];refine ⟨hk, ?_, fun j hj => ?_⟩
  ·rw [List.getElem?_eq_getElem hk] at hu;cases hu;simp [hp]
  ·have := hno j _ hj (List.getElem?_eq_getElem (by omega));simp [this]
 unfold badP;rw [this]
theorem badP_no {α : Type} {p : α → Bool} {xs : List α} (hno : ∀ (j : Nat) (v : α), xs[j]? = some v → p v = true) : badP p xs = -1 := by
 have : xs.findIdx? (fun u => !p u) = none := by
  rw [List.findIdx?_eq_none_iff];intro u hu;obtain ⟨j, hj⟩ := List.getElem?_of_mem hu;simp [hno j u hj]
 unfold badP;rw [this]
theorem badP_all {α : Type} (p : α → Bool) (xs : List α) : xs.all p = decide (badP p xs < 0) := by
 cases h : xs.all p
 ·have h1 : ¬ ∀ x ∈ xs, p x = true := fun hh => by rw [List.all_eq_true.2 hh] at h; cases h
  cases hf : xs.findIdx? (fun u => !p u) with
  | none =>
   rw [List.findIdx?_eq_none_iff] at hf;exact (h1 fun x hx => by have := hf x hx; simpa using this).elim
  | some i => simp [badP, hf]
 ·rw [badP_no fun j v hv => List.all_eq_true.1 h v (List.mem_of_getElem? hv)];rfl
open Go.ChangeShapes Go.WideShapes Go.ChangeAt Go.RowKit
def opMostA (k : Int) : Int := if k = 1 then 0 else 9999
def opMostB (k : Int) : Int := if k = 5 then 9999 else 0
def opB (k a x y : Int) : Bool := betw k 1 5 && (betw a 0 31 && (betw x 0 (opMostA k) && betw y 0 (opMostB k)))
theorem setRow_last (w : World) (o : Obj) (c c' : Array Value) (t : TypeId) : ((w.alloc o).alloc (.cells c t)).setRow (w.heap.size + 1) c' = (w.alloc o).alloc (.cells c' t) := by
 have := World.setRow_alloc_new (w.alloc o) c c' t;rwa [show (w.alloc o).heap.size = w.heap.size + 1 by simp] at this
theorem heap_last (w : World) (o o2 : Obj) : ((w.alloc o).alloc o2).heap[w.heap.size + 1]? = some o2 := by
 have := heap_alloc_last (w.alloc o) o2;rwa [show (w.alloc o).heap.size = w.heap.size + 1 by simp] at this
theorem op_cls {W : World} {g : Nat} {v0 v1 v2 v3 : Value} {t : TypeId} (R : W.heap[g]? = some (.cells #[v0, v1, v2, v3] t (0, 0))) :
    (∀ n : Cls (fun wx => Below W.heap.size W wx), n.w.cell? ⟨g, 0, none⟩ = some v0) ∧ (∀ n : Cls (fun wx => Below W.heap.size W wx), n.w.cell? ⟨g, 1, none⟩ = some v1) ∧
     (∀ n : Cls (fun wx => Below W.heap.size W wx), n.w.cell? ⟨g, 2, none⟩ = some v2) ∧ (∀ n : Cls (fun wx => Below W.heap.size W wx), n.w.cell? ⟨g, 3, none⟩ = some v3) := by
 refine ⟨fun n => ?_, fun n => ?_, fun n => ?_, fun n => ?_⟩
 ·rw [cell_of_row n.w g 0 _ t (0, 0) (row_keep n.h R)]; rfl
 ·rw [cell_of_row n.w g 1 _ t (0, 0) (row_keep n.h R)]; rfl
 ·rw [cell_of_row n.w g 2 _ t (0, 0) (row_keep n.h R)]; rfl
 ·rw [cell_of_row n.w g 3 _ t (0, 0) (row_keep n.h R)]; rfl
theorem bl_drew {w w' : World} {n : Nat} (h : Below n w w') {k : Nat} : Below n w (w'.drewN k) := ⟨h.os, h.tape, h.output, h.size, h.block⟩
theorem opKind {k : Int} (h : betw k 1 5 = true) : k = 1 ∨ k = 2 ∨ k = 3 ∨ k = 4 ∨ k = 5 := by simp [betw] at h; omega
theorem deedOf1 (w : World) :
    Calls Tryz.prog 262 #[.int .i64 1] w fun e w' => e = .returned (.agg #[.int .i64 0, .int .i64 0, .func (.func 277) #[] #[], .func (.func 278) #[] #[]]) ∧ Below w.heap.size w w' := by
 go_enter Tryz.func262, Tryz.ntmps262;go_upto_region 1 with fail
 iterate 23 go_step
 refine wp_store_row 300 _ _ rfl (w.heap.size + 1) _ (by rfl) (by rfl) 300 _ (heap_last _ _ _) (by kernel_rfl) (by rfl) (by kernel_rfl) ?_;rw [setRow_last];go_wp2;refine bodyPost_ret (v := .agg #[.int .i64 0, .int .i64 0, .func (.func 277) #[] #[], .func (.func 278) #[] #[]]) (by simp [results, Tryz.results262, go_sem]) rfl ⟨rfl, ?_⟩;repeat first
  | exact Below.refl _ _
  | refine Below.setCell ?_ (by simp <;> omega) _
  | refine Below.alloc ?_ (by simp <;> omega) _
  | refine Below.drew ?_
theorem deedOf2 (w : World) :
    Calls Tryz.prog 262 #[.int .i64 2] w fun e w' => e = .returned (.agg #[.int .i64 9999, .int .i64 0, .func (.func 279) #[] #[], .func (.func 280) #[] #[]]) ∧ Below w.heap.size w w' := by
 go_enter Tryz.func262, Tryz.ntmps262;go_upto_region 1 with fail
 iterate 23 go_step
 refine wp_store_row 300 _ _ rfl (w.heap.size + 1) _ (by rfl) (by rfl) 300 _ (heap_last _ _ _) (by kernel_rfl) (by rfl) (by kernel_rfl) ?_;rw [setRow_last];go_wp2;refine bodyPost_ret (v := .agg #[.int .i64 9999, .int .i64 0, .func (.func 279) #[] #[], .func (.func 280) #[] #[]]) (by simp [results, Tryz.results262, go_sem]) rfl ⟨rfl, ?_⟩;repeat first
  | exact Below.refl _ _
  | refine Below.setCell ?_ (by simp <;> omega) _
  | refine Below.alloc ?_ (by simp <;> omega) _
  | refine Below.drew ?_
theorem deedOf3 (w : World) :
    Calls Tryz.prog 262 #[.int .i64 3] w fun e w' => e = .returned (.agg #[.int .i64 9999, .int .i64 0, .func (.func 281) #[] #[], .func (.func 278) #[] #[]]) ∧ Below w.heap.size w w' := by
 go_enter Tryz.func262, Tryz.ntmps262;go_upto_region 1 with fail
 iterate 23 go_step
 refine wp_store_row 300 _ _ rfl (w.heap.size + 1) _ (by rfl) (by rfl) 300 _ (heap_last _ _ _) (by kernel_rfl) (by rfl) (by kernel_rfl) ?_;rw [setRow_last];go_wp2;refine bodyPost_ret (v := .agg #[.int .i64 9999, .int .i64 0, .func (.func 281) #[] #[], .func (.func 278) #[] #[]]) (by simp [results, Tryz.results262, go_sem]) rfl ⟨rfl, ?_⟩;repeat first
  | exact Below.refl _ _
  | refine Below.setCell ?_ (by simp <;> omega) _
  | refine Below.alloc ?_ (by simp <;> omega) _
  | refine Below.drew ?_
theorem deedOf4 (w : World) :
    Calls Tryz.prog 262 #[.int .i64 4] w fun e w' => e = .returned (.agg #[.int .i64 9999, .int .i64 0, .func (.func 279) #[] #[], .func (.func 278) #[] #[]]) ∧ Below w.heap.size w w' := by
 go_enter Tryz.func262, Tryz.ntmps262;go_upto_region 1 with fail
 iterate 23 go_step
 refine wp_store_row 300 _ _ rfl (w.heap.size + 1) _ (by rfl) (by rfl) 300 _ (heap_last _ _ _) (by kernel_rfl) (by rfl) (by kernel_rfl) ?_;rw [setRow_last];go_wp2;refine bodyPost_ret (v := .agg #[.int .i64 9999, .int .i64 0, .func (.func 279) #[] #[], .func (.func 278) #[] #[]]) (by simp [results, Tryz.results262, go_sem]) rfl ⟨rfl, ?_⟩;repeat first
  | exact Below.refl _ _
  | refine Below.setCell ?_ (by simp <;> omega) _
  | refine Below.alloc ?_ (by simp <;> omega) _
  | refine Below.drew ?_
theorem deedOf5 (w : World) :
    Calls Tryz.prog 262 #[.int .i64 5] w fun e w' => e = .returned (.agg #[.int .i64 9999, .int .i64 9999, .func (.func 282) #[] #[], .func (.func 278) #[] #[]]) ∧ Below w.heap.size w w' := by
 go_enter Tryz.func262, Tryz.ntmps262;go_upto_region 1 with fail
 iterate 23 go_step
 refine wp_store_row 300 _ _ rfl (w.heap.size + 1) _ (by rfl) (by rfl) 300 _ (heap_last _ _ _) (by kernel_rfl) (by rfl) (by kernel_rfl) ?_;rw [setRow_last];go_wp2;refine bodyPost_ret (v := .agg #[.int .i64 9999, .int .i64 9999, .func (.func 282) #[] #[], .func (.func 278) #[] #[]]) (by simp [results, Tryz.results262, go_sem]) rfl ⟨rfl, ?_⟩;repeat first
  | exact Below.refl _ _
  | refine Below.setCell ?_ (by simp <;> omega) _
  | refine Below.alloc ?_ (by simp <;> omega) _
  | refine Below.drew ?_
theorem fits_any (p q : Int) (f g : Value) (k a x y : Int) (w : World) :
    Calls Tryz.prog 263 #[.agg #[.int .i64 p, .int .i64 q, f, g], .agg #[.int .i64 k, .int .i64 a, .int .i64 x, .int .i64 y]] w fun e w' => e = .returned (.bool (betw x 0 p && betw y 0 q)) ∧ Below w.heap.size w w' := by
 cases h : betw x 0 p
 all_goals
  go_enter Tryz.func263, Tryz.ntmps263;go_wp2_with (go_at_call 76; refine (between_any _ _ _ _).mono ?_; rintro e w' ⟨rfl, rfl⟩)
  go_ret
  refine ⟨rfl, ?_⟩;exact (Below.alloc (Below.alloc (Below.refl _ _) (Nat.le_refl _) _) (by simp) _)
theorem implOpOk_any (k a x y : Int) (w : World) :
    Calls Tryz.prog 232 #[.agg #[.int .i64 k, .int .i64 a, .int .i64 x, .int .i64 y]] w fun e w' => e = .returned (.bool (opB k a x y)) ∧ Below w.heap.size w w' := by
 have B := (Below.refl w.heap.size w).alloc (Nat.le_refl _);cases h1 : betw k 1 5
 ·have H : Hid (opB k a x y = false) := by unfold Hid opB; simp [h1]
  go_enter Tryz.func232, Tryz.ntmps232;go_wp2;go_quiet (first | (go_at_call 76; exact Calls.quiet_of_same (between_any _ _ _ _)))
  go_wp2;go_ret
  exact ⟨ret_bool H.out.symm, bl_drew (B _)⟩
 ·cases h2 : betw a 0 31
  ·have H : Hid (opB k a x y = false) := by unfold Hid opB; simp [h2]
   go_enter Tryz.func232, Tryz.ntmps232;go_wp2;go_quiet (first | (go_at_call 76; exact Calls.quiet_of_same (between_any _ _ _ _)))
   go_wp2;go_ret
   exact ⟨ret_bool H.out.symm, bl_drew (B _)⟩
  ·rcases opKind h1 with rfl | rfl | rfl | rfl | rfl
   ·have H : Hid (opB 1 a x y = (betw x 0 0 && betw y 0 0)) := by unfold Hid opB; rw [h1, h2]; rfl
    have R := heap_alloc_new w (.cells #[.int .i64 1, .int .i64 a, .int .i64 x, .int .i64 y] 121);replace B := B (.cells #[.int .i64 1, .int .i64 a, .int .i64 x, .int .i64 y] 121);go_enter Tryz.func232, Tryz.ntmps232;go_wp2;generalize w.alloc (.cells #[.int .i64 1, .int .i64 a, .int .i64 x, .int .i64 y] 121) = W at R B ⊢;obtain ⟨n0, n1, n2, n3⟩ := op_cls R;clear R;refine region_class (fun wx => Below W.heap.size W wx) (by kernel_rfl) (by kernel_rfl) ((Below.refl _ W).drew) ?_;intro hne
    repeat (quiet_step (first
     | (go_at_call 76; exact calls_class_same (between_any _ _ _ _))
     | (go_at_call 262; exact calls_class (deedOf1 _) (fun w' hc bb => below_step hc bb))
     | (go_at_call 263; exact calls_class (fits_any _ _ _ _ _ _ _ _ _) (fun w' hc bb => below_step hc bb))))
    refine wpQuiet_nil ?_;intro wx b2;clear n0 n1 n2 n3 hne;go_wp2;go_ret
    exact ⟨ret_bool H.out.symm, below_step B b2⟩
   ·have H : Hid (opB 2 a x y = (betw x 0 9999 && betw y 0 0)) := by unfold Hid opB; rw [h1, h2]; rfl
    have R := heap_alloc_new w (.cells #[.int .i64 2, .int .i64 a, .int .i64 x, .int .i64 y] 121);replace B := B (.cells #[.int .i64 2, .int .i64 a, .int .i64 x, .int .i64 y] 121);go_enter Tryz.func232, Tryz.ntmps232;go_wp2;generalize w.alloc (.cells #[.int .i64 2, .int .i64 a, .int .i64 x, .int .i64 y] 121) = W at R B ⊢;obtain ⟨n0, n1, n2, n3⟩ := op_cls R;clear R;refine region_class (fun wx => Below W.heap.size W wx) (by kernel_rfl) (by kernel_rfl) ((Below.refl _ W).drew) ?_;intro hne
    repeat (quiet_step (first
     | (go_at_call 76; exact calls_class_same (between_any _ _ _ _))
     | (go_at_call 262; exact calls_class (deedOf2 _) (fun w' hc bb => below_step hc bb))
     | (go_at_call 263; exact calls_class (fits_any _ _ _ _ _ _ _ _ _) (fun w' hc bb => below_step hc bb))))
    refine wpQuiet_nil ?_;intro wx b2;clear n0 n1 n2 n3 hne;go_wp2;go_ret
    exact ⟨ret_bool H.out.symm, below_step B b2⟩
   ·have H : Hid (opB 3 a x y = (betw x 0 9999 && betw y 0 0)) := by unfold Hid opB; rw [h1, h2]; rfl
    have R := heap_alloc_new w (.cells #[.int .i64 3, .int .i64 a, .int .i64 x, .int .i64 y] 121);replace B := B (.cells #[.int .i64 3, .int .i64 a, .int .i64 x, .int .i64 y] 121);go_enter Tryz.func232, Tryz.ntmps232;go_wp2;generalize w.alloc (.cells #[.int .i64 3, .int .i64 a, .int .i64 x, .int .i64 y] 121) = W at R B ⊢;obtain ⟨n0, n1, n2, n3⟩ := op_cls R;clear R;refine region_class (fun wx => Below W.heap.size W wx) (by kernel_rfl) (by kernel_rfl) ((Below.refl _ W).drew) ?_;intro hne
    repeat (quiet_step (first
     | (go_at_call 76; exact calls_class_same (between_any _ _ _ _))
     | (go_at_call 262; exact calls_class (deedOf3 _) (fun w' hc bb => below_step hc bb))
     | (go_at_call 263; exact calls_class (fits_any _ _ _ _ _ _ _ _ _) (fun w' hc bb => below_step hc bb))))
    refine wpQuiet_nil ?_;intro wx b2;clear n0 n1 n2 n3 hne;go_wp2;go_ret
    exact ⟨ret_bool H.out.symm, below_step B b2⟩
   ·have H : Hid (opB 4 a x y = (betw x 0 9999 && betw y 0 0)) := by unfold Hid opB; rw [h1, h2]; rfl
    have R := heap_alloc_new w (.cells #[.int .i64 4, .int .i64 a, .int .i64 x, .int .i64 y] 121);replace B := B (.cells #[.int .i64 4, .int .i64 a, .int .i64 x, .int .i64 y] 121);go_enter Tryz.func232, Tryz.ntmps232;go_wp2;generalize w.alloc (.cells #[.int .i64 4, .int .i64 a, .int .i64 x, .int .i64 y] 121) = W at R B ⊢;obtain ⟨n0, n1, n2, n3⟩ := op_cls R;clear R;refine region_class (fun wx => Below W.heap.size W wx) (by kernel_rfl) (by kernel_rfl) ((Below.refl _ W).drew) ?_;intro hne
    repeat (quiet_step (first
     | (go_at_call 76; exact calls_class_same (between_any _ _ _ _))
     | (go_at_call 262; exact calls_class (deedOf4 _) (fun w' hc bb => below_step hc bb))
     | (go_at_call 263; exact calls_class (fits_any _ _ _ _ _ _ _ _ _) (fun w' hc bb => below_step hc bb))))
    refine wpQuiet_nil ?_;intro wx b2;clear n0 n1 n2 n3 hne;go_wp2;go_ret
    exact ⟨ret_bool H.out.symm, below_step B b2⟩
   ·have H : Hid (opB 5 a x y = (betw x 0 9999 && betw y 0 9999)) := by unfold Hid opB; rw [h1, h2]; rfl
    have R := heap_alloc_new w (.cells #[.int .i64 5, .int .i64 a, .int .i64 x, .int .i64 y] 121);replace B := B (.cells #[.int .i64 5, .int .i64 a, .int .i64 x, .int .i64 y] 121);go_enter Tryz.func232, Tryz.ntmps232;go_wp2;generalize w.alloc (.cells #[.int .i64 5, .int .i64 a, .int .i64 x, .int .i64 y] 121) = W at R B ⊢;obtain ⟨n0, n1, n2, n3⟩ := op_cls R;clear R;refine region_class (fun wx => Below W.heap.size W wx) (by kernel_rfl) (by kernel_rfl) ((Below.refl _ W).drew) ?_;intro hne
    repeat (quiet_step (first
     | (go_at_call 76; exact calls_class_same (between_any _ _ _ _))
     | (go_at_call 262; exact calls_class (deedOf5 _) (fun w' hc bb => below_step hc bb))
     | (go_at_call 263; exact calls_class (fits_any _ _ _ _ _ _ _ _ _) (fun w' hc bb => below_step hc bb))))
    refine wpQuiet_nil ?_;intro wx b2;clear n0 n1 n2 n3 hne;go_wp2;go_ret
    exact ⟨ret_bool H.out.symm, below_step B b2⟩
theorem specOpOk_any (k a x y : Int) (w : World) :
    Calls Tryz.prog 147 #[.agg #[.int .i64 k, .int .i64 a, .int .i64 x, .int .i64 y]] w fun e w' => e = .returned (.bool (opB k a x y)) ∧ Below w.heap.size w w' := by
 have B := (Below.refl w.heap.size w).alloc (Nat.le_refl _);cases h1 : betw k 1 5 <;> cases h2 : betw a 0 31 <;> cases h3 : okW x <;> cases h4 : okW y
 case true.true.true.true =>
  rcases opKind h1 with rfl | rfl | rfl | rfl | rfl
  ·have H : Hid (opB 1 a x y = (x == 0 && y == 0)) := by
     unfold Hid opB opMostA opMostB;unfold okW betw at h3 h4;rw [h1, h2];unfold betw;rw [Bool.eq_iff_iff];simp at h3 h4 ⊢
     omega
   by_cases hx : x = 0 <;> by_cases hy : y = 0
   all_goals
    go_enter Tryz.func147, Tryz.ntmps147
    go_wp2_with (first
     | (go_at_call 98; refine (l1In_any _ _ _ _).mono ?_; rintro e w' ⟨rfl, rfl⟩)
     | (go_at_call 199; refine (l3Word_any _ _).mono ?_; rintro e w' ⟨rfl, rfl⟩))
    go_ret
    exact ⟨ret_bool (H.out.trans (by simp [hx, hy])).symm, B _⟩
  ·have H : Hid (opB 2 a x y = (y == 0)) := by
     unfold Hid opB opMostA opMostB;unfold okW betw at h3 h4;rw [h1, h2];unfold betw;rw [Bool.eq_iff_iff];simp at h3 h4 ⊢
     omega
   by_cases hy : y = 0
   all_goals
    go_enter Tryz.func147, Tryz.ntmps147
    go_wp2_with (first
     | (go_at_call 98; refine (l1In_any _ _ _ _).mono ?_; rintro e w' ⟨rfl, rfl⟩)
     | (go_at_call 199; refine (l3Word_any _ _).mono ?_; rintro e w' ⟨rfl, rfl⟩))
    go_ret
    exact ⟨ret_bool (H.out.trans (by simp [hy])).symm, B _⟩
  ·have H : Hid (opB 3 a x y = (y == 0)) := by
     unfold Hid opB opMostA opMostB;unfold okW betw at h3 h4;rw [h1, h2];unfold betw;rw [Bool.eq_iff_iff];simp at h3 h4 ⊢
     omega
   by_cases hy : y = 0
   all_goals
    go_enter Tryz.func147, Tryz.ntmps147
    go_wp2_with (first
     | (go_at_call 98; refine (l1In_any _ _ _ _).mono ?_; rintro e w' ⟨rfl, rfl⟩)
     | (go_at_call 199; refine (l3Word_any _ _).mono ?_; rintro e w' ⟨rfl, rfl⟩))
    go_ret
    exact ⟨ret_bool (H.out.trans (by simp [hy])).symm, B _⟩
  ·have H : Hid (opB 4 a x y = (y == 0)) := by
     unfold Hid opB opMostA opMostB;unfold okW betw at h3 h4;rw [h1, h2];unfold betw;rw [Bool.eq_iff_iff];simp at h3 h4 ⊢
     omega
   by_cases hy : y = 0
   all_goals
    go_enter Tryz.func147, Tryz.ntmps147
    go_wp2_with (first
     | (go_at_call 98; refine (l1In_any _ _ _ _).mono ?_; rintro e w' ⟨rfl, rfl⟩)
     | (go_at_call 199; refine (l3Word_any _ _).mono ?_; rintro e w' ⟨rfl, rfl⟩))
    go_ret
    exact ⟨ret_bool (H.out.trans (by simp [hy])).symm, B _⟩
  ·have H : Hid (opB 5 a x y = true) := by
     unfold Hid opB opMostA opMostB;unfold okW betw at h3 h4;rw [h1, h2];unfold betw;rw [Bool.eq_iff_iff];simp at h3 h4 ⊢
     omega
   skip
   all_goals
    go_enter Tryz.func147, Tryz.ntmps147
    go_wp2_with (first
     | (go_at_call 98; refine (l1In_any _ _ _ _).mono ?_; rintro e w' ⟨rfl, rfl⟩)
     | (go_at_call 199; refine (l3Word_any _ _).mono ?_; rintro e w' ⟨rfl, rfl⟩))
    go_ret
    exact ⟨ret_bool (H.out.trans (by simp [])).symm, B _⟩
 all_goals
  have H : Hid (opB k a x y = false) := by
   unfold Hid opB opMostA opMostB;unfold okW betw at h3 h4;unfold betw at h1 h2 ⊢;rw [Bool.eq_iff_iff];simp at h1 h2 h3 h4 ⊢
   intros
   try split
   all_goals omega
  go_enter Tryz.func147, Tryz.ntmps147
  go_wp2_with (first
        | (go_at_call 98; refine (l1In_any _ _ _ _).mono ?_; rintro e w' ⟨rfl, rfl⟩)
        | (go_at_call 199; refine (l3Word_any _ _).mono ?_; rintro e w' ⟨rfl, rfl⟩))
  go_ret
  exact ⟨ret_bool H.out.symm, B _⟩
end Go.Proofs.YtcocbafhcpdheaaGreatDoor
