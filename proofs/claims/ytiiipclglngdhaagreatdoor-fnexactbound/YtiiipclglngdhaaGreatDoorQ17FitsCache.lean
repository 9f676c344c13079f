import Derived.Test.YtiiipclglngdhaaGreatDoorQ00Box
import Derived.Test.YtiiipclglngdhaaGreatDoorQ13StoreC
import Derived.Test.YtiiipclglngdhaaGreatDoorQ15WaysOk
import Derived.Test.YtiiipclglngdhaaGreatDoorQ16OkLink
import Derived.BigQuiet
namespace Go.Proofs.YtiiipclglngdhaaGreatDoor
open Go.ChangeShapes Go.WideShapes Go.ChangeAt Go.RowKit Go.Shelf
set_option linter.unusedVariables false
attribute [local go_sem] Oper.semAt_some
def waysIn (l : Int) (x : CacheD) : Bool := x.1.all fun row => row.all (wayIn l)
def cacheIn (s y l : Int) (x : CacheD) (m : Nat) : Bool := decide ((x.1.length : Int) = s) && (decide ((m : Int) = y) && waysIn l x)
theorem waysIn_yes {l : Int} {x : CacheD} {m : Nat} (hm : 0 < m) (hrow : ∀ row ∈ x.1, row.length = m) (h : ∀ j, j < x.1.length * m → wayIn l (wayK x m j) = true) : waysIn l x = true := by
 refine List.all_eq_true.2 fun row hr => List.all_eq_true.2 fun u hu => ?_
 obtain ⟨i, hi⟩ := List.getElem?_of_mem hr
 obtain ⟨j, hj⟩ := List.getElem?_of_mem hu
 have hl := hrow row hr
 have hi' := (List.getElem?_eq_some_iff.1 hi).1
 have hj' := (List.getElem?_eq_some_iff.1 hj).1
 have hjm : j < m := by omega
 have e1 : (m * i + j) / m = i := by rw [Nat.mul_add_div hm, Nat.div_eq_of_lt hjm, Nat.add_zero]
 have e2 : (m * i + j) % m = j := by rw [Nat.mul_add_mod, Nat.mod_eq_of_lt hjm]
 have hlt : m * i + j < x.1.length * m := by
  have : m * (i + 1) ≤ m * x.1.length := Nat.mul_le_mul_left m hi'
  rw [Nat.mul_add, Nat.mul_one] at this
  rw [Nat.mul_comm x.1.length m]
  omega
 have q := h _ hlt
 unfold wayK at q
 have e3 : x.1.getD i [] = row := by rw [List.getD_eq_getElem?_getD, hi]; rfl
 have e4 : row.getD j emptyW = u := by rw [List.getD_eq_getElem?_getD, hj]; rfl
 rw [e1, e2, e3, e4] at q
 exact q
theorem waysIn_no {l : Int} {x : CacheD} {m k : Nat} (hm : 0 < m) (hrow : ∀ row ∈ x.1, row.length = m) (hk : k < x.1.length * m) (h : wayIn l (wayK x m k) = false) : waysIn l x = false := by
 obtain ⟨row, e1, e2⟩ := wayK_get hm hrow hk
 cases q : waysIn l x
 ·rfl
 ·have q1 := List.all_eq_true.1 (List.all_eq_true.1 q row (List.mem_of_getElem? e1)) _ (List.mem_of_getElem? e2)
  rw [h] at q1
  cases q1
def FOk (w : World) (Bc : Nat) (cf : Array Value) (v u : Value) (x : CacheD) (m : Nat) (l : Int) (k : Nat) (W : World) : Prop :=
 (∀ j, j < k → wayIn l (wayK x m j) = true) ∧ W.heap[w.heap.size]? = some (.cells cf 38 (0, 0)) ∧ W.heap[w.heap.size + 1 + 1]? = some (.cells #[.bool false] 4 (0, 0)) ∧ W.heap[Bc]? = some (.cells #[v, u] 75 (0, 0)) ∧ Below w.heap.size w W
theorem fok_own {w : World} {Bc : Nat} {cf : Array Value} {v u : Value} {x : CacheD} {m B : Nat} {l : Int} (hB : w.heap.size ≤ B) : OwnFrom B (fun k W => FOk w Bc cf v u x m l k W) := by
 rintro k X Y row ⟨g0, g1, g2, g3, g4⟩ hg hr
 exact ⟨g0, own_heap (β := Unit) _ _ _ _ () X Y row g1 hg hr, own_heap (β := Unit) _ _ _ _ () X Y row g2 hg hr, own_heap (β := Unit) _ _ _ _ () X Y row g3 hg hr, ownFrom_below (β := Unit) (Nat.le_refl _) hB () X Y row g4 hg hr⟩
theorem fok_below {w : World} {Bc : Nat} {cf : Array Value} {v u : Value} {x : CacheD} {m k : Nat} {l : Int} {W W' : World} (h : FOk w Bc cf v u x m l k W) (hb : Below W.heap.size W W') : FOk w Bc cf v u x m l k W' := by
 obtain ⟨g0, g1, g2, g3, g4⟩ := h
 exact ⟨g0, row_keep hb g1, row_keep hb g2, row_keep hb g3, below_step g4 hb⟩
set_option maxHeartbeats 4000000 in
set_option maxRecDepth 20000 in
theorem fitsCache_any (c s y l : Int) (a b : Option Addr) (x : CacheD) (cap cp m : Nat) (w : World) (hc : codeI c s y l = 0) (h1 : SlRd waysR w a x.1) (hp : x.1.length = 1 ∨ x.1.length = 2 ∨ x.1.length = 4) (hm : m = 1 ∨ m = 2 ∨ m = 4) (hrow : ∀ row ∈ x.1, row.length = m) :
    Calls Tryz.prog 138 #[.agg #[.int .i64 c, .int .i64 s, .int .i64 y, .int .i64 l], .agg #[.slice a x.1.length cap, .slice b x.2.length cp]] w fun e w' => e = .returned (.bool (cacheIn s y l x m)) ∧ Below w.heap.size w w' := by
 have hm0 : 0 < m := by omega
 have hmt : x.1.length = 1 ∨ x.1.length = 2 ∨ x.1.length = 4 := hp
 obtain ⟨b0, off0, cc, rfl, hat, hcc⟩ := setsAt_of h1 (fun e => by rw [e] at hp; simp at hp) hm0 hrow
 have HG : Hid (∀ k, k < x.1.length * m → ((cc (k / m)).way (k % m)).line = (wayK x m k).1 ∧ ((cc (k / m)).way (k % m)).state = (wayK x m k).2.1 ∧ ((cc (k / m)).way (k % m)).len = (wayK x m k).2.2.length) := fun k hk => by
  obtain ⟨row, e1, e2⟩ := wayK_get hm0 hrow hk
  obtain ⟨q1, q2, q3, q4, q5, q6⟩ := hcc _ _ row _ e1 e2
  exact ⟨q1, q2, q3⟩
 have HP : Hid (x.1.length = 1 ∨ x.1.length = 2 ∨ x.1.length = 4) := hp
 have HM : Hid (m = 1 ∨ m = 2 ∨ m = 4) := hm
 have HA : Hid _ := hat
 have HY : Hid ((∀ j, j < x.1.length * m → wayIn l (wayK x m j) = true) → waysIn l x = true) := fun h => waysIn_yes hm0 hrow h
 have HN : Hid (∀ k, k < x.1.length * m → wayIn l (wayK x m k) = false → waysIn l x = false) := fun k hk h => waysIn_no hm0 hrow hk h
 have HF : Hid (∀ (u : WayD) (ua : Option Addr) (uc : Nat) (W : World), Calls Tryz.prog 139 #[.agg #[.int .i64 c, .int .i64 s, .int .i64 y, .int .i64 l], .agg #[.int .i64 u.1, .int .i64 u.2.1, .slice ua u.2.2.length uc]] W fun e w' => e = .returned (.bool (wayIn l u)) ∧ Below W.heap.size W w') := fun u ua uc W => fitsWay_any c s y l u ua uc W hc
 have h00 := (hat 0 (by omega)).1
 have HWY : Hid (∀ W, Below w.heap.size w W → Calls Tryz.prog 175 #[.agg #[.slice (some ⟨b0, off0, none⟩) x.1.length cap, .slice b x.2.length cp]] W fun e w' => e = .returned (.int .i64 (m : Int)) ∧ Below W.heap.size W w') := fun W hb => ways_any b0 off0 x.1.length cap _ _ _ _ rfl _ m _ W (by omega) (cell_keep hb h00 (cell_lt h00))
 clear h1 hcc hrow hp hm hat h00
 have B := below_step (below_step (box_below w (.cells #[.int .i64 c, .int .i64 s, .int .i64 y, .int .i64 l] 38)) (box_below _ (.cells #[.slice (some ⟨b0, off0, none⟩) x.1.length cap, .slice b x.2.length cp] 75))) (box_below _ (.cells #[.bool false] 4))
 have k0 := heap_on (.cells #[.bool false] 4) (heap_on (.cells #[.slice (some ⟨b0, off0, none⟩) x.1.length cap, .slice b x.2.length cp] 75) (heap_at w (.cells #[.int .i64 c, .int .i64 s, .int .i64 y, .int .i64 l] 38)))
 have k1 := heap_on (.cells #[.bool false] 4) (heap_at (w.alloc (.cells #[.int .i64 c, .int .i64 s, .int .i64 y, .int .i64 l] 38)) (.cells #[.slice (some ⟨b0, off0, none⟩) x.1.length cap, .slice b x.2.length cp] 75))
 have k2 := heap_at ((w.alloc (.cells #[.int .i64 c, .int .i64 s, .int .i64 y, .int .i64 l] 38)).alloc (.cells #[.slice (some ⟨b0, off0, none⟩) x.1.length cap, .slice b x.2.length cp] 75)) (.cells #[.bool false] 4)
 rw [alloc_len] at k1
 rw [alloc_len, alloc_len] at k2
 have e3 : w.heap.size + 1 + 1 + 1 ≤ (((w.alloc (.cells #[.int .i64 c, .int .i64 s, .int .i64 y, .int .i64 l] 38)).alloc (.cells #[.slice (some ⟨b0, off0, none⟩) x.1.length cap, .slice b x.2.length cp] 75)).alloc (.cells #[.bool false] 4)).heap.size := by simp
 refine (callsIn_wide (n := 0)).1 ?_
 refine callsIn_of_wp_marks Tryz.func138 rfl trivial ?_ rfl
 simp only [Tryz.ntmps138, List.size_toArray, List.length_cons, List.length_nil, Nat.reduceAdd, Nat.reduceSub, Array.replicate_succ, Array.replicate_zero, List.push_toArray, List.append_toArray, List.nil_append, List.cons_append]
 gi_wp2
 generalize (((w.alloc (.cells #[.int .i64 c, .int .i64 s, .int .i64 y, .int .i64 l] 38)).alloc (.cells #[.slice (some ⟨b0, off0, none⟩) x.1.length cap, .slice b x.2.length cp] 75)).alloc (.cells #[.bool false] 4)) = W3 at B k0 k1 k2 e3 ⊢
 obtain ⟨c0, c1, c2, c3⟩ := cells_4 k0
 obtain ⟨d0, d1⟩ := cells_two k1
 by_cases hs : (x.1.length : Int) = s
 ·subst hs
  have z1 : ((x.1.length : Int) != (x.1.length : Int)) = false := by simp
  by_cases hy : (m : Int) = y
  ·subst hy
   have z2 : ((m : Int) != (m : Int)) = false := by simp
   have c0k : ∀ n' : Cls (fun wx => Below W3.heap.size W3 wx), n'.w.cell? ⟨w.heap.size, 0, none⟩ = some (.int .i64 c) := fun n' => cell_keep n'.h c0 (cell_lt c0)
   have c1k : ∀ n' : Cls (fun wx => Below W3.heap.size W3 wx), n'.w.cell? ⟨w.heap.size, 1, none⟩ = some (.int .i64 (x.1.length : Int)) := fun n' => cell_keep n'.h c1 (cell_lt c1)
   have c2k : ∀ n' : Cls (fun wx => Below W3.heap.size W3 wx), n'.w.cell? ⟨w.heap.size, 2, none⟩ = some (.int .i64 (m : Int)) := fun n' => cell_keep n'.h c2 (cell_lt c2)
   have c3k : ∀ n' : Cls (fun wx => Below W3.heap.size W3 wx), n'.w.cell? ⟨w.heap.size, 3, none⟩ = some (.int .i64 l) := fun n' => cell_keep n'.h c3 (cell_lt c3)
   have d0k : ∀ n' : Cls (fun wx => Below W3.heap.size W3 wx), n'.w.cell? ⟨w.heap.size + 1, 0, none⟩ = some (.slice (some ⟨b0, off0, none⟩) x.1.length cap) := fun n' => cell_keep n'.h d0 (cell_lt d0)
   have d1k : ∀ n' : Cls (fun wx => Below W3.heap.size W3 wx), n'.w.cell? ⟨w.heap.size + 1, 1, none⟩ = some (.slice b x.2.length cp) := fun n' => cell_keep n'.h d1 (cell_lt d1)
   have HWc : Hid (∀ n' : Cls (fun wx => Below W3.heap.size W3 wx), _) := fun n' => HWY.out n'.w (below_step B n'.h)
   refine wpIn_wide.2 ?_
   refine region_class (fun wx => Below W3.heap.size W3 wx) (by kernel_rfl) (by kernel_rfl) ((Below.refl _ W3).drew) ?_
   intro hne
   repeat (quiet_step (first | (go_at_call 175; exact calls_class (HWc.out _) (fun w' hc bb => below_step hc bb))))
   refine wpQuiet_nil ?_
   intro W4 bq
   clear hne HWc c0k c1k c2k c3k d0k d1k c0 c1 c2 c3 d0 d1
   replace k0 := row_keep bq k0
   replace k1 := row_keep bq k1
   replace k2 := row_keep bq k2
   replace B := below_step B bq
   replace e3 := Nat.le_trans e3 bq.size
   clear bq
   obtain ⟨d0, d1⟩ := cells_two k1
   gi_wp2
   refine ⟨trivial, rfl, (callsIn_wide.2 (everyWay_any _ _ _ _ _ _ _ _ rfl rfl _)).mono ?_⟩
   rintro e w' ⟨rfl, rfl⟩
   gi_wp2
   have bz := box_below W4 (.cells #[.slice (some ⟨b0, off0, none⟩) x.1.length cap, .slice b x.2.length cp] 75)
   have kc := heap_at W4 (.cells #[.slice (some ⟨b0, off0, none⟩) x.1.length cap, .slice b x.2.length cp] 75)
   have e4 : (W4.alloc (.cells #[.slice (some ⟨b0, off0, none⟩) x.1.length cap, .slice b x.2.length cp] 75)).heap.size = W4.heap.size + 1 := by simp
   have hI0 : FOk w W4.heap.size #[.int .i64 c, .int .i64 (x.1.length : Int), .int .i64 (m : Int), .int .i64 l] (.slice (some ⟨b0, off0, none⟩) x.1.length cap) (.slice b x.2.length cp) x m l 0 (W4.alloc (.cells #[.slice (some ⟨b0, off0, none⟩) x.1.length cap, .slice b x.2.length cp] 75)) := ⟨fun j hj => by omega, row_keep bz k0, row_keep bz k2, kc, below_step B bz⟩
   clear k0 k1 k2 kc bz B d0 d1
   generalize W4.alloc (.cells #[.slice (some ⟨b0, off0, none⟩) x.1.length cap, .slice b x.2.length cp] 75) = W0 at e4 hI0 ⊢
   generalize W4.heap.size = Bc at e3 e4 hI0 ⊢
   refine range_iter (N := x.1.length * m) (lb := #[.pointer (some ⟨Bc, 0, none⟩)]) (gf := 208) rfl (enters_of Tryz.func208 (by kernel_rfl) rfl)
    (everyWay1_iter Bc b0 off0 x.1.length m cap cc (by have := HP.out; omega) (by have := HM.out; omega) (by have := HP.out; omega) hm0) (fun _ => rfl)
    (fun k W => FOk w Bc #[.int .i64 c, .int .i64 (x.1.length : Int), .int .i64 (m : Int), .int .i64 l] (.slice (some ⟨b0, off0, none⟩) x.1.length cap) (.slice b x.2.length cp) x m l k W)
    (fun z k W => z = .ret ∧ waysIn l x = false ∧ W.heap[w.heap.size + 1 + 1]? = some (.cells #[.bool false] 4 (0, 0)) ∧ Below w.heap.size w W)
    (fok_own (by omega)) (fun z => OwnFrom.and (ownFrom_pure _ _) (OwnFrom.and (ownFrom_pure _ _) (OwnFrom.and (own_heap _ _ _ _) (ownFrom_below (Nat.le_refl _) (by omega))))) ?hR hI0
    (fun k a' W => ∃ B6, W0.heap.size < B6 ∧ W.heap[B6]? = some (.cells #[.int .i64 ((cc (k / m)).way (k % m)).line, .int .i64 ((cc (k / m)).way (k % m)).state, .slice ((cc (k / m)).way (k % m)).addr ((cc (k / m)).way (k % m)).len ((cc (k / m)).way (k % m)).cap] 78 (0, 0)) ∧ FOk w Bc #[.int .i64 c, .int .i64 (x.1.length : Int), .int .i64 (m : Int), .int .i64 l] (.slice (some ⟨b0, off0, none⟩) x.1.length cap) (.slice b x.2.length cp) x m l k W ∧
     a' = { tmps := #[.agg #[.int .i64 c, .int .i64 (x.1.length : Int), .int .i64 (m : Int), .int .i64 l], .agg #[.slice (some ⟨b0, off0, none⟩) x.1.length cap, .slice b x.2.length cp], .pointer (some ⟨w.heap.size, 0, none⟩), .pointer (some ⟨w.heap.size + 1, 0, none⟩), .pointer (some ⟨w.heap.size + 1 + 1, 0, none⟩), undef, .pointer (some ⟨B6, 0, none⟩), .pointer (some ⟨w.heap.size + 1, 0, none⟩), .slice (some ⟨b0, off0, none⟩) x.1.length cap, .int .i64 (x.1.length : Int), .pointer (some ⟨w.heap.size, 1, none⟩), .int .i64 (x.1.length : Int), .bool false, .bool false, .agg #[.slice (some ⟨b0, off0, none⟩) x.1.length cap, .slice b x.2.length cp], .int .i64 (m : Int), .pointer (some ⟨w.heap.size, 2, none⟩), .int .i64 (m : Int), .bool false, .bool false, .agg #[.slice (some ⟨b0, off0, none⟩) x.1.length cap, .slice b x.2.length cp], .func (.func 208) #[] #[.pointer (some ⟨Bc, 0, none⟩)], .agg #[.int .i64 (k / m : Nat), .int .i64 (k % m : Nat)], ((cc (k / m)).way (k % m)).agg, undef, undef, undef, undef], defers := [] })
    ?hA ?hassign ?hbody ?hdone ?hstop
   case hR =>
    rintro k W ⟨_, _, _, g3, g4⟩
    exact ⟨by rw [cell_of_row W _ 0 _ _ (0, 0) g3]; rfl, setsAt_below HA.out g4 hm0⟩
   case hA =>
    rintro k a' ⟨⟩ X Y row' ⟨B6, l6, g6, g0, rfl⟩ hg hr
    exact ⟨B6, l6, own_heap (β := Unit) _ _ _ _ () X Y row' g6 hg hr, fok_own (B := W0.heap.size) (by omega) k X Y row' g0 hg hr, rfl⟩
   case hassign =>
    rintro k W K hk g0 hlt hK
    gi_wp2
    have z1 := box_below W (.cells #[.int .i64 ((cc (k / m)).way (k % m)).line, .int .i64 ((cc (k / m)).way (k % m)).state, .slice ((cc (k / m)).way (k % m)).addr ((cc (k / m)).way (k % m)).len ((cc (k / m)).way (k % m)).cap] 78)
    exact hK _ _ (Kept.below z1) ⟨W.heap.size, by omega, heap_at _ _, fok_below g0 z1, rfl⟩
   case hbody =>
    rintro k a' V1 hk ⟨B6, l6, g6, g0, rfl⟩ hlt hD hL
    obtain ⟨q1, q2, q3⟩ := HG.out k hk
    rw [q1, q2, q3] at g6
    have hag : ((cc (k / m)).way (k % m)).agg = .agg #[.int .i64 (wayK x m k).1, .int .i64 (wayK x m k).2.1, .slice ((cc (k / m)).way (k % m)).addr (wayK x m k).2.2.length ((cc (k / m)).way (k % m)).cap] := by rw [WCells.agg, q1, q2, q3]
    rw [hag]
    clear hag q1 q2 q3
    generalize ((cc (k / m)).way (k % m)).addr = ad at g6 ⊢
    generalize ((cc (k / m)).way (k % m)).cap = cpw at g6 ⊢
    have HE : Hid (∀ W, Calls Tryz.prog 139 #[.agg #[.int .i64 c, .int .i64 (x.1.length : Int), .int .i64 (m : Int), .int .i64 l], .agg #[.int .i64 (wayK x m k).1, .int .i64 (wayK x m k).2.1, .slice ad (wayK x m k).2.2.length cpw]] W fun e w' => e = .returned (.bool (wayIn l (wayK x m k))) ∧ Below W.heap.size W w') := fun W => HF.out (wayK x m k) ad cpw W
    obtain ⟨x0, x1, x2⟩ := cells_three g6
    obtain ⟨c0, c1, c2, c3⟩ := cells_4 g0.2.1
    cases hfl : wayIn l (wayK x m k)
    ·rw [hfl] at HE
     have HNN : Hid (waysIn l x = false) := HN.out k hk hfl
     gi_wp2
     refine ⟨trivial, rfl, (CallsIn.inRound _ (callsIn_wide.2 (HE.out _))).mono ?_⟩
     rintro e V2 ⟨rfl, b1⟩
     obtain ⟨g0, g1, g2, g3, g4⟩ := fok_below g0 b1
     have r2 : V2.cell? ⟨w.heap.size + 1 + 1, 0, none⟩ = some (.bool false) := by rw [cell_of_row V2 _ 0 _ _ (0, 0) g2]; rfl
     have r3 : V2.frozen? ⟨w.heap.size + 1 + 1, 0, none⟩ = false := frozen_of_row V2 _ 0 _ _ g2
     clear x0 x1 x2 c0 c1 c2 c3
     gi_wp2
     refine ⟨Kept.trans (Kept.below b1) (Kept.chg (S := fun j => j = w.heap.size + 1 + 1) (chg_grown (grownBy_setCell' V2 (w.heap.size + 1 + 1) _) rfl) (fun j e => by omega)), rfl, HNN.out, heap_setCell_same V2 (w.heap.size + 1 + 1) 0 _ _ (.bool false) g2, g4.setCell (p := ⟨w.heap.size + 1 + 1, 0, none⟩) (by simp; omega) _⟩
    ·rw [hfl] at HE
     gi_wp2
     refine ⟨trivial, rfl, (CallsIn.inRound _ (callsIn_wide.2 (HE.out _))).mono ?_⟩
     rintro e V2 ⟨rfl, b1⟩
     obtain ⟨g0, g1, g2, g3, g4⟩ := fok_below g0 b1
     clear x0 x1 x2 c0 c1 c2 c3
     gi_wp2
     refine ⟨Kept.below b1, fun j hj => ?_, g1, g2, g3, g4⟩
     by_cases he : j < k
     ·exact g0 j he
     ·have : j = k := by omega
      subst this
      exact hfl
   case hdone =>
    rintro W ⟨g0, g1, g2, g3, g4⟩ hK
    have q2 : W.cell? ⟨w.heap.size + 1 + 1, 0, none⟩ = some (.bool false) := by rw [cell_of_row W _ 0 _ _ (0, 0) g2]; rfl
    have q3 : W.frozen? ⟨w.heap.size + 1 + 1, 0, none⟩ = false := frozen_of_row W _ 0 _ _ g2
    gi_wp2
    have g8 := heap_setCell_same W (w.heap.size + 1 + 1) 0 _ _ (.bool true) g2
    have hK' : (W.setCell ⟨w.heap.size + 1 + 1, 0, none⟩ (.bool true)).heap[W0.heap.size]? = some (.deferred (some [])) := (heap_setCell_other W ⟨w.heap.size + 1 + 1, 0, none⟩ _ _ (by simp; omega)).trans hK
    refine ⟨by simp, .inl ⟨_, _, rfl, run_takeDeferred hK', ?_⟩⟩
    have g9 := (World.putObj_heap_other (o := .deferred none) (show w.heap.size + 1 + 1 ≠ W0.heap.size by omega)).trans g8
    have hc5 := cell_of_row _ _ 0 _ _ (0, 0) g9
    refine ⟨.bool true, ?_, ret_bool (by unfold cacheIn; rw [HY.out g0]; simp), (g4.setCell (p := ⟨w.heap.size + 1 + 1, 0, none⟩) (by simp; omega) _).trans ((Below.refl _ _).grown (grownBy_putObj' _ _ _) (by have := (Array.getElem?_eq_some_iff.1 hK').1; omega) (fun k e => by cases e; omega))⟩
    simp at hc5
    simp [results, Tryz.results138, go_sem, hc5]
   case hstop =>
    rintro z k W hk ⟨rfl, hf, g5, g7⟩ hK
    gi_wp2
    refine ⟨by simp, .inl ⟨_, _, rfl, run_takeDeferred hK, ?_⟩⟩
    have g9 := (World.putObj_heap_other (o := .deferred none) (show w.heap.size + 1 + 1 ≠ W0.heap.size by omega)).trans g5
    have hc5 := cell_of_row _ _ 0 _ _ (0, 0) g9
    refine ⟨.bool false, ?_, ret_bool (by unfold cacheIn; rw [hf]; simp), g7.trans ((Below.refl _ _).grown (grownBy_putObj' _ _ _) (by have := (Array.getElem?_eq_some_iff.1 hK).1; omega) (fun k e => by cases e; omega))⟩
    simp at hc5
    simp [results, Tryz.results138, go_sem, hc5]
  ·have z2 : ((m : Int) != y) = true := by simp [hy]
   have c0k : ∀ n' : Cls (fun wx => Below W3.heap.size W3 wx), n'.w.cell? ⟨w.heap.size, 0, none⟩ = some (.int .i64 c) := fun n' => cell_keep n'.h c0 (cell_lt c0)
   have c1k : ∀ n' : Cls (fun wx => Below W3.heap.size W3 wx), n'.w.cell? ⟨w.heap.size, 1, none⟩ = some (.int .i64 (x.1.length : Int)) := fun n' => cell_keep n'.h c1 (cell_lt c1)
   have c2k : ∀ n' : Cls (fun wx => Below W3.heap.size W3 wx), n'.w.cell? ⟨w.heap.size, 2, none⟩ = some (.int .i64 y) := fun n' => cell_keep n'.h c2 (cell_lt c2)
   have c3k : ∀ n' : Cls (fun wx => Below W3.heap.size W3 wx), n'.w.cell? ⟨w.heap.size, 3, none⟩ = some (.int .i64 l) := fun n' => cell_keep n'.h c3 (cell_lt c3)
   have d0k : ∀ n' : Cls (fun wx => Below W3.heap.size W3 wx), n'.w.cell? ⟨w.heap.size + 1, 0, none⟩ = some (.slice (some ⟨b0, off0, none⟩) x.1.length cap) := fun n' => cell_keep n'.h d0 (cell_lt d0)
   have d1k : ∀ n' : Cls (fun wx => Below W3.heap.size W3 wx), n'.w.cell? ⟨w.heap.size + 1, 1, none⟩ = some (.slice b x.2.length cp) := fun n' => cell_keep n'.h d1 (cell_lt d1)
   have HWc : Hid (∀ n' : Cls (fun wx => Below W3.heap.size W3 wx), _) := fun n' => HWY.out n'.w (below_step B n'.h)
   refine wpIn_wide.2 ?_
   refine region_class (fun wx => Below W3.heap.size W3 wx) (by kernel_rfl) (by kernel_rfl) ((Below.refl _ W3).drew) ?_
   intro hne
   repeat (quiet_step (first | (go_at_call 175; exact calls_class (HWc.out _) (fun w' hc bb => below_step hc bb))))
   refine wpQuiet_nil ?_
   intro W4 bq
   clear hne HWc c0k c1k c2k c3k d0k d1k c0 c1 c2 c3 d0 d1 z2
   have HH := hy
   clear hy
   have j2 := row_keep bq k2
   have q2 : W4.cell? ⟨w.heap.size + 1 + 1, 0, none⟩ = some (.bool false) := by rw [cell_of_row W4 _ 0 _ _ (0, 0) j2]; rfl
   have q3 : W4.frozen? ⟨w.heap.size + 1 + 1, 0, none⟩ = false := frozen_of_row W4 _ 0 _ _ j2
   have BB := below_step B bq
   gi_wp2
   have g9 := heap_setCell_same W4 (w.heap.size + 1 + 1) 0 _ _ (.bool false) j2
   have hc5 := cell_of_row _ _ 0 _ _ (0, 0) g9
   refine ⟨.bool false, ?_, ret_bool (by unfold cacheIn; simp [HH]), BB.setCell (p := ⟨w.heap.size + 1 + 1, 0, none⟩) (by simp; omega) _⟩
   simp at hc5
   simp [results, Tryz.results138, go_sem, hc5]
 ·have z1 : ((x.1.length : Int) != s) = true := by simp [hs]
  refine wpIn_wide.2 ?_
  go_quiet (fail)
  have HH := hs
  clear hs
  have bq : Below W3.heap.size W3 (W3.drewN nq) := be_drewN (Below.refl _ _) nq
  generalize W3.drewN nq = W4 at bq ⊢
  have j2 := row_keep bq k2
  have q2 : W4.cell? ⟨w.heap.size + 1 + 1, 0, none⟩ = some (.bool false) := by rw [cell_of_row W4 _ 0 _ _ (0, 0) j2]; rfl
  have q3 : W4.frozen? ⟨w.heap.size + 1 + 1, 0, none⟩ = false := frozen_of_row W4 _ 0 _ _ j2
  have BB := below_step B bq
  gi_wp2
  have g9 := heap_setCell_same W4 (w.heap.size + 1 + 1) 0 _ _ (.bool false) j2
  have hc5 := cell_of_row _ _ 0 _ _ (0, 0) g9
  refine ⟨.bool false, ?_, ret_bool (by unfold cacheIn; simp [HH]), BB.setCell (p := ⟨w.heap.size + 1 + 1, 0, none⟩) (by simp; omega) _⟩
  simp at hc5
  simp [results, Tryz.results138, go_sem, hc5]
end Go.Proofs.YtiiipclglngdhaaGreatDoor
