import Derived.Test.YtdamokokcdcedaaGreatDoorE00Box
import Derived.Test.YtdamokokcdcedaaGreatDoorE10
namespace Go.Proofs.YtdamokokcdcedaaGreatDoor
open Go.ChangeShapes Go.WideShapes Go.ChangeAt Go.RowKit Go.Shelf
set_option linter.unusedVariables false
attribute [local go_sem] Oper.semAt_some
def wayK (c : CacheD) (m k : Nat) : WayD := (c.1.getD (k / m) []).getD (k % m) emptyW
def UptoOk (c : CacheD) (m k : Nat) : Prop :=
 ∀ j, j < k → clearB (wayK c m j) = true ∨ (fullB isL (wayK c m j) = true ∧ (wayK c m j).1 % (c.1.length : Int) = (j / m : Nat) ∧ ∀ i, i < j → (wayK c m i).1 ≠ (wayK c m j).1)
open Classical in
noncomputable def seenB (c : CacheD) (m k : Nat) (x : Nat) : Bool := decide (∃ j, j < k ∧ (wayK c m j).1 = (x : Int))
open Classical in
noncomputable def waysB (c : CacheD) (m : Nat) : Bool := decide (UptoOk c m (c.1.length * m))
theorem waysB_yes {c : CacheD} {m : Nat} (h : UptoOk c m (c.1.length * m)) : waysB c m = true := by simp [waysB, h]
theorem waysB_no {c : CacheD} {m : Nat} (h : ¬ UptoOk c m (c.1.length * m)) : waysB c m = false := by simp [waysB, h]
theorem upto_next {c : CacheD} {m k : Nat} (h : UptoOk c m k) (hn : clearB (wayK c m k) = true ∨ (fullB isL (wayK c m k) = true ∧ (wayK c m k).1 % (c.1.length : Int) = (k / m : Nat) ∧ ∀ i, i < k → (wayK c m i).1 ≠ (wayK c m k).1)) : UptoOk c m (k + 1) := fun j hj => by
 by_cases a : j < k
 ·exact h j a
 ·have : j = k := by omega
  subst this;exact hn
theorem upto_not {c : CacheD} {m k : Nat} (hk : k < c.1.length * m) (hc : clearB (wayK c m k) = false) (hn : ¬ (fullB isL (wayK c m k) = true ∧ (wayK c m k).1 % (c.1.length : Int) = (k / m : Nat) ∧ ∀ i, i < k → (wayK c m i).1 ≠ (wayK c m k).1)) : waysB c m = false := waysB_no fun h => by
 rcases h k hk with h | h
 ·rw [hc] at h;cases h
 ·exact hn h
theorem seen_zero {c : CacheD} {m x : Nat} : seenB c m 0 x = false := by simp [seenB]
theorem seen_same {c : CacheD} {m k x : Nat} (h : clearB (wayK c m k) = true) : seenB c m (k + 1) x = seenB c m k x := by
 have : (∃ j, j < k + 1 ∧ (wayK c m j).1 = (x : Int)) ↔ ∃ j, j < k ∧ (wayK c m j).1 = (x : Int) := by
  constructor
  ·rintro ⟨j, a, e⟩;by_cases b : j < k
   ·exact ⟨j, b, e⟩
   ·have : j = k := by omega
    subst this;rw [clear_eq h] at e;simp [emptyW] at e
  ·rintro ⟨j, a, e⟩;exact ⟨j, by omega, e⟩
 simp only [seenB, this]
theorem seen_next {c : CacheD} {m k x y : Nat} (h : (wayK c m k).1 = (y : Int)) : seenB c m (k + 1) x = (decide (x = y) || seenB c m k x) := by
 have : (∃ j, j < k + 1 ∧ (wayK c m j).1 = (x : Int)) ↔ (x = y ∨ ∃ j, j < k ∧ (wayK c m j).1 = (x : Int)) := by
  constructor
  ·rintro ⟨j, a, e⟩;by_cases b : j < k
   ·exact .inr ⟨j, b, e⟩
   ·have : j = k := by omega
    subst this;rw [h] at e;left
    omega
  ·rintro (rfl | ⟨j, a, e⟩)
   ·exact ⟨k, by omega, h⟩
   ·exact ⟨j, by omega, e⟩
 simp only [seenB, this, Bool.decide_or]
theorem seen_iff {c : CacheD} {m k x : Nat} : seenB c m k x = true ↔ ∃ j, j < k ∧ (wayK c m j).1 = (x : Int) := by simp [seenB]
theorem setsAt_of {w : World} {a : Option Addr} {xs : List (List WayD)} {m : Nat} (h : SlRd waysR w a xs) (hne : xs ≠ []) (hm : 0 < m) (hrow : ∀ row ∈ xs, row.length = m) :
    ∃ o d g, a = some ⟨o, d, none⟩ ∧ SetsAt w o d xs.length m g ∧ ∀ (i j : Nat) (row : List WayD) (u : WayD), xs[i]? = some row → row[j]? = some u →
     ((g i).way j).line = u.1 ∧ ((g i).way j).state = u.2.1 ∧ ((g i).way j).len = u.2.2.length ∧ u.2.2.length ≤ ((g i).way j).cap ∧ ((g i).way j).cap ≤ maxLen ∧ SlRd intR w ((g i).way j).addr u.2.2 := by
 have l : 0 < xs.length := List.length_pos_iff.2 hne;obtain ⟨o, d, _, _, y, _⟩ := set_at h (List.getElem?_eq_getElem l);have k : ∀ i : Nat, ∃ x : SCells, ∀ row, xs[i]? = some row → (w.cell? ⟨o, d + i, none⟩ = some (sL (some ⟨x.b, x.off, none⟩) m x.cap) ∧ RowAt w x.b x.off m x.way) ∧ ∀ (j : Nat) (u : WayD), row[j]? = some u →
     (x.way j).line = u.1 ∧ (x.way j).state = u.2.1 ∧ (x.way j).len = u.2.2.length ∧ u.2.2.length ≤ (x.way j).cap ∧ (x.way j).cap ≤ maxLen ∧ SlRd intR w (x.way j).addr u.2.2 := by
  intro i;cases q : xs[i]? with
  | none => exact ⟨⟨0, 0, 0, fun _ => ⟨0, 0, none, 0, 0⟩⟩, fun row hr => by cases hr⟩
  | some row =>
   obtain ⟨b', v, aj, A, n, z, -, -, s⟩ := set_at h q;rw [y] at n;cases n;have r := hrow row (List.mem_of_getElem? q);obtain ⟨b, off, c, rfl, p, f⟩ := rowAt_of s (fun e => by rw [e] at r; simp at r; omega);rw [r] at p z;refine ⟨⟨b, off, A, c⟩, fun row' hr => ?_⟩;cases hr;exact ⟨⟨z, p⟩, f⟩
 obtain ⟨g, f⟩ := Classical.axiomOfChoice k;exact ⟨o, d, g, y, fun i q => (f i _ (List.getElem?_eq_getElem q)).1, fun i j row u hr hu => (f i row hr).2 j u hu⟩
theorem setsAt_below {w w' : World} {b0 off0 s m : Nat} {cc : Nat → SCells} (h : SetsAt w b0 off0 s m cc) (hb : Bl w w') (hm : 0 < m) : SetsAt w' b0 off0 s m cc := by
 by_cases a : 0 < s
 ·exact setsAt_keep h (hb.block _ (cell_lt (h 0 a).1)) (fun i hi => hb.block _ (rowAt_lt (h i hi).2 hm))
 ·exact fun i hi => by omega
theorem wayK_get {c : CacheD} {m k : Nat} (hm : 0 < m) (hrow : ∀ row ∈ c.1, row.length = m) (hk : k < c.1.length * m) : ∃ row, c.1[k / m]? = some row ∧ row[k % m]? = some (wayK c m k) := by
 have a : k / m < c.1.length := by rw [Nat.div_lt_iff_lt_mul hm]; exact hk
 have h2 : k % m < m := Nat.mod_lt _ hm;refine ⟨_, List.getElem?_eq_getElem a, ?_⟩;have h3 := hrow _ (List.getElem_mem a);have b : c.1.getD (k / m) [] = c.1[k / m] := by rw [List.getD_eq_getElem?_getD, List.getElem?_eq_getElem a]; rfl
 have : k % m < (c.1[k / m]).length := by omega
 rw [List.getElem?_eq_getElem this];unfold wayK;rw [b, List.getD_eq_getElem?_getD, List.getElem?_eq_getElem this];rfl
set_option maxHeartbeats 400000 in
theorem everyWay_any (u v : Value) (a a' : Option Addr) (n n' cap cap' : Nat) (hu : u = sL a n cap) (hv : v = sL a' n' cap') (w : World) :
    Calls Tryz.prog 93 #[.agg #[u, v]] w fun e w' => e = .returned (.func (.func 158) #[] #[.pointer (some ⟨w.heap.size, 0, none⟩)]) ∧ w' = w.alloc (.cells #[u, v] 95) := by
 subst hu hv;go_enter Tryz.func93, Tryz.ntmps93;go_wp2;go_ret
 exact ⟨rfl, rfl⟩
theorem grown_at (W : World) (g o : Nat) (v : Value) : W.grownBy (W.setCell ⟨g, o, none⟩ v) (some g) := ⟨rfl, rfl, rfl, by simp, fun k _ hk => heap_setCell_other W ⟨g, o, none⟩ k v (fun e => hk (by simp [e]))⟩
def WOk (w : World) (v u : Value) (c : CacheD) (m k : Nat) (W : World) : Prop :=
 UptoOk c m k ∧ W.heap[w.heap.size]? = some (.cells #[v, u] 95 (0, 0)) ∧ W.heap[w.heap.size + 1]? = some (.cells #[.bool false] 4 (0, 0)) ∧
 (∃ cur : Array Value, W.heap[w.heap.size + 1 + 1]? = some (.cells cur 291 (0, 0)) ∧ cur.size = 16 ∧ ∀ x, x < 16 → cur[x]? = some (.bool (seenB c m k x))) ∧
 W.heap[w.heap.size + 1 + 1 + 1]? = some (.cells #[v, u] 95 (0, 0)) ∧ Below w.heap.size w W
theorem wok_own {w : World} {v u : Value} {c : CacheD} {m B : Nat} (hB : w.heap.size ≤ B) : OwnFrom B (fun k W => WOk w v u c m k W) := by
 rintro k X Y a ⟨o, j, q, ⟨f, i, n, p⟩, g, l⟩ d b;exact ⟨o, own_heap (β := Unit) _ _ _ _ () X Y a j d b, own_heap (β := Unit) _ _ _ _ () X Y a q d b, ⟨f, own_heap (β := Unit) _ _ _ _ () X Y a i d b, n, p⟩, own_heap (β := Unit) _ _ _ _ () X Y a g d b, ownFrom_below (β := Unit) (Nat.le_refl _) hB () X Y a l d b⟩
theorem wok_below {w : World} {v u : Value} {c : CacheD} {m k : Nat} {W W' : World} (h : WOk w v u c m k W) (hb : Bl W W') : WOk w v u c m k W' := by
 obtain ⟨j, f, n, ⟨a, d, i, l⟩, b, g⟩ := h;exact ⟨j, row_keep hb f, row_keep hb n, ⟨a, row_keep hb d, i, l⟩, row_keep hb b, below_step g hb⟩
set_option maxHeartbeats 4000000 in
theorem waysOk_any (a b : Option Addr) (c : CacheD) (cap cp m : Nat) (w : World) (h1 : SlRd waysR w a c.1) (hp : c.1.length = 1 ∨ c.1.length = 2 ∨ c.1.length = 4) (hm : m = 1 ∨ m = 2 ∨ m = 4) (hrow : ∀ KA ∈ c.1, KA.length = m) :
    Calls Tryz.prog 257 #[.agg #[sL a c.1.length cap, sL b c.2.length cp]] w fun e A => e = .returned (.bool (waysB c m)) ∧ Bl w A := by
 have zA : 0 < m := by omega
 obtain ⟨r, f, g, rfl, rB, pB⟩ := setsAt_of h1 (fun e => by rw [e] at hp; simp at hp) zA hrow;have HG : Hid (∀ k, k < c.1.length * m → ((g (k / m)).way (k % m)).line = (wayK c m k).1 ∧ ((g (k / m)).way (k % m)).state = (wayK c m k).2.1 ∧ ((g (k / m)).way (k % m)).len = (wayK c m k).2.2.length ∧ (wayK c m k).2.2.length ≤ maxLen ∧ SlRd intR w ((g (k / m)).way (k % m)).addr (wayK c m k).2.2) := fun k hk => by
  obtain ⟨KA, e1, e2⟩ := wayK_get zA hrow hk;obtain ⟨q1, q2, q3, q4, q5, q6⟩ := pB _ _ KA _ e1 e2;exact ⟨q1, q2, q3, Nat.le_trans q4 q5, q6⟩
 have HP : Hid (c.1.length = 1 ∨ c.1.length = 2 ∨ c.1.length = 4) := hp;have HM : Hid (m = 1 ∨ m = 2 ∨ m = 4) := hm;have HA : Hid _ := rB;clear h1 pB hrow hp hm rB;refine (callsIn_wide (n := 0)).1 ?_;refine callsIn_of_wp_marks Tryz.func257 rfl trivial ?_ rfl;simp only [Tryz.ntmps257, List.size_toArray, List.length_cons, List.length_nil, Nat.reduceAdd, Nat.reduceSub, Array.replicate_succ, Array.replicate_zero, List.push_toArray, List.append_toArray, List.nil_append, List.cons_append];gi_wp2
 refine ⟨trivial, rfl, (callsIn_wide.2 (everyWay_any _ _ _ _ _ _ _ _ rfl rfl _)).mono ?_⟩;rintro e A ⟨rfl, rfl⟩;gi_wp2
 have kB : Bl w ((((w.alloc (.cells #[sL (some ⟨r, f, none⟩) c.1.length cap, sL b c.2.length cp] 95)).alloc (.cells #[.bool false] 4)).alloc (.cells #[.bool false, .bool false, .bool false, .bool false, .bool false, .bool false, .bool false, .bool false, .bool false, .bool false, .bool false, .bool false, .bool false, .bool false, .bool false, .bool false] 291)).alloc (.cells #[sL (some ⟨r, f, none⟩) c.1.length cap, sL b c.2.length cp] 95)) := ((((Below.refl _ w).alloc (Nat.le_refl _) _).alloc (by simp) _).alloc (by simp; omega) _).alloc (by simp; omega) _;have k0 := heap_on (.cells #[sL (some ⟨r, f, none⟩) c.1.length cap, sL b c.2.length cp] 95) (heap_on (.cells #[.bool false, .bool false, .bool false, .bool false, .bool false, .bool false, .bool false, .bool false, .bool false, .bool false, .bool false, .bool false, .bool false, .bool false, .bool false, .bool false] 291) (heap_on (.cells #[.bool false] 4) (heap_at w (.cells #[sL (some ⟨r, f, none⟩) c.1.length cap, sL b c.2.length cp] 95))));have k1 := heap_on (.cells #[sL (some ⟨r, f, none⟩) c.1.length cap, sL b c.2.length cp] 95) (heap_on (.cells #[.bool false, .bool false, .bool false, .bool false, .bool false, .bool false, .bool false, .bool false, .bool false, .bool false, .bool false, .bool false, .bool false, .bool false, .bool false, .bool false] 291) (heap_at (w.alloc (.cells #[sL (some ⟨r, f, none⟩) c.1.length cap, sL b c.2.length cp] 95)) (.cells #[.bool false] 4)));have k2 := heap_on (.cells #[sL (some ⟨r, f, none⟩) c.1.length cap, sL b c.2.length cp] 95) (heap_at ((w.alloc (.cells #[sL (some ⟨r, f, none⟩) c.1.length cap, sL b c.2.length cp] 95)).alloc (.cells #[.bool false] 4)) (.cells #[.bool false, .bool false, .bool false, .bool false, .bool false, .bool false, .bool false, .bool false, .bool false, .bool false, .bool false, .bool false, .bool false, .bool false, .bool false, .bool false] 291));have k3 := heap_at (((w.alloc (.cells #[sL (some ⟨r, f, none⟩) c.1.length cap, sL b c.2.length cp] 95)).alloc (.cells #[.bool false] 4)).alloc (.cells #[.bool false, .bool false, .bool false, .bool false, .bool false, .bool false, .bool false, .bool false, .bool false, .bool false, .bool false, .bool false, .bool false, .bool false, .bool false, .bool false] 291)) (.cells #[sL (some ⟨r, f, none⟩) c.1.length cap, sL b c.2.length cp] 95);have e4 : ((((w.alloc (.cells #[sL (some ⟨r, f, none⟩) c.1.length cap, sL b c.2.length cp] 95)).alloc (.cells #[.bool false] 4)).alloc (.cells #[.bool false, .bool false, .bool false, .bool false, .bool false, .bool false, .bool false, .bool false, .bool false, .bool false, .bool false, .bool false, .bool false, .bool false, .bool false, .bool false] 291)).alloc (.cells #[sL (some ⟨r, f, none⟩) c.1.length cap, sL b c.2.length cp] 95)).heap.size = w.heap.size + 1 + 1 + 1 + 1 := by simp
 rw [alloc_len] at k1;rw [alloc_len, alloc_len] at k2;rw [alloc_len, alloc_len, alloc_len] at k3;have eB : WOk w (sL (some ⟨r, f, none⟩) c.1.length cap) (sL b c.2.length cp) c m 0 ((((w.alloc (.cells #[sL (some ⟨r, f, none⟩) c.1.length cap, sL b c.2.length cp] 95)).alloc (.cells #[.bool false] 4)).alloc (.cells #[.bool false, .bool false, .bool false, .bool false, .bool false, .bool false, .bool false, .bool false, .bool false, .bool false, .bool false, .bool false, .bool false, .bool false, .bool false, .bool false] 291)).alloc (.cells #[sL (some ⟨r, f, none⟩) c.1.length cap, sL b c.2.length cp] 95)) := by
  refine ⟨fun j hj => by omega, k0, k1, ⟨_, k2, rfl, fun x hx => ?_⟩, k3, kB⟩;rw [seen_zero];rcases x with _ | _ | _ | _ | _ | _ | _ | _ | _ | _ | _ | _ | _ | _ | _ | _ | x <;> first | rfl | omega
 clear k0 k1 k2 k3 kB;generalize (((w.alloc (.cells #[sL (some ⟨r, f, none⟩) c.1.length cap, sL b c.2.length cp] 95)).alloc (.cells #[.bool false] 4)).alloc (.cells #[.bool false, .bool false, .bool false, .bool false, .bool false, .bool false, .bool false, .bool false, .bool false, .bool false, .bool false, .bool false, .bool false, .bool false, .bool false, .bool false] 291)).alloc (.cells #[sL (some ⟨r, f, none⟩) c.1.length cap, sL b c.2.length cp] 95) = W0 at e4 eB ⊢;refine range_iter (N := c.1.length * m) (lb := #[.pointer (some ⟨w.heap.size + 1 + 1 + 1, 0, none⟩)]) (gf := 158) rfl (enters_of Tryz.func158 (by kernel_rfl) rfl)
  (everyWay1_iter (w.heap.size + 1 + 1 + 1) r f c.1.length m cap g (by have := HP.out; omega) (by have := HM.out; omega) (by have := HP.out; omega) zA) (fun _ => rfl)
  (fun k W => WOk w (sL (some ⟨r, f, none⟩) c.1.length cap) (sL b c.2.length cp) c m k W)
  (fun x k W => x = .ret ∧ waysB c m = false ∧ W.heap[w.heap.size + 1]? = some (.cells #[.bool false] 4 (0, 0)) ∧ Bl w W)
  (wok_own (by omega)) (fun x => OwnFrom.and (ownFrom_pure _ _) (OwnFrom.and (ownFrom_pure _ _) (OwnFrom.and (own_heap _ _ _ _) (ownFrom_below (Nat.le_refl _) (by omega))))) ?hR eB
  (fun k a' W => ∃ B4 B5, W0.heap.size < B4 ∧ W0.heap.size < B5 ∧ W.heap[B4]? = some (.cells #[nI (k / m : Nat), nI (k % m : Nat)] 151 (0, 0)) ∧ W.heap[B5]? = some (.cells #[nI ((g (k / m)).way (k % m)).line, nI ((g (k / m)).way (k % m)).state, .slice ((g (k / m)).way (k % m)).addr ((g (k / m)).way (k % m)).len ((g (k / m)).way (k % m)).cap] 74 (0, 0)) ∧ WOk w (sL (some ⟨r, f, none⟩) c.1.length cap) (sL b c.2.length cp) c m k W ∧
   a' = { tmps := #[.agg #[sL (some ⟨r, f, none⟩) c.1.length cap, sL b c.2.length cp], .pointer (some ⟨w.heap.size, 0, none⟩), .pointer (some ⟨w.heap.size + 1, 0, none⟩), .pointer (some ⟨w.heap.size + 1 + 1, 0, none⟩), .pointer (some ⟨B4, 0, none⟩), .pointer (some ⟨B5, 0, none⟩), .agg #[sL (some ⟨r, f, none⟩) c.1.length cap, sL b c.2.length cp], .func (.func 158) #[] #[.pointer (some ⟨w.heap.size + 1 + 1 + 1, 0, none⟩)], .agg #[nI (k / m : Nat), nI (k % m : Nat)], ((g (k / m)).way (k % m)).agg, undef, undef, undef, undef, undef, undef, undef, undef, undef, undef, undef, undef, undef, undef, undef, undef, undef, undef, undef, undef, undef, undef, undef], defers := [] })
  ?hA ?hassign ?hbody ?hdone ?hstop
 case hR =>
  rintro k W ⟨_, _, _, _, g6, I⟩;exact ⟨by rw [cell_of_row W _ 0 _ _ (0, 0) g6]; rfl, setsAt_below HA.out I zA⟩
 case hA =>
  rintro k a' ⟨⟩ X Y iA ⟨B4, B5, l4, l5, g4, H, F, rfl⟩ hg hr;exact ⟨B4, B5, l4, l5, own_heap (β := Unit) _ _ _ _ () X Y iA g4 hg hr, own_heap (β := Unit) _ _ _ _ () X Y iA H hg hr, wok_own (B := W0.heap.size) (by omega) k X Y iA F hg hr, rfl⟩
 case hassign =>
  rintro k W K hk F BB R;gi_wp2
  have z1 := box_below W (.cells #[nI (k / m : Nat), nI (k % m : Nat)] 151);have z2 := box_below (W.alloc (.cells #[nI (k / m : Nat), nI (k % m : Nat)] 151)) (.cells #[nI ((g (k / m)).way (k % m)).line, nI ((g (k / m)).way (k % m)).state, .slice ((g (k / m)).way (k % m)).addr ((g (k / m)).way (k % m)).len ((g (k / m)).way (k % m)).cap] 74);have z3 := heap_at (W.alloc (.cells #[nI (k / m : Nat), nI (k % m : Nat)] 151)) (.cells #[nI ((g (k / m)).way (k % m)).line, nI ((g (k / m)).way (k % m)).state, .slice ((g (k / m)).way (k % m)).addr ((g (k / m)).way (k % m)).len ((g (k / m)).way (k % m)).cap] 74);rw [alloc_len] at z3;exact R _ _ (Kept.below (below_step z1 z2)) ⟨W.heap.size, W.heap.size + 1, by omega, by omega, heap_on _ (heap_at _ _), z3, wok_below (wok_below F z1) z2, rfl⟩
 case hbody =>
  rintro k a' V hk ⟨B4, B5, l4, l5, g4, H, F, rfl⟩ BB hD hL;obtain ⟨q1, q2, q3, q4, q5⟩ := HG.out k hk;have HU : Hid (wayK c m k = ((wayK c m k).1, (wayK c m k).2.1, (wayK c m k).2.2)) := rfl;rw [q1, q2, q3] at H;have gB : ((g (k / m)).way (k % m)).agg = .agg #[nI (wayK c m k).1, nI (wayK c m k).2.1, .slice ((g (k / m)).way (k % m)).addr (wayK c m k).2.2.length ((g (k / m)).way (k % m)).cap] := by rw [WCells.agg, q1, q2, q3]
  rw [gB];clear gB q1 q2 q3;generalize ((g (k / m)).way (k % m)).addr = ad at H q5 ⊢;generalize ((g (k / m)).way (k % m)).cap = cpw at H ⊢;have fA : Hid (∀ {x}, clearB (wayK c m k) = x → clrB (wayK c m k).1 (wayK c m k).2.1 (wayK c m k).2.2.length = x) := fun h => by rw [clr_eq]; exact h
  have mA : Hid (∀ {x}, fullB isL (wayK c m k) = x → fullB isL ((wayK c m k).1, (wayK c m k).2.1, (wayK c m k).2.2) = x) := fun h => h;have HY : Hid (∀ x : Nat, seenB c m k x = true ↔ ∃ j, j < k ∧ (wayK c m j).1 = (x : Int)) := fun x => seen_iff;have yB : Hid ((wayK c m k).1 = (wayK c m k).1) := rfl;generalize hl : (wayK c m k).1 = l at H fA mA yB ⊢;generalize (wayK c m k).2.1 = st at H fA mA ⊢;generalize (wayK c m k).2.2 = d at H q4 q5 fA mA ⊢;clear yB HU;have HL : Hid ((wayK c m k).1 = l) := hl;clear hl;obtain ⟨x0, x1, x2⟩ := cells_three H;obtain ⟨y0, y1⟩ := cells_two g4;cases O : clearB (wayK c m k)
  case true =>
   have HE : Hid (∀ W, Calls Tryz.prog 94 #[.agg #[nI l, nI st, sL ad d.length cpw]] W fun e A => e = .returned (.bool true) ∧ Bl W A) := fun W => by have := implEmpty_any l st ad d.length cpw W q4; rwa [fA.out O] at this
   gi_wp2
   refine ⟨trivial, rfl, (CallsIn.inRound _ (callsIn_wide.2 (HE.out _))).mono ?_⟩;rintro e C ⟨rfl, b1⟩;gi_wp2
   obtain ⟨F, g1, D, ⟨yA, g3, AA, aA⟩, g6, I⟩ := wok_below F b1;exact ⟨Kept.below b1, upto_next F (.inl O), g1, D, ⟨yA, g3, AA, fun x hx => by rw [seen_same O]; exact aA x hx⟩, g6, I⟩
  case false =>
   have HE : Hid (∀ W, Calls Tryz.prog 94 #[.agg #[nI l, nI st, sL ad d.length cpw]] W fun e A => e = .returned (.bool false) ∧ Bl W A) := fun W => by have := implEmpty_any l st ad d.length cpw W q4; rwa [fA.out O] at this
   gi_wp2
   refine ⟨trivial, rfl, (CallsIn.inRound _ (callsIn_wide.2 (HE.out _))).mono ?_⟩;rintro e C ⟨rfl, b1⟩;have K1 := wok_below F b1;have EB : SlRd intR C ad d := slrd_next q5 K1.2.2.2.2.2;obtain ⟨z0, z1⟩ := cells_two K1.2.1;replace H := row_keep b1 H;replace g4 := row_keep b1 g4;clear x0 x1 x2 y0 y1 HE;obtain ⟨x0, x1, x2⟩ := cells_three H;obtain ⟨y0, y1⟩ := cells_two g4;gi_wp2
   have m0 : ∀ n : Cls (fun wx => Bl C wx), n.w.cell? ⟨B5, 0, none⟩ = some (nI l) := fun n => cell_keep n.h x0 (cell_lt x0);have m1 : ∀ n : Cls (fun wx => Bl C wx), n.w.cell? ⟨B5, 1, none⟩ = some (nI st) := fun n => cell_keep n.h x1 (cell_lt x1);have m2 : ∀ n : Cls (fun wx => Bl C wx), n.w.cell? ⟨B5, 2, none⟩ = some (sL ad d.length cpw) := fun n => cell_keep n.h x2 (cell_lt x2);have m3 : ∀ n : Cls (fun wx => Bl C wx), n.w.cell? ⟨B4, 0, none⟩ = some (nI (k / m : Nat)) := fun n => cell_keep n.h y0 (cell_lt y0);have n0 : ∀ n : Cls (fun wx => Bl C wx), n.w.cell? ⟨w.heap.size, 0, none⟩ = some (sL (some ⟨r, f, none⟩) c.1.length cap) := fun n => cell_keep n.h z0 (cell_lt z0);have n1 : ∀ n : Cls (fun wx => Bl C wx), n.w.cell? ⟨w.heap.size, 1, none⟩ = some (sL b c.2.length cp) := fun n => cell_keep n.h z1 (cell_lt z1);have Z : Hid (∀ n : Cls (fun wx => Bl C wx), SlRd intR n.w ad d) := fun n => slrd_next EB n.h;have X5 : Hid (∀ wx, Bl C wx → wx.cell? ⟨B5, 0, none⟩ = some (nI l)) := fun wx h => cell_keep h x0 (cell_lt x0);have HK : Hid _ := K1;clear K1 x0 x1 x2 y0 y1 z0 z1 EB F q5 hD hL g4 H BB l4 l5;have K1 := HK.out;cases qA : fullB isL (wayK c m k)
   case false =>
    have HF : Hid (∀ W, SlRd intR W ad d → Calls Tryz.prog 261 #[.agg #[nI l, nI st, sL ad d.length cpw]] W fun e A => e = .returned (.bool false) ∧ Bl W A) := fun W h => by have := implFull_any l st d ad cpw W h; rwa [mA.out qA] at this
    refine regionIn_class (fun wx => Bl C wx) (by kernel_rfl) (by kernel_rfl) (by kernel_rfl) ((Below.refl _ C).drew) ?_;intro J;iterate 3 (quiet_step ((go_at_call 261; exact calls_class (HF.out _ (Z.out _)) (fun A hc bb => below_step hc bb))))
    refine wpQuiet_step (fun K R => ?_);go_simp
    refine hid_act K _ ?_;intro A0 eA;refine R A0 ?_;clear R K;have gA : A0.tmps[15]? = some (.bool true) := by rw [eA]; rfl
    refine wpQuiet_skip (b := false) (d := 15) gA rfl rfl rfl (by decide) ?_;intro FB L z;clear gA;refine wpQuiet_skip (b := false) (d := 15) z rfl rfl rfl (by decide) ?_;intro DB T s;clear z;refine wpQuiet_skip (b := false) (d := 15) s rfl rfl rfl (by decide) ?_;intro qB G v;clear s;refine wpQuiet_skip (b := false) (d := 15) v rfl rfl rfl (by decide) ?_;intro oB M E;clear v;refine wpQuiet_skip (b := false) (d := 15) E rfl rfl rfl (by decide) ?_;intro rC MA lA;clear E;refine wpQuiet_skip (b := false) (d := 15) lA rfl rfl rfl (by decide) ?_;intro pC SA nA;clear lA;refine wpQuiet_skip (b := false) (d := 15) nA rfl rfl rfl (by decide) ?_;intro yC GA NA;clear nA NA;subst GA SA MA M G T L;subst eA;quiet_step (skip)
    refine wpQuiet_step (fun K R => ?_);go_simp
    refine hid_act K _ ?_;intro A1 iB;refine R A1 ?_;clear R K;have jB : A1.tmps[24]? = some (.bool true) := by rw [iB]; rfl
    refine wpQuiet_skip (b := false) (d := 24) jB rfl rfl rfl (by decide) ?_;intro BC LA jA;clear jB;refine wpQuiet_skip (b := false) (d := 24) jA rfl rfl rfl (by decide) ?_;intro qC UA pA;clear jA;refine wpQuiet_skip (b := false) (d := 24) pA rfl rfl rfl (by decide) ?_;intro zC FA rA;clear pA;refine wpQuiet_skip (b := false) (d := 24) rA rfl rfl rfl (by decide) ?_;intro CC RA TA;clear rA TA;subst RA FA UA LA;subst iB;quiet_step (skip)
    refine wpQuiet_nil ?_;intro wx b2;clear m0 m1 m2 m3 n0 n1 J;obtain ⟨F, g1, D, g3, g6, I⟩ := wok_below K1 b2;have r2 : wx.cell? ⟨w.heap.size + 1, 0, none⟩ = some (.bool false) := by rw [cell_of_row wx _ 0 _ _ (0, 0) D]; rfl
    have r3 : wx.frozen? ⟨w.heap.size + 1, 0, none⟩ = false := frozen_of_row wx _ 0 _ _ D;gi_wp2
    refine ⟨Kept.trans (Kept.below (below_step b1 b2)) (Kept.chg (S := fun j => j = w.heap.size + 1) (chg_grown (grownBy_setCell' wx (w.heap.size + 1) _) rfl) (fun j e => by omega)), rfl, upto_not hk O (fun h => by rw [qA] at h; exact absurd h.1 (by simp)), heap_setCell_same wx (w.heap.size + 1) 0 _ _ (.bool false) D, I.setCell (p := ⟨w.heap.size + 1, 0, none⟩) (by simp) _⟩
   case true =>
    have dA := full_line qA;rw [HL.out] at dA;obtain ⟨x, rfl⟩ : ∃ x : Nat, l = (x : Int) := ⟨l.toNat, by omega⟩;have U : x < 16 := by omega
    have jC : (x : Int) < 16 := by omega
    have HF : Hid (∀ W, SlRd intR W ad d → Calls Tryz.prog 261 #[.agg #[nI (x : Int), nI st, sL ad d.length cpw]] W fun e A => e = .returned (.bool true) ∧ Bl W A) := fun W h => by have := implFull_any (x : Int) st d ad cpw W h; rwa [mA.out qA] at this
    have bA : ∀ W, Calls Tryz.prog 276 #[.agg #[sL (some ⟨r, f, none⟩) c.1.length cap, sL b c.2.length cp], nI (x : Int)] W fun e A => e = .returned (nI ((x : Int) % (c.1.length : Int))) ∧ Bl W A := fun W => setOf_any _ _ _ _ _ _ _ rfl _ W HP.out (by omega);by_cases hq : (x : Int) % (c.1.length : Int) = (k / m : Nat)
    ·have HS : Hid (∀ W, Calls Tryz.prog 276 #[.agg #[sL (some ⟨r, f, none⟩) c.1.length cap, sL b c.2.length cp], nI (x : Int)] W fun e A => e = .returned (nI ((k / m : Nat) : Int)) ∧ Bl W A) := by rw [hq] at bA; exact bA
     have HQ : Hid ((x : Int) % (c.1.length : Int) = (k / m : Nat)) := hq;clear bA hq dA;cases oA : seenB c m k x
     case true =>
      have m4 : ∀ n : Cls (fun wx => Bl C wx), n.w.cell? ⟨w.heap.size + 1 + 1, x, none⟩ = some (.bool true) := fun n => by
       obtain ⟨-, -, -, ⟨yA, c1, -, c3⟩, -, -⟩ := wok_below HK.out n.h;rw [cell_of_row n.w _ x _ _ (0, 0) c1, c3 x U, oA]
      refine regionIn_class (fun wx => Bl C wx) (by kernel_rfl) (by kernel_rfl) (by kernel_rfl) ((Below.refl _ C).drew) ?_;intro J;repeat (quiet_step (first | (go_at_call 261; exact calls_class (HF.out _ (Z.out _)) (fun A hc bb => below_step hc bb)) | (go_at_call 276; exact calls_class (HS.out _) (fun A hc bb => below_step hc bb))))
      refine wpQuiet_nil ?_;intro wx b2;clear m0 m1 m2 m3 n0 n1 J m4;obtain ⟨F, g1, D, g3, g6, I⟩ := wok_below K1 b2;have r2 : wx.cell? ⟨w.heap.size + 1, 0, none⟩ = some (.bool false) := by rw [cell_of_row wx _ 0 _ _ (0, 0) D]; rfl
      have r3 : wx.frozen? ⟨w.heap.size + 1, 0, none⟩ = false := frozen_of_row wx _ 0 _ _ D;gi_wp2
      refine ⟨Kept.trans (Kept.below (below_step b1 b2)) (Kept.chg (S := fun j => j = w.heap.size + 1) (chg_grown (grownBy_setCell' wx (w.heap.size + 1) _) rfl) (fun j e => by omega)), rfl, upto_not hk O (fun h => by obtain ⟨j, hj, e⟩ := (HY.out x).1 oA; exact h.2.2 j hj (by rw [e, HL.out])), heap_setCell_same wx (w.heap.size + 1) 0 _ _ (.bool false) D, I.setCell (p := ⟨w.heap.size + 1, 0, none⟩) (by simp) _⟩
     case false =>
      have m4 : ∀ n : Cls (fun wx => Bl C wx), n.w.cell? ⟨w.heap.size + 1 + 1, x, none⟩ = some (.bool false) := fun n => by
       obtain ⟨-, -, -, ⟨yA, c1, -, c3⟩, -, -⟩ := wok_below HK.out n.h;rw [cell_of_row n.w _ x _ _ (0, 0) c1, c3 x U, oA]
      refine regionIn_class (fun wx => Bl C wx) (by kernel_rfl) (by kernel_rfl) (by kernel_rfl) ((Below.refl _ C).drew) ?_;intro J;repeat (quiet_step (first | (go_at_call 261; exact calls_class (HF.out _ (Z.out _)) (fun A hc bb => below_step hc bb)) | (go_at_call 276; exact calls_class (HS.out _) (fun A hc bb => below_step hc bb))))
      refine wpQuiet_nil ?_;intro wx b2;clear m0 m1 m2 m3 n0 n1 J m4;obtain ⟨F, g1, D, ⟨yA, g3, AA, aA⟩, g6, I⟩ := wok_below K1 b2;have r2 : wx.cell? ⟨w.heap.size + 1 + 1, x, none⟩ = some (.bool false) := by rw [cell_of_row wx _ x _ _ (0, 0) g3, aA x U, oA]
      have r3 : wx.frozen? ⟨w.heap.size + 1 + 1, x, none⟩ = false := frozen_of_row wx _ x _ _ g3;have r4 := X5.out wx b2;gi_wp2
      refine ⟨Kept.trans (Kept.below (below_step b1 b2)) (Kept.chg (S := fun j => j = w.heap.size + 1 + 1) (chg_grown (grown_at wx _ _ _) rfl) (fun j e => by omega)), upto_next F (.inr ⟨qA, by rw [HL.out]; exact HQ.out, fun i hi e => ?_⟩), (heap_setCell_other wx ⟨w.heap.size + 1 + 1, x, none⟩ _ _ (by simp; omega)).trans g1, (heap_setCell_other wx ⟨w.heap.size + 1 + 1, x, none⟩ _ _ (by simp)).trans D, ⟨_, heap_setCell_same wx (w.heap.size + 1 + 1) x _ _ (.bool true) g3, by simpa using AA, fun y hy => ?_⟩, (heap_setCell_other wx ⟨w.heap.size + 1 + 1, x, none⟩ _ _ (by simp)).trans g6, I.setCell (p := ⟨w.heap.size + 1 + 1, x, none⟩) (by simp; omega) _⟩
      ·rw [HL.out] at e;have := (HY.out x).2 ⟨i, hi, e⟩;rw [oA] at this;cases this
      ·rw [seen_next HL.out, Array.getElem?_setIfInBounds];by_cases zB : x = y
       ·subst zB;simp [AA, U]
       ·rw [if_neg zB, aA y hy];have : decide (y = x) = false := by simp; omega
        rw [this, Bool.false_or]
    ·have HQ : Hid (¬ (x : Int) % (c.1.length : Int) = (k / m : Nat)) := hq;have fB : (((x : Int) % (c.1.length : Int)) != (k : Int) / (m : Int)) = true := by rw [show (k : Int) / (m : Int) = ((k / m : Nat) : Int) from rfl]; simpa using hq
     generalize (x : Int) % (c.1.length : Int) = q at bA fB;have HS : Hid _ := bA;clear bA hq dA;refine regionIn_class (fun wx => Bl C wx) (by kernel_rfl) (by kernel_rfl) (by kernel_rfl) ((Below.refl _ C).drew) ?_;intro J;iterate 11 (quiet_step (first | (go_at_call 261; exact calls_class (HF.out _ (Z.out _)) (fun A hc bb => below_step hc bb)) | (go_at_call 276; exact calls_class (HS.out _) (fun A hc bb => below_step hc bb))))
     clear fB;quiet_step (skip)
     refine wpQuiet_step (fun K R => ?_);go_simp
     refine hid_act K _ ?_;intro A0 eA;refine R A0 ?_;clear R K;have gA : A0.tmps[24]? = some (.bool true) := by rw [eA]; rfl
     refine wpQuiet_skip (b := false) (d := 24) gA rfl rfl rfl (by decide) ?_;intro FB L z;clear gA;refine wpQuiet_skip (b := false) (d := 24) z rfl rfl rfl (by decide) ?_;intro DB T s;clear z;refine wpQuiet_skip (b := false) (d := 24) s rfl rfl rfl (by decide) ?_;intro qB G v;clear s;refine wpQuiet_skip (b := false) (d := 24) v rfl rfl rfl (by decide) ?_;intro oB M E;clear v E;subst M G T L;subst eA;quiet_step (skip)
     refine wpQuiet_nil ?_;intro wx b2;clear m0 m1 m2 m3 n0 n1 J;obtain ⟨F, g1, D, g3, g6, I⟩ := wok_below K1 b2;have r2 : wx.cell? ⟨w.heap.size + 1, 0, none⟩ = some (.bool false) := by rw [cell_of_row wx _ 0 _ _ (0, 0) D]; rfl
     have r3 : wx.frozen? ⟨w.heap.size + 1, 0, none⟩ = false := frozen_of_row wx _ 0 _ _ D;gi_wp2
     refine ⟨Kept.trans (Kept.below (below_step b1 b2)) (Kept.chg (S := fun j => j = w.heap.size + 1) (chg_grown (grownBy_setCell' wx (w.heap.size + 1) _) rfl) (fun j e => by omega)), rfl, upto_not hk O (fun h => HQ.out (by rw [← HL.out]; exact h.2.1)), heap_setCell_same wx (w.heap.size + 1) 0 _ _ (.bool false) D, I.setCell (p := ⟨w.heap.size + 1, 0, none⟩) (by simp) _⟩
 case hdone =>
  rintro W ⟨F, g1, D, _, _, I⟩ R;have q2 : W.cell? ⟨w.heap.size + 1, 0, none⟩ = some (.bool false) := by rw [cell_of_row W _ 0 _ _ (0, 0) D]; rfl
  have q3 : W.frozen? ⟨w.heap.size + 1, 0, none⟩ = false := frozen_of_row W _ 0 _ _ D;gi_wp2
  have g8 := heap_setCell_same W (w.heap.size + 1) 0 _ _ (.bool true) D;have lB : (W.setCell ⟨w.heap.size + 1, 0, none⟩ (.bool true)).heap[W0.heap.size]? = some (.deferred (some [])) := (heap_setCell_other W ⟨w.heap.size + 1, 0, none⟩ _ _ (by simp; omega)).trans R;refine ⟨by simp, .inl ⟨_, _, rfl, run_takeDeferred lB, ?_⟩⟩;have g9 := (World.putObj_heap_other (o := .deferred none) (show w.heap.size + 1 ≠ W0.heap.size by omega)).trans g8;have kA := cell_of_row _ _ 0 _ _ (0, 0) g9;refine ⟨.bool true, ?_, ret_bool (waysB_yes F).symm, (I.setCell (p := ⟨w.heap.size + 1, 0, none⟩) (by simp) _).trans ((Below.refl _ _).grown (grownBy_putObj' _ _ _) (by have := (ltH lB); omega) (fun k e => by cases e; omega))⟩;simp at kA
  simp [results, Tryz.results257, go_sem, kA]
 case hstop =>
  rintro x k W hk ⟨rfl, hf, H, I⟩ R;gi_wp2
  refine ⟨by simp, .inl ⟨_, _, rfl, run_takeDeferred R, ?_⟩⟩;have g9 := (World.putObj_heap_other (o := .deferred none) (show w.heap.size + 1 ≠ W0.heap.size by omega)).trans H;have kA := cell_of_row _ _ 0 _ _ (0, 0) g9;refine ⟨.bool false, ?_, ret_bool hf.symm, I.trans ((Below.refl _ _).grown (grownBy_putObj' _ _ _) (by have := (ltH R); omega) (fun k e => by cases e; omega))⟩;simp at kA
  simp [results, Tryz.results257, go_sem, kA]
end Go.Proofs.YtdamokokcdcedaaGreatDoor
