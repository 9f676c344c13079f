import Derived.Test.YtglejdilghcbaaaGreatDoorP00Box
import Derived.Test.YtglejdilghcbaaaGreatDoorP10
namespace Go.Proofs.YtglejdilghcbaaaGreatDoor
open Go.ChangeShapes Go.WideShapes Go.ChangeAt Go.RowKit Go.Shelf
set_option linter.unusedVariables false
attribute [local go_sem] Oper.semAt_some
def wayK (c : CacheD) (m k : Nat) : WayD := (c.1.getD (k / m) []).getD (k % m) emptyW
def UptoOk (c : CacheD) (m k : Nat) : Prop :=
 ∀ j, j < k → clearB (wayK c m j) = true ∨ (fullB isL (wayK c m j) = true ∧ (wayK c m j).1 % (c.1.length : Int) = (j / m : Nat) ∧ ∀ i, i < j → (wayK c m i).1 ≠ (wayK c m j).1)
open Classical in
noncomputable def seenB (c : CacheD) (m k : Nat) (x : Nat) : Bool := decide (∃ j, j < k ∧ (wayK c m j).1 = (x : Int))
open Classical in
noncomputable def waysB (c : CacheD) (m : Nat) : Bool := decide (UptoOk c m (c.1.length * m))
theorem waysB_yes {c : CacheD} {m : Nat} (h : UptoOk c m (c.1.length * m)) : waysB c m = true := by simp [waysB, h]
theorem waysB_no {c : CacheD} {m : Nat} (h : ¬ UptoOk c m (c.1.length * m)) : waysB c m = false := by simp [waysB, h]
theorem upto_next {c : CacheD} {m k : Nat} (h : UptoOk c m k) (hn : clearB (wayK c m k) = true ∨ (fullB isL (wayK c m k) = true ∧ (wayK c m k).1 % (c.1.length : Int) = (k / m : Nat) ∧ ∀ i, i < k → (wayK c m i).1 ≠ (wayK c m k).1)) : UptoOk c m (k + 1) := fun j hj => by
 by_cases a : j < k
 ·exact h j a
 ·have : j = k := by omega
  subst this;exact hn
theorem upto_not {c : CacheD} {m k : Nat} (hk : k < c.1.length * m) (hc : clearB (wayK c m k) = false) (hn : ¬ (fullB isL (wayK c m k) = true ∧ (wayK c m k).1 % (c.1.length : Int) = (k / m : Nat) ∧ ∀ i, i < k → (wayK c m i).1 ≠ (wayK c m k).1)) : waysB c m = false := waysB_no fun h => by
 rcases h k hk with h | h
 ·rw [hc] at h;cases h
 ·exact hn h
theorem seen_zero {c : CacheD} {m x : Nat} : seenB c m 0 x = false := by simp [seenB]
theorem seen_same {c : CacheD} {m k x : Nat} (h : clearB (wayK c m k) = true) : seenB c m (k + 1) x = seenB c m k x := by
 have : (∃ j, j < k + 1 ∧ (wayK c m j).1 = (x : Int)) ↔ ∃ j, j < k ∧ (wayK c m j).1 = (x : Int) := by
  constructor
  ·rintro ⟨j, a, e⟩;by_cases b : j < k
   ·exact ⟨j, b, e⟩
   ·have : j = k := by omega
    subst this;rw [clear_eq h] at e;simp [emptyW] at e
  ·rintro ⟨j, a, e⟩;exact ⟨j, by omega, e⟩
 simp only [seenB, this]
theorem seen_next {c : CacheD} {m k x y : Nat} (h : (wayK c m k).1 = (y : Int)) : seenB c m (k + 1) x = (decide (x = y) || seenB c m k x) := by
 have : (∃ j, j < k + 1 ∧ (wayK c m j).1 = (x : Int)) ↔ (x = y ∨ ∃ j, j < k ∧ (wayK c m j).1 = (x : Int)) := by
  constructor
  ·rintro ⟨j, a, e⟩;by_cases b : j < k
   ·exact .inr ⟨j, b, e⟩
   ·have : j = k := by omega
    subst this;rw [h] at e;left
    omega
  ·rintro (rfl | ⟨j, a, e⟩)
   ·exact ⟨k, by omega, h⟩
   ·exact ⟨j, by omega, e⟩
 simp only [seenB, this, Bool.decide_or]
theorem seen_iff {c : CacheD} {m k x : Nat} : seenB c m k x = true ↔ ∃ j, j < k ∧ (wayK c m j).1 = (x : Int) := by simp [seenB]
theorem setsAt_of {w : World} {a : Option Addr} {xs : List (List WayD)} {m : Nat} (h : SlRd waysR w a xs) (hne : xs ≠ []) (hm : 0 < m) (hrow : ∀ row ∈ xs, row.length = m) :
    ∃ k d f, a = some ⟨k, d, none⟩ ∧ SetsAt w k d xs.length m f ∧ ∀ (i j : Nat) (row : List WayD) (u : WayD), xs[i]? = some row → row[j]? = some u →
     ((f i).way j).line = u.1 ∧ ((f i).way j).state = u.2.1 ∧ ((f i).way j).len = u.2.2.length ∧ u.2.2.length ≤ ((f i).way j).cap ∧ ((f i).way j).cap ≤ maxLen ∧ SlRd intR w ((f i).way j).addr u.2.2 := by
 have p : 0 < xs.length := List.length_pos_iff.2 hne;obtain ⟨k, d, _, _, z, _⟩ := set_at h (List.getElem?_eq_getElem p);have n : ∀ i : Nat, ∃ x : SCells, ∀ row, xs[i]? = some row → (w.cell? ⟨k, d + i, none⟩ = some (sL (some ⟨x.b, x.off, none⟩) m x.cap) ∧ RowAt w x.b x.off m x.way) ∧ ∀ (j : Nat) (u : WayD), row[j]? = some u →
     (x.way j).line = u.1 ∧ (x.way j).state = u.2.1 ∧ (x.way j).len = u.2.2.length ∧ u.2.2.length ≤ (x.way j).cap ∧ (x.way j).cap ≤ maxLen ∧ SlRd intR w (x.way j).addr u.2.2 := by
  intro i;cases q : xs[i]? with
  | none => exact ⟨⟨0, 0, 0, fun _ => ⟨0, 0, none, 0, 0⟩⟩, fun row hr => by cases hr⟩
  | some row =>
   obtain ⟨b', v, aj, A, l, y, -, -, s⟩ := set_at h q;rw [z] at l;cases l;have r := hrow row (List.mem_of_getElem? q);obtain ⟨b, off, c, rfl, o, g⟩ := rowAt_of s (fun e => by rw [e] at r; simp at r; omega);rw [r] at o y;refine ⟨⟨b, off, A, c⟩, fun row' hr => ?_⟩;cases hr;exact ⟨⟨y, o⟩, g⟩
 obtain ⟨f, g⟩ := Classical.axiomOfChoice n;exact ⟨k, d, f, z, fun i q => (g i _ (List.getElem?_eq_getElem q)).1, fun i j row u hr hu => (g i row hr).2 j u hu⟩
theorem setsAt_below {w w' : World} {b0 off0 s m : Nat} {cc : Nat → SCells} (h : SetsAt w b0 off0 s m cc) (hb : Bl w w') (hm : 0 < m) : SetsAt w' b0 off0 s m cc := by
 by_cases a : 0 < s
 ·exact setsAt_keep h (hb.block _ (cell_lt (h 0 a).1)) (fun i hi => hb.block _ (rowAt_lt (h i hi).2 hm))
 ·exact fun i hi => by omega
theorem wayK_get {c : CacheD} {m k : Nat} (hm : 0 < m) (hrow : ∀ row ∈ c.1, row.length = m) (hk : k < c.1.length * m) : ∃ row, c.1[k / m]? = some row ∧ row[k % m]? = some (wayK c m k) := by
 have a : k / m < c.1.length := by rw [Nat.div_lt_iff_lt_mul hm]; exact hk
 have h2 : k % m < m := Nat.mod_lt _ hm;refine ⟨_, List.getElem?_eq_getElem a, ?_⟩;have h3 := hrow _ (List.getElem_mem a);have b : c.1.getD (k / m) [] = c.1[k / m] := by rw [List.getD_eq_getElem?_getD, List.getElem?_eq_getElem a]; rfl
 have : k % m < (c.1[k / m]).length := by omega
 rw [List.getElem?_eq_getElem this];unfold wayK;rw [b, List.getD_eq_getElem?_getD, List.getElem?_eq_getElem this];rfl
set_option maxHeartbeats 400000 in
theorem everyWay_any (u v : Value) (a a' : Option Addr) (n n' cap cap' : Nat) (hu : u = sL a n cap) (hv : v = sL a' n' cap') (w : World) :
    Calls Tryz.prog 187 #[.agg #[u, v]] w fun e w' => e = .returned (.func (.func 221) #[] #[.pointer (some ⟨w.heap.size, 0, none⟩)]) ∧ w' = w.alloc (.cells #[u, v] 61) := by
 subst hu hv;go_enter Tryz.func187, Tryz.ntmps187;go_wp2;go_ret
 exact ⟨rfl, rfl⟩
theorem grown_at (W : World) (g o : Nat) (v : Value) : W.grownBy (W.setCell ⟨g, o, none⟩ v) (some g) := ⟨rfl, rfl, rfl, by simp, fun k _ hk => heap_setCell_other W ⟨g, o, none⟩ k v (fun e => hk (by simp [e]))⟩
def WOk (w : World) (v u : Value) (c : CacheD) (m k : Nat) (W : World) : Prop :=
 UptoOk c m k ∧ W.heap[w.heap.size]? = some (.cells #[v, u] 61 (0, 0)) ∧ W.heap[w.heap.size + 1]? = some (.cells #[.bool false] 4 (0, 0)) ∧
 (∃ cur : Array Value, W.heap[w.heap.size + 1 + 1]? = some (.cells cur 266 (0, 0)) ∧ cur.size = 16 ∧ ∀ x, x < 16 → cur[x]? = some (.bool (seenB c m k x))) ∧
 W.heap[w.heap.size + 1 + 1 + 1]? = some (.cells #[v, u] 61 (0, 0)) ∧ Below w.heap.size w W
theorem wok_own {w : World} {v u : Value} {c : CacheD} {m B : Nat} (hB : w.heap.size ≤ B) : OwnFrom B (fun k W => WOk w v u c m k W) := by
 rintro k X Y a ⟨g, i, n, ⟨f, p, o, l⟩, j, q⟩ d b;exact ⟨g, own_heap (β := Unit) _ _ _ _ () X Y a i d b, own_heap (β := Unit) _ _ _ _ () X Y a n d b, ⟨f, own_heap (β := Unit) _ _ _ _ () X Y a p d b, o, l⟩, own_heap (β := Unit) _ _ _ _ () X Y a j d b, ownFrom_below (β := Unit) (Nat.le_refl _) hB () X Y a q d b⟩
theorem wok_below {w : World} {v u : Value} {c : CacheD} {m k : Nat} {W W' : World} (h : WOk w v u c m k W) (hb : Bl W W') : WOk w v u c m k W' := by
 obtain ⟨b, d, i, ⟨a, l, j, g⟩, f, n⟩ := h;exact ⟨b, row_keep hb d, row_keep hb i, ⟨a, row_keep hb l, j, g⟩, row_keep hb f, below_step n hb⟩
set_option maxHeartbeats 4000000 in
theorem waysOk_any (a b : Option Addr) (c : CacheD) (cap cp m : Nat) (w : World) (h1 : SlRd waysR w a c.1) (hp : c.1.length = 1 ∨ c.1.length = 2 ∨ c.1.length = 4) (hm : m = 1 ∨ m = 2 ∨ m = 4) (hrow : ∀ LA ∈ c.1, LA.length = m) :
    Calls Tryz.prog 211 #[.agg #[sL a c.1.length cap, sL b c.2.length cp]] w fun e A => e = .returned (.bool (waysB c m)) ∧ Bl w A := by
 have AA : 0 < m := by omega
 obtain ⟨r, f, g, rfl, iB, EB⟩ := setsAt_of h1 (fun e => by rw [e] at hp; simp at hp) AA hrow;have HG : Hid (∀ k, k < c.1.length * m → ((g (k / m)).way (k % m)).line = (wayK c m k).1 ∧ ((g (k / m)).way (k % m)).state = (wayK c m k).2.1 ∧ ((g (k / m)).way (k % m)).len = (wayK c m k).2.2.length ∧ (wayK c m k).2.2.length ≤ maxLen ∧ SlRd intR w ((g (k / m)).way (k % m)).addr (wayK c m k).2.2) := fun k hk => by
  obtain ⟨LA, e1, e2⟩ := wayK_get AA hrow hk;obtain ⟨q1, q2, q3, q4, q5, q6⟩ := EB _ _ LA _ e1 e2;exact ⟨q1, q2, q3, Nat.le_trans q4 q5, q6⟩
 have HP : Hid (c.1.length = 1 ∨ c.1.length = 2 ∨ c.1.length = 4) := hp;have HM : Hid (m = 1 ∨ m = 2 ∨ m = 4) := hm;have HA : Hid _ := iB;clear h1 EB hrow hp hm iB;refine (callsIn_wide (n := 0)).1 ?_;refine callsIn_of_wp_marks Tryz.func211 rfl trivial ?_ rfl;simp only [Tryz.ntmps211, List.size_toArray, List.length_cons, List.length_nil, Nat.reduceAdd, Nat.reduceSub, Array.replicate_succ, Array.replicate_zero, List.push_toArray, List.append_toArray, List.nil_append, List.cons_append];gi_wp2
 refine ⟨trivial, rfl, (callsIn_wide.2 (everyWay_any _ _ _ _ _ _ _ _ rfl rfl _)).mono ?_⟩;rintro e A ⟨rfl, rfl⟩;gi_wp2
 have qB : Bl w ((((w.alloc (.cells #[sL (some ⟨r, f, none⟩) c.1.length cap, sL b c.2.length cp] 61)).alloc (.cells #[.bool false] 4)).alloc (.cells #[.bool false, .bool false, .bool false, .bool false, .bool false, .bool false, .bool false, .bool false, .bool false, .bool false, .bool false, .bool false, .bool false, .bool false, .bool false, .bool false] 266)).alloc (.cells #[sL (some ⟨r, f, none⟩) c.1.length cap, sL b c.2.length cp] 61)) := ((((Below.refl _ w).alloc (Nat.le_refl _) _).alloc (by simp) _).alloc (by simp; omega) _).alloc (by simp; omega) _;have k0 := heap_on (.cells #[sL (some ⟨r, f, none⟩) c.1.length cap, sL b c.2.length cp] 61) (heap_on (.cells #[.bool false, .bool false, .bool false, .bool false, .bool false, .bool false, .bool false, .bool false, .bool false, .bool false, .bool false, .bool false, .bool false, .bool false, .bool false, .bool false] 266) (heap_on (.cells #[.bool false] 4) (heap_at w (.cells #[sL (some ⟨r, f, none⟩) c.1.length cap, sL b c.2.length cp] 61))));have k1 := heap_on (.cells #[sL (some ⟨r, f, none⟩) c.1.length cap, sL b c.2.length cp] 61) (heap_on (.cells #[.bool false, .bool false, .bool false, .bool false, .bool false, .bool false, .bool false, .bool false, .bool false, .bool false, .bool false, .bool false, .bool false, .bool false, .bool false, .bool false] 266) (heap_at (w.alloc (.cells #[sL (some ⟨r, f, none⟩) c.1.length cap, sL b c.2.length cp] 61)) (.cells #[.bool false] 4)));have k2 := heap_on (.cells #[sL (some ⟨r, f, none⟩) c.1.length cap, sL b c.2.length cp] 61) (heap_at ((w.alloc (.cells #[sL (some ⟨r, f, none⟩) c.1.length cap, sL b c.2.length cp] 61)).alloc (.cells #[.bool false] 4)) (.cells #[.bool false, .bool false, .bool false, .bool false, .bool false, .bool false, .bool false, .bool false, .bool false, .bool false, .bool false, .bool false, .bool false, .bool false, .bool false, .bool false] 266));have k3 := heap_at (((w.alloc (.cells #[sL (some ⟨r, f, none⟩) c.1.length cap, sL b c.2.length cp] 61)).alloc (.cells #[.bool false] 4)).alloc (.cells #[.bool false, .bool false, .bool false, .bool false, .bool false, .bool false, .bool false, .bool false, .bool false, .bool false, .bool false, .bool false, .bool false, .bool false, .bool false, .bool false] 266)) (.cells #[sL (some ⟨r, f, none⟩) c.1.length cap, sL b c.2.length cp] 61);have e4 : ((((w.alloc (.cells #[sL (some ⟨r, f, none⟩) c.1.length cap, sL b c.2.length cp] 61)).alloc (.cells #[.bool false] 4)).alloc (.cells #[.bool false, .bool false, .bool false, .bool false, .bool false, .bool false, .bool false, .bool false, .bool false, .bool false, .bool false, .bool false, .bool false, .bool false, .bool false, .bool false] 266)).alloc (.cells #[sL (some ⟨r, f, none⟩) c.1.length cap, sL b c.2.length cp] 61)).heap.size = w.heap.size + 1 + 1 + 1 + 1 := by simp
 rw [alloc_len] at k1;rw [alloc_len, alloc_len] at k2;rw [alloc_len, alloc_len, alloc_len] at k3;have eB : WOk w (sL (some ⟨r, f, none⟩) c.1.length cap) (sL b c.2.length cp) c m 0 ((((w.alloc (.cells #[sL (some ⟨r, f, none⟩) c.1.length cap, sL b c.2.length cp] 61)).alloc (.cells #[.bool false] 4)).alloc (.cells #[.bool false, .bool false, .bool false, .bool false, .bool false, .bool false, .bool false, .bool false, .bool false, .bool false, .bool false, .bool false, .bool false, .bool false, .bool false, .bool false] 266)).alloc (.cells #[sL (some ⟨r, f, none⟩) c.1.length cap, sL b c.2.length cp] 61)) := by
  refine ⟨fun j hj => by omega, k0, k1, ⟨_, k2, rfl, fun x hx => ?_⟩, k3, qB⟩;rw [seen_zero];rcases x with _ | _ | _ | _ | _ | _ | _ | _ | _ | _ | _ | _ | _ | _ | _ | _ | x <;> first | rfl | omega
 clear k0 k1 k2 k3 qB;generalize (((w.alloc (.cells #[sL (some ⟨r, f, none⟩) c.1.length cap, sL b c.2.length cp] 61)).alloc (.cells #[.bool false] 4)).alloc (.cells #[.bool false, .bool false, .bool false, .bool false, .bool false, .bool false, .bool false, .bool false, .bool false, .bool false, .bool false, .bool false, .bool false, .bool false, .bool false, .bool false] 266)).alloc (.cells #[sL (some ⟨r, f, none⟩) c.1.length cap, sL b c.2.length cp] 61) = W0 at e4 eB ⊢;refine range_iter (N := c.1.length * m) (lb := #[.pointer (some ⟨w.heap.size + 1 + 1 + 1, 0, none⟩)]) (gf := 221) rfl (enters_of Tryz.func221 (by kernel_rfl) rfl)
  (everyWay1_iter (w.heap.size + 1 + 1 + 1) r f c.1.length m cap g (by have := HP.out; omega) (by have := HM.out; omega) (by have := HP.out; omega) AA) (fun _ => rfl)
  (fun k W => WOk w (sL (some ⟨r, f, none⟩) c.1.length cap) (sL b c.2.length cp) c m k W)
  (fun x k W => x = .ret ∧ waysB c m = false ∧ W.heap[w.heap.size + 1]? = some (.cells #[.bool false] 4 (0, 0)) ∧ Bl w W)
  (wok_own (by omega)) (fun x => OwnFrom.and (ownFrom_pure _ _) (OwnFrom.and (ownFrom_pure _ _) (OwnFrom.and (own_heap _ _ _ _) (ownFrom_below (Nat.le_refl _) (by omega))))) ?hR eB
  (fun k a' W => ∃ B4 B5, W0.heap.size < B4 ∧ W0.heap.size < B5 ∧ W.heap[B4]? = some (.cells #[nI (k / m : Nat), nI (k % m : Nat)] 223 (0, 0)) ∧ W.heap[B5]? = some (.cells #[nI ((g (k / m)).way (k % m)).line, nI ((g (k / m)).way (k % m)).state, .slice ((g (k / m)).way (k % m)).addr ((g (k / m)).way (k % m)).len ((g (k / m)).way (k % m)).cap] 64 (0, 0)) ∧ WOk w (sL (some ⟨r, f, none⟩) c.1.length cap) (sL b c.2.length cp) c m k W ∧
   a' = { tmps := #[.agg #[sL (some ⟨r, f, none⟩) c.1.length cap, sL b c.2.length cp], .pointer (some ⟨w.heap.size, 0, none⟩), .pointer (some ⟨w.heap.size + 1, 0, none⟩), .pointer (some ⟨w.heap.size + 1 + 1, 0, none⟩), .pointer (some ⟨B4, 0, none⟩), .pointer (some ⟨B5, 0, none⟩), .agg #[sL (some ⟨r, f, none⟩) c.1.length cap, sL b c.2.length cp], .func (.func 221) #[] #[.pointer (some ⟨w.heap.size + 1 + 1 + 1, 0, none⟩)], .agg #[nI (k / m : Nat), nI (k % m : Nat)], ((g (k / m)).way (k % m)).agg, undef, undef, undef, undef, undef, undef, undef, undef, undef, undef, undef, undef, undef, undef, undef, undef, undef, undef, undef, undef, undef, undef, undef], defers := [] })
  ?hA ?hassign ?hbody ?hdone ?hstop
 case hR =>
  rintro k W ⟨_, _, _, _, g6, I⟩;exact ⟨by rw [cell_of_row W _ 0 _ _ (0, 0) g6]; rfl, setsAt_below HA.out I AA⟩
 case hA =>
  rintro k a' ⟨⟩ X Y nA ⟨B4, B5, l4, l5, g4, O, F, rfl⟩ hg hr;exact ⟨B4, B5, l4, l5, own_heap (β := Unit) _ _ _ _ () X Y nA g4 hg hr, own_heap (β := Unit) _ _ _ _ () X Y nA O hg hr, wok_own (B := W0.heap.size) (by omega) k X Y nA F hg hr, rfl⟩
 case hassign =>
  rintro k W K hk F zB J;gi_wp2
  have z1 := box_below W (.cells #[nI (k / m : Nat), nI (k % m : Nat)] 223);have z2 := box_below (W.alloc (.cells #[nI (k / m : Nat), nI (k % m : Nat)] 223)) (.cells #[nI ((g (k / m)).way (k % m)).line, nI ((g (k / m)).way (k % m)).state, .slice ((g (k / m)).way (k % m)).addr ((g (k / m)).way (k % m)).len ((g (k / m)).way (k % m)).cap] 64);have z3 := heap_at (W.alloc (.cells #[nI (k / m : Nat), nI (k % m : Nat)] 223)) (.cells #[nI ((g (k / m)).way (k % m)).line, nI ((g (k / m)).way (k % m)).state, .slice ((g (k / m)).way (k % m)).addr ((g (k / m)).way (k % m)).len ((g (k / m)).way (k % m)).cap] 64);rw [alloc_len] at z3;exact J _ _ (Kept.below (below_step z1 z2)) ⟨W.heap.size, W.heap.size + 1, by omega, by omega, heap_on _ (heap_at _ _), z3, wok_below (wok_below F z1) z2, rfl⟩
 case hbody =>
  rintro k a' V hk ⟨B4, B5, l4, l5, g4, O, F, rfl⟩ zB hD hL;obtain ⟨q1, q2, q3, q4, q5⟩ := HG.out k hk;have HU : Hid (wayK c m k = ((wayK c m k).1, (wayK c m k).2.1, (wayK c m k).2.2)) := rfl;rw [q1, q2, q3] at O;have BB : ((g (k / m)).way (k % m)).agg = .agg #[nI (wayK c m k).1, nI (wayK c m k).2.1, .slice ((g (k / m)).way (k % m)).addr (wayK c m k).2.2.length ((g (k / m)).way (k % m)).cap] := by rw [WCells.agg, q1, q2, q3]
  rw [BB];clear BB q1 q2 q3;generalize ((g (k / m)).way (k % m)).addr = ad at O q5 ⊢;generalize ((g (k / m)).way (k % m)).cap = cpw at O ⊢;have pA : Hid (∀ {x}, clearB (wayK c m k) = x → clrB (wayK c m k).1 (wayK c m k).2.1 (wayK c m k).2.2.length = x) := fun h => by rw [clr_eq]; exact h
  have jA : Hid (∀ {x}, fullB isL (wayK c m k) = x → fullB isL ((wayK c m k).1, (wayK c m k).2.1, (wayK c m k).2.2) = x) := fun h => h;have HY : Hid (∀ x : Nat, seenB c m k x = true ↔ ∃ j, j < k ∧ (wayK c m j).1 = (x : Int)) := fun x => seen_iff;have gB : Hid ((wayK c m k).1 = (wayK c m k).1) := rfl;generalize hl : (wayK c m k).1 = l at O pA jA gB ⊢;generalize (wayK c m k).2.1 = st at O pA jA ⊢;generalize (wayK c m k).2.2 = d at O q4 q5 pA jA ⊢;clear gB HU;have HL : Hid ((wayK c m k).1 = l) := hl;clear hl;obtain ⟨x0, x1, x2⟩ := cells_three O;obtain ⟨y0, y1⟩ := cells_two g4;cases L : clearB (wayK c m k)
  case true =>
   have HE : Hid (∀ W, Calls Tryz.prog 214 #[.agg #[nI l, nI st, sL ad d.length cpw]] W fun e A => e = .returned (.bool true) ∧ Bl W A) := fun W => by have := implEmpty_any l st ad d.length cpw W q4; rwa [pA.out L] at this
   gi_wp2
   refine ⟨trivial, rfl, (CallsIn.inRound _ (callsIn_wide.2 (HE.out _))).mono ?_⟩;rintro e C ⟨rfl, b1⟩;gi_wp2
   obtain ⟨F, g1, D, ⟨BA, g3, yA, U⟩, g6, I⟩ := wok_below F b1;exact ⟨Kept.below b1, upto_next F (.inl L), g1, D, ⟨BA, g3, yA, fun x hx => by rw [seen_same L]; exact U x hx⟩, g6, I⟩
  case false =>
   have HE : Hid (∀ W, Calls Tryz.prog 214 #[.agg #[nI l, nI st, sL ad d.length cpw]] W fun e A => e = .returned (.bool false) ∧ Bl W A) := fun W => by have := implEmpty_any l st ad d.length cpw W q4; rwa [pA.out L] at this
   gi_wp2
   refine ⟨trivial, rfl, (CallsIn.inRound _ (callsIn_wide.2 (HE.out _))).mono ?_⟩;rintro e C ⟨rfl, b1⟩;have K1 := wok_below F b1;have sB : SlRd intR C ad d := slrd_next q5 K1.2.2.2.2.2;obtain ⟨z0, z1⟩ := cells_two K1.2.1;replace O := row_keep b1 O;replace g4 := row_keep b1 g4;clear x0 x1 x2 y0 y1 HE;obtain ⟨x0, x1, x2⟩ := cells_three O;obtain ⟨y0, y1⟩ := cells_two g4;gi_wp2
   have m0 : ∀ n : Cls (fun wx => Bl C wx), n.w.cell? ⟨B5, 0, none⟩ = some (nI l) := fun n => cell_keep n.h x0 (cell_lt x0);have m1 : ∀ n : Cls (fun wx => Bl C wx), n.w.cell? ⟨B5, 1, none⟩ = some (nI st) := fun n => cell_keep n.h x1 (cell_lt x1);have m2 : ∀ n : Cls (fun wx => Bl C wx), n.w.cell? ⟨B5, 2, none⟩ = some (sL ad d.length cpw) := fun n => cell_keep n.h x2 (cell_lt x2);have m3 : ∀ n : Cls (fun wx => Bl C wx), n.w.cell? ⟨B4, 0, none⟩ = some (nI (k / m : Nat)) := fun n => cell_keep n.h y0 (cell_lt y0);have n0 : ∀ n : Cls (fun wx => Bl C wx), n.w.cell? ⟨w.heap.size, 0, none⟩ = some (sL (some ⟨r, f, none⟩) c.1.length cap) := fun n => cell_keep n.h z0 (cell_lt z0);have n1 : ∀ n : Cls (fun wx => Bl C wx), n.w.cell? ⟨w.heap.size, 1, none⟩ = some (sL b c.2.length cp) := fun n => cell_keep n.h z1 (cell_lt z1);have aA : Hid (∀ n : Cls (fun wx => Bl C wx), SlRd intR n.w ad d) := fun n => slrd_next sB n.h;have X5 : Hid (∀ wx, Bl C wx → wx.cell? ⟨B5, 0, none⟩ = some (nI l)) := fun wx h => cell_keep h x0 (cell_lt x0);have HK : Hid _ := K1;clear K1 x0 x1 x2 y0 y1 z0 z1 sB F q5 hD hL g4 O zB l4 l5;have K1 := HK.out;cases eA : fullB isL (wayK c m k)
   case false =>
    have HF : Hid (∀ W, SlRd intR W ad d → Calls Tryz.prog 216 #[.agg #[nI l, nI st, sL ad d.length cpw]] W fun e A => e = .returned (.bool false) ∧ Bl W A) := fun W h => by have := implFull_any l st d ad cpw W h; rwa [jA.out eA] at this
    refine regionIn_class (fun wx => Bl C wx) (by kernel_rfl) (by kernel_rfl) (by kernel_rfl) ((Below.refl _ C).drew) ?_;intro M;iterate 3 (quiet_step ((go_at_call 216; exact calls_class (HF.out _ (aA.out _)) (fun A hc bb => below_step hc bb))))
    refine wpQuiet_step (fun K J => ?_);go_simp
    refine hid_act K _ ?_;intro A0 oA;refine J A0 ?_;clear J K;have lA : A0.tmps[15]? = some (.bool true) := by rw [oA]; rfl
    refine wpQuiet_skip (b := false) (d := 15) lA rfl rfl rfl (by decide) ?_;intro FB T s;clear lA;refine wpQuiet_skip (b := false) (d := 15) s rfl rfl rfl (by decide) ?_;intro AB G z;clear s;refine wpQuiet_skip (b := false) (d := 15) z rfl rfl rfl (by decide) ?_;intro lB H v;clear z;refine wpQuiet_skip (b := false) (d := 15) v rfl rfl rfl (by decide) ?_;intro rB R E;clear v;refine wpQuiet_skip (b := false) (d := 15) E rfl rfl rfl (by decide) ?_;intro BC FA mA;clear E;refine wpQuiet_skip (b := false) (d := 15) mA rfl rfl rfl (by decide) ?_;intro vC GA fA;clear mA;refine wpQuiet_skip (b := false) (d := 15) fA rfl rfl rfl (by decide) ?_;intro qC TA RA;clear fA RA;subst TA GA FA R H G T;subst oA;quiet_step (skip)
    refine wpQuiet_step (fun K J => ?_);go_simp
    refine hid_act K _ ?_;intro A1 dB;refine J A1 ?_;clear J K;have yB : A1.tmps[24]? = some (.bool true) := by rw [dB]; rfl
    refine wpQuiet_skip (b := false) (d := 24) yB rfl rfl rfl (by decide) ?_;intro sC JA dA;clear yB;refine wpQuiet_skip (b := false) (d := 24) dA rfl rfl rfl (by decide) ?_;intro zC NA rA;clear dA;refine wpQuiet_skip (b := false) (d := 24) rA rfl rfl rfl (by decide) ?_;intro DC KA iA;clear rA;refine wpQuiet_skip (b := false) (d := 24) iA rfl rfl rfl (by decide) ?_;intro pC MA VA;clear iA VA;subst MA KA NA JA;subst dB;quiet_step (skip)
    refine wpQuiet_nil ?_;intro wx b2;clear m0 m1 m2 m3 n0 n1 M;obtain ⟨F, g1, D, g3, g6, I⟩ := wok_below K1 b2;have r2 : wx.cell? ⟨w.heap.size + 1, 0, none⟩ = some (.bool false) := by rw [cell_of_row wx _ 0 _ _ (0, 0) D]; rfl
    have r3 : wx.frozen? ⟨w.heap.size + 1, 0, none⟩ = false := frozen_of_row wx _ 0 _ _ D;gi_wp2
    refine ⟨Kept.trans (Kept.below (below_step b1 b2)) (Kept.chg (S := fun j => j = w.heap.size + 1) (chg_grown (grownBy_setCell' wx (w.heap.size + 1) _) rfl) (fun j e => by omega)), rfl, upto_not hk L (fun h => by rw [eA] at h; exact absurd h.1 (by simp)), heap_setCell_same wx (w.heap.size + 1) 0 _ _ (.bool false) D, I.setCell (p := ⟨w.heap.size + 1, 0, none⟩) (by simp) _⟩
   case true =>
    have gA := full_line eA;rw [HL.out] at gA;obtain ⟨x, rfl⟩ : ∃ x : Nat, l = (x : Int) := ⟨l.toNat, by omega⟩;have Z : x < 16 := by omega
    have fC : (x : Int) < 16 := by omega
    have HF : Hid (∀ W, SlRd intR W ad d → Calls Tryz.prog 216 #[.agg #[nI (x : Int), nI st, sL ad d.length cpw]] W fun e A => e = .returned (.bool true) ∧ Bl W A) := fun W h => by have := implFull_any (x : Int) st d ad cpw W h; rwa [jA.out eA] at this
    have bA : ∀ W, Calls Tryz.prog 238 #[.agg #[sL (some ⟨r, f, none⟩) c.1.length cap, sL b c.2.length cp], nI (x : Int)] W fun e A => e = .returned (nI ((x : Int) % (c.1.length : Int))) ∧ Bl W A := fun W => setOf_any _ _ _ _ _ _ _ rfl _ W HP.out (by omega);by_cases hq : (x : Int) % (c.1.length : Int) = (k / m : Nat)
    ·have HS : Hid (∀ W, Calls Tryz.prog 238 #[.agg #[sL (some ⟨r, f, none⟩) c.1.length cap, sL b c.2.length cp], nI (x : Int)] W fun e A => e = .returned (nI ((k / m : Nat) : Int)) ∧ Bl W A) := by rw [hq] at bA; exact bA
     have HQ : Hid ((x : Int) % (c.1.length : Int) = (k / m : Nat)) := hq;clear bA hq gA;cases kA : seenB c m k x
     case true =>
      have m4 : ∀ n : Cls (fun wx => Bl C wx), n.w.cell? ⟨w.heap.size + 1 + 1, x, none⟩ = some (.bool true) := fun n => by
       obtain ⟨-, -, -, ⟨BA, c1, -, c3⟩, -, -⟩ := wok_below HK.out n.h;rw [cell_of_row n.w _ x _ _ (0, 0) c1, c3 x Z, kA]
      refine regionIn_class (fun wx => Bl C wx) (by kernel_rfl) (by kernel_rfl) (by kernel_rfl) ((Below.refl _ C).drew) ?_;intro M;repeat (quiet_step (first | (go_at_call 216; exact calls_class (HF.out _ (aA.out _)) (fun A hc bb => below_step hc bb)) | (go_at_call 238; exact calls_class (HS.out _) (fun A hc bb => below_step hc bb))))
      refine wpQuiet_nil ?_;intro wx b2;clear m0 m1 m2 m3 n0 n1 M m4;obtain ⟨F, g1, D, g3, g6, I⟩ := wok_below K1 b2;have r2 : wx.cell? ⟨w.heap.size + 1, 0, none⟩ = some (.bool false) := by rw [cell_of_row wx _ 0 _ _ (0, 0) D]; rfl
      have r3 : wx.frozen? ⟨w.heap.size + 1, 0, none⟩ = false := frozen_of_row wx _ 0 _ _ D;gi_wp2
      refine ⟨Kept.trans (Kept.below (below_step b1 b2)) (Kept.chg (S := fun j => j = w.heap.size + 1) (chg_grown (grownBy_setCell' wx (w.heap.size + 1) _) rfl) (fun j e => by omega)), rfl, upto_not hk L (fun h => by obtain ⟨j, hj, e⟩ := (HY.out x).1 kA; exact h.2.2 j hj (by rw [e, HL.out])), heap_setCell_same wx (w.heap.size + 1) 0 _ _ (.bool false) D, I.setCell (p := ⟨w.heap.size + 1, 0, none⟩) (by simp) _⟩
     case false =>
      have m4 : ∀ n : Cls (fun wx => Bl C wx), n.w.cell? ⟨w.heap.size + 1 + 1, x, none⟩ = some (.bool false) := fun n => by
       obtain ⟨-, -, -, ⟨BA, c1, -, c3⟩, -, -⟩ := wok_below HK.out n.h;rw [cell_of_row n.w _ x _ _ (0, 0) c1, c3 x Z, kA]
      refine regionIn_class (fun wx => Bl C wx) (by kernel_rfl) (by kernel_rfl) (by kernel_rfl) ((Below.refl _ C).drew) ?_;intro M;repeat (quiet_step (first | (go_at_call 216; exact calls_class (HF.out _ (aA.out _)) (fun A hc bb => below_step hc bb)) | (go_at_call 238; exact calls_class (HS.out _) (fun A hc bb => below_step hc bb))))
      refine wpQuiet_nil ?_;intro wx b2;clear m0 m1 m2 m3 n0 n1 M m4;obtain ⟨F, g1, D, ⟨BA, g3, yA, U⟩, g6, I⟩ := wok_below K1 b2;have r2 : wx.cell? ⟨w.heap.size + 1 + 1, x, none⟩ = some (.bool false) := by rw [cell_of_row wx _ x _ _ (0, 0) g3, U x Z, kA]
      have r3 : wx.frozen? ⟨w.heap.size + 1 + 1, x, none⟩ = false := frozen_of_row wx _ x _ _ g3;have r4 := X5.out wx b2;gi_wp2
      refine ⟨Kept.trans (Kept.below (below_step b1 b2)) (Kept.chg (S := fun j => j = w.heap.size + 1 + 1) (chg_grown (grown_at wx _ _ _) rfl) (fun j e => by omega)), upto_next F (.inr ⟨eA, by rw [HL.out]; exact HQ.out, fun i hi e => ?_⟩), (heap_setCell_other wx ⟨w.heap.size + 1 + 1, x, none⟩ _ _ (by simp; omega)).trans g1, (heap_setCell_other wx ⟨w.heap.size + 1 + 1, x, none⟩ _ _ (by simp)).trans D, ⟨_, heap_setCell_same wx (w.heap.size + 1 + 1) x _ _ (.bool true) g3, by simpa using yA, fun y hy => ?_⟩, (heap_setCell_other wx ⟨w.heap.size + 1 + 1, x, none⟩ _ _ (by simp)).trans g6, I.setCell (p := ⟨w.heap.size + 1 + 1, x, none⟩) (by simp; omega) _⟩
      ·rw [HL.out] at e;have := (HY.out x).2 ⟨i, hi, e⟩;rw [kA] at this;cases this
      ·rw [seen_next HL.out, Array.getElem?_setIfInBounds];by_cases jB : x = y
       ·subst jB;simp [yA, Z]
       ·rw [if_neg jB, U y hy];have : decide (y = x) = false := by simp; omega
        rw [this, Bool.false_or]
    ·have HQ : Hid (¬ (x : Int) % (c.1.length : Int) = (k / m : Nat)) := hq;have vB : (((x : Int) % (c.1.length : Int)) != (k : Int) / (m : Int)) = true := by rw [show (k : Int) / (m : Int) = ((k / m : Nat) : Int) from rfl]; simpa using hq
     generalize (x : Int) % (c.1.length : Int) = q at bA vB;have HS : Hid _ := bA;clear bA hq gA;refine regionIn_class (fun wx => Bl C wx) (by kernel_rfl) (by kernel_rfl) (by kernel_rfl) ((Below.refl _ C).drew) ?_;intro M;iterate 11 (quiet_step (first | (go_at_call 216; exact calls_class (HF.out _ (aA.out _)) (fun A hc bb => below_step hc bb)) | (go_at_call 238; exact calls_class (HS.out _) (fun A hc bb => below_step hc bb))))
     clear vB;quiet_step (skip)
     refine wpQuiet_step (fun K J => ?_);go_simp
     refine hid_act K _ ?_;intro A0 oA;refine J A0 ?_;clear J K;have lA : A0.tmps[24]? = some (.bool true) := by rw [oA]; rfl
     refine wpQuiet_skip (b := false) (d := 24) lA rfl rfl rfl (by decide) ?_;intro FB T s;clear lA;refine wpQuiet_skip (b := false) (d := 24) s rfl rfl rfl (by decide) ?_;intro AB G z;clear s;refine wpQuiet_skip (b := false) (d := 24) z rfl rfl rfl (by decide) ?_;intro lB H v;clear z;refine wpQuiet_skip (b := false) (d := 24) v rfl rfl rfl (by decide) ?_;intro rB R E;clear v E;subst R H G T;subst oA;quiet_step (skip)
     refine wpQuiet_nil ?_;intro wx b2;clear m0 m1 m2 m3 n0 n1 M;obtain ⟨F, g1, D, g3, g6, I⟩ := wok_below K1 b2;have r2 : wx.cell? ⟨w.heap.size + 1, 0, none⟩ = some (.bool false) := by rw [cell_of_row wx _ 0 _ _ (0, 0) D]; rfl
     have r3 : wx.frozen? ⟨w.heap.size + 1, 0, none⟩ = false := frozen_of_row wx _ 0 _ _ D;gi_wp2
     refine ⟨Kept.trans (Kept.below (below_step b1 b2)) (Kept.chg (S := fun j => j = w.heap.size + 1) (chg_grown (grownBy_setCell' wx (w.heap.size + 1) _) rfl) (fun j e => by omega)), rfl, upto_not hk L (fun h => HQ.out (by rw [← HL.out]; exact h.2.1)), heap_setCell_same wx (w.heap.size + 1) 0 _ _ (.bool false) D, I.setCell (p := ⟨w.heap.size + 1, 0, none⟩) (by simp) _⟩
 case hdone =>
  rintro W ⟨F, g1, D, _, _, I⟩ J;have q2 : W.cell? ⟨w.heap.size + 1, 0, none⟩ = some (.bool false) := by rw [cell_of_row W _ 0 _ _ (0, 0) D]; rfl
  have q3 : W.frozen? ⟨w.heap.size + 1, 0, none⟩ = false := frozen_of_row W _ 0 _ _ D;gi_wp2
  have g8 := heap_setCell_same W (w.heap.size + 1) 0 _ _ (.bool true) D;have nB : (W.setCell ⟨w.heap.size + 1, 0, none⟩ (.bool true)).heap[W0.heap.size]? = some (.deferred (some [])) := (heap_setCell_other W ⟨w.heap.size + 1, 0, none⟩ _ _ (by simp; omega)).trans J;refine ⟨by simp, .inl ⟨_, _, rfl, run_takeDeferred nB, ?_⟩⟩;have g9 := (World.putObj_heap_other (o := .deferred none) (show w.heap.size + 1 ≠ W0.heap.size by omega)).trans g8;have qA := cell_of_row _ _ 0 _ _ (0, 0) g9;refine ⟨.bool true, ?_, ret_bool (waysB_yes F).symm, (I.setCell (p := ⟨w.heap.size + 1, 0, none⟩) (by simp) _).trans ((Below.refl _ _).grown (grownBy_putObj' _ _ _) (by have := (ltH nB); omega) (fun k e => by cases e; omega))⟩;simp at qA
  simp [results, Tryz.results211, go_sem, qA]
 case hstop =>
  rintro x k W hk ⟨rfl, hf, O, I⟩ J;gi_wp2
  refine ⟨by simp, .inl ⟨_, _, rfl, run_takeDeferred J, ?_⟩⟩;have g9 := (World.putObj_heap_other (o := .deferred none) (show w.heap.size + 1 ≠ W0.heap.size by omega)).trans O;have qA := cell_of_row _ _ 0 _ _ (0, 0) g9;refine ⟨.bool false, ?_, ret_bool hf.symm, I.trans ((Below.refl _ _).grown (grownBy_putObj' _ _ _) (by have := (ltH J); omega) (fun k e => by cases e; omega))⟩;simp at qA
  simp [results, Tryz.results211, go_sem, qA]
end Go.Proofs.YtglejdilghcbaaaGreatDoor
