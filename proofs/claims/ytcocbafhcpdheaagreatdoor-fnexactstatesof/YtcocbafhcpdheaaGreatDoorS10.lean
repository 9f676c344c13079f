import Derived.Test.YtcocbafhcpdheaaGreatDoorS00Box
import Derived.Test.YtcocbafhcpdheaaGreatDoorS09
namespace Go.Proofs.YtcocbafhcpdheaaGreatDoor
open Go.ChangeShapes Go.WideShapes Go.ChangeAt Go.RowKit Go.Shelf
set_option linter.unusedVariables false
attribute [local go_sem] Oper.semAt_some
def wayK (c : CacheD) (m k : Nat) : WayD := (c.1.getD (k / m) []).getD (k % m) emptyW
def UptoOk (c : CacheD) (m k : Nat) : Prop :=
 ∀ j, j < k → clearB (wayK c m j) = true ∨ (fullB isL (wayK c m j) = true ∧ (wayK c m j).1 % (c.1.length : Int) = (j / m : Nat) ∧ ∀ i, i < j → (wayK c m i).1 ≠ (wayK c m j).1)
open Classical in
noncomputable def seenB (c : CacheD) (m k : Nat) (x : Nat) : Bool := decide (∃ j, j < k ∧ (wayK c m j).1 = (x : Int))
open Classical in
noncomputable def waysB (c : CacheD) (m : Nat) : Bool := decide (UptoOk c m (c.1.length * m))
theorem waysB_yes {c : CacheD} {m : Nat} (h : UptoOk c m (c.1.length * m)) : waysB c m = true := by simp [waysB, h]
theorem waysB_no {c : CacheD} {m : Nat} (h : ¬ UptoOk c m (c.1.length * m)) : waysB c m = false := by simp [waysB, h]
theorem upto_next {c : CacheD} {m k : Nat} (h : UptoOk c m k) (hn : clearB (wayK c m k) = true ∨ (fullB isL (wayK c m k) = true ∧ (wayK c m k).1 % (c.1.length : Int) = (k / m : Nat) ∧ ∀ i, i < k → (wayK c m i).1 ≠ (wayK c m k).1)) : UptoOk c m (k + 1) := fun j hj => by
 by_cases a : j < k
 ·exact h j a
 ·have : j = k := by omega
  subst this;exact hn
theorem upto_not {c : CacheD} {m k : Nat} (hk : k < c.1.length * m) (hc : clearB (wayK c m k) = false) (hn : ¬ (fullB isL (wayK c m k) = true ∧ (wayK c m k).1 % (c.1.length : Int) = (k / m : Nat) ∧ ∀ i, i < k → (wayK c m i).1 ≠ (wayK c m k).1)) : waysB c m = false := waysB_no fun h => by
 rcases h k hk with h | h
 ·rw [hc] at h;cases h
 ·exact hn h
theorem seen_zero {c : CacheD} {m x : Nat} : seenB c m 0 x = false := by simp [seenB]
theorem seen_same {c : CacheD} {m k x : Nat} (h : clearB (wayK c m k) = true) : seenB c m (k + 1) x = seenB c m k x := by
 have : (∃ j, j < k + 1 ∧ (wayK c m j).1 = (x : Int)) ↔ ∃ j, j < k ∧ (wayK c m j).1 = (x : Int) := by
  constructor
  ·rintro ⟨j, a, e⟩;by_cases b : j < k
   ·exact ⟨j, b, e⟩
   ·have : j = k := by omega
    subst this;rw [clear_eq h] at e;simp [emptyW] at e
  ·rintro ⟨j, a, e⟩;exact ⟨j, by omega, e⟩
 simp only [seenB, this]
theorem seen_next {c : CacheD} {m k x y : Nat} (h : (wayK c m k).1 = (y : Int)) : seenB c m (k + 1) x = (decide (x = y) || seenB c m k x) := by
 have : (∃ j, j < k + 1 ∧ (wayK c m j).1 = (x : Int)) ↔ (x = y ∨ ∃ j, j < k ∧ (wayK c m j).1 = (x : Int)) := by
  constructor
  ·rintro ⟨j, a, e⟩;by_cases b : j < k
   ·exact .inr ⟨j, b, e⟩
   ·have : j = k := by omega
    subst this;rw [h] at e;left
    omega
  ·rintro (rfl | ⟨j, a, e⟩)
   ·exact ⟨k, by omega, h⟩
   ·exact ⟨j, by omega, e⟩
 simp only [seenB, this, Bool.decide_or]
theorem seen_iff {c : CacheD} {m k x : Nat} : seenB c m k x = true ↔ ∃ j, j < k ∧ (wayK c m j).1 = (x : Int) := by simp [seenB]
theorem setsAt_of {w : World} {a : Option Addr} {xs : List (List WayD)} {m : Nat} (h : SlRd waysR w a xs) (hne : xs ≠ []) (hm : 0 < m) (hrow : ∀ row ∈ xs, row.length = m) :
    ∃ l d f, a = some ⟨l, d, none⟩ ∧ SetsAt w l d xs.length m f ∧ ∀ (i j : Nat) (row : List WayD) (u : WayD), xs[i]? = some row → row[j]? = some u →
     ((f i).way j).line = u.1 ∧ ((f i).way j).state = u.2.1 ∧ ((f i).way j).len = u.2.2.length ∧ u.2.2.length ≤ ((f i).way j).cap ∧ ((f i).way j).cap ≤ maxLen ∧ SlRd intR w ((f i).way j).addr u.2.2 := by
 have o : 0 < xs.length := List.length_pos_iff.2 hne;obtain ⟨l, d, _, _, y, _⟩ := set_at h (List.getElem?_eq_getElem o);have k : ∀ i : Nat, ∃ x : SCells, ∀ row, xs[i]? = some row → (w.cell? ⟨l, d + i, none⟩ = some (.slice (some ⟨x.b, x.off, none⟩) m x.cap) ∧ RowAt w x.b x.off m x.way) ∧ ∀ (j : Nat) (u : WayD), row[j]? = some u →
     (x.way j).line = u.1 ∧ (x.way j).state = u.2.1 ∧ (x.way j).len = u.2.2.length ∧ u.2.2.length ≤ (x.way j).cap ∧ (x.way j).cap ≤ maxLen ∧ SlRd intR w (x.way j).addr u.2.2 := by
  intro i;cases q : xs[i]? with
  | none => exact ⟨⟨0, 0, 0, fun _ => ⟨0, 0, none, 0, 0⟩⟩, fun row hr => by cases hr⟩
  | some row =>
   obtain ⟨b', v, aj, A, p, z, -, -, r⟩ := set_at h q;rw [y] at p;cases p;have s := hrow row (List.mem_of_getElem? q);obtain ⟨b, off, c, rfl, n, g⟩ := rowAt_of r (fun e => by rw [e] at s; simp at s; omega);rw [s] at n z;refine ⟨⟨b, off, A, c⟩, fun row' hr => ?_⟩;cases hr;exact ⟨⟨z, n⟩, g⟩
 obtain ⟨f, g⟩ := Classical.axiomOfChoice k;exact ⟨l, d, f, y, fun i q => (g i _ (List.getElem?_eq_getElem q)).1, fun i j row u hr hu => (g i row hr).2 j u hu⟩
theorem setsAt_below {w w' : World} {b0 off0 s m : Nat} {cc : Nat → SCells} (h : SetsAt w b0 off0 s m cc) (hb : Below w.heap.size w w') (hm : 0 < m) : SetsAt w' b0 off0 s m cc := by
 by_cases a : 0 < s
 ·exact setsAt_keep h (hb.block _ (cell_lt (h 0 a).1)) (fun i hi => hb.block _ (rowAt_lt (h i hi).2 hm))
 ·exact fun i hi => by omega
theorem wayK_get {c : CacheD} {m k : Nat} (hm : 0 < m) (hrow : ∀ row ∈ c.1, row.length = m) (hk : k < c.1.length * m) : ∃ row, c.1[k / m]? = some row ∧ row[k % m]? = some (wayK c m k) := by
 have a : k / m < c.1.length := by rw [Nat.div_lt_iff_lt_mul hm]; exact hk
 have h2 : k % m < m := Nat.mod_lt _ hm;refine ⟨_, List.getElem?_eq_getElem a, ?_⟩;have h3 := hrow _ (List.getElem_mem a);have b : c.1.getD (k / m) [] = c.1[k / m] := by rw [List.getD_eq_getElem?_getD, List.getElem?_eq_getElem a]; rfl
 have : k % m < (c.1[k / m]).length := by omega
 rw [List.getElem?_eq_getElem this];unfold wayK;rw [b, List.getD_eq_getElem?_getD, List.getElem?_eq_getElem this];rfl
set_option maxHeartbeats 400000 in
theorem everyWay_any (u v : Value) (a a' : Option Addr) (n n' cap cap' : Nat) (hu : u = .slice a n cap) (hv : v = .slice a' n' cap') (w : World) :
    Calls Tryz.prog 219 #[.agg #[u, v]] w fun e w' => e = .returned (.func (.func 253) #[] #[.pointer (some ⟨w.heap.size, 0, none⟩)]) ∧ w' = w.alloc (.cells #[u, v] 92) := by
 subst hu hv;go_enter Tryz.func219, Tryz.ntmps219;go_wp2;go_ret
 exact ⟨rfl, rfl⟩
theorem grown_at (W : World) (g o : Nat) (v : Value) : W.grownBy (W.setCell ⟨g, o, none⟩ v) (some g) := ⟨rfl, rfl, rfl, by simp, fun k _ hk => heap_setCell_other W ⟨g, o, none⟩ k v (fun e => hk (by simp [e]))⟩
def WOk (w : World) (v u : Value) (c : CacheD) (m k : Nat) (W : World) : Prop :=
 UptoOk c m k ∧ W.heap[w.heap.size]? = some (.cells #[v, u] 92 (0, 0)) ∧ W.heap[w.heap.size + 1]? = some (.cells #[.bool false] 4 (0, 0)) ∧
 (∃ cur : Array Value, W.heap[w.heap.size + 1 + 1]? = some (.cells cur 281 (0, 0)) ∧ cur.size = 16 ∧ ∀ x, x < 16 → cur[x]? = some (.bool (seenB c m k x))) ∧
 W.heap[w.heap.size + 1 + 1 + 1]? = some (.cells #[v, u] 92 (0, 0)) ∧ Below w.heap.size w W
theorem wok_own {w : World} {v u : Value} {c : CacheD} {m B : Nat} (hB : w.heap.size ≤ B) : OwnFrom B (fun k W => WOk w v u c m k W) := by
 rintro k X Y a ⟨q, l, o, ⟨f, p, i, j⟩, g, n⟩ b d;exact ⟨q, own_heap (β := Unit) _ _ _ _ () X Y a l b d, own_heap (β := Unit) _ _ _ _ () X Y a o b d, ⟨f, own_heap (β := Unit) _ _ _ _ () X Y a p b d, i, j⟩, own_heap (β := Unit) _ _ _ _ () X Y a g b d, ownFrom_below (β := Unit) (Nat.le_refl _) hB () X Y a n b d⟩
theorem wok_below {w : World} {v u : Value} {c : CacheD} {m k : Nat} {W W' : World} (h : WOk w v u c m k W) (hb : Below W.heap.size W W') : WOk w v u c m k W' := by
 obtain ⟨n, g, j, ⟨a, l, d, f⟩, b, i⟩ := h;exact ⟨n, row_keep hb g, row_keep hb j, ⟨a, row_keep hb l, d, f⟩, row_keep hb b, below_step i hb⟩
set_option maxHeartbeats 4000000 in
theorem waysOk_any (a b : Option Addr) (c : CacheD) (cap cp m : Nat) (w : World) (h1 : SlRd waysR w a c.1) (hp : c.1.length = 1 ∨ c.1.length = 2 ∨ c.1.length = 4) (hm : m = 1 ∨ m = 2 ∨ m = 4) (hrow : ∀ TA ∈ c.1, TA.length = m) :
    Calls Tryz.prog 235 #[.agg #[.slice a c.1.length cap, .slice b c.2.length cp]] w fun e C => e = .returned (.bool (waysB c m)) ∧ Below w.heap.size w C := by
 have BA : 0 < m := by omega
 obtain ⟨s, f, r, rfl, lB, zB⟩ := setsAt_of h1 (fun e => by rw [e] at hp; simp at hp) BA hrow;have HG : Hid (∀ k, k < c.1.length * m → ((r (k / m)).way (k % m)).line = (wayK c m k).1 ∧ ((r (k / m)).way (k % m)).state = (wayK c m k).2.1 ∧ ((r (k / m)).way (k % m)).len = (wayK c m k).2.2.length ∧ (wayK c m k).2.2.length ≤ maxLen ∧ SlRd intR w ((r (k / m)).way (k % m)).addr (wayK c m k).2.2) := fun k hk => by
  obtain ⟨TA, e1, e2⟩ := wayK_get BA hrow hk;obtain ⟨q1, q2, q3, q4, q5, q6⟩ := zB _ _ TA _ e1 e2;exact ⟨q1, q2, q3, Nat.le_trans q4 q5, q6⟩
 have HP : Hid (c.1.length = 1 ∨ c.1.length = 2 ∨ c.1.length = 4) := hp;have HM : Hid (m = 1 ∨ m = 2 ∨ m = 4) := hm;have HA : Hid _ := lB;clear h1 zB hrow hp hm lB;refine (callsIn_wide (n := 0)).1 ?_;refine callsIn_of_wp_marks Tryz.func235 rfl trivial ?_ rfl;simp only [Tryz.ntmps235, List.size_toArray, List.length_cons, List.length_nil, Nat.reduceAdd, Nat.reduceSub, Array.replicate_succ, Array.replicate_zero, List.push_toArray, List.append_toArray, List.nil_append, List.cons_append];gi_wp2
 refine ⟨trivial, rfl, (callsIn_wide.2 (everyWay_any _ _ _ _ _ _ _ _ rfl rfl _)).mono ?_⟩;rintro e C ⟨rfl, rfl⟩;gi_wp2
 have gB : Below w.heap.size w ((((w.alloc (.cells #[.slice (some ⟨s, f, none⟩) c.1.length cap, .slice b c.2.length cp] 92)).alloc (.cells #[.bool false] 4)).alloc (.cells #[.bool false, .bool false, .bool false, .bool false, .bool false, .bool false, .bool false, .bool false, .bool false, .bool false, .bool false, .bool false, .bool false, .bool false, .bool false, .bool false] 281)).alloc (.cells #[.slice (some ⟨s, f, none⟩) c.1.length cap, .slice b c.2.length cp] 92)) := ((((Below.refl _ w).alloc (Nat.le_refl _) _).alloc (by simp) _).alloc (by simp; omega) _).alloc (by simp; omega) _;have k0 := heap_on (.cells #[.slice (some ⟨s, f, none⟩) c.1.length cap, .slice b c.2.length cp] 92) (heap_on (.cells #[.bool false, .bool false, .bool false, .bool false, .bool false, .bool false, .bool false, .bool false, .bool false, .bool false, .bool false, .bool false, .bool false, .bool false, .bool false, .bool false] 281) (heap_on (.cells #[.bool false] 4) (heap_at w (.cells #[.slice (some ⟨s, f, none⟩) c.1.length cap, .slice b c.2.length cp] 92))));have k1 := heap_on (.cells #[.slice (some ⟨s, f, none⟩) c.1.length cap, .slice b c.2.length cp] 92) (heap_on (.cells #[.bool false, .bool false, .bool false, .bool false, .bool false, .bool false, .bool false, .bool false, .bool false, .bool false, .bool false, .bool false, .bool false, .bool false, .bool false, .bool false] 281) (heap_at (w.alloc (.cells #[.slice (some ⟨s, f, none⟩) c.1.length cap, .slice b c.2.length cp] 92)) (.cells #[.bool false] 4)));have k2 := heap_on (.cells #[.slice (some ⟨s, f, none⟩) c.1.length cap, .slice b c.2.length cp] 92) (heap_at ((w.alloc (.cells #[.slice (some ⟨s, f, none⟩) c.1.length cap, .slice b c.2.length cp] 92)).alloc (.cells #[.bool false] 4)) (.cells #[.bool false, .bool false, .bool false, .bool false, .bool false, .bool false, .bool false, .bool false, .bool false, .bool false, .bool false, .bool false, .bool false, .bool false, .bool false, .bool false] 281));have k3 := heap_at (((w.alloc (.cells #[.slice (some ⟨s, f, none⟩) c.1.length cap, .slice b c.2.length cp] 92)).alloc (.cells #[.bool false] 4)).alloc (.cells #[.bool false, .bool false, .bool false, .bool false, .bool false, .bool false, .bool false, .bool false, .bool false, .bool false, .bool false, .bool false, .bool false, .bool false, .bool false, .bool false] 281)) (.cells #[.slice (some ⟨s, f, none⟩) c.1.length cap, .slice b c.2.length cp] 92);have e4 : ((((w.alloc (.cells #[.slice (some ⟨s, f, none⟩) c.1.length cap, .slice b c.2.length cp] 92)).alloc (.cells #[.bool false] 4)).alloc (.cells #[.bool false, .bool false, .bool false, .bool false, .bool false, .bool false, .bool false, .bool false, .bool false, .bool false, .bool false, .bool false, .bool false, .bool false, .bool false, .bool false] 281)).alloc (.cells #[.slice (some ⟨s, f, none⟩) c.1.length cap, .slice b c.2.length cp] 92)).heap.size = w.heap.size + 1 + 1 + 1 + 1 := by simp
 rw [alloc_len] at k1;rw [alloc_len, alloc_len] at k2;rw [alloc_len, alloc_len, alloc_len] at k3;have vB : WOk w (.slice (some ⟨s, f, none⟩) c.1.length cap) (.slice b c.2.length cp) c m 0 ((((w.alloc (.cells #[.slice (some ⟨s, f, none⟩) c.1.length cap, .slice b c.2.length cp] 92)).alloc (.cells #[.bool false] 4)).alloc (.cells #[.bool false, .bool false, .bool false, .bool false, .bool false, .bool false, .bool false, .bool false, .bool false, .bool false, .bool false, .bool false, .bool false, .bool false, .bool false, .bool false] 281)).alloc (.cells #[.slice (some ⟨s, f, none⟩) c.1.length cap, .slice b c.2.length cp] 92)) := by
  refine ⟨fun j hj => by omega, k0, k1, ⟨_, k2, rfl, fun x hx => ?_⟩, k3, gB⟩;rw [seen_zero];rcases x with _ | _ | _ | _ | _ | _ | _ | _ | _ | _ | _ | _ | _ | _ | _ | _ | x <;> first | rfl | omega
 clear k0 k1 k2 k3 gB;generalize (((w.alloc (.cells #[.slice (some ⟨s, f, none⟩) c.1.length cap, .slice b c.2.length cp] 92)).alloc (.cells #[.bool false] 4)).alloc (.cells #[.bool false, .bool false, .bool false, .bool false, .bool false, .bool false, .bool false, .bool false, .bool false, .bool false, .bool false, .bool false, .bool false, .bool false, .bool false, .bool false] 281)).alloc (.cells #[.slice (some ⟨s, f, none⟩) c.1.length cap, .slice b c.2.length cp] 92) = W0 at e4 vB ⊢;refine range_iter (N := c.1.length * m) (lb := #[.pointer (some ⟨w.heap.size + 1 + 1 + 1, 0, none⟩)]) (gf := 253) rfl (enters_of Tryz.func253 (by kernel_rfl) rfl)
  (everyWay1_iter (w.heap.size + 1 + 1 + 1) s f c.1.length m cap r (by have := HP.out; omega) (by have := HM.out; omega) (by have := HP.out; omega) BA) (fun _ => rfl)
  (fun k W => WOk w (.slice (some ⟨s, f, none⟩) c.1.length cap) (.slice b c.2.length cp) c m k W)
  (fun x k W => x = .ret ∧ waysB c m = false ∧ W.heap[w.heap.size + 1]? = some (.cells #[.bool false] 4 (0, 0)) ∧ Below w.heap.size w W)
  (wok_own (by omega)) (fun x => OwnFrom.and (ownFrom_pure _ _) (OwnFrom.and (ownFrom_pure _ _) (OwnFrom.and (own_heap _ _ _ _) (ownFrom_below (Nat.le_refl _) (by omega))))) ?hR vB
  (fun k a' W => ∃ B4 B5, W0.heap.size < B4 ∧ W0.heap.size < B5 ∧ W.heap[B4]? = some (.cells #[.int .i64 (k / m : Nat), .int .i64 (k % m : Nat)] 217 (0, 0)) ∧ W.heap[B5]? = some (.cells #[.int .i64 ((r (k / m)).way (k % m)).line, .int .i64 ((r (k / m)).way (k % m)).state, .slice ((r (k / m)).way (k % m)).addr ((r (k / m)).way (k % m)).len ((r (k / m)).way (k % m)).cap] 88 (0, 0)) ∧ WOk w (.slice (some ⟨s, f, none⟩) c.1.length cap) (.slice b c.2.length cp) c m k W ∧
   a' = { tmps := #[.agg #[.slice (some ⟨s, f, none⟩) c.1.length cap, .slice b c.2.length cp], .pointer (some ⟨w.heap.size, 0, none⟩), .pointer (some ⟨w.heap.size + 1, 0, none⟩), .pointer (some ⟨w.heap.size + 1 + 1, 0, none⟩), .pointer (some ⟨B4, 0, none⟩), .pointer (some ⟨B5, 0, none⟩), .agg #[.slice (some ⟨s, f, none⟩) c.1.length cap, .slice b c.2.length cp], .func (.func 253) #[] #[.pointer (some ⟨w.heap.size + 1 + 1 + 1, 0, none⟩)], .agg #[.int .i64 (k / m : Nat), .int .i64 (k % m : Nat)], ((r (k / m)).way (k % m)).agg, undef, undef, undef, undef, undef, undef, undef, undef, undef, undef, undef, undef, undef, undef, undef, undef, undef, undef, undef, undef, undef, undef, undef], defers := [] })
  ?hA ?hassign ?hbody ?hdone ?hstop
 case hR =>
  rintro k W ⟨_, _, _, _, g6, M⟩;exact ⟨by rw [cell_of_row W _ 0 _ _ (0, 0) g6]; rfl, setsAt_below HA.out M BA⟩
 case hA =>
  rintro k a' ⟨⟩ X Y pA ⟨B4, B5, l4, l5, g4, R, F, rfl⟩ hg hr;exact ⟨B4, B5, l4, l5, own_heap (β := Unit) _ _ _ _ () X Y pA g4 hg hr, own_heap (β := Unit) _ _ _ _ () X Y pA R hg hr, wok_own (B := W0.heap.size) (by omega) k X Y pA F hg hr, rfl⟩
 case hassign =>
  rintro k W K hk F oB H;gi_wp2
  have z1 := box_below W (.cells #[.int .i64 (k / m : Nat), .int .i64 (k % m : Nat)] 217);have z2 := box_below (W.alloc (.cells #[.int .i64 (k / m : Nat), .int .i64 (k % m : Nat)] 217)) (.cells #[.int .i64 ((r (k / m)).way (k % m)).line, .int .i64 ((r (k / m)).way (k % m)).state, .slice ((r (k / m)).way (k % m)).addr ((r (k / m)).way (k % m)).len ((r (k / m)).way (k % m)).cap] 88);have z3 := heap_at (W.alloc (.cells #[.int .i64 (k / m : Nat), .int .i64 (k % m : Nat)] 217)) (.cells #[.int .i64 ((r (k / m)).way (k % m)).line, .int .i64 ((r (k / m)).way (k % m)).state, .slice ((r (k / m)).way (k % m)).addr ((r (k / m)).way (k % m)).len ((r (k / m)).way (k % m)).cap] 88);rw [alloc_len] at z3;exact H _ _ (Kept.below (below_step z1 z2)) ⟨W.heap.size, W.heap.size + 1, by omega, by omega, heap_on _ (heap_at _ _), z3, wok_below (wok_below F z1) z2, rfl⟩
 case hbody =>
  rintro k a' V hk ⟨B4, B5, l4, l5, g4, R, F, rfl⟩ oB hD hL;obtain ⟨q1, q2, q3, q4, q5⟩ := HG.out k hk;have HU : Hid (wayK c m k = ((wayK c m k).1, (wayK c m k).2.1, (wayK c m k).2.2)) := rfl;rw [q1, q2, q3] at R;have FB : ((r (k / m)).way (k % m)).agg = .agg #[.int .i64 (wayK c m k).1, .int .i64 (wayK c m k).2.1, .slice ((r (k / m)).way (k % m)).addr (wayK c m k).2.2.length ((r (k / m)).way (k % m)).cap] := by rw [WCells.agg, q1, q2, q3]
  rw [FB];clear FB q1 q2 q3;generalize ((r (k / m)).way (k % m)).addr = ad at R q5 ⊢;generalize ((r (k / m)).way (k % m)).cap = cpw at R ⊢;have eA : Hid (∀ {x}, clearB (wayK c m k) = x → clrB (wayK c m k).1 (wayK c m k).2.1 (wayK c m k).2.2.length = x) := fun h => by rw [clr_eq]; exact h
  have gA : Hid (∀ {x}, fullB isL (wayK c m k) = x → fullB isL ((wayK c m k).1, (wayK c m k).2.1, (wayK c m k).2.2) = x) := fun h => h;have HY : Hid (∀ x : Nat, seenB c m k x = true ↔ ∃ j, j < k ∧ (wayK c m j).1 = (x : Int)) := fun x => seen_iff;have BB : Hid ((wayK c m k).1 = (wayK c m k).1) := rfl;generalize hl : (wayK c m k).1 = l at R eA gA BB ⊢;generalize (wayK c m k).2.1 = st at R eA gA ⊢;generalize (wayK c m k).2.2 = d at R q4 q5 eA gA ⊢;clear BB HU;have HL : Hid ((wayK c m k).1 = l) := hl;clear hl;obtain ⟨x0, x1, x2⟩ := cells_three R;obtain ⟨y0, y1⟩ := cells_two g4;cases O : clearB (wayK c m k)
  case true =>
   have HE : Hid (∀ W, Calls Tryz.prog 104 #[.agg #[.int .i64 l, .int .i64 st, .slice ad d.length cpw]] W fun e C => e = .returned (.bool true) ∧ Below W.heap.size W C) := fun W => by have := implEmpty_any l st ad d.length cpw W q4; rwa [eA.out O] at this
   gi_wp2
   refine ⟨trivial, rfl, (CallsIn.inRound _ (callsIn_wide.2 (HE.out _))).mono ?_⟩;rintro e g ⟨rfl, b1⟩;gi_wp2
   obtain ⟨F, g1, E, ⟨zA, g3, yA, Z⟩, g6, M⟩ := wok_below F b1;exact ⟨Kept.below b1, upto_next F (.inl O), g1, E, ⟨zA, g3, yA, fun x hx => by rw [seen_same O]; exact Z x hx⟩, g6, M⟩
  case false =>
   have HE : Hid (∀ W, Calls Tryz.prog 104 #[.agg #[.int .i64 l, .int .i64 st, .slice ad d.length cpw]] W fun e C => e = .returned (.bool false) ∧ Below W.heap.size W C) := fun W => by have := implEmpty_any l st ad d.length cpw W q4; rwa [eA.out O] at this
   gi_wp2
   refine ⟨trivial, rfl, (CallsIn.inRound _ (callsIn_wide.2 (HE.out _))).mono ?_⟩;rintro e g ⟨rfl, b1⟩;have K1 := wok_below F b1;have pB : SlRd intR g ad d := slrd_next q5 K1.2.2.2.2.2;obtain ⟨z0, z1⟩ := cells_two K1.2.1;replace R := row_keep b1 R;replace g4 := row_keep b1 g4;clear x0 x1 x2 y0 y1 HE;obtain ⟨x0, x1, x2⟩ := cells_three R;obtain ⟨y0, y1⟩ := cells_two g4;gi_wp2
   have m0 : ∀ n : Cls (fun wx => Below g.heap.size g wx), n.w.cell? ⟨B5, 0, none⟩ = some (.int .i64 l) := fun n => cell_keep n.h x0 (cell_lt x0);have m1 : ∀ n : Cls (fun wx => Below g.heap.size g wx), n.w.cell? ⟨B5, 1, none⟩ = some (.int .i64 st) := fun n => cell_keep n.h x1 (cell_lt x1);have m2 : ∀ n : Cls (fun wx => Below g.heap.size g wx), n.w.cell? ⟨B5, 2, none⟩ = some (.slice ad d.length cpw) := fun n => cell_keep n.h x2 (cell_lt x2);have m3 : ∀ n : Cls (fun wx => Below g.heap.size g wx), n.w.cell? ⟨B4, 0, none⟩ = some (.int .i64 (k / m : Nat)) := fun n => cell_keep n.h y0 (cell_lt y0);have n0 : ∀ n : Cls (fun wx => Below g.heap.size g wx), n.w.cell? ⟨w.heap.size, 0, none⟩ = some (.slice (some ⟨s, f, none⟩) c.1.length cap) := fun n => cell_keep n.h z0 (cell_lt z0);have n1 : ∀ n : Cls (fun wx => Below g.heap.size g wx), n.w.cell? ⟨w.heap.size, 1, none⟩ = some (.slice b c.2.length cp) := fun n => cell_keep n.h z1 (cell_lt z1);have U : Hid (∀ n : Cls (fun wx => Below g.heap.size g wx), SlRd intR n.w ad d) := fun n => slrd_next pB n.h;have X5 : Hid (∀ wx, Below g.heap.size g wx → wx.cell? ⟨B5, 0, none⟩ = some (.int .i64 l)) := fun wx h => cell_keep h x0 (cell_lt x0);have HK : Hid _ := K1;clear K1 x0 x1 x2 y0 y1 z0 z1 pB F q5 hD hL g4 R oB l4 l5;have K1 := HK.out;cases rA : fullB isL (wayK c m k)
   case false =>
    have HF : Hid (∀ W, SlRd intR W ad d → Calls Tryz.prog 248 #[.agg #[.int .i64 l, .int .i64 st, .slice ad d.length cpw]] W fun e C => e = .returned (.bool false) ∧ Below W.heap.size W C) := fun W h => by have := implFull_any l st d ad cpw W h; rwa [gA.out rA] at this
    refine regionIn_class (fun wx => Below g.heap.size g wx) (by kernel_rfl) (by kernel_rfl) (by kernel_rfl) ((Below.refl _ g).drew) ?_;intro G;iterate 3 (quiet_step ((go_at_call 248; exact calls_class (HF.out _ (U.out _)) (fun C hc bb => below_step hc bb))))
    refine wpQuiet_step (fun K H => ?_);go_simp
    refine hid_act K _ ?_;intro A0 jA;refine H A0 ?_;clear H K;have dA : A0.tmps[15]? = some (.bool true) := by rw [jA]; rfl
    refine wpQuiet_skip (b := false) (d := 15) dA rfl rfl rfl (by decide) ?_;intro EB T A;clear dA;refine wpQuiet_skip (b := false) (d := 15) A rfl rfl rfl (by decide) ?_;intro AB I z;clear A;refine wpQuiet_skip (b := false) (d := 15) z rfl rfl rfl (by decide) ?_;intro kB J v;clear z;refine wpQuiet_skip (b := false) (d := 15) v rfl rfl rfl (by decide) ?_;intro DB L D;clear v;refine wpQuiet_skip (b := false) (d := 15) D rfl rfl rfl (by decide) ?_;intro yC VA nA;clear D;refine wpQuiet_skip (b := false) (d := 15) nA rfl rfl rfl (by decide) ?_;intro oC LA mA;clear nA;refine wpQuiet_skip (b := false) (d := 15) mA rfl rfl rfl (by decide) ?_;intro qC KA IA;clear mA;clear IA;subst KA LA VA L J I T;subst jA;quiet_step (skip)
    refine wpQuiet_step (fun K H => ?_);go_simp
    refine hid_act K _ ?_;intro A1 fB;refine H A1 ?_;clear H K;have jB : A1.tmps[24]? = some (.bool true) := by rw [fB]; rfl
    refine wpQuiet_skip (b := false) (d := 24) jB rfl rfl rfl (by decide) ?_;intro DC MA oA;clear jB;refine wpQuiet_skip (b := false) (d := 24) oA rfl rfl rfl (by decide) ?_;intro sC RA iA;clear oA;refine wpQuiet_skip (b := false) (d := 24) iA rfl rfl rfl (by decide) ?_;intro BC OA qA;clear iA;refine wpQuiet_skip (b := false) (d := 24) qA rfl rfl rfl (by decide) ?_;intro zC FA SA;clear qA;clear SA;subst FA OA RA MA;subst fB;quiet_step (skip)
    refine wpQuiet_nil ?_;intro wx b2;clear m0 m1 m2 m3 n0 n1 G;obtain ⟨F, g1, E, g3, g6, M⟩ := wok_below K1 b2;have r2 : wx.cell? ⟨w.heap.size + 1, 0, none⟩ = some (.bool false) := by rw [cell_of_row wx _ 0 _ _ (0, 0) E]; rfl
    have r3 : wx.frozen? ⟨w.heap.size + 1, 0, none⟩ = false := frozen_of_row wx _ 0 _ _ E;gi_wp2
    refine ⟨Kept.trans (Kept.below (below_step b1 b2)) (Kept.chg (S := fun j => j = w.heap.size + 1) (chg_grown (grownBy_setCell' wx (w.heap.size + 1) _) rfl) (fun j e => by omega)), rfl, upto_not hk O (fun h => by rw [rA] at h; exact absurd h.1 (by simp)), heap_setCell_same wx (w.heap.size + 1) 0 _ _ (.bool false) E, M.setCell (p := ⟨w.heap.size + 1, 0, none⟩) (by simp) _⟩
   case true =>
    have fA := full_line rA;rw [HL.out] at fA;obtain ⟨x, rfl⟩ : ∃ x : Nat, l = (x : Int) := ⟨l.toNat, by omega⟩;have aA : x < 16 := by omega
    have RB : (x : Int) < 16 := by omega
    have HF : Hid (∀ W, SlRd intR W ad d → Calls Tryz.prog 248 #[.agg #[.int .i64 (x : Int), .int .i64 st, .slice ad d.length cpw]] W fun e C => e = .returned (.bool true) ∧ Below W.heap.size W C) := fun W h => by have := implFull_any (x : Int) st d ad cpw W h; rwa [gA.out rA] at this
    have bA : ∀ W, Calls Tryz.prog 236 #[.agg #[.slice (some ⟨s, f, none⟩) c.1.length cap, .slice b c.2.length cp], .int .i64 (x : Int)] W fun e C => e = .returned (.int .i64 ((x : Int) % (c.1.length : Int))) ∧ Below W.heap.size W C := fun W => setOf_any _ _ _ _ _ _ _ rfl _ W HP.out (by omega);by_cases hq : (x : Int) % (c.1.length : Int) = (k / m : Nat)
    ·have HS : Hid (∀ W, Calls Tryz.prog 236 #[.agg #[.slice (some ⟨s, f, none⟩) c.1.length cap, .slice b c.2.length cp], .int .i64 (x : Int)] W fun e C => e = .returned (.int .i64 ((k / m : Nat) : Int)) ∧ Below W.heap.size W C) := by rw [hq] at bA; exact bA
     have HQ : Hid ((x : Int) % (c.1.length : Int) = (k / m : Nat)) := hq;clear bA hq fA;cases lA : seenB c m k x
     case true =>
      have m4 : ∀ n : Cls (fun wx => Below g.heap.size g wx), n.w.cell? ⟨w.heap.size + 1 + 1, x, none⟩ = some (.bool true) := fun n => by
       obtain ⟨-, -, -, ⟨zA, c1, -, c3⟩, -, -⟩ := wok_below HK.out n.h;rw [cell_of_row n.w _ x _ _ (0, 0) c1, c3 x aA, lA]
      refine regionIn_class (fun wx => Below g.heap.size g wx) (by kernel_rfl) (by kernel_rfl) (by kernel_rfl) ((Below.refl _ g).drew) ?_;intro G;repeat (quiet_step (first | (go_at_call 248; exact calls_class (HF.out _ (U.out _)) (fun C hc bb => below_step hc bb)) | (go_at_call 236; exact calls_class (HS.out _) (fun C hc bb => below_step hc bb))))
      refine wpQuiet_nil ?_;intro wx b2;clear m0 m1 m2 m3 n0 n1 G m4;obtain ⟨F, g1, E, g3, g6, M⟩ := wok_below K1 b2;have r2 : wx.cell? ⟨w.heap.size + 1, 0, none⟩ = some (.bool false) := by rw [cell_of_row wx _ 0 _ _ (0, 0) E]; rfl
      have r3 : wx.frozen? ⟨w.heap.size + 1, 0, none⟩ = false := frozen_of_row wx _ 0 _ _ E;gi_wp2
      refine ⟨Kept.trans (Kept.below (below_step b1 b2)) (Kept.chg (S := fun j => j = w.heap.size + 1) (chg_grown (grownBy_setCell' wx (w.heap.size + 1) _) rfl) (fun j e => by omega)), rfl, upto_not hk O (fun h => by obtain ⟨j, hj, e⟩ := (HY.out x).1 lA; exact h.2.2 j hj (by rw [e, HL.out])), heap_setCell_same wx (w.heap.size + 1) 0 _ _ (.bool false) E, M.setCell (p := ⟨w.heap.size + 1, 0, none⟩) (by simp) _⟩
     case false =>
      have m4 : ∀ n : Cls (fun wx => Below g.heap.size g wx), n.w.cell? ⟨w.heap.size + 1 + 1, x, none⟩ = some (.bool false) := fun n => by
       obtain ⟨-, -, -, ⟨zA, c1, -, c3⟩, -, -⟩ := wok_below HK.out n.h;rw [cell_of_row n.w _ x _ _ (0, 0) c1, c3 x aA, lA]
      refine regionIn_class (fun wx => Below g.heap.size g wx) (by kernel_rfl) (by kernel_rfl) (by kernel_rfl) ((Below.refl _ g).drew) ?_;intro G;repeat (quiet_step (first | (go_at_call 248; exact calls_class (HF.out _ (U.out _)) (fun C hc bb => below_step hc bb)) | (go_at_call 236; exact calls_class (HS.out _) (fun C hc bb => below_step hc bb))))
      refine wpQuiet_nil ?_;intro wx b2;clear m0 m1 m2 m3 n0 n1 G m4;obtain ⟨F, g1, E, ⟨zA, g3, yA, Z⟩, g6, M⟩ := wok_below K1 b2;have r2 : wx.cell? ⟨w.heap.size + 1 + 1, x, none⟩ = some (.bool false) := by rw [cell_of_row wx _ x _ _ (0, 0) g3, Z x aA, lA]
      have r3 : wx.frozen? ⟨w.heap.size + 1 + 1, x, none⟩ = false := frozen_of_row wx _ x _ _ g3;have r4 := X5.out wx b2;gi_wp2
      refine ⟨Kept.trans (Kept.below (below_step b1 b2)) (Kept.chg (S := fun j => j = w.heap.size + 1 + 1) (chg_grown (grown_at wx _ _ _) rfl) (fun j e => by omega)), upto_next F (.inr ⟨rA, by rw [HL.out]; exact HQ.out, fun i hi e => ?_⟩), (heap_setCell_other wx ⟨w.heap.size + 1 + 1, x, none⟩ _ _ (by simp; omega)).trans g1, (heap_setCell_other wx ⟨w.heap.size + 1 + 1, x, none⟩ _ _ (by simp)).trans E, ⟨_, heap_setCell_same wx (w.heap.size + 1 + 1) x _ _ (.bool true) g3, by simpa using yA, fun y hy => ?_⟩, (heap_setCell_other wx ⟨w.heap.size + 1 + 1, x, none⟩ _ _ (by simp)).trans g6, M.setCell (p := ⟨w.heap.size + 1 + 1, x, none⟩) (by simp; omega) _⟩
      ·rw [HL.out] at e;have := (HY.out x).2 ⟨i, hi, e⟩;rw [lA] at this;cases this
      ·rw [seen_next HL.out, Array.getElem?_setIfInBounds];by_cases dB : x = y
       ·subst dB;simp [yA, aA]
       ·rw [if_neg dB, Z y hy];have : decide (y = x) = false := by simp; omega
        rw [this, Bool.false_or]
    ·have HQ : Hid (¬ (x : Int) % (c.1.length : Int) = (k / m : Nat)) := hq;have sB : (((x : Int) % (c.1.length : Int)) != (k : Int) / (m : Int)) = true := by rw [show (k : Int) / (m : Int) = ((k / m : Nat) : Int) from rfl]; simpa using hq
     generalize (x : Int) % (c.1.length : Int) = q at bA sB;have HS : Hid _ := bA;clear bA hq fA;refine regionIn_class (fun wx => Below g.heap.size g wx) (by kernel_rfl) (by kernel_rfl) (by kernel_rfl) ((Below.refl _ g).drew) ?_;intro G;iterate 11 (quiet_step (first | (go_at_call 248; exact calls_class (HF.out _ (U.out _)) (fun C hc bb => below_step hc bb)) | (go_at_call 236; exact calls_class (HS.out _) (fun C hc bb => below_step hc bb))))
     clear sB;quiet_step (skip)
     refine wpQuiet_step (fun K H => ?_);go_simp
     refine hid_act K _ ?_;intro A0 jA;refine H A0 ?_;clear H K;have dA : A0.tmps[24]? = some (.bool true) := by rw [jA]; rfl
     refine wpQuiet_skip (b := false) (d := 24) dA rfl rfl rfl (by decide) ?_;intro EB T A;clear dA;refine wpQuiet_skip (b := false) (d := 24) A rfl rfl rfl (by decide) ?_;intro AB I z;clear A;refine wpQuiet_skip (b := false) (d := 24) z rfl rfl rfl (by decide) ?_;intro kB J v;clear z;refine wpQuiet_skip (b := false) (d := 24) v rfl rfl rfl (by decide) ?_;intro DB L D;clear v;clear D;subst L J I T;subst jA;quiet_step (skip)
     refine wpQuiet_nil ?_;intro wx b2;clear m0 m1 m2 m3 n0 n1 G;obtain ⟨F, g1, E, g3, g6, M⟩ := wok_below K1 b2;have r2 : wx.cell? ⟨w.heap.size + 1, 0, none⟩ = some (.bool false) := by rw [cell_of_row wx _ 0 _ _ (0, 0) E]; rfl
     have r3 : wx.frozen? ⟨w.heap.size + 1, 0, none⟩ = false := frozen_of_row wx _ 0 _ _ E;gi_wp2
     refine ⟨Kept.trans (Kept.below (below_step b1 b2)) (Kept.chg (S := fun j => j = w.heap.size + 1) (chg_grown (grownBy_setCell' wx (w.heap.size + 1) _) rfl) (fun j e => by omega)), rfl, upto_not hk O (fun h => HQ.out (by rw [← HL.out]; exact h.2.1)), heap_setCell_same wx (w.heap.size + 1) 0 _ _ (.bool false) E, M.setCell (p := ⟨w.heap.size + 1, 0, none⟩) (by simp) _⟩
 case hdone =>
  rintro W ⟨F, g1, E, _, _, M⟩ H;have q2 : W.cell? ⟨w.heap.size + 1, 0, none⟩ = some (.bool false) := by rw [cell_of_row W _ 0 _ _ (0, 0) E]; rfl
  have q3 : W.frozen? ⟨w.heap.size + 1, 0, none⟩ = false := frozen_of_row W _ 0 _ _ E;gi_wp2
  have g8 := heap_setCell_same W (w.heap.size + 1) 0 _ _ (.bool true) E;have rB : (W.setCell ⟨w.heap.size + 1, 0, none⟩ (.bool true)).heap[W0.heap.size]? = some (.deferred (some [])) := (heap_setCell_other W ⟨w.heap.size + 1, 0, none⟩ _ _ (by simp; omega)).trans H;refine ⟨by simp, .inl ⟨_, _, rfl, run_takeDeferred rB, ?_⟩⟩;have g9 := (World.putObj_heap_other (o := .deferred none) (show w.heap.size + 1 ≠ W0.heap.size by omega)).trans g8;have kA := cell_of_row _ _ 0 _ _ (0, 0) g9;refine ⟨.bool true, ?_, ret_bool (waysB_yes F).symm, (M.setCell (p := ⟨w.heap.size + 1, 0, none⟩) (by simp) _).trans ((Below.refl _ _).grown (grownBy_putObj' _ _ _) (by have := (ltH rB); omega) (fun k e => by cases e; omega))⟩;simp at kA
  simp [results, Tryz.results235, go_sem, kA]
 case hstop =>
  rintro x k W hk ⟨rfl, hf, R, M⟩ H;gi_wp2
  refine ⟨by simp, .inl ⟨_, _, rfl, run_takeDeferred H, ?_⟩⟩;have g9 := (World.putObj_heap_other (o := .deferred none) (show w.heap.size + 1 ≠ W0.heap.size by omega)).trans R;have kA := cell_of_row _ _ 0 _ _ (0, 0) g9;refine ⟨.bool false, ?_, ret_bool hf.symm, M.trans ((Below.refl _ _).grown (grownBy_putObj' _ _ _) (by have := (ltH H); omega) (fun k e => by cases e; omega))⟩;simp at kA
  simp [results, Tryz.results235, go_sem, kA]
end Go.Proofs.YtcocbafhcpdheaaGreatDoor
