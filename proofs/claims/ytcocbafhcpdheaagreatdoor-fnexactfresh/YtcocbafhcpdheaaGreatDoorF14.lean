import Derived.Test.YtcocbafhcpdheaaGreatDoorF00Box
import Derived.Test.YtcocbafhcpdheaaGreatDoorF13
namespace Go.Proofs.YtcocbafhcpdheaaGreatDoor
open Go.ChangeShapes Go.WideShapes Go.ChangeAt Go.RowKit Go.Shelf
set_option linter.unusedVariables false
attribute [local go_sem] Oper.semAt_some
def wayK (c : CacheD) (m k : Nat) : WayD := (c.1.getD (k / m) []).getD (k % m) emptyW
def UptoOk (c : CacheD) (m k : Nat) : Prop :=
 ∀ j, j < k → clearB (wayK c m j) = true ∨ (fullB isL (wayK c m j) = true ∧ (wayK c m j).1 % (c.1.length : Int) = (j / m : Nat) ∧ ∀ i, i < j → (wayK c m i).1 ≠ (wayK c m j).1)
open Classical in
noncomputable def seenB (c : CacheD) (m k : Nat) (x : Nat) : Bool := decide (∃ j, j < k ∧ (wayK c m j).1 = (x : Int))
open Classical in
noncomputable def waysB (c : CacheD) (m : Nat) : Bool := decide (UptoOk c m (c.1.length * m))
theorem waysB_yes {c : CacheD} {m : Nat} (h : UptoOk c m (c.1.length * m)) : waysB c m = true := by simp [waysB, h]
theorem waysB_no {c : CacheD} {m : Nat} (h : ¬ UptoOk c m (c.1.length * m)) : waysB c m = false := by simp [waysB, h]
theorem upto_next {c : CacheD} {m k : Nat} (h : UptoOk c m k) (hn : clearB (wayK c m k) = true ∨ (fullB isL (wayK c m k) = true ∧ (wayK c m k).1 % (c.1.length : Int) = (k / m : Nat) ∧ ∀ i, i < k → (wayK c m i).1 ≠ (wayK c m k).1)) : UptoOk c m (k + 1) := fun j hj => by
 by_cases he : j < k
 ·exact h j he
 ·have : j = k := by omega
  subst this;exact hn
theorem upto_not {c : CacheD} {m k : Nat} (hk : k < c.1.length * m) (hc : clearB (wayK c m k) = false) (hn : ¬ (fullB isL (wayK c m k) = true ∧ (wayK c m k).1 % (c.1.length : Int) = (k / m : Nat) ∧ ∀ i, i < k → (wayK c m i).1 ≠ (wayK c m k).1)) : waysB c m = false := waysB_no fun h => by
 rcases h k hk with h | h
 ·rw [hc] at h;cases h
 ·exact hn h
theorem seen_zero {c : CacheD} {m x : Nat} : seenB c m 0 x = false := by simp [seenB]
theorem seen_same {c : CacheD} {m k x : Nat} (h : clearB (wayK c m k) = true) : seenB c m (k + 1) x = seenB c m k x := by
 have : (∃ j, j < k + 1 ∧ (wayK c m j).1 = (x : Int)) ↔ ∃ j, j < k ∧ (wayK c m j).1 = (x : Int) := by
  constructor
  ·rintro ⟨j, hj, e⟩;by_cases he : j < k
   ·exact ⟨j, he, e⟩
   ·have : j = k := by omega
    subst this;rw [clear_eq h] at e;simp [emptyW] at e
  ·rintro ⟨j, hj, e⟩;exact ⟨j, by omega, e⟩
 simp only [seenB, this]
theorem seen_next {c : CacheD} {m k x y : Nat} (h : (wayK c m k).1 = (y : Int)) : seenB c m (k + 1) x = (decide (x = y) || seenB c m k x) := by
 have : (∃ j, j < k + 1 ∧ (wayK c m j).1 = (x : Int)) ↔ (x = y ∨ ∃ j, j < k ∧ (wayK c m j).1 = (x : Int)) := by
  constructor
  ·rintro ⟨j, hj, e⟩;by_cases he : j < k
   ·exact .inr ⟨j, he, e⟩
   ·have : j = k := by omega
    subst this;rw [h] at e;left
    omega
  ·rintro (rfl | ⟨j, hj, e⟩)
   ·exact ⟨k, by omega, h⟩
   ·exact ⟨j, by omega, e⟩
 simp only [seenB, this, Bool.decide_or]
theorem seen_iff {c : CacheD} {m k x : Nat} : seenB c m k x = true ↔ ∃ j, j < k ∧ (wayK c m j).1 = (x : Int) := by simp [seenB]
theorem setsAt_of {w : World} {a : Option Addr} {xs : List (List WayD)} {m : Nat} (h : SlRd waysR w a xs) (hne : xs ≠ []) (hm : 0 < m) (hrow : ∀ row ∈ xs, row.length = m) :
    ∃ b0 off0 cc, a = some ⟨b0, off0, none⟩ ∧ SetsAt w b0 off0 xs.length m cc ∧ ∀ (i j : Nat) (row : List WayD) (u : WayD), xs[i]? = some row → row[j]? = some u →
     ((cc i).way j).line = u.1 ∧ ((cc i).way j).state = u.2.1 ∧ ((cc i).way j).len = u.2.2.length ∧ u.2.2.length ≤ ((cc i).way j).cap ∧ ((cc i).way j).cap ≤ maxLen ∧ SlRd intR w ((cc i).way j).addr u.2.2 := by
 have hpos : 0 < xs.length := List.length_pos_iff.2 hne;obtain ⟨b0, off0, _, _, ha, _⟩ := set_at h (List.getElem?_eq_getElem hpos);have each : ∀ i : Nat, ∃ x : SCells, ∀ row, xs[i]? = some row → (w.cell? ⟨b0, off0 + i, none⟩ = some (.slice (some ⟨x.b, x.off, none⟩) m x.cap) ∧ RowAt w x.b x.off m x.way) ∧ ∀ (j : Nat) (u : WayD), row[j]? = some u →
     (x.way j).line = u.1 ∧ (x.way j).state = u.2.1 ∧ (x.way j).len = u.2.2.length ∧ u.2.2.length ≤ (x.way j).cap ∧ (x.way j).cap ≤ maxLen ∧ SlRd intR w (x.way j).addr u.2.2 := by
  intro i;cases hi : xs[i]? with
  | none => exact ⟨⟨0, 0, 0, fun _ => ⟨0, 0, none, 0, 0⟩⟩, fun row hr => by cases hr⟩
  | some row =>
   obtain ⟨b', off', aj, cj, ha', hc, -, -, hrd⟩ := set_at h hi;rw [ha] at ha';cases ha'
   have hl := hrow row (List.mem_of_getElem? hi);obtain ⟨b, off, c, rfl, hat, hcc⟩ := rowAt_of hrd (fun e => by rw [e] at hl; simp at hl; omega);rw [hl] at hat hc;refine ⟨⟨b, off, cj, c⟩, fun row' hr => ?_⟩;cases hr;exact ⟨⟨hc, hat⟩, hcc⟩
 obtain ⟨cc, hcc⟩ := Classical.axiomOfChoice each;exact ⟨b0, off0, cc, ha, fun i hi => (hcc i _ (List.getElem?_eq_getElem hi)).1, fun i j row u hr hu => (hcc i row hr).2 j u hu⟩
theorem setsAt_below {w w' : World} {b0 off0 s m : Nat} {cc : Nat → SCells} (h : SetsAt w b0 off0 s m cc) (hb : Below w.heap.size w w') (hm : 0 < m) : SetsAt w' b0 off0 s m cc := by
 by_cases hs : 0 < s
 ·exact setsAt_keep h (hb.block _ (cell_lt (h 0 hs).1)) (fun i hi => hb.block _ (rowAt_lt (h i hi).2 hm))
 ·exact fun i hi => by omega
theorem wayK_get {c : CacheD} {m k : Nat} (hm : 0 < m) (hrow : ∀ row ∈ c.1, row.length = m) (hk : k < c.1.length * m) : ∃ row, c.1[k / m]? = some row ∧ row[k % m]? = some (wayK c m k) := by
 have h1 : k / m < c.1.length := by rw [Nat.div_lt_iff_lt_mul hm]; exact hk
 have h2 : k % m < m := Nat.mod_lt _ hm;refine ⟨_, List.getElem?_eq_getElem h1, ?_⟩;have h3 := hrow _ (List.getElem_mem h1);have e1 : c.1.getD (k / m) [] = c.1[k / m] := by rw [List.getD_eq_getElem?_getD, List.getElem?_eq_getElem h1]; rfl
 have : k % m < (c.1[k / m]).length := by omega
 rw [List.getElem?_eq_getElem this];unfold wayK;rw [e1, List.getD_eq_getElem?_getD, List.getElem?_eq_getElem this];rfl
set_option maxHeartbeats 400000 in
theorem everyWay_any (u v : Value) (a a' : Option Addr) (n n' cap cap' : Nat) (hu : u = .slice a n cap) (hv : v = .slice a' n' cap') (w : World) :
    Calls Tryz.prog 219 #[.agg #[u, v]] w fun e w' => e = .returned (.func (.func 253) #[] #[.pointer (some ⟨w.heap.size, 0, none⟩)]) ∧ w' = w.alloc (.cells #[u, v] 92) := by
 subst hu hv;go_enter Tryz.func219, Tryz.ntmps219;go_wp2;go_ret
 exact ⟨rfl, rfl⟩
theorem grown_at (W : World) (g o : Nat) (v : Value) : W.grownBy (W.setCell ⟨g, o, none⟩ v) (some g) := ⟨rfl, rfl, rfl, by simp, fun k _ hk => heap_setCell_other W ⟨g, o, none⟩ k v (fun e => hk (by simp [e]))⟩
def WOk (w : World) (v u : Value) (c : CacheD) (m k : Nat) (W : World) : Prop :=
 UptoOk c m k ∧ W.heap[w.heap.size]? = some (.cells #[v, u] 92 (0, 0)) ∧ W.heap[w.heap.size + 1]? = some (.cells #[.bool false] 4 (0, 0)) ∧
 (∃ cur : Array Value, W.heap[w.heap.size + 1 + 1]? = some (.cells cur 281 (0, 0)) ∧ cur.size = 16 ∧ ∀ x, x < 16 → cur[x]? = some (.bool (seenB c m k x))) ∧
 W.heap[w.heap.size + 1 + 1 + 1]? = some (.cells #[v, u] 92 (0, 0)) ∧ Below w.heap.size w W
theorem wok_own {w : World} {v u : Value} {c : CacheD} {m B : Nat} (hB : w.heap.size ≤ B) : OwnFrom B (fun k W => WOk w v u c m k W) := by
 rintro k X Y row ⟨g0, g1, g2, ⟨cur, g3, g4, g5⟩, g6, g7⟩ hg hr;exact ⟨g0, own_heap (β := Unit) _ _ _ _ () X Y row g1 hg hr, own_heap (β := Unit) _ _ _ _ () X Y row g2 hg hr, ⟨cur, own_heap (β := Unit) _ _ _ _ () X Y row g3 hg hr, g4, g5⟩, own_heap (β := Unit) _ _ _ _ () X Y row g6 hg hr, ownFrom_below (β := Unit) (Nat.le_refl _) hB () X Y row g7 hg hr⟩
theorem wok_below {w : World} {v u : Value} {c : CacheD} {m k : Nat} {W W' : World} (h : WOk w v u c m k W) (hb : Below W.heap.size W W') : WOk w v u c m k W' := by
 obtain ⟨g0, g1, g2, ⟨cur, g3, g4, g5⟩, g6, g7⟩ := h;exact ⟨g0, row_keep hb g1, row_keep hb g2, ⟨cur, row_keep hb g3, g4, g5⟩, row_keep hb g6, below_step g7 hb⟩
set_option maxHeartbeats 4000000 in
theorem waysOk_any (a b : Option Addr) (c : CacheD) (cap cp m : Nat) (w : World) (h1 : SlRd waysR w a c.1) (hp : c.1.length = 1 ∨ c.1.length = 2 ∨ c.1.length = 4) (hm : m = 1 ∨ m = 2 ∨ m = 4) (hrow : ∀ row ∈ c.1, row.length = m) :
    Calls Tryz.prog 235 #[.agg #[.slice a c.1.length cap, .slice b c.2.length cp]] w fun e w' => e = .returned (.bool (waysB c m)) ∧ Below w.heap.size w w' := by
 have hm0 : 0 < m := by omega
 obtain ⟨b0, off0, cc, rfl, hat, hcc⟩ := setsAt_of h1 (fun e => by rw [e] at hp; simp at hp) hm0 hrow;have HG : Hid (∀ k, k < c.1.length * m → ((cc (k / m)).way (k % m)).line = (wayK c m k).1 ∧ ((cc (k / m)).way (k % m)).state = (wayK c m k).2.1 ∧ ((cc (k / m)).way (k % m)).len = (wayK c m k).2.2.length ∧ (wayK c m k).2.2.length ≤ maxLen ∧ SlRd intR w ((cc (k / m)).way (k % m)).addr (wayK c m k).2.2) := fun k hk => by
  obtain ⟨row, e1, e2⟩ := wayK_get hm0 hrow hk;obtain ⟨q1, q2, q3, q4, q5, q6⟩ := hcc _ _ row _ e1 e2;exact ⟨q1, q2, q3, Nat.le_trans q4 q5, q6⟩
 have HP : Hid (c.1.length = 1 ∨ c.1.length = 2 ∨ c.1.length = 4) := hp;have HM : Hid (m = 1 ∨ m = 2 ∨ m = 4) := hm;have HA : Hid _ := hat;clear h1 hcc hrow hp hm hat;refine (callsIn_wide (n := 0)).1 ?_;refine callsIn_of_wp_marks Tryz.func235 rfl trivial ?_ rfl;simp only [Tryz.ntmps235, List.size_toArray, List.length_cons, List.length_nil, Nat.reduceAdd, Nat.reduceSub, Array.replicate_succ, Array.replicate_zero, List.push_toArray, List.append_toArray, List.nil_append, List.cons_append];gi_wp2
 refine ⟨trivial, rfl, (callsIn_wide.2 (everyWay_any _ _ _ _ _ _ _ _ rfl rfl _)).mono ?_⟩;rintro e w' ⟨rfl, rfl⟩;gi_wp2
 have hB0 : Below w.heap.size w ((((w.alloc (.cells #[.slice (some ⟨b0, off0, none⟩) c.1.length cap, .slice b c.2.length cp] 92)).alloc (.cells #[.bool false] 4)).alloc (.cells #[.bool false, .bool false, .bool false, .bool false, .bool false, .bool false, .bool false, .bool false, .bool false, .bool false, .bool false, .bool false, .bool false, .bool false, .bool false, .bool false] 281)).alloc (.cells #[.slice (some ⟨b0, off0, none⟩) c.1.length cap, .slice b c.2.length cp] 92)) := ((((Below.refl _ w).alloc (Nat.le_refl _) _).alloc (by simp) _).alloc (by simp; omega) _).alloc (by simp; omega) _;have k0 := heap_on (.cells #[.slice (some ⟨b0, off0, none⟩) c.1.length cap, .slice b c.2.length cp] 92) (heap_on (.cells #[.bool false, .bool false, .bool false, .bool false, .bool false, .bool false, .bool false, .bool false, .bool false, .bool false, .bool false, .bool false, .bool false, .bool false, .bool false, .bool false] 281) (heap_on (.cells #[.bool false] 4) (heap_at w (.cells #[.slice (some ⟨b0, off0, none⟩) c.1.length cap, .slice b c.2.length cp] 92))));have k1 := heap_on (.cells #[.slice (some ⟨b0, off0, none⟩) c.1.length cap, .slice b c.2.length cp] 92) (heap_on (.cells #[.bool false, .bool false, .bool false, .bool false, .bool false, .bool false, .bool false, .bool false, .bool false, .bool false, .bool false, .bool false, .bool false, .bool false, .bool false, .bool false] 281) (heap_at (w.alloc (.cells #[.slice (some ⟨b0, off0, none⟩) c.1.length cap, .slice b c.2.length cp] 92)) (.cells #[.bool false] 4)));have k2 := heap_on (.cells #[.slice (some ⟨b0, off0, none⟩) c.1.length cap, .slice b c.2.length cp] 92) (heap_at ((w.alloc (.cells #[.slice (some ⟨b0, off0, none⟩) c.1.length cap, .slice b c.2.length cp] 92)).alloc (.cells #[.bool false] 4)) (.cells #[.bool false, .bool false, .bool false, .bool false, .bool false, .bool false, .bool false, .bool false, .bool false, .bool false, .bool false, .bool false, .bool false, .bool false, .bool false, .bool false] 281));have k3 := heap_at (((w.alloc (.cells #[.slice (some ⟨b0, off0, none⟩) c.1.length cap, .slice b c.2.length cp] 92)).alloc (.cells #[.bool false] 4)).alloc (.cells #[.bool false, .bool false, .bool false, .bool false, .bool false, .bool false, .bool false, .bool false, .bool false, .bool false, .bool false, .bool false, .bool false, .bool false, .bool false, .bool false] 281)) (.cells #[.slice (some ⟨b0, off0, none⟩) c.1.length cap, .slice b c.2.length cp] 92);have e4 : ((((w.alloc (.cells #[.slice (some ⟨b0, off0, none⟩) c.1.length cap, .slice b c.2.length cp] 92)).alloc (.cells #[.bool false] 4)).alloc (.cells #[.bool false, .bool false, .bool false, .bool false, .bool false, .bool false, .bool false, .bool false, .bool false, .bool false, .bool false, .bool false, .bool false, .bool false, .bool false, .bool false] 281)).alloc (.cells #[.slice (some ⟨b0, off0, none⟩) c.1.length cap, .slice b c.2.length cp] 92)).heap.size = w.heap.size + 1 + 1 + 1 + 1 := by simp
 rw [alloc_len] at k1;rw [alloc_len, alloc_len] at k2;rw [alloc_len, alloc_len, alloc_len] at k3;have hI0 : WOk w (.slice (some ⟨b0, off0, none⟩) c.1.length cap) (.slice b c.2.length cp) c m 0 ((((w.alloc (.cells #[.slice (some ⟨b0, off0, none⟩) c.1.length cap, .slice b c.2.length cp] 92)).alloc (.cells #[.bool false] 4)).alloc (.cells #[.bool false, .bool false, .bool false, .bool false, .bool false, .bool false, .bool false, .bool false, .bool false, .bool false, .bool false, .bool false, .bool false, .bool false, .bool false, .bool false] 281)).alloc (.cells #[.slice (some ⟨b0, off0, none⟩) c.1.length cap, .slice b c.2.length cp] 92)) := by
  refine ⟨fun j hj => by omega, k0, k1, ⟨_, k2, rfl, fun x hx => ?_⟩, k3, hB0⟩;rw [seen_zero];rcases x with _ | _ | _ | _ | _ | _ | _ | _ | _ | _ | _ | _ | _ | _ | _ | _ | x <;> first | rfl | omega
 clear k0 k1 k2 k3 hB0;generalize (((w.alloc (.cells #[.slice (some ⟨b0, off0, none⟩) c.1.length cap, .slice b c.2.length cp] 92)).alloc (.cells #[.bool false] 4)).alloc (.cells #[.bool false, .bool false, .bool false, .bool false, .bool false, .bool false, .bool false, .bool false, .bool false, .bool false, .bool false, .bool false, .bool false, .bool false, .bool false, .bool false] 281)).alloc (.cells #[.slice (some ⟨b0, off0, none⟩) c.1.length cap, .slice b c.2.length cp] 92) = W0 at e4 hI0 ⊢;refine range_iter (N := c.1.length * m) (lb := #[.pointer (some ⟨w.heap.size + 1 + 1 + 1, 0, none⟩)]) (gf := 253) rfl (enters_of Tryz.func253 (by kernel_rfl) rfl)
  (everyWay1_iter (w.heap.size + 1 + 1 + 1) b0 off0 c.1.length m cap cc (by have := HP.out; omega) (by have := HM.out; omega) (by have := HP.out; omega) hm0) (fun _ => rfl)
  (fun k W => WOk w (.slice (some ⟨b0, off0, none⟩) c.1.length cap) (.slice b c.2.length cp) c m k W)
  (fun x k W => x = .ret ∧ waysB c m = false ∧ W.heap[w.heap.size + 1]? = some (.cells #[.bool false] 4 (0, 0)) ∧ Below w.heap.size w W)
  (wok_own (by omega)) (fun x => OwnFrom.and (ownFrom_pure _ _) (OwnFrom.and (ownFrom_pure _ _) (OwnFrom.and (own_heap _ _ _ _) (ownFrom_below (Nat.le_refl _) (by omega))))) ?hR hI0
  (fun k a' W => ∃ B4 B5, W0.heap.size < B4 ∧ W0.heap.size < B5 ∧ W.heap[B4]? = some (.cells #[.int .i64 (k / m : Nat), .int .i64 (k % m : Nat)] 217 (0, 0)) ∧ W.heap[B5]? = some (.cells #[.int .i64 ((cc (k / m)).way (k % m)).line, .int .i64 ((cc (k / m)).way (k % m)).state, .slice ((cc (k / m)).way (k % m)).addr ((cc (k / m)).way (k % m)).len ((cc (k / m)).way (k % m)).cap] 88 (0, 0)) ∧ WOk w (.slice (some ⟨b0, off0, none⟩) c.1.length cap) (.slice b c.2.length cp) c m k W ∧
   a' = { tmps := #[.agg #[.slice (some ⟨b0, off0, none⟩) c.1.length cap, .slice b c.2.length cp], .pointer (some ⟨w.heap.size, 0, none⟩), .pointer (some ⟨w.heap.size + 1, 0, none⟩), .pointer (some ⟨w.heap.size + 1 + 1, 0, none⟩), .pointer (some ⟨B4, 0, none⟩), .pointer (some ⟨B5, 0, none⟩), .agg #[.slice (some ⟨b0, off0, none⟩) c.1.length cap, .slice b c.2.length cp], .func (.func 253) #[] #[.pointer (some ⟨w.heap.size + 1 + 1 + 1, 0, none⟩)], .agg #[.int .i64 (k / m : Nat), .int .i64 (k % m : Nat)], ((cc (k / m)).way (k % m)).agg, undef, undef, undef, undef, undef, undef, undef, undef, undef, undef, undef, undef, undef, undef, undef, undef, undef, undef, undef, undef, undef, undef, undef], defers := [] })
  ?hA ?hassign ?hbody ?hdone ?hstop
 case hR =>
  rintro k W ⟨_, _, _, _, g6, g7⟩;exact ⟨by rw [cell_of_row W _ 0 _ _ (0, 0) g6]; rfl, setsAt_below HA.out g7 hm0⟩
 case hA =>
  rintro k a' ⟨⟩ X Y row' ⟨B4, B5, l4, l5, g4, g5, g0, rfl⟩ hg hr;exact ⟨B4, B5, l4, l5, own_heap (β := Unit) _ _ _ _ () X Y row' g4 hg hr, own_heap (β := Unit) _ _ _ _ () X Y row' g5 hg hr, wok_own (B := W0.heap.size) (by omega) k X Y row' g0 hg hr, rfl⟩
 case hassign =>
  rintro k W K hk g0 hlt hK;gi_wp2
  have z1 := box_below W (.cells #[.int .i64 (k / m : Nat), .int .i64 (k % m : Nat)] 217);have z2 := box_below (W.alloc (.cells #[.int .i64 (k / m : Nat), .int .i64 (k % m : Nat)] 217)) (.cells #[.int .i64 ((cc (k / m)).way (k % m)).line, .int .i64 ((cc (k / m)).way (k % m)).state, .slice ((cc (k / m)).way (k % m)).addr ((cc (k / m)).way (k % m)).len ((cc (k / m)).way (k % m)).cap] 88);have z3 := heap_at (W.alloc (.cells #[.int .i64 (k / m : Nat), .int .i64 (k % m : Nat)] 217)) (.cells #[.int .i64 ((cc (k / m)).way (k % m)).line, .int .i64 ((cc (k / m)).way (k % m)).state, .slice ((cc (k / m)).way (k % m)).addr ((cc (k / m)).way (k % m)).len ((cc (k / m)).way (k % m)).cap] 88);rw [alloc_len] at z3;exact hK _ _ (Kept.below (below_step z1 z2)) ⟨W.heap.size, W.heap.size + 1, by omega, by omega, heap_on _ (heap_at _ _), z3, wok_below (wok_below g0 z1) z2, rfl⟩
 case hbody =>
  rintro k a' V hk ⟨B4, B5, l4, l5, g4, g5, g0, rfl⟩ hlt hD hL;obtain ⟨q1, q2, q3, q4, q5⟩ := HG.out k hk;have HU : Hid (wayK c m k = ((wayK c m k).1, (wayK c m k).2.1, (wayK c m k).2.2)) := rfl;rw [q1, q2, q3] at g5;have hag : ((cc (k / m)).way (k % m)).agg = .agg #[.int .i64 (wayK c m k).1, .int .i64 (wayK c m k).2.1, .slice ((cc (k / m)).way (k % m)).addr (wayK c m k).2.2.length ((cc (k / m)).way (k % m)).cap] := by rw [WCells.agg, q1, q2, q3]
  rw [hag];clear hag q1 q2 q3;generalize ((cc (k / m)).way (k % m)).addr = ad at g5 q5 ⊢;generalize ((cc (k / m)).way (k % m)).cap = cpw at g5 ⊢;have HC1 : Hid (∀ {x}, clearB (wayK c m k) = x → clrB (wayK c m k).1 (wayK c m k).2.1 (wayK c m k).2.2.length = x) := fun h => by rw [clr_eq]; exact h
  have HFB : Hid (∀ {x}, fullB isL (wayK c m k) = x → fullB isL ((wayK c m k).1, (wayK c m k).2.1, (wayK c m k).2.2) = x) := fun h => h;have HY : Hid (∀ x : Nat, seenB c m k x = true ↔ ∃ j, j < k ∧ (wayK c m j).1 = (x : Int)) := fun x => seen_iff;have hl1 : Hid ((wayK c m k).1 = (wayK c m k).1) := rfl;generalize hl : (wayK c m k).1 = l at g5 HC1 HFB hl1 ⊢;generalize (wayK c m k).2.1 = st at g5 HC1 HFB ⊢;generalize (wayK c m k).2.2 = d at g5 q4 q5 HC1 HFB ⊢;clear hl1 HU;have HL : Hid ((wayK c m k).1 = l) := hl;clear hl;obtain ⟨x0, x1, x2⟩ := cells_three g5;obtain ⟨y0, y1⟩ := cells_two g4;cases hcl : clearB (wayK c m k)
  case true =>
   have HE : Hid (∀ W, Calls Tryz.prog 104 #[.agg #[.int .i64 l, .int .i64 st, .slice ad d.length cpw]] W fun e w' => e = .returned (.bool true) ∧ Below W.heap.size W w') := fun W => by have := implEmpty_any l st ad d.length cpw W q4; rwa [HC1.out hcl] at this
   gi_wp2
   refine ⟨trivial, rfl, (CallsIn.inRound _ (callsIn_wide.2 (HE.out _))).mono ?_⟩;rintro e V1 ⟨rfl, b1⟩;gi_wp2
   obtain ⟨g0, g1, g2, ⟨cur, g3, g3', g3''⟩, g6, g7⟩ := wok_below g0 b1;exact ⟨Kept.below b1, upto_next g0 (.inl hcl), g1, g2, ⟨cur, g3, g3', fun x hx => by rw [seen_same hcl]; exact g3'' x hx⟩, g6, g7⟩
  case false =>
   have HE : Hid (∀ W, Calls Tryz.prog 104 #[.agg #[.int .i64 l, .int .i64 st, .slice ad d.length cpw]] W fun e w' => e = .returned (.bool false) ∧ Below W.heap.size W w') := fun W => by have := implEmpty_any l st ad d.length cpw W q4; rwa [HC1.out hcl] at this
   gi_wp2
   refine ⟨trivial, rfl, (CallsIn.inRound _ (callsIn_wide.2 (HE.out _))).mono ?_⟩;rintro e V1 ⟨rfl, b1⟩;have K1 := wok_below g0 b1;have hrd : SlRd intR V1 ad d := slrd_next q5 K1.2.2.2.2.2;obtain ⟨z0, z1⟩ := cells_two K1.2.1;replace g5 := row_keep b1 g5;replace g4 := row_keep b1 g4;clear x0 x1 x2 y0 y1 HE;obtain ⟨x0, x1, x2⟩ := cells_three g5;obtain ⟨y0, y1⟩ := cells_two g4;gi_wp2
   have m0 : ∀ n : Cls (fun wx => Below V1.heap.size V1 wx), n.w.cell? ⟨B5, 0, none⟩ = some (.int .i64 l) := fun n => cell_keep n.h x0 (cell_lt x0);have m1 : ∀ n : Cls (fun wx => Below V1.heap.size V1 wx), n.w.cell? ⟨B5, 1, none⟩ = some (.int .i64 st) := fun n => cell_keep n.h x1 (cell_lt x1);have m2 : ∀ n : Cls (fun wx => Below V1.heap.size V1 wx), n.w.cell? ⟨B5, 2, none⟩ = some (.slice ad d.length cpw) := fun n => cell_keep n.h x2 (cell_lt x2);have m3 : ∀ n : Cls (fun wx => Below V1.heap.size V1 wx), n.w.cell? ⟨B4, 0, none⟩ = some (.int .i64 (k / m : Nat)) := fun n => cell_keep n.h y0 (cell_lt y0);have n0 : ∀ n : Cls (fun wx => Below V1.heap.size V1 wx), n.w.cell? ⟨w.heap.size, 0, none⟩ = some (.slice (some ⟨b0, off0, none⟩) c.1.length cap) := fun n => cell_keep n.h z0 (cell_lt z0);have n1 : ∀ n : Cls (fun wx => Below V1.heap.size V1 wx), n.w.cell? ⟨w.heap.size, 1, none⟩ = some (.slice b c.2.length cp) := fun n => cell_keep n.h z1 (cell_lt z1);have hrdn : Hid (∀ n : Cls (fun wx => Below V1.heap.size V1 wx), SlRd intR n.w ad d) := fun n => slrd_next hrd n.h;have X5 : Hid (∀ wx, Below V1.heap.size V1 wx → wx.cell? ⟨B5, 0, none⟩ = some (.int .i64 l)) := fun wx h => cell_keep h x0 (cell_lt x0);have HK : Hid _ := K1;clear K1 x0 x1 x2 y0 y1 z0 z1 hrd g0 q5 hD hL g4 g5 hlt l4 l5;have K1 := HK.out;cases hfl : fullB isL (wayK c m k)
   case false =>
    have HF : Hid (∀ W, SlRd intR W ad d → Calls Tryz.prog 248 #[.agg #[.int .i64 l, .int .i64 st, .slice ad d.length cpw]] W fun e w' => e = .returned (.bool false) ∧ Below W.heap.size W w') := fun W h => by have := implFull_any l st d ad cpw W h; rwa [HFB.out hfl] at this
    refine regionIn_class (fun wx => Below V1.heap.size V1 wx) (by kernel_rfl) (by kernel_rfl) (by kernel_rfl) ((Below.refl _ V1).drew) ?_;intro hne;iterate 3 (quiet_step ((go_at_call 248; exact calls_class (HF.out _ (hrdn.out _)) (fun w' hc bb => below_step hc bb))))
    refine wpQuiet_step (fun K hK => ?_);go_simp
    refine hid_act K _ ?_;intro A0 hA0;refine hK A0 ?_;clear hK K;have ht0 : A0.tmps[15]? = some (.bool true) := by rw [hA0]; rfl
    refine wpQuiet_skip (b := false) (d := 15) ht0 rfl rfl rfl (by decide) ?_;intro S0x0 eS0x0 hS0x0;clear ht0;refine wpQuiet_skip (b := false) (d := 15) hS0x0 rfl rfl rfl (by decide) ?_;intro S0x1 eS0x1 hS0x1;clear hS0x0;refine wpQuiet_skip (b := false) (d := 15) hS0x1 rfl rfl rfl (by decide) ?_;intro S0x2 eS0x2 hS0x2;clear hS0x1;refine wpQuiet_skip (b := false) (d := 15) hS0x2 rfl rfl rfl (by decide) ?_;intro S0x3 eS0x3 hS0x3;clear hS0x2;refine wpQuiet_skip (b := false) (d := 15) hS0x3 rfl rfl rfl (by decide) ?_;intro S0x4 eS0x4 hS0x4;clear hS0x3;refine wpQuiet_skip (b := false) (d := 15) hS0x4 rfl rfl rfl (by decide) ?_;intro S0x5 eS0x5 hS0x5;clear hS0x4;refine wpQuiet_skip (b := false) (d := 15) hS0x5 rfl rfl rfl (by decide) ?_;intro S0x6 eS0x6 hS0x6;clear hS0x5;clear hS0x6;subst eS0x6 eS0x5 eS0x4 eS0x3 eS0x2 eS0x1 eS0x0;subst hA0;quiet_step (skip)
    refine wpQuiet_step (fun K hK => ?_);go_simp
    refine hid_act K _ ?_;intro A1 hA1;refine hK A1 ?_;clear hK K;have ht1 : A1.tmps[24]? = some (.bool true) := by rw [hA1]; rfl
    refine wpQuiet_skip (b := false) (d := 24) ht1 rfl rfl rfl (by decide) ?_;intro S1x0 eS1x0 hS1x0;clear ht1;refine wpQuiet_skip (b := false) (d := 24) hS1x0 rfl rfl rfl (by decide) ?_;intro S1x1 eS1x1 hS1x1;clear hS1x0;refine wpQuiet_skip (b := false) (d := 24) hS1x1 rfl rfl rfl (by decide) ?_;intro S1x2 eS1x2 hS1x2;clear hS1x1;refine wpQuiet_skip (b := false) (d := 24) hS1x2 rfl rfl rfl (by decide) ?_;intro S1x3 eS1x3 hS1x3;clear hS1x2;clear hS1x3;subst eS1x3 eS1x2 eS1x1 eS1x0;subst hA1;quiet_step (skip)
    refine wpQuiet_nil ?_;intro wx b2;clear m0 m1 m2 m3 n0 n1 hne;obtain ⟨g0, g1, g2, g3, g6, g7⟩ := wok_below K1 b2;have r2 : wx.cell? ⟨w.heap.size + 1, 0, none⟩ = some (.bool false) := by rw [cell_of_row wx _ 0 _ _ (0, 0) g2]; rfl
    have r3 : wx.frozen? ⟨w.heap.size + 1, 0, none⟩ = false := frozen_of_row wx _ 0 _ _ g2;gi_wp2
    refine ⟨Kept.trans (Kept.below (below_step b1 b2)) (Kept.chg (S := fun j => j = w.heap.size + 1) (chg_grown (grownBy_setCell' wx (w.heap.size + 1) _) rfl) (fun j e => by omega)), rfl, upto_not hk hcl (fun h => by rw [hfl] at h; exact absurd h.1 (by simp)), heap_setCell_same wx (w.heap.size + 1) 0 _ _ (.bool false) g2, g7.setCell (p := ⟨w.heap.size + 1, 0, none⟩) (by simp) _⟩
   case true =>
    have hl15 := full_line hfl;rw [HL.out] at hl15;obtain ⟨x, rfl⟩ : ∃ x : Nat, l = (x : Int) := ⟨l.toNat, by omega⟩;have hx16 : x < 16 := by omega
    have hx16' : (x : Int) < 16 := by omega
    have HF : Hid (∀ W, SlRd intR W ad d → Calls Tryz.prog 248 #[.agg #[.int .i64 (x : Int), .int .i64 st, .slice ad d.length cpw]] W fun e w' => e = .returned (.bool true) ∧ Below W.heap.size W w') := fun W h => by have := implFull_any (x : Int) st d ad cpw W h; rwa [HFB.out hfl] at this
    have HS0 : ∀ W, Calls Tryz.prog 236 #[.agg #[.slice (some ⟨b0, off0, none⟩) c.1.length cap, .slice b c.2.length cp], .int .i64 (x : Int)] W fun e w' => e = .returned (.int .i64 ((x : Int) % (c.1.length : Int))) ∧ Below W.heap.size W w' := fun W => setOf_any _ _ _ _ _ _ _ rfl _ W HP.out (by omega);by_cases hq : (x : Int) % (c.1.length : Int) = (k / m : Nat)
    ·have HS : Hid (∀ W, Calls Tryz.prog 236 #[.agg #[.slice (some ⟨b0, off0, none⟩) c.1.length cap, .slice b c.2.length cp], .int .i64 (x : Int)] W fun e w' => e = .returned (.int .i64 ((k / m : Nat) : Int)) ∧ Below W.heap.size W w') := by rw [hq] at HS0; exact HS0
     have HQ : Hid ((x : Int) % (c.1.length : Int) = (k / m : Nat)) := hq;clear HS0 hq hl15;cases hsb : seenB c m k x
     case true =>
      have m4 : ∀ n : Cls (fun wx => Below V1.heap.size V1 wx), n.w.cell? ⟨w.heap.size + 1 + 1, x, none⟩ = some (.bool true) := fun n => by
       obtain ⟨-, -, -, ⟨cur, c1, -, c3⟩, -, -⟩ := wok_below HK.out n.h;rw [cell_of_row n.w _ x _ _ (0, 0) c1, c3 x hx16, hsb]
      refine regionIn_class (fun wx => Below V1.heap.size V1 wx) (by kernel_rfl) (by kernel_rfl) (by kernel_rfl) ((Below.refl _ V1).drew) ?_;intro hne;repeat (quiet_step (first | (go_at_call 248; exact calls_class (HF.out _ (hrdn.out _)) (fun w' hc bb => below_step hc bb)) | (go_at_call 236; exact calls_class (HS.out _) (fun w' hc bb => below_step hc bb))))
      refine wpQuiet_nil ?_;intro wx b2;clear m0 m1 m2 m3 n0 n1 hne m4;obtain ⟨g0, g1, g2, g3, g6, g7⟩ := wok_below K1 b2;have r2 : wx.cell? ⟨w.heap.size + 1, 0, none⟩ = some (.bool false) := by rw [cell_of_row wx _ 0 _ _ (0, 0) g2]; rfl
      have r3 : wx.frozen? ⟨w.heap.size + 1, 0, none⟩ = false := frozen_of_row wx _ 0 _ _ g2;gi_wp2
      refine ⟨Kept.trans (Kept.below (below_step b1 b2)) (Kept.chg (S := fun j => j = w.heap.size + 1) (chg_grown (grownBy_setCell' wx (w.heap.size + 1) _) rfl) (fun j e => by omega)), rfl, upto_not hk hcl (fun h => by obtain ⟨j, hj, e⟩ := (HY.out x).1 hsb; exact h.2.2 j hj (by rw [e, HL.out])), heap_setCell_same wx (w.heap.size + 1) 0 _ _ (.bool false) g2, g7.setCell (p := ⟨w.heap.size + 1, 0, none⟩) (by simp) _⟩
     case false =>
      have m4 : ∀ n : Cls (fun wx => Below V1.heap.size V1 wx), n.w.cell? ⟨w.heap.size + 1 + 1, x, none⟩ = some (.bool false) := fun n => by
       obtain ⟨-, -, -, ⟨cur, c1, -, c3⟩, -, -⟩ := wok_below HK.out n.h;rw [cell_of_row n.w _ x _ _ (0, 0) c1, c3 x hx16, hsb]
      refine regionIn_class (fun wx => Below V1.heap.size V1 wx) (by kernel_rfl) (by kernel_rfl) (by kernel_rfl) ((Below.refl _ V1).drew) ?_;intro hne;repeat (quiet_step (first | (go_at_call 248; exact calls_class (HF.out _ (hrdn.out _)) (fun w' hc bb => below_step hc bb)) | (go_at_call 236; exact calls_class (HS.out _) (fun w' hc bb => below_step hc bb))))
      refine wpQuiet_nil ?_;intro wx b2;clear m0 m1 m2 m3 n0 n1 hne m4;obtain ⟨g0, g1, g2, ⟨cur, g3, g3', g3''⟩, g6, g7⟩ := wok_below K1 b2;have r2 : wx.cell? ⟨w.heap.size + 1 + 1, x, none⟩ = some (.bool false) := by rw [cell_of_row wx _ x _ _ (0, 0) g3, g3'' x hx16, hsb]
      have r3 : wx.frozen? ⟨w.heap.size + 1 + 1, x, none⟩ = false := frozen_of_row wx _ x _ _ g3;have r4 := X5.out wx b2;gi_wp2
      refine ⟨Kept.trans (Kept.below (below_step b1 b2)) (Kept.chg (S := fun j => j = w.heap.size + 1 + 1) (chg_grown (grown_at wx _ _ _) rfl) (fun j e => by omega)), upto_next g0 (.inr ⟨hfl, by rw [HL.out]; exact HQ.out, fun i hi e => ?_⟩), (heap_setCell_other wx ⟨w.heap.size + 1 + 1, x, none⟩ _ _ (by simp; omega)).trans g1, (heap_setCell_other wx ⟨w.heap.size + 1 + 1, x, none⟩ _ _ (by simp)).trans g2, ⟨_, heap_setCell_same wx (w.heap.size + 1 + 1) x _ _ (.bool true) g3, by simpa using g3', fun y hy => ?_⟩, (heap_setCell_other wx ⟨w.heap.size + 1 + 1, x, none⟩ _ _ (by simp)).trans g6, g7.setCell (p := ⟨w.heap.size + 1 + 1, x, none⟩) (by simp; omega) _⟩
      ·rw [HL.out] at e;have := (HY.out x).2 ⟨i, hi, e⟩;rw [hsb] at this;cases this
      ·rw [seen_next HL.out, Array.getElem?_setIfInBounds];by_cases hxy : x = y
       ·subst hxy;simp [g3', hx16]
       ·rw [if_neg hxy, g3'' y hy];have : decide (y = x) = false := by simp; omega
        rw [this, Bool.false_or]
    ·have HQ : Hid (¬ (x : Int) % (c.1.length : Int) = (k / m : Nat)) := hq;have hq3 : (((x : Int) % (c.1.length : Int)) != (k : Int) / (m : Int)) = true := by rw [show (k : Int) / (m : Int) = ((k / m : Nat) : Int) from rfl]; simpa using hq
     generalize (x : Int) % (c.1.length : Int) = q at HS0 hq3;have HS : Hid _ := HS0;clear HS0 hq hl15;refine regionIn_class (fun wx => Below V1.heap.size V1 wx) (by kernel_rfl) (by kernel_rfl) (by kernel_rfl) ((Below.refl _ V1).drew) ?_;intro hne;iterate 11 (quiet_step (first | (go_at_call 248; exact calls_class (HF.out _ (hrdn.out _)) (fun w' hc bb => below_step hc bb)) | (go_at_call 236; exact calls_class (HS.out _) (fun w' hc bb => below_step hc bb))))
     clear hq3;quiet_step (skip)
     refine wpQuiet_step (fun K hK => ?_);go_simp
     refine hid_act K _ ?_;intro A0 hA0;refine hK A0 ?_;clear hK K;have ht0 : A0.tmps[24]? = some (.bool true) := by rw [hA0]; rfl
     refine wpQuiet_skip (b := false) (d := 24) ht0 rfl rfl rfl (by decide) ?_;intro S0x0 eS0x0 hS0x0;clear ht0;refine wpQuiet_skip (b := false) (d := 24) hS0x0 rfl rfl rfl (by decide) ?_;intro S0x1 eS0x1 hS0x1;clear hS0x0;refine wpQuiet_skip (b := false) (d := 24) hS0x1 rfl rfl rfl (by decide) ?_;intro S0x2 eS0x2 hS0x2;clear hS0x1;refine wpQuiet_skip (b := false) (d := 24) hS0x2 rfl rfl rfl (by decide) ?_;intro S0x3 eS0x3 hS0x3;clear hS0x2;clear hS0x3;subst eS0x3 eS0x2 eS0x1 eS0x0;subst hA0;quiet_step (skip)
     refine wpQuiet_nil ?_;intro wx b2;clear m0 m1 m2 m3 n0 n1 hne;obtain ⟨g0, g1, g2, g3, g6, g7⟩ := wok_below K1 b2;have r2 : wx.cell? ⟨w.heap.size + 1, 0, none⟩ = some (.bool false) := by rw [cell_of_row wx _ 0 _ _ (0, 0) g2]; rfl
     have r3 : wx.frozen? ⟨w.heap.size + 1, 0, none⟩ = false := frozen_of_row wx _ 0 _ _ g2;gi_wp2
     refine ⟨Kept.trans (Kept.below (below_step b1 b2)) (Kept.chg (S := fun j => j = w.heap.size + 1) (chg_grown (grownBy_setCell' wx (w.heap.size + 1) _) rfl) (fun j e => by omega)), rfl, upto_not hk hcl (fun h => HQ.out (by rw [← HL.out]; exact h.2.1)), heap_setCell_same wx (w.heap.size + 1) 0 _ _ (.bool false) g2, g7.setCell (p := ⟨w.heap.size + 1, 0, none⟩) (by simp) _⟩
 case hdone =>
  rintro W ⟨g0, g1, g2, _, _, g7⟩ hK;have q2 : W.cell? ⟨w.heap.size + 1, 0, none⟩ = some (.bool false) := by rw [cell_of_row W _ 0 _ _ (0, 0) g2]; rfl
  have q3 : W.frozen? ⟨w.heap.size + 1, 0, none⟩ = false := frozen_of_row W _ 0 _ _ g2;gi_wp2
  have g8 := heap_setCell_same W (w.heap.size + 1) 0 _ _ (.bool true) g2;have hK' : (W.setCell ⟨w.heap.size + 1, 0, none⟩ (.bool true)).heap[W0.heap.size]? = some (.deferred (some [])) := (heap_setCell_other W ⟨w.heap.size + 1, 0, none⟩ _ _ (by simp; omega)).trans hK;refine ⟨by simp, .inl ⟨_, _, rfl, run_takeDeferred hK', ?_⟩⟩;have g9 := (World.putObj_heap_other (o := .deferred none) (show w.heap.size + 1 ≠ W0.heap.size by omega)).trans g8;have hc5 := cell_of_row _ _ 0 _ _ (0, 0) g9;refine ⟨.bool true, ?_, ret_bool (waysB_yes g0).symm, (g7.setCell (p := ⟨w.heap.size + 1, 0, none⟩) (by simp) _).trans ((Below.refl _ _).grown (grownBy_putObj' _ _ _) (by have := (ltH hK'); omega) (fun k e => by cases e; omega))⟩;simp at hc5
  simp [results, Tryz.results235, go_sem, hc5]
 case hstop =>
  rintro x k W hk ⟨rfl, hf, g5, g7⟩ hK;gi_wp2
  refine ⟨by simp, .inl ⟨_, _, rfl, run_takeDeferred hK, ?_⟩⟩;have g9 := (World.putObj_heap_other (o := .deferred none) (show w.heap.size + 1 ≠ W0.heap.size by omega)).trans g5;have hc5 := cell_of_row _ _ 0 _ _ (0, 0) g9;refine ⟨.bool false, ?_, ret_bool hf.symm, g7.trans ((Below.refl _ _).grown (grownBy_putObj' _ _ _) (by have := (ltH hK); omega) (fun k e => by cases e; omega))⟩;simp at hc5
  simp [results, Tryz.results235, go_sem, hc5]
end Go.Proofs.YtcocbafhcpdheaaGreatDoor
