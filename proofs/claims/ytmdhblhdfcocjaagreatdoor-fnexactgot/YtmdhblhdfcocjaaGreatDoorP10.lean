import Derived.Test.YtmdhblhdfcocjaaGreatDoorP00Box
import Derived.Test.YtmdhblhdfcocjaaGreatDoorP09
namespace Go.Proofs.YtmdhblhdfcocjaaGreatDoor
open Go.ChangeShapes Go.WideShapes Go.ChangeAt Go.RowKit Go.Shelf
set_option linter.unusedVariables false
attribute [local go_sem] Oper.semAt_some
def zBZ (c : zAu) (m k : Nat) : zAT := (c.1.getD (k / m) []).getD (k % m) zAF
def zDA (c : zAu) (m k : Nat) : Prop :=
 ∀ j, j < k → zB7 (zBZ c m j) = true ∨ (zBh isL (zBZ c m j) = true ∧ (zBZ c m j).1 % (c.1.length : Int) = (j / m : Nat) ∧ ∀ i, i < j → (zBZ c m i).1 ≠ (zBZ c m j).1)
open Classical in
noncomputable def zFC (c : zAu) (m k : Nat) (x : Nat) : Bool := decide (∃ j, j < k ∧ (zBZ c m j).1 = (x : Int))
open Classical in
noncomputable def zHs (c : zAu) (m : Nat) : Bool := decide (zDA c m (c.1.length * m))
theorem zIW {c : zAu} {m : Nat} (h : zDA c m (c.1.length * m)) : zHs c m = true := by simp [zHs, h]
theorem zLf {c : zAu} {m : Nat} (h : ¬ zDA c m (c.1.length * m)) : zHs c m = false := by simp [zHs, h]
theorem zGA {c : zAu} {m k : Nat} (h : zDA c m k) (hn : zB7 (zBZ c m k) = true ∨ (zBh isL (zBZ c m k) = true ∧ (zBZ c m k).1 % (c.1.length : Int) = (k / m : Nat) ∧ ∀ i, i < k → (zBZ c m i).1 ≠ (zBZ c m k).1)) : zDA c m (k + 1) := fun j hj => by
 by_cases a : j < k
 ·exact h j a
 ·have : j = k := by omega
  subst this;exact hn
theorem zIe {c : zAu} {m k : Nat} (hk : k < c.1.length * m) (hc : zB7 (zBZ c m k) = false) (hn : ¬ (zBh isL (zBZ c m k) = true ∧ (zBZ c m k).1 % (c.1.length : Int) = (k / m : Nat) ∧ ∀ i, i < k → (zBZ c m i).1 ≠ (zBZ c m k).1)) : zHs c m = false := zLf fun h => by
 rcases h k hk with h | h
 ·rw [hc] at h;cases h
 ·exact hn h
theorem zMJ {c : zAu} {m x : Nat} : zFC c m 0 x = false := by simp [zFC]
theorem zMK {c : zAu} {m k x : Nat} (h : zB7 (zBZ c m k) = true) : zFC c m (k + 1) x = zFC c m k x := by
 have : (∃ j, j < k + 1 ∧ (zBZ c m j).1 = (x : Int)) ↔ ∃ j, j < k ∧ (zBZ c m j).1 = (x : Int) := by
  constructor
  ·rintro ⟨j, b, e⟩;by_cases a : j < k
   ·exact ⟨j, a, e⟩
   ·have : j = k := by omega
    subst this;rw [zCQ h] at e;simp [zAF] at e
  ·rintro ⟨j, b, e⟩;exact ⟨j, by omega, e⟩
 simp only [zFC, this]
theorem zML {c : zAu} {m k x y : Nat} (h : (zBZ c m k).1 = (y : Int)) : zFC c m (k + 1) x = (decide (x = y) || zFC c m k x) := by
 have : (∃ j, j < k + 1 ∧ (zBZ c m j).1 = (x : Int)) ↔ (x = y ∨ ∃ j, j < k ∧ (zBZ c m j).1 = (x : Int)) := by
  constructor
  ·rintro ⟨j, b, e⟩;by_cases a : j < k
   ·exact .inr ⟨j, a, e⟩
   ·have : j = k := by omega
    subst this;rw [h] at e;left
    omega
  ·rintro (rfl | ⟨j, b, e⟩)
   ·exact ⟨k, by omega, h⟩
   ·exact ⟨j, by omega, e⟩
 simp only [zFC, this, Bool.decide_or]
theorem seen_iff {c : zAu} {m k x : Nat} : zFC c m k x = true ↔ ∃ j, j < k ∧ (zBZ c m j).1 = (x : Int) := by simp [zFC]
theorem zIX {w : World} {a : Option Addr} {xs : List (List zAT)} {m : Nat} (h : zBg zBl w a xs) (hne : xs ≠ []) (hm : 0 < m) (hrow : ∀ row ∈ xs, row.length = m) :
    ∃ k d g, a = some ⟨k, d, none⟩ ∧ zHA w k d xs.length m g ∧ ∀ (i j : Nat) (row : List zAT) (u : zAT), xs[i]? = some row → row[j]? = some u →
     ((g i).way j).line = u.1 ∧ ((g i).way j).state = u.2.1 ∧ ((g i).way j).len = u.2.2.length ∧ u.2.2.length ≤ ((g i).way j).cap ∧ ((g i).way j).cap ≤ maxLen ∧ zBg zBC w ((g i).way j).addr u.2.2 := by
 have p : 0 < xs.length := List.length_pos_iff.2 hne;obtain ⟨k, d, _, _, z, _⟩ := zDj h (List.getElem?_eq_getElem p);have n : ∀ i : Nat, ∃ x : SCells, ∀ row, xs[i]? = some row → (w.cell? ⟨k, d + i, none⟩ = some (sL (some ⟨x.b, x.off, none⟩) m x.cap) ∧ zJT w x.b x.off m x.way) ∧ ∀ (j : Nat) (u : zAT), row[j]? = some u →
     (x.way j).line = u.1 ∧ (x.way j).state = u.2.1 ∧ (x.way j).len = u.2.2.length ∧ u.2.2.length ≤ (x.way j).cap ∧ (x.way j).cap ≤ maxLen ∧ zBg zBC w (x.way j).addr u.2.2 := by
  intro i;cases q : xs[i]? with
  | none => exact ⟨⟨0, 0, 0, fun _ => ⟨0, 0, none, 0, 0⟩⟩, fun row hr => by cases hr⟩
  | some row =>
   obtain ⟨b', v, aj, A, l, y, -, -, s⟩ := zDj h q;rw [z] at l;cases l;have r := hrow row (List.mem_of_getElem? q);obtain ⟨b, off, c, rfl, o, f⟩ := zLc s (fun e => by rw [e] at r; simp at r; omega);rw [r] at o y;refine ⟨⟨b, off, A, c⟩, fun row' hr => ?_⟩;cases hr;exact ⟨⟨y, o⟩, f⟩
 obtain ⟨g, f⟩ := Classical.axiomOfChoice n;exact ⟨k, d, g, z, fun i q => (f i _ (List.getElem?_eq_getElem q)).1, fun i j row u hr hu => (f i row hr).2 j u hu⟩
theorem zFP {w w' : World} {b0 off0 s m : Nat} {cc : Nat → SCells} (h : zHA w b0 off0 s m cc) (hb : Bl w w') (hm : 0 < m) : zHA w' b0 off0 s m cc := by
 by_cases a : 0 < s
 ·exact zJX h (hb.block _ (zAi (h 0 a).1)) (fun i hi => hb.block _ (zLd (h i hi).2 hm))
 ·exact fun i hi => by omega
theorem zGn {c : zAu} {m k : Nat} (hm : 0 < m) (hrow : ∀ row ∈ c.1, row.length = m) (hk : k < c.1.length * m) : ∃ row, c.1[k / m]? = some row ∧ row[k % m]? = some (zBZ c m k) := by
 have a : k / m < c.1.length := by rw [Nat.div_lt_iff_lt_mul hm]; exact hk
 have h2 : k % m < m := Nat.mod_lt _ hm;refine ⟨_, List.getElem?_eq_getElem a, ?_⟩;have h3 := hrow _ (List.getElem_mem a);have b : c.1.getD (k / m) [] = c.1[k / m] := by rw [List.getD_eq_getElem?_getD, List.getElem?_eq_getElem a]; rfl
 have : k % m < (c.1[k / m]).length := by omega
 rw [List.getElem?_eq_getElem this];unfold zBZ;rw [b, List.getD_eq_getElem?_getD, List.getElem?_eq_getElem this];rfl
set_option maxHeartbeats 400000 in
theorem zFQ (u v : Value) (a a' : Option Addr) (n n' cap cap' : Nat) (hu : u = sL a n cap) (hv : v = sL a' n' cap') (w : World) :
    Calls Tryz.prog 99 #[.agg #[u, v]] w fun e w' => e = .returned (.func (.func 120) #[] #[.pointer (some ⟨w.heap.size, 0, none⟩)]) ∧ w' = w.alloc (.cells #[u, v] 37) := by
 subst hu hv;go_enter Tryz.func99, Tryz.ntmps99;go_wp2;go_ret
 exact ⟨rfl, rfl⟩
theorem zIf (W : World) (g o : Nat) (v : Value) : W.grownBy (W.setCell ⟨g, o, none⟩ v) (some g) := ⟨rfl, rfl, rfl, by simp, fun k _ hk => heap_setCell_other W ⟨g, o, none⟩ k v (fun e => hk (by simp [e]))⟩
def WOk (w : World) (v u : Value) (c : zAu) (m k : Nat) (W : World) : Prop :=
 zDA c m k ∧ W.heap[w.heap.size]? = some (.cells #[v, u] 37 (0, 0)) ∧ W.heap[w.heap.size + 1]? = some (.cells #[.bool false] 4 (0, 0)) ∧
 (∃ cur : Array Value, W.heap[w.heap.size + 1 + 1]? = some (.cells cur 141 (0, 0)) ∧ cur.size = 16 ∧ ∀ x, x < 16 → cur[x]? = some (.bool (zFC c m k x))) ∧
 W.heap[w.heap.size + 1 + 1 + 1]? = some (.cells #[v, u] 37 (0, 0)) ∧ Below w.heap.size w W
theorem zMM {w : World} {v u : Value} {c : zAu} {m B : Nat} (hB : w.heap.size ≤ B) : OwnFrom B (fun k W => WOk w v u c m k W) := by
 rintro k X Y a ⟨g, i, p, ⟨f, j, l, o⟩, n, q⟩ b d;exact ⟨g, zBo (β := Unit) _ _ _ _ () X Y a i b d, zBo (β := Unit) _ _ _ _ () X Y a p b d, ⟨f, zBo (β := Unit) _ _ _ _ () X Y a j b d, l, o⟩, zBo (β := Unit) _ _ _ _ () X Y a n b d, ownFrom_below (β := Unit) (Nat.le_refl _) hB () X Y a q b d⟩
theorem zC8 {w : World} {v u : Value} {c : zAu} {m k : Nat} {W W' : World} (h : WOk w v u c m k W) (hb : Bl W W') : WOk w v u c m k W' := by
 obtain ⟨b, d, j, ⟨a, f, n, i⟩, g, l⟩ := h;exact ⟨b, zAa hb d, zAa hb j, ⟨a, zAa hb f, n, i⟩, zAa hb g, zAb l hb⟩
set_option maxHeartbeats 4000000 in
theorem zLE (a b : Option Addr) (c : zAu) (cap cp m : Nat) (w : World) (h1 : zBg zBl w a c.1) (hp : c.1.length = 1 ∨ c.1.length = 2 ∨ c.1.length = 4) (hm : m = 1 ∨ m = 2 ∨ m = 4) (hrow : ∀ KA ∈ c.1, KA.length = m) :
    Calls Tryz.prog 90 #[.agg #[sL a c.1.length cap, sL b c.2.length cp]] w fun e A => e = .returned (.bool (zHs c m)) ∧ Bl w A := by
 have zA : 0 < m := by omega
 obtain ⟨r, f, g, rfl, zB, EB⟩ := zIX h1 (fun e => by rw [e] at hp; simp at hp) zA hrow;have HG : Hid (∀ k, k < c.1.length * m → ((g (k / m)).way (k % m)).line = (zBZ c m k).1 ∧ ((g (k / m)).way (k % m)).state = (zBZ c m k).2.1 ∧ ((g (k / m)).way (k % m)).len = (zBZ c m k).2.2.length ∧ (zBZ c m k).2.2.length ≤ maxLen ∧ zBg zBC w ((g (k / m)).way (k % m)).addr (zBZ c m k).2.2) := fun k hk => by
  obtain ⟨KA, e1, e2⟩ := zGn zA hrow hk;obtain ⟨q1, q2, q3, q4, q5, q6⟩ := EB _ _ KA _ e1 e2;exact ⟨q1, q2, q3, Nat.le_trans q4 q5, q6⟩
 have HP : Hid (c.1.length = 1 ∨ c.1.length = 2 ∨ c.1.length = 4) := hp;have HM : Hid (m = 1 ∨ m = 2 ∨ m = 4) := hm;have HA : Hid _ := zB;clear h1 EB hrow hp hm zB;refine (callsIn_wide (n := 0)).1 ?_;refine callsIn_of_wp_marks Tryz.func90 rfl trivial ?_ rfl;simp only [Tryz.ntmps90, List.size_toArray, List.length_cons, List.length_nil, Nat.reduceAdd, Nat.reduceSub, Array.replicate_succ, Array.replicate_zero, List.push_toArray, List.append_toArray, List.nil_append, List.cons_append];gi_wp2
 refine ⟨trivial, rfl, (callsIn_wide.2 (zFQ _ _ _ _ _ _ _ _ rfl rfl _)).mono ?_⟩;rintro e A ⟨rfl, rfl⟩;gi_wp2
 have CB : Bl w ((((w.alloc (.cells #[sL (some ⟨r, f, none⟩) c.1.length cap, sL b c.2.length cp] 37)).alloc (.cells #[.bool false] 4)).alloc (.cells #[.bool false, .bool false, .bool false, .bool false, .bool false, .bool false, .bool false, .bool false, .bool false, .bool false, .bool false, .bool false, .bool false, .bool false, .bool false, .bool false] 141)).alloc (.cells #[sL (some ⟨r, f, none⟩) c.1.length cap, sL b c.2.length cp] 37)) := ((((Below.refl _ w).alloc (Nat.le_refl _) _).alloc (by simp) _).alloc (by simp; omega) _).alloc (by simp; omega) _;have k0 := zAK (.cells #[sL (some ⟨r, f, none⟩) c.1.length cap, sL b c.2.length cp] 37) (zAK (.cells #[.bool false, .bool false, .bool false, .bool false, .bool false, .bool false, .bool false, .bool false, .bool false, .bool false, .bool false, .bool false, .bool false, .bool false, .bool false, .bool false] 141) (zAK (.cells #[.bool false] 4) (zAx w (.cells #[sL (some ⟨r, f, none⟩) c.1.length cap, sL b c.2.length cp] 37))));have k1 := zAK (.cells #[sL (some ⟨r, f, none⟩) c.1.length cap, sL b c.2.length cp] 37) (zAK (.cells #[.bool false, .bool false, .bool false, .bool false, .bool false, .bool false, .bool false, .bool false, .bool false, .bool false, .bool false, .bool false, .bool false, .bool false, .bool false, .bool false] 141) (zAx (w.alloc (.cells #[sL (some ⟨r, f, none⟩) c.1.length cap, sL b c.2.length cp] 37)) (.cells #[.bool false] 4)));have k2 := zAK (.cells #[sL (some ⟨r, f, none⟩) c.1.length cap, sL b c.2.length cp] 37) (zAx ((w.alloc (.cells #[sL (some ⟨r, f, none⟩) c.1.length cap, sL b c.2.length cp] 37)).alloc (.cells #[.bool false] 4)) (.cells #[.bool false, .bool false, .bool false, .bool false, .bool false, .bool false, .bool false, .bool false, .bool false, .bool false, .bool false, .bool false, .bool false, .bool false, .bool false, .bool false] 141));have k3 := zAx (((w.alloc (.cells #[sL (some ⟨r, f, none⟩) c.1.length cap, sL b c.2.length cp] 37)).alloc (.cells #[.bool false] 4)).alloc (.cells #[.bool false, .bool false, .bool false, .bool false, .bool false, .bool false, .bool false, .bool false, .bool false, .bool false, .bool false, .bool false, .bool false, .bool false, .bool false, .bool false] 141)) (.cells #[sL (some ⟨r, f, none⟩) c.1.length cap, sL b c.2.length cp] 37);have e4 : ((((w.alloc (.cells #[sL (some ⟨r, f, none⟩) c.1.length cap, sL b c.2.length cp] 37)).alloc (.cells #[.bool false] 4)).alloc (.cells #[.bool false, .bool false, .bool false, .bool false, .bool false, .bool false, .bool false, .bool false, .bool false, .bool false, .bool false, .bool false, .bool false, .bool false, .bool false, .bool false] 141)).alloc (.cells #[sL (some ⟨r, f, none⟩) c.1.length cap, sL b c.2.length cp] 37)).heap.size = w.heap.size + 1 + 1 + 1 + 1 := by simp
 rw [zAp] at k1;rw [zAp, zAp] at k2;rw [zAp, zAp, zAp] at k3;have iB : WOk w (sL (some ⟨r, f, none⟩) c.1.length cap) (sL b c.2.length cp) c m 0 ((((w.alloc (.cells #[sL (some ⟨r, f, none⟩) c.1.length cap, sL b c.2.length cp] 37)).alloc (.cells #[.bool false] 4)).alloc (.cells #[.bool false, .bool false, .bool false, .bool false, .bool false, .bool false, .bool false, .bool false, .bool false, .bool false, .bool false, .bool false, .bool false, .bool false, .bool false, .bool false] 141)).alloc (.cells #[sL (some ⟨r, f, none⟩) c.1.length cap, sL b c.2.length cp] 37)) := by
  refine ⟨fun j hj => by omega, k0, k1, ⟨_, k2, rfl, fun x hx => ?_⟩, k3, CB⟩;rw [zMJ];rcases x with _ | _ | _ | _ | _ | _ | _ | _ | _ | _ | _ | _ | _ | _ | _ | _ | x <;> first | rfl | omega
 clear k0 k1 k2 k3 CB;generalize (((w.alloc (.cells #[sL (some ⟨r, f, none⟩) c.1.length cap, sL b c.2.length cp] 37)).alloc (.cells #[.bool false] 4)).alloc (.cells #[.bool false, .bool false, .bool false, .bool false, .bool false, .bool false, .bool false, .bool false, .bool false, .bool false, .bool false, .bool false, .bool false, .bool false, .bool false, .bool false] 141)).alloc (.cells #[sL (some ⟨r, f, none⟩) c.1.length cap, sL b c.2.length cp] 37) = W0 at e4 iB ⊢;refine zE3 (N := c.1.length * m) (lb := #[.pointer (some ⟨w.heap.size + 1 + 1 + 1, 0, none⟩)]) (gf := 120) rfl (enters_of Tryz.func120 (by kernel_rfl) rfl)
  (zEK (w.heap.size + 1 + 1 + 1) r f c.1.length m cap g (by have := HP.out; omega) (by have := HM.out; omega) (by have := HP.out; omega) zA) (fun _ => rfl)
  (fun k W => WOk w (sL (some ⟨r, f, none⟩) c.1.length cap) (sL b c.2.length cp) c m k W)
  (fun x k W => x = .ret ∧ zHs c m = false ∧ W.heap[w.heap.size + 1]? = some (.cells #[.bool false] 4 (0, 0)) ∧ Bl w W)
  (zMM (by omega)) (fun x => OwnFrom.and (ownFrom_pure _ _) (OwnFrom.and (ownFrom_pure _ _) (OwnFrom.and (zBo _ _ _ _) (ownFrom_below (Nat.le_refl _) (by omega))))) ?hR iB
  (fun k a' W => ∃ B4 B5, W0.heap.size < B4 ∧ W0.heap.size < B5 ∧ W.heap[B4]? = some (.cells #[nI (k / m : Nat), nI (k % m : Nat)] 126 (0, 0)) ∧ W.heap[B5]? = some (.cells #[nI ((g (k / m)).way (k % m)).line, nI ((g (k / m)).way (k % m)).state, .slice ((g (k / m)).way (k % m)).addr ((g (k / m)).way (k % m)).len ((g (k / m)).way (k % m)).cap] 39 (0, 0)) ∧ WOk w (sL (some ⟨r, f, none⟩) c.1.length cap) (sL b c.2.length cp) c m k W ∧
   a' = { tmps := #[.agg #[sL (some ⟨r, f, none⟩) c.1.length cap, sL b c.2.length cp], .pointer (some ⟨w.heap.size, 0, none⟩), .pointer (some ⟨w.heap.size + 1, 0, none⟩), .pointer (some ⟨w.heap.size + 1 + 1, 0, none⟩), .pointer (some ⟨B4, 0, none⟩), .pointer (some ⟨B5, 0, none⟩), .agg #[sL (some ⟨r, f, none⟩) c.1.length cap, sL b c.2.length cp], .func (.func 120) #[] #[.pointer (some ⟨w.heap.size + 1 + 1 + 1, 0, none⟩)], .agg #[nI (k / m : Nat), nI (k % m : Nat)], ((g (k / m)).way (k % m)).agg, undef, undef, undef, undef, undef, undef, undef, undef, undef, undef, undef, undef, undef, undef, undef, undef, undef, undef, undef, undef, undef, undef, undef], defers := [] })
  ?hA ?hassign ?hbody ?hdone ?hstop
 case hR =>
  rintro k W ⟨_, _, _, _, g6, O⟩;exact ⟨by rw [cell_of_row W _ 0 _ _ (0, 0) g6]; rfl, zFP HA.out O zA⟩
 case hA =>
  rintro k a' ⟨⟩ X Y fA ⟨B4, B5, l4, l5, g4, I, F, rfl⟩ hg hr;exact ⟨B4, B5, l4, l5, zBo (β := Unit) _ _ _ _ () X Y fA g4 hg hr, zBo (β := Unit) _ _ _ _ () X Y fA I hg hr, zMM (B := W0.heap.size) (by omega) k X Y fA F hg hr, rfl⟩
 case hassign =>
  rintro k W K hk F yB T;gi_wp2
  have z1 := zAf W (.cells #[nI (k / m : Nat), nI (k % m : Nat)] 126);have z2 := zAf (W.alloc (.cells #[nI (k / m : Nat), nI (k % m : Nat)] 126)) (.cells #[nI ((g (k / m)).way (k % m)).line, nI ((g (k / m)).way (k % m)).state, .slice ((g (k / m)).way (k % m)).addr ((g (k / m)).way (k % m)).len ((g (k / m)).way (k % m)).cap] 39);have z3 := zAx (W.alloc (.cells #[nI (k / m : Nat), nI (k % m : Nat)] 126)) (.cells #[nI ((g (k / m)).way (k % m)).line, nI ((g (k / m)).way (k % m)).state, .slice ((g (k / m)).way (k % m)).addr ((g (k / m)).way (k % m)).len ((g (k / m)).way (k % m)).cap] 39);rw [zAp] at z3;exact T _ _ (Kept.below (zAb z1 z2)) ⟨W.heap.size, W.heap.size + 1, by omega, by omega, zAK _ (zAx _ _), z3, zC8 (zC8 F z1) z2, rfl⟩
 case hbody =>
  rintro k a' V hk ⟨B4, B5, l4, l5, g4, I, F, rfl⟩ yB hD hL;obtain ⟨q1, q2, q3, q4, q5⟩ := HG.out k hk;have HU : Hid (zBZ c m k = ((zBZ c m k).1, (zBZ c m k).2.1, (zBZ c m k).2.2)) := rfl;rw [q1, q2, q3] at I;have DB : ((g (k / m)).way (k % m)).agg = .agg #[nI (zBZ c m k).1, nI (zBZ c m k).2.1, .slice ((g (k / m)).way (k % m)).addr (zBZ c m k).2.2.length ((g (k / m)).way (k % m)).cap] := by rw [WCells.agg, q1, q2, q3]
  rw [DB];clear DB q1 q2 q3;generalize ((g (k / m)).way (k % m)).addr = ad at I q5 ⊢;generalize ((g (k / m)).way (k % m)).cap = cpw at I ⊢;have nA : Hid (∀ {x}, zB7 (zBZ c m k) = x → zHr (zBZ c m k).1 (zBZ c m k).2.1 (zBZ c m k).2.2.length = x) := fun h => by rw [zHB]; exact h
  have dA : Hid (∀ {x}, zBh isL (zBZ c m k) = x → zBh isL ((zBZ c m k).1, (zBZ c m k).2.1, (zBZ c m k).2.2) = x) := fun h => h;have HY : Hid (∀ x : Nat, zFC c m k x = true ↔ ∃ j, j < k ∧ (zBZ c m j).1 = (x : Int)) := fun x => seen_iff;have BB : Hid ((zBZ c m k).1 = (zBZ c m k).1) := rfl;generalize hl : (zBZ c m k).1 = l at I nA dA BB ⊢;generalize (zBZ c m k).2.1 = st at I nA dA ⊢;generalize (zBZ c m k).2.2 = d at I q4 q5 nA dA ⊢;clear BB HU;have HL : Hid ((zBZ c m k).1 = l) := hl;clear hl;obtain ⟨x0, x1, x2⟩ := zAg I;obtain ⟨y0, y1⟩ := zAy g4;cases R : zB7 (zBZ c m k)
  case true =>
   have HE : Hid (∀ W, Calls Tryz.prog 94 #[.agg #[nI l, nI st, sL ad d.length cpw]] W fun e A => e = .returned (.bool true) ∧ Bl W A) := fun W => by have := zDO l st ad d.length cpw W q4; rwa [nA.out R] at this
   gi_wp2
   refine ⟨trivial, rfl, (CallsIn.inRound _ (callsIn_wide.2 (HE.out _))).mono ?_⟩;rintro e C ⟨rfl, b1⟩;gi_wp2
   obtain ⟨F, g1, E, ⟨BA, g3, AA, aA⟩, g6, O⟩ := zC8 F b1;exact ⟨Kept.below b1, zGA F (.inl R), g1, E, ⟨BA, g3, AA, fun x hx => by rw [zMK R]; exact aA x hx⟩, g6, O⟩
  case false =>
   have HE : Hid (∀ W, Calls Tryz.prog 94 #[.agg #[nI l, nI st, sL ad d.length cpw]] W fun e A => e = .returned (.bool false) ∧ Bl W A) := fun W => by have := zDO l st ad d.length cpw W q4; rwa [nA.out R] at this
   gi_wp2
   refine ⟨trivial, rfl, (CallsIn.inRound _ (callsIn_wide.2 (HE.out _))).mono ?_⟩;rintro e C ⟨rfl, b1⟩;have K1 := zC8 F b1;have oB : zBg zBC C ad d := zAG q5 K1.2.2.2.2.2;obtain ⟨z0, z1⟩ := zAy K1.2.1;replace I := zAa b1 I;replace g4 := zAa b1 g4;clear x0 x1 x2 y0 y1 HE;obtain ⟨x0, x1, x2⟩ := zAg I;obtain ⟨y0, y1⟩ := zAy g4;gi_wp2
   have m0 : ∀ n : Cls (fun wx => Bl C wx), n.w.cell? ⟨B5, 0, none⟩ = some (nI l) := fun n => zAd n.h x0 (zAi x0);have m1 : ∀ n : Cls (fun wx => Bl C wx), n.w.cell? ⟨B5, 1, none⟩ = some (nI st) := fun n => zAd n.h x1 (zAi x1);have m2 : ∀ n : Cls (fun wx => Bl C wx), n.w.cell? ⟨B5, 2, none⟩ = some (sL ad d.length cpw) := fun n => zAd n.h x2 (zAi x2);have m3 : ∀ n : Cls (fun wx => Bl C wx), n.w.cell? ⟨B4, 0, none⟩ = some (nI (k / m : Nat)) := fun n => zAd n.h y0 (zAi y0);have n0 : ∀ n : Cls (fun wx => Bl C wx), n.w.cell? ⟨w.heap.size, 0, none⟩ = some (sL (some ⟨r, f, none⟩) c.1.length cap) := fun n => zAd n.h z0 (zAi z0);have n1 : ∀ n : Cls (fun wx => Bl C wx), n.w.cell? ⟨w.heap.size, 1, none⟩ = some (sL b c.2.length cp) := fun n => zAd n.h z1 (zAi z1);have Z : Hid (∀ n : Cls (fun wx => Bl C wx), zBg zBC n.w ad d) := fun n => zAG oB n.h;have X5 : Hid (∀ wx, Bl C wx → wx.cell? ⟨B5, 0, none⟩ = some (nI l)) := fun wx h => zAd h x0 (zAi x0);have HK : Hid _ := K1;clear K1 x0 x1 x2 y0 y1 z0 z1 oB F q5 hD hL g4 I yB l4 l5;have K1 := HK.out;cases eA : zBh isL (zBZ c m k)
   case false =>
    have HF : Hid (∀ W, zBg zBC W ad d → Calls Tryz.prog 96 #[.agg #[nI l, nI st, sL ad d.length cpw]] W fun e A => e = .returned (.bool false) ∧ Bl W A) := fun W h => by have := zDw l st d ad cpw W h; rwa [dA.out eA] at this
    refine zCO (fun wx => Bl C wx) (by kernel_rfl) (by kernel_rfl) (by kernel_rfl) ((Below.refl _ C).drew) ?_;intro H;iterate 3 (quiet_step ((go_at_call 96; exact zAz (HF.out _ (Z.out _)) (fun A hc bb => zAb hc bb))))
    refine wpQuiet_step (fun K T => ?_);go_simp
    refine zGy K _ ?_;intro A0 kA;refine T A0 ?_;clear T K;have jA : A0.tmps[15]? = some (.bool true) := by rw [kA]; rfl
    refine zA4 (b := false) (d := 15) jA rfl rfl rfl (by decide) ?_;intro sB J v;clear jA;refine zA4 (b := false) (d := 15) v rfl rfl rfl (by decide) ?_;intro gB L z;clear v;refine zA4 (b := false) (d := 15) z rfl rfl rfl (by decide) ?_;intro lB G s;clear z;refine zA4 (b := false) (d := 15) s rfl rfl rfl (by decide) ?_;intro rB M D;clear s;refine zA4 (b := false) (d := 15) D rfl rfl rfl (by decide) ?_;intro CC IA iA;clear D;refine zA4 (b := false) (d := 15) iA rfl rfl rfl (by decide) ?_;intro nC RA lA;clear iA;refine zA4 (b := false) (d := 15) lA rfl rfl rfl (by decide) ?_;intro DC FA TA;clear lA;clear TA;subst FA RA IA M G L J;subst kA;quiet_step (skip)
    refine wpQuiet_step (fun K T => ?_);go_simp
    refine zGy K _ ?_;intro A1 dB;refine T A1 ?_;clear T K;have nB : A1.tmps[24]? = some (.bool true) := by rw [dB]; rfl
    refine zA4 (b := false) (d := 24) nB rfl rfl rfl (by decide) ?_;intro zC OA gA;clear nB;refine zA4 (b := false) (d := 24) gA rfl rfl rfl (by decide) ?_;intro mC VA mA;clear gA;refine zA4 (b := false) (d := 24) mA rfl rfl rfl (by decide) ?_;intro oC UA qA;clear mA;refine zA4 (b := false) (d := 24) qA rfl rfl rfl (by decide) ?_;intro qC SA GA;clear qA;clear GA;subst SA UA VA OA;subst dB;quiet_step (skip)
    refine wpQuiet_nil ?_;intro wx b2;clear m0 m1 m2 m3 n0 n1 H;obtain ⟨F, g1, E, g3, g6, O⟩ := zC8 K1 b2;have r2 : wx.cell? ⟨w.heap.size + 1, 0, none⟩ = some (.bool false) := by rw [cell_of_row wx _ 0 _ _ (0, 0) E]; rfl
    have r3 : wx.frozen? ⟨w.heap.size + 1, 0, none⟩ = false := frozen_of_row wx _ 0 _ _ E;gi_wp2
    refine ⟨Kept.trans (Kept.below (zAb b1 b2)) (Kept.chg (S := fun j => j = w.heap.size + 1) (zCR (grownBy_setCell' wx (w.heap.size + 1) _) rfl) (fun j e => by omega)), rfl, zIe hk R (fun h => by rw [eA] at h; exact absurd h.1 (by simp)), heap_setCell_same wx (w.heap.size + 1) 0 _ _ (.bool false) E, O.setCell (p := ⟨w.heap.size + 1, 0, none⟩) (by simp) _⟩
   case true =>
    have oA := zBY eA;rw [HL.out] at oA;obtain ⟨x, rfl⟩ : ∃ x : Nat, l = (x : Int) := ⟨l.toNat, by omega⟩;have U : x < 16 := by omega
    have kC : (x : Int) < 16 := by omega
    have HF : Hid (∀ W, zBg zBC W ad d → Calls Tryz.prog 96 #[.agg #[nI (x : Int), nI st, sL ad d.length cpw]] W fun e A => e = .returned (.bool true) ∧ Bl W A) := fun W h => by have := zDw (x : Int) st d ad cpw W h; rwa [dA.out eA] at this
    have bA : ∀ W, Calls Tryz.prog 114 #[.agg #[sL (some ⟨r, f, none⟩) c.1.length cap, sL b c.2.length cp], nI (x : Int)] W fun e A => e = .returned (nI ((x : Int) % (c.1.length : Int))) ∧ Bl W A := fun W => zG8 _ _ _ _ _ _ _ rfl _ W HP.out (by omega);by_cases hq : (x : Int) % (c.1.length : Int) = (k / m : Nat)
    ·have HS : Hid (∀ W, Calls Tryz.prog 114 #[.agg #[sL (some ⟨r, f, none⟩) c.1.length cap, sL b c.2.length cp], nI (x : Int)] W fun e A => e = .returned (nI ((k / m : Nat) : Int)) ∧ Bl W A) := by rw [hq] at bA; exact bA
     have HQ : Hid ((x : Int) % (c.1.length : Int) = (k / m : Nat)) := hq;clear bA hq oA;cases rA : zFC c m k x
     case true =>
      have m4 : ∀ n : Cls (fun wx => Bl C wx), n.w.cell? ⟨w.heap.size + 1 + 1, x, none⟩ = some (.bool true) := fun n => by
       obtain ⟨-, -, -, ⟨BA, c1, -, c3⟩, -, -⟩ := zC8 HK.out n.h;rw [cell_of_row n.w _ x _ _ (0, 0) c1, c3 x U, rA]
      refine zCO (fun wx => Bl C wx) (by kernel_rfl) (by kernel_rfl) (by kernel_rfl) ((Below.refl _ C).drew) ?_;intro H;repeat (quiet_step (first | (go_at_call 96; exact zAz (HF.out _ (Z.out _)) (fun A hc bb => zAb hc bb)) | (go_at_call 114; exact zAz (HS.out _) (fun A hc bb => zAb hc bb))))
      refine wpQuiet_nil ?_;intro wx b2;clear m0 m1 m2 m3 n0 n1 H m4;obtain ⟨F, g1, E, g3, g6, O⟩ := zC8 K1 b2;have r2 : wx.cell? ⟨w.heap.size + 1, 0, none⟩ = some (.bool false) := by rw [cell_of_row wx _ 0 _ _ (0, 0) E]; rfl
      have r3 : wx.frozen? ⟨w.heap.size + 1, 0, none⟩ = false := frozen_of_row wx _ 0 _ _ E;gi_wp2
      refine ⟨Kept.trans (Kept.below (zAb b1 b2)) (Kept.chg (S := fun j => j = w.heap.size + 1) (zCR (grownBy_setCell' wx (w.heap.size + 1) _) rfl) (fun j e => by omega)), rfl, zIe hk R (fun h => by obtain ⟨j, hj, e⟩ := (HY.out x).1 rA; exact h.2.2 j hj (by rw [e, HL.out])), heap_setCell_same wx (w.heap.size + 1) 0 _ _ (.bool false) E, O.setCell (p := ⟨w.heap.size + 1, 0, none⟩) (by simp) _⟩
     case false =>
      have m4 : ∀ n : Cls (fun wx => Bl C wx), n.w.cell? ⟨w.heap.size + 1 + 1, x, none⟩ = some (.bool false) := fun n => by
       obtain ⟨-, -, -, ⟨BA, c1, -, c3⟩, -, -⟩ := zC8 HK.out n.h;rw [cell_of_row n.w _ x _ _ (0, 0) c1, c3 x U, rA]
      refine zCO (fun wx => Bl C wx) (by kernel_rfl) (by kernel_rfl) (by kernel_rfl) ((Below.refl _ C).drew) ?_;intro H;repeat (quiet_step (first | (go_at_call 96; exact zAz (HF.out _ (Z.out _)) (fun A hc bb => zAb hc bb)) | (go_at_call 114; exact zAz (HS.out _) (fun A hc bb => zAb hc bb))))
      refine wpQuiet_nil ?_;intro wx b2;clear m0 m1 m2 m3 n0 n1 H m4;obtain ⟨F, g1, E, ⟨BA, g3, AA, aA⟩, g6, O⟩ := zC8 K1 b2;have r2 : wx.cell? ⟨w.heap.size + 1 + 1, x, none⟩ = some (.bool false) := by rw [cell_of_row wx _ x _ _ (0, 0) g3, aA x U, rA]
      have r3 : wx.frozen? ⟨w.heap.size + 1 + 1, x, none⟩ = false := frozen_of_row wx _ x _ _ g3;have r4 := X5.out wx b2;gi_wp2
      refine ⟨Kept.trans (Kept.below (zAb b1 b2)) (Kept.chg (S := fun j => j = w.heap.size + 1 + 1) (zCR (zIf wx _ _ _) rfl) (fun j e => by omega)), zGA F (.inr ⟨eA, by rw [HL.out]; exact HQ.out, fun i hi e => ?_⟩), (heap_setCell_other wx ⟨w.heap.size + 1 + 1, x, none⟩ _ _ (by simp; omega)).trans g1, (heap_setCell_other wx ⟨w.heap.size + 1 + 1, x, none⟩ _ _ (by simp)).trans E, ⟨_, heap_setCell_same wx (w.heap.size + 1 + 1) x _ _ (.bool true) g3, by simpa using AA, fun y hy => ?_⟩, (heap_setCell_other wx ⟨w.heap.size + 1 + 1, x, none⟩ _ _ (by simp)).trans g6, O.setCell (p := ⟨w.heap.size + 1 + 1, x, none⟩) (by simp; omega) _⟩
      ·rw [HL.out] at e;have := (HY.out x).2 ⟨i, hi, e⟩;rw [rA] at this;cases this
      ·rw [zML HL.out, Array.getElem?_setIfInBounds];by_cases pB : x = y
       ·subst pB;simp [AA, U]
       ·rw [if_neg pB, aA y hy];have : decide (y = x) = false := by simp; omega
        rw [this, Bool.false_or]
    ·have HQ : Hid (¬ (x : Int) % (c.1.length : Int) = (k / m : Nat)) := hq;have kB : (((x : Int) % (c.1.length : Int)) != (k : Int) / (m : Int)) = true := by rw [show (k : Int) / (m : Int) = ((k / m : Nat) : Int) from rfl]; simpa using hq
     generalize (x : Int) % (c.1.length : Int) = q at bA kB;have HS : Hid _ := bA;clear bA hq oA;refine zCO (fun wx => Bl C wx) (by kernel_rfl) (by kernel_rfl) (by kernel_rfl) ((Below.refl _ C).drew) ?_;intro H;iterate 11 (quiet_step (first | (go_at_call 96; exact zAz (HF.out _ (Z.out _)) (fun A hc bb => zAb hc bb)) | (go_at_call 114; exact zAz (HS.out _) (fun A hc bb => zAb hc bb))))
     clear kB;quiet_step (skip)
     refine wpQuiet_step (fun K T => ?_);go_simp
     refine zGy K _ ?_;intro A0 kA;refine T A0 ?_;clear T K;have jA : A0.tmps[24]? = some (.bool true) := by rw [kA]; rfl
     refine zA4 (b := false) (d := 24) jA rfl rfl rfl (by decide) ?_;intro sB J v;clear jA;refine zA4 (b := false) (d := 24) v rfl rfl rfl (by decide) ?_;intro gB L z;clear v;refine zA4 (b := false) (d := 24) z rfl rfl rfl (by decide) ?_;intro lB G s;clear z;refine zA4 (b := false) (d := 24) s rfl rfl rfl (by decide) ?_;intro rB M D;clear s;clear D;subst M G L J;subst kA;quiet_step (skip)
     refine wpQuiet_nil ?_;intro wx b2;clear m0 m1 m2 m3 n0 n1 H;obtain ⟨F, g1, E, g3, g6, O⟩ := zC8 K1 b2;have r2 : wx.cell? ⟨w.heap.size + 1, 0, none⟩ = some (.bool false) := by rw [cell_of_row wx _ 0 _ _ (0, 0) E]; rfl
     have r3 : wx.frozen? ⟨w.heap.size + 1, 0, none⟩ = false := frozen_of_row wx _ 0 _ _ E;gi_wp2
     refine ⟨Kept.trans (Kept.below (zAb b1 b2)) (Kept.chg (S := fun j => j = w.heap.size + 1) (zCR (grownBy_setCell' wx (w.heap.size + 1) _) rfl) (fun j e => by omega)), rfl, zIe hk R (fun h => HQ.out (by rw [← HL.out]; exact h.2.1)), heap_setCell_same wx (w.heap.size + 1) 0 _ _ (.bool false) E, O.setCell (p := ⟨w.heap.size + 1, 0, none⟩) (by simp) _⟩
 case hdone =>
  rintro W ⟨F, g1, E, _, _, O⟩ T;have q2 : W.cell? ⟨w.heap.size + 1, 0, none⟩ = some (.bool false) := by rw [cell_of_row W _ 0 _ _ (0, 0) E]; rfl
  have q3 : W.frozen? ⟨w.heap.size + 1, 0, none⟩ = false := frozen_of_row W _ 0 _ _ E;gi_wp2
  have g8 := heap_setCell_same W (w.heap.size + 1) 0 _ _ (.bool true) E;have mB : (W.setCell ⟨w.heap.size + 1, 0, none⟩ (.bool true)).heap[W0.heap.size]? = some (.deferred (some [])) := (heap_setCell_other W ⟨w.heap.size + 1, 0, none⟩ _ _ (by simp; omega)).trans T;refine ⟨by simp, .inl ⟨_, _, rfl, run_takeDeferred mB, ?_⟩⟩;have g9 := (World.putObj_heap_other (o := .deferred none) (show w.heap.size + 1 ≠ W0.heap.size by omega)).trans g8;have pA := cell_of_row _ _ 0 _ _ (0, 0) g9;refine ⟨.bool true, ?_, zA2 (zIW F).symm, (O.setCell (p := ⟨w.heap.size + 1, 0, none⟩) (by simp) _).trans ((Below.refl _ _).grown (grownBy_putObj' _ _ _) (by have := (ltH mB); omega) (fun k e => by cases e; omega))⟩;simp at pA
  simp [results, Tryz.results90, go_sem, pA]
 case hstop =>
  rintro x k W hk ⟨rfl, hf, I, O⟩ T;gi_wp2
  refine ⟨by simp, .inl ⟨_, _, rfl, run_takeDeferred T, ?_⟩⟩;have g9 := (World.putObj_heap_other (o := .deferred none) (show w.heap.size + 1 ≠ W0.heap.size by omega)).trans I;have pA := cell_of_row _ _ 0 _ _ (0, 0) g9;refine ⟨.bool false, ?_, zA2 hf.symm, O.trans ((Below.refl _ _).grown (grownBy_putObj' _ _ _) (by have := (ltH T); omega) (fun k e => by cases e; omega))⟩;simp at pA
  simp [results, Tryz.results90, go_sem, pA]
end Go.Proofs.YtmdhblhdfcocjaaGreatDoor
