import Derived.Test.YtmdhblhdfcocjaaGreatDoorP00Box
import Derived.Test.YtmdhblhdfcocjaaGreatDoorP09
namespace Go.Proofs.YtmdhblhdfcocjaaGreatDoor
open Go.ChangeShapes Go.WideShapes Go.ChangeAt Go.RowKit Go.Shelf
set_option linter.unusedVariables false
attribute [local go_sem] Oper.semAt_some
def zBZ (c : zAu) (m k : Nat) : zAT := (c.1.getD (k / m) []).getD (k % m) zAF
def zDA (c : zAu) (m k : Nat) : Prop :=
 ∀ j, j < k → zB7 (zBZ c m j) = true ∨ (zBi isL (zBZ c m j) = true ∧ (zBZ c m j).1 % (c.1.length : Int) = (j / m : Nat) ∧ ∀ i, i < j → (zBZ c m i).1 ≠ (zBZ c m j).1)
open Classical in
noncomputable def zFC (c : zAu) (m k : Nat) (x : Nat) : Bool := decide (∃ j, j < k ∧ (zBZ c m j).1 = (x : Int))
open Classical in
noncomputable def zHs (c : zAu) (m : Nat) : Bool := decide (zDA c m (c.1.length * m))
theorem zIX {c : zAu} {m : Nat} (h : zDA c m (c.1.length * m)) : zHs c m = true := by simp [zHs, h]
theorem zLf {c : zAu} {m : Nat} (h : ¬ zDA c m (c.1.length * m)) : zHs c m = false := by simp [zHs, h]
theorem zGA {c : zAu} {m k : Nat} (h : zDA c m k) (hn : zB7 (zBZ c m k) = true ∨ (zBi isL (zBZ c m k) = true ∧ (zBZ c m k).1 % (c.1.length : Int) = (k / m : Nat) ∧ ∀ i, i < k → (zBZ c m i).1 ≠ (zBZ c m k).1)) : zDA c m (k + 1) := fun j hj => by
 by_cases a : j < k
 ·exact h j a
 ·have : j = k := by omega
  subst this;exact hn
theorem zIf {c : zAu} {m k : Nat} (hk : k < c.1.length * m) (hc : zB7 (zBZ c m k) = false) (hn : ¬ (zBi isL (zBZ c m k) = true ∧ (zBZ c m k).1 % (c.1.length : Int) = (k / m : Nat) ∧ ∀ i, i < k → (zBZ c m i).1 ≠ (zBZ c m k).1)) : zHs c m = false := zLf fun h => by
 rcases h k hk with h | h
 ·rw [hc] at h;cases h
 ·exact hn h
theorem zMJ {c : zAu} {m x : Nat} : zFC c m 0 x = false := by simp [zFC]
theorem zMK {c : zAu} {m k x : Nat} (h : zB7 (zBZ c m k) = true) : zFC c m (k + 1) x = zFC c m k x := by
 have : (∃ j, j < k + 1 ∧ (zBZ c m j).1 = (x : Int)) ↔ ∃ j, j < k ∧ (zBZ c m j).1 = (x : Int) := by
  constructor
  ·rintro ⟨j, a, e⟩;by_cases b : j < k
   ·exact ⟨j, b, e⟩
   ·have : j = k := by omega
    subst this;rw [zCQ h] at e;simp [zAF] at e
  ·rintro ⟨j, a, e⟩;exact ⟨j, by omega, e⟩
 simp only [zFC, this]
theorem zML {c : zAu} {m k x y : Nat} (h : (zBZ c m k).1 = (y : Int)) : zFC c m (k + 1) x = (decide (x = y) || zFC c m k x) := by
 have : (∃ j, j < k + 1 ∧ (zBZ c m j).1 = (x : Int)) ↔ (x = y ∨ ∃ j, j < k ∧ (zBZ c m j).1 = (x : Int)) := by
  constructor
  ·rintro ⟨j, b, e⟩;by_cases a : j < k
   ·exact .inr ⟨j, a, e⟩
   ·have : j = k := by omega
    subst this;rw [h] at e;left
    omega
  ·rintro (rfl | ⟨j, b, e⟩)
   ·exact ⟨k, by omega, h⟩
   ·exact ⟨j, by omega, e⟩
 simp only [zFC, this, Bool.decide_or]
theorem seen_iff {c : zAu} {m k x : Nat} : zFC c m k x = true ↔ ∃ j, j < k ∧ (zBZ c m j).1 = (x : Int) := by simp [zFC]
theorem zIY {w : World} {a : Option Addr} {xs : List (List zAT)} {m : Nat} (h : zBg zBl w a xs) (hne : xs ≠ []) (hm : 0 < m) (hrow : ∀ row ∈ xs, row.length = m) :
    ∃ p d f, a = some ⟨p, d, none⟩ ∧ zHA w p d xs.length m f ∧ ∀ (i j : Nat) (row : List zAT) (u : zAT), xs[i]? = some row → row[j]? = some u →
     ((f i).way j).line = u.1 ∧ ((f i).way j).state = u.2.1 ∧ ((f i).way j).len = u.2.2.length ∧ u.2.2.length ≤ ((f i).way j).cap ∧ ((f i).way j).cap ≤ maxLen ∧ zBg zBC w ((f i).way j).addr u.2.2 := by
 have o : 0 < xs.length := List.length_pos_iff.2 hne;obtain ⟨p, d, _, _, y, _⟩ := zDj h (List.getElem?_eq_getElem o);have l : ∀ i : Nat, ∃ x : SCells, ∀ row, xs[i]? = some row → (w.cell? ⟨p, d + i, none⟩ = some (sL (some ⟨x.b, x.off, none⟩) m x.cap) ∧ zJT w x.b x.off m x.way) ∧ ∀ (j : Nat) (u : zAT), row[j]? = some u →
     (x.way j).line = u.1 ∧ (x.way j).state = u.2.1 ∧ (x.way j).len = u.2.2.length ∧ u.2.2.length ≤ (x.way j).cap ∧ (x.way j).cap ≤ maxLen ∧ zBg zBC w (x.way j).addr u.2.2 := by
  intro i;cases q : xs[i]? with
  | none => exact ⟨⟨0, 0, 0, fun _ => ⟨0, 0, none, 0, 0⟩⟩, fun row hr => by cases hr⟩
  | some row =>
   obtain ⟨b', v, aj, A, n, z, -, -, s⟩ := zDj h q;rw [y] at n;cases n;have r := hrow row (List.mem_of_getElem? q);obtain ⟨b, off, c, rfl, k, g⟩ := zLc s (fun e => by rw [e] at r; simp at r; omega);rw [r] at k z;refine ⟨⟨b, off, A, c⟩, fun row' hr => ?_⟩;cases hr;exact ⟨⟨z, k⟩, g⟩
 obtain ⟨f, g⟩ := Classical.axiomOfChoice l;exact ⟨p, d, f, y, fun i q => (g i _ (List.getElem?_eq_getElem q)).1, fun i j row u hr hu => (g i row hr).2 j u hu⟩
theorem zFP {w w' : World} {b0 off0 s m : Nat} {cc : Nat → SCells} (h : zHA w b0 off0 s m cc) (hb : Bl w w') (hm : 0 < m) : zHA w' b0 off0 s m cc := by
 by_cases a : 0 < s
 ·exact zJX h (hb.block _ (zAi (h 0 a).1)) (fun i hi => hb.block _ (zLd (h i hi).2 hm))
 ·exact fun i hi => by omega
theorem zGn {c : zAu} {m k : Nat} (hm : 0 < m) (hrow : ∀ row ∈ c.1, row.length = m) (hk : k < c.1.length * m) : ∃ row, c.1[k / m]? = some row ∧ row[k % m]? = some (zBZ c m k) := by
 have a : k / m < c.1.length := by rw [Nat.div_lt_iff_lt_mul hm]; exact hk
 have h2 : k % m < m := Nat.mod_lt _ hm;refine ⟨_, List.getElem?_eq_getElem a, ?_⟩;have h3 := hrow _ (List.getElem_mem a);have b : c.1.getD (k / m) [] = c.1[k / m] := by rw [List.getD_eq_getElem?_getD, List.getElem?_eq_getElem a]; rfl
 have : k % m < (c.1[k / m]).length := by omega
 rw [List.getElem?_eq_getElem this];unfold zBZ;rw [b, List.getD_eq_getElem?_getD, List.getElem?_eq_getElem this];rfl
set_option maxHeartbeats 400000 in
theorem zFQ (u v : Value) (a a' : Option Addr) (n n' cap cap' : Nat) (hu : u = sL a n cap) (hv : v = sL a' n' cap') (w : World) :
    Calls Tryz.prog 99 #[.agg #[u, v]] w fun e w' => e = .returned (.func (.func 120) #[] #[.pointer (some ⟨w.heap.size, 0, none⟩)]) ∧ w' = w.alloc (.cells #[u, v] 37) := by
 subst hu hv;go_enter Tryz.func99, Tryz.ntmps99;go_wp2;go_ret
 exact ⟨rfl, rfl⟩
theorem zIg (W : World) (g o : Nat) (v : Value) : W.grownBy (W.setCell ⟨g, o, none⟩ v) (some g) := ⟨rfl, rfl, rfl, by simp, fun k _ hk => heap_setCell_other W ⟨g, o, none⟩ k v (fun e => hk (by simp [e]))⟩
def WOk (w : World) (v u : Value) (c : zAu) (m k : Nat) (W : World) : Prop :=
 zDA c m k ∧ W.heap[w.heap.size]? = some (.cells #[v, u] 37 (0, 0)) ∧ W.heap[w.heap.size + 1]? = some (.cells #[.bool false] 4 (0, 0)) ∧
 (∃ cur : Array Value, W.heap[w.heap.size + 1 + 1]? = some (.cells cur 141 (0, 0)) ∧ cur.size = 16 ∧ ∀ x, x < 16 → cur[x]? = some (.bool (zFC c m k x))) ∧
 W.heap[w.heap.size + 1 + 1 + 1]? = some (.cells #[v, u] 37 (0, 0)) ∧ Below w.heap.size w W
theorem zMM {w : World} {v u : Value} {c : zAu} {m B : Nat} (hB : w.heap.size ≤ B) : OwnFrom B (fun k W => WOk w v u c m k W) := by
 rintro k X Y a ⟨l, n, p, ⟨f, o, q, j⟩, i, g⟩ b d;exact ⟨l, zBo (β := Unit) _ _ _ _ () X Y a n b d, zBo (β := Unit) _ _ _ _ () X Y a p b d, ⟨f, zBo (β := Unit) _ _ _ _ () X Y a o b d, q, j⟩, zBo (β := Unit) _ _ _ _ () X Y a i b d, ownFrom_below (β := Unit) (Nat.le_refl _) hB () X Y a g b d⟩
theorem zC8 {w : World} {v u : Value} {c : zAu} {m k : Nat} {W W' : World} (h : WOk w v u c m k W) (hb : Bl W W') : WOk w v u c m k W' := by
 obtain ⟨f, g, j, ⟨a, i, l, n⟩, d, b⟩ := h;exact ⟨f, zAa hb g, zAa hb j, ⟨a, zAa hb i, l, n⟩, zAa hb d, zAb b hb⟩
set_option maxHeartbeats 4000000 in
theorem zLE (a b : Option Addr) (c : zAu) (cap cp m : Nat) (w : World) (h1 : zBg zBl w a c.1) (hp : c.1.length = 1 ∨ c.1.length = 2 ∨ c.1.length = 4) (hm : m = 1 ∨ m = 2 ∨ m = 4) (hrow : ∀ FA ∈ c.1, FA.length = m) :
    Calls Tryz.prog 90 #[.agg #[sL a c.1.length cap, sL b c.2.length cp]] w fun e A => e = .returned (.bool (zHs c m)) ∧ Bl w A := by
 have AA : 0 < m := by omega
 obtain ⟨r, f, g, rfl, CB, sB⟩ := zIY h1 (fun e => by rw [e] at hp; simp at hp) AA hrow;have HG : Hid (∀ k, k < c.1.length * m → ((g (k / m)).way (k % m)).line = (zBZ c m k).1 ∧ ((g (k / m)).way (k % m)).state = (zBZ c m k).2.1 ∧ ((g (k / m)).way (k % m)).len = (zBZ c m k).2.2.length ∧ (zBZ c m k).2.2.length ≤ maxLen ∧ zBg zBC w ((g (k / m)).way (k % m)).addr (zBZ c m k).2.2) := fun k hk => by
  obtain ⟨FA, e1, e2⟩ := zGn AA hrow hk;obtain ⟨q1, q2, q3, q4, q5, q6⟩ := sB _ _ FA _ e1 e2;exact ⟨q1, q2, q3, Nat.le_trans q4 q5, q6⟩
 have HP : Hid (c.1.length = 1 ∨ c.1.length = 2 ∨ c.1.length = 4) := hp;have HM : Hid (m = 1 ∨ m = 2 ∨ m = 4) := hm;have HA : Hid _ := CB;clear h1 sB hrow hp hm CB;refine (callsIn_wide (n := 0)).1 ?_;refine callsIn_of_wp_marks Tryz.func90 rfl trivial ?_ rfl;simp only [Tryz.ntmps90, List.size_toArray, List.length_cons, List.length_nil, Nat.reduceAdd, Nat.reduceSub, Array.replicate_succ, Array.replicate_zero, List.push_toArray, List.append_toArray, List.nil_append, List.cons_append];gi_wp2
 refine ⟨trivial, rfl, (callsIn_wide.2 (zFQ _ _ _ _ _ _ _ _ rfl rfl _)).mono ?_⟩;rintro e A ⟨rfl, rfl⟩;gi_wp2
 have nB : Bl w ((((w.alloc (.cells #[sL (some ⟨r, f, none⟩) c.1.length cap, sL b c.2.length cp] 37)).alloc (.cells #[.bool false] 4)).alloc (.cells #[.bool false, .bool false, .bool false, .bool false, .bool false, .bool false, .bool false, .bool false, .bool false, .bool false, .bool false, .bool false, .bool false, .bool false, .bool false, .bool false] 141)).alloc (.cells #[sL (some ⟨r, f, none⟩) c.1.length cap, sL b c.2.length cp] 37)) := ((((Below.refl _ w).alloc (Nat.le_refl _) _).alloc (by simp) _).alloc (by simp; omega) _).alloc (by simp; omega) _;have k0 := zAK (.cells #[sL (some ⟨r, f, none⟩) c.1.length cap, sL b c.2.length cp] 37) (zAK (.cells #[.bool false, .bool false, .bool false, .bool false, .bool false, .bool false, .bool false, .bool false, .bool false, .bool false, .bool false, .bool false, .bool false, .bool false, .bool false, .bool false] 141) (zAK (.cells #[.bool false] 4) (zAx w (.cells #[sL (some ⟨r, f, none⟩) c.1.length cap, sL b c.2.length cp] 37))));have k1 := zAK (.cells #[sL (some ⟨r, f, none⟩) c.1.length cap, sL b c.2.length cp] 37) (zAK (.cells #[.bool false, .bool false, .bool false, .bool false, .bool false, .bool false, .bool false, .bool false, .bool false, .bool false, .bool false, .bool false, .bool false, .bool false, .bool false, .bool false] 141) (zAx (w.alloc (.cells #[sL (some ⟨r, f, none⟩) c.1.length cap, sL b c.2.length cp] 37)) (.cells #[.bool false] 4)));have k2 := zAK (.cells #[sL (some ⟨r, f, none⟩) c.1.length cap, sL b c.2.length cp] 37) (zAx ((w.alloc (.cells #[sL (some ⟨r, f, none⟩) c.1.length cap, sL b c.2.length cp] 37)).alloc (.cells #[.bool false] 4)) (.cells #[.bool false, .bool false, .bool false, .bool false, .bool false, .bool false, .bool false, .bool false, .bool false, .bool false, .bool false, .bool false, .bool false, .bool false, .bool false, .bool false] 141));have k3 := zAx (((w.alloc (.cells #[sL (some ⟨r, f, none⟩) c.1.length cap, sL b c.2.length cp] 37)).alloc (.cells #[.bool false] 4)).alloc (.cells #[.bool false, .bool false, .bool false, .bool false, .bool false, .bool false, .bool false, .bool false, .bool false, .bool false, .bool false, .bool false, .bool false, .bool false, .bool false, .bool false] 141)) (.cells #[sL (some ⟨r, f, none⟩) c.1.length cap, sL b c.2.length cp] 37);have e4 : ((((w.alloc (.cells #[sL (some ⟨r, f, none⟩) c.1.length cap, sL b c.2.length cp] 37)).alloc (.cells #[.bool false] 4)).alloc (.cells #[.bool false, .bool false, .bool false, .bool false, .bool false, .bool false, .bool false, .bool false, .bool false, .bool false, .bool false, .bool false, .bool false, .bool false, .bool false, .bool false] 141)).alloc (.cells #[sL (some ⟨r, f, none⟩) c.1.length cap, sL b c.2.length cp] 37)).heap.size = w.heap.size + 1 + 1 + 1 + 1 := by simp
 rw [zAp] at k1;rw [zAp, zAp] at k2;rw [zAp, zAp, zAp] at k3;have FB : WOk w (sL (some ⟨r, f, none⟩) c.1.length cap) (sL b c.2.length cp) c m 0 ((((w.alloc (.cells #[sL (some ⟨r, f, none⟩) c.1.length cap, sL b c.2.length cp] 37)).alloc (.cells #[.bool false] 4)).alloc (.cells #[.bool false, .bool false, .bool false, .bool false, .bool false, .bool false, .bool false, .bool false, .bool false, .bool false, .bool false, .bool false, .bool false, .bool false, .bool false, .bool false] 141)).alloc (.cells #[sL (some ⟨r, f, none⟩) c.1.length cap, sL b c.2.length cp] 37)) := by
  refine ⟨fun j hj => by omega, k0, k1, ⟨_, k2, rfl, fun x hx => ?_⟩, k3, nB⟩;rw [zMJ];rcases x with _ | _ | _ | _ | _ | _ | _ | _ | _ | _ | _ | _ | _ | _ | _ | _ | x <;> first | rfl | omega
 clear k0 k1 k2 k3 nB;generalize (((w.alloc (.cells #[sL (some ⟨r, f, none⟩) c.1.length cap, sL b c.2.length cp] 37)).alloc (.cells #[.bool false] 4)).alloc (.cells #[.bool false, .bool false, .bool false, .bool false, .bool false, .bool false, .bool false, .bool false, .bool false, .bool false, .bool false, .bool false, .bool false, .bool false, .bool false, .bool false] 141)).alloc (.cells #[sL (some ⟨r, f, none⟩) c.1.length cap, sL b c.2.length cp] 37) = W0 at e4 FB ⊢;refine zE3 (N := c.1.length * m) (lb := #[.pointer (some ⟨w.heap.size + 1 + 1 + 1, 0, none⟩)]) (gf := 120) rfl (enters_of Tryz.func120 (by kernel_rfl) rfl)
  (zEK (w.heap.size + 1 + 1 + 1) r f c.1.length m cap g (by have := HP.out; omega) (by have := HM.out; omega) (by have := HP.out; omega) AA) (fun _ => rfl)
  (fun k W => WOk w (sL (some ⟨r, f, none⟩) c.1.length cap) (sL b c.2.length cp) c m k W)
  (fun x k W => x = .ret ∧ zHs c m = false ∧ W.heap[w.heap.size + 1]? = some (.cells #[.bool false] 4 (0, 0)) ∧ Bl w W)
  (zMM (by omega)) (fun x => OwnFrom.and (ownFrom_pure _ _) (OwnFrom.and (ownFrom_pure _ _) (OwnFrom.and (zBo _ _ _ _) (ownFrom_below (Nat.le_refl _) (by omega))))) ?hR FB
  (fun k a' W => ∃ B4 B5, W0.heap.size < B4 ∧ W0.heap.size < B5 ∧ W.heap[B4]? = some (.cells #[nI (k / m : Nat), nI (k % m : Nat)] 126 (0, 0)) ∧ W.heap[B5]? = some (.cells #[nI ((g (k / m)).way (k % m)).line, nI ((g (k / m)).way (k % m)).state, .slice ((g (k / m)).way (k % m)).addr ((g (k / m)).way (k % m)).len ((g (k / m)).way (k % m)).cap] 39 (0, 0)) ∧ WOk w (sL (some ⟨r, f, none⟩) c.1.length cap) (sL b c.2.length cp) c m k W ∧
   a' = { tmps := #[.agg #[sL (some ⟨r, f, none⟩) c.1.length cap, sL b c.2.length cp], .pointer (some ⟨w.heap.size, 0, none⟩), .pointer (some ⟨w.heap.size + 1, 0, none⟩), .pointer (some ⟨w.heap.size + 1 + 1, 0, none⟩), .pointer (some ⟨B4, 0, none⟩), .pointer (some ⟨B5, 0, none⟩), .agg #[sL (some ⟨r, f, none⟩) c.1.length cap, sL b c.2.length cp], .func (.func 120) #[] #[.pointer (some ⟨w.heap.size + 1 + 1 + 1, 0, none⟩)], .agg #[nI (k / m : Nat), nI (k % m : Nat)], ((g (k / m)).way (k % m)).agg, undef, undef, undef, undef, undef, undef, undef, undef, undef, undef, undef, undef, undef, undef, undef, undef, undef, undef, undef, undef, undef, undef, undef], defers := [] })
  ?hA ?hassign ?hbody ?hdone ?hstop
 case hR =>
  rintro k W ⟨_, _, _, _, g6, H⟩;exact ⟨by rw [cell_of_row W _ 0 _ _ (0, 0) g6]; rfl, zFP HA.out H AA⟩
 case hA =>
  rintro k a' ⟨⟩ X Y kA ⟨B4, B5, l4, l5, g4, O, F, rfl⟩ hg hr;exact ⟨B4, B5, l4, l5, zBo (β := Unit) _ _ _ _ () X Y kA g4 hg hr, zBo (β := Unit) _ _ _ _ () X Y kA O hg hr, zMM (B := W0.heap.size) (by omega) k X Y kA F hg hr, rfl⟩
 case hassign =>
  rintro k W K hk F eB L;gi_wp2
  have z1 := zAf W (.cells #[nI (k / m : Nat), nI (k % m : Nat)] 126);have z2 := zAf (W.alloc (.cells #[nI (k / m : Nat), nI (k % m : Nat)] 126)) (.cells #[nI ((g (k / m)).way (k % m)).line, nI ((g (k / m)).way (k % m)).state, .slice ((g (k / m)).way (k % m)).addr ((g (k / m)).way (k % m)).len ((g (k / m)).way (k % m)).cap] 39);have z3 := zAx (W.alloc (.cells #[nI (k / m : Nat), nI (k % m : Nat)] 126)) (.cells #[nI ((g (k / m)).way (k % m)).line, nI ((g (k / m)).way (k % m)).state, .slice ((g (k / m)).way (k % m)).addr ((g (k / m)).way (k % m)).len ((g (k / m)).way (k % m)).cap] 39);rw [zAp] at z3;exact L _ _ (Kept.below (zAb z1 z2)) ⟨W.heap.size, W.heap.size + 1, by omega, by omega, zAK _ (zAx _ _), z3, zC8 (zC8 F z1) z2, rfl⟩
 case hbody =>
  rintro k a' V hk ⟨B4, B5, l4, l5, g4, O, F, rfl⟩ eB hD hL;obtain ⟨q1, q2, q3, q4, q5⟩ := HG.out k hk;have HU : Hid (zBZ c m k = ((zBZ c m k).1, (zBZ c m k).2.1, (zBZ c m k).2.2)) := rfl;rw [q1, q2, q3] at O;have mB : ((g (k / m)).way (k % m)).agg = .agg #[nI (zBZ c m k).1, nI (zBZ c m k).2.1, .slice ((g (k / m)).way (k % m)).addr (zBZ c m k).2.2.length ((g (k / m)).way (k % m)).cap] := by rw [WCells.agg, q1, q2, q3]
  rw [mB];clear mB q1 q2 q3;generalize ((g (k / m)).way (k % m)).addr = ad at O q5 ⊢;generalize ((g (k / m)).way (k % m)).cap = cpw at O ⊢;have oA : Hid (∀ {x}, zB7 (zBZ c m k) = x → zHr (zBZ c m k).1 (zBZ c m k).2.1 (zBZ c m k).2.2.length = x) := fun h => by rw [zHB]; exact h
  have iA : Hid (∀ {x}, zBi isL (zBZ c m k) = x → zBi isL ((zBZ c m k).1, (zBZ c m k).2.1, (zBZ c m k).2.2) = x) := fun h => h;have HY : Hid (∀ x : Nat, zFC c m k x = true ↔ ∃ j, j < k ∧ (zBZ c m j).1 = (x : Int)) := fun x => seen_iff;have jB : Hid ((zBZ c m k).1 = (zBZ c m k).1) := rfl;generalize hl : (zBZ c m k).1 = l at O oA iA jB ⊢;generalize (zBZ c m k).2.1 = st at O oA iA ⊢;generalize (zBZ c m k).2.2 = d at O q4 q5 oA iA ⊢;clear jB HU;have HL : Hid ((zBZ c m k).1 = l) := hl;clear hl;obtain ⟨x0, x1, x2⟩ := zAg O;obtain ⟨y0, y1⟩ := zAy g4;cases I : zB7 (zBZ c m k)
  case true =>
   have HE : Hid (∀ W, Calls Tryz.prog 94 #[.agg #[nI l, nI st, sL ad d.length cpw]] W fun e A => e = .returned (.bool true) ∧ Bl W A) := fun W => by have := zDO l st ad d.length cpw W q4; rwa [oA.out I] at this
   gi_wp2
   refine ⟨trivial, rfl, (CallsIn.inRound _ (callsIn_wide.2 (HE.out _))).mono ?_⟩;rintro e C ⟨rfl, b1⟩;gi_wp2
   obtain ⟨F, g1, E, ⟨zA, g3, BA, U⟩, g6, H⟩ := zC8 F b1;exact ⟨Kept.below b1, zGA F (.inl I), g1, E, ⟨zA, g3, BA, fun x hx => by rw [zMK I]; exact U x hx⟩, g6, H⟩
  case false =>
   have HE : Hid (∀ W, Calls Tryz.prog 94 #[.agg #[nI l, nI st, sL ad d.length cpw]] W fun e A => e = .returned (.bool false) ∧ Bl W A) := fun W => by have := zDO l st ad d.length cpw W q4; rwa [oA.out I] at this
   gi_wp2
   refine ⟨trivial, rfl, (CallsIn.inRound _ (callsIn_wide.2 (HE.out _))).mono ?_⟩;rintro e C ⟨rfl, b1⟩;have K1 := zC8 F b1;have oB : zBg zBC C ad d := zAG q5 K1.2.2.2.2.2;obtain ⟨z0, z1⟩ := zAy K1.2.1;replace O := zAa b1 O;replace g4 := zAa b1 g4;clear x0 x1 x2 y0 y1 HE;obtain ⟨x0, x1, x2⟩ := zAg O;obtain ⟨y0, y1⟩ := zAy g4;gi_wp2
   have m0 : ∀ n : Cls (fun wx => Bl C wx), n.w.cell? ⟨B5, 0, none⟩ = some (nI l) := fun n => zAd n.h x0 (zAi x0);have m1 : ∀ n : Cls (fun wx => Bl C wx), n.w.cell? ⟨B5, 1, none⟩ = some (nI st) := fun n => zAd n.h x1 (zAi x1);have m2 : ∀ n : Cls (fun wx => Bl C wx), n.w.cell? ⟨B5, 2, none⟩ = some (sL ad d.length cpw) := fun n => zAd n.h x2 (zAi x2);have m3 : ∀ n : Cls (fun wx => Bl C wx), n.w.cell? ⟨B4, 0, none⟩ = some (nI (k / m : Nat)) := fun n => zAd n.h y0 (zAi y0);have n0 : ∀ n : Cls (fun wx => Bl C wx), n.w.cell? ⟨w.heap.size, 0, none⟩ = some (sL (some ⟨r, f, none⟩) c.1.length cap) := fun n => zAd n.h z0 (zAi z0);have n1 : ∀ n : Cls (fun wx => Bl C wx), n.w.cell? ⟨w.heap.size, 1, none⟩ = some (sL b c.2.length cp) := fun n => zAd n.h z1 (zAi z1);have Z : Hid (∀ n : Cls (fun wx => Bl C wx), zBg zBC n.w ad d) := fun n => zAG oB n.h;have X5 : Hid (∀ wx, Bl C wx → wx.cell? ⟨B5, 0, none⟩ = some (nI l)) := fun wx h => zAd h x0 (zAi x0);have HK : Hid _ := K1;clear K1 x0 x1 x2 y0 y1 z0 z1 oB F q5 hD hL g4 O eB l4 l5;have K1 := HK.out;cases jA : zBi isL (zBZ c m k)
   case false =>
    have HF : Hid (∀ W, zBg zBC W ad d → Calls Tryz.prog 96 #[.agg #[nI l, nI st, sL ad d.length cpw]] W fun e A => e = .returned (.bool false) ∧ Bl W A) := fun W h => by have := zDw l st d ad cpw W h; rwa [iA.out jA] at this
    refine zCO (fun wx => Bl C wx) (by kernel_rfl) (by kernel_rfl) (by kernel_rfl) ((Below.refl _ C).drew) ?_;intro R;iterate 3 (quiet_step ((go_at_call 96; exact zAz (HF.out _ (Z.out _)) (fun A hc bb => zAb hc bb))))
    refine wpQuiet_step (fun K L => ?_);go_simp
    refine zGy K _ ?_;intro A0 lA;refine L A0 ?_;clear L K;have gA : A0.tmps[15]? = some (.bool true) := by rw [lA]; rfl
    refine zA4 (b := false) (d := 15) gA rfl rfl rfl (by decide) ?_;intro dB G s;clear gA;refine zA4 (b := false) (d := 15) s rfl rfl rfl (by decide) ?_;intro kB T v;clear s;refine zA4 (b := false) (d := 15) v rfl rfl rfl (by decide) ?_;intro lB M z;clear v;refine zA4 (b := false) (d := 15) z rfl rfl rfl (by decide) ?_;intro rB J D;clear z;refine zA4 (b := false) (d := 15) D rfl rfl rfl (by decide) ?_;intro mC RA rA;clear D;refine zA4 (b := false) (d := 15) rA rfl rfl rfl (by decide) ?_;intro sC LA nA;clear rA;refine zA4 (b := false) (d := 15) nA rfl rfl rfl (by decide) ?_;intro nC VA UA;clear nA UA;subst VA LA RA J M T G;subst lA;quiet_step (skip)
    refine wpQuiet_step (fun K L => ?_);go_simp
    refine zGy K _ ?_;intro A1 gB;refine L A1 ?_;clear L K;have DB : A1.tmps[24]? = some (.bool true) := by rw [gB]; rfl
    refine zA4 (b := false) (d := 24) DB rfl rfl rfl (by decide) ?_;intro pC IA qA;clear DB;refine zA4 (b := false) (d := 24) qA rfl rfl rfl (by decide) ?_;intro DC GA fA;clear qA;refine zA4 (b := false) (d := 24) fA rfl rfl rfl (by decide) ?_;intro BC NA dA;clear fA;refine zA4 (b := false) (d := 24) dA rfl rfl rfl (by decide) ?_;intro qC TA OA;clear dA OA;subst TA NA GA IA;subst gB;quiet_step (skip)
    refine wpQuiet_nil ?_;intro wx b2;clear m0 m1 m2 m3 n0 n1 R;obtain ⟨F, g1, E, g3, g6, H⟩ := zC8 K1 b2;have r2 : wx.cell? ⟨w.heap.size + 1, 0, none⟩ = some (.bool false) := by rw [cell_of_row wx _ 0 _ _ (0, 0) E]; rfl
    have r3 : wx.frozen? ⟨w.heap.size + 1, 0, none⟩ = false := frozen_of_row wx _ 0 _ _ E;gi_wp2
    refine ⟨Kept.trans (Kept.below (zAb b1 b2)) (Kept.chg (S := fun j => j = w.heap.size + 1) (zCR (grownBy_setCell' wx (w.heap.size + 1) _) rfl) (fun j e => by omega)), rfl, zIf hk I (fun h => by rw [jA] at h; exact absurd h.1 (by simp)), heap_setCell_same wx (w.heap.size + 1) 0 _ _ (.bool false) E, H.setCell (p := ⟨w.heap.size + 1, 0, none⟩) (by simp) _⟩
   case true =>
    have mA := zBY jA;rw [HL.out] at mA;obtain ⟨x, rfl⟩ : ∃ x : Nat, l = (x : Int) := ⟨l.toNat, by omega⟩;have aA : x < 16 := by omega
    have TB : (x : Int) < 16 := by omega
    have HF : Hid (∀ W, zBg zBC W ad d → Calls Tryz.prog 96 #[.agg #[nI (x : Int), nI st, sL ad d.length cpw]] W fun e A => e = .returned (.bool true) ∧ Bl W A) := fun W h => by have := zDw (x : Int) st d ad cpw W h; rwa [iA.out jA] at this
    have bA : ∀ W, Calls Tryz.prog 114 #[.agg #[sL (some ⟨r, f, none⟩) c.1.length cap, sL b c.2.length cp], nI (x : Int)] W fun e A => e = .returned (nI ((x : Int) % (c.1.length : Int))) ∧ Bl W A := fun W => zG8 _ _ _ _ _ _ _ rfl _ W HP.out (by omega);by_cases hq : (x : Int) % (c.1.length : Int) = (k / m : Nat)
    ·have HS : Hid (∀ W, Calls Tryz.prog 114 #[.agg #[sL (some ⟨r, f, none⟩) c.1.length cap, sL b c.2.length cp], nI (x : Int)] W fun e A => e = .returned (nI ((k / m : Nat) : Int)) ∧ Bl W A) := by rw [hq] at bA; exact bA
     have HQ : Hid ((x : Int) % (c.1.length : Int) = (k / m : Nat)) := hq;clear bA hq mA;cases eA : zFC c m k x
     case true =>
      have m4 : ∀ n : Cls (fun wx => Bl C wx), n.w.cell? ⟨w.heap.size + 1 + 1, x, none⟩ = some (.bool true) := fun n => by
       obtain ⟨-, -, -, ⟨zA, c1, -, c3⟩, -, -⟩ := zC8 HK.out n.h;rw [cell_of_row n.w _ x _ _ (0, 0) c1, c3 x aA, eA]
      refine zCO (fun wx => Bl C wx) (by kernel_rfl) (by kernel_rfl) (by kernel_rfl) ((Below.refl _ C).drew) ?_;intro R;repeat (quiet_step (first | (go_at_call 96; exact zAz (HF.out _ (Z.out _)) (fun A hc bb => zAb hc bb)) | (go_at_call 114; exact zAz (HS.out _) (fun A hc bb => zAb hc bb))))
      refine wpQuiet_nil ?_;intro wx b2;clear m0 m1 m2 m3 n0 n1 R m4;obtain ⟨F, g1, E, g3, g6, H⟩ := zC8 K1 b2;have r2 : wx.cell? ⟨w.heap.size + 1, 0, none⟩ = some (.bool false) := by rw [cell_of_row wx _ 0 _ _ (0, 0) E]; rfl
      have r3 : wx.frozen? ⟨w.heap.size + 1, 0, none⟩ = false := frozen_of_row wx _ 0 _ _ E;gi_wp2
      refine ⟨Kept.trans (Kept.below (zAb b1 b2)) (Kept.chg (S := fun j => j = w.heap.size + 1) (zCR (grownBy_setCell' wx (w.heap.size + 1) _) rfl) (fun j e => by omega)), rfl, zIf hk I (fun h => by obtain ⟨j, hj, e⟩ := (HY.out x).1 eA; exact h.2.2 j hj (by rw [e, HL.out])), heap_setCell_same wx (w.heap.size + 1) 0 _ _ (.bool false) E, H.setCell (p := ⟨w.heap.size + 1, 0, none⟩) (by simp) _⟩
     case false =>
      have m4 : ∀ n : Cls (fun wx => Bl C wx), n.w.cell? ⟨w.heap.size + 1 + 1, x, none⟩ = some (.bool false) := fun n => by
       obtain ⟨-, -, -, ⟨zA, c1, -, c3⟩, -, -⟩ := zC8 HK.out n.h;rw [cell_of_row n.w _ x _ _ (0, 0) c1, c3 x aA, eA]
      refine zCO (fun wx => Bl C wx) (by kernel_rfl) (by kernel_rfl) (by kernel_rfl) ((Below.refl _ C).drew) ?_;intro R;repeat (quiet_step (first | (go_at_call 96; exact zAz (HF.out _ (Z.out _)) (fun A hc bb => zAb hc bb)) | (go_at_call 114; exact zAz (HS.out _) (fun A hc bb => zAb hc bb))))
      refine wpQuiet_nil ?_;intro wx b2;clear m0 m1 m2 m3 n0 n1 R m4;obtain ⟨F, g1, E, ⟨zA, g3, BA, U⟩, g6, H⟩ := zC8 K1 b2;have r2 : wx.cell? ⟨w.heap.size + 1 + 1, x, none⟩ = some (.bool false) := by rw [cell_of_row wx _ x _ _ (0, 0) g3, U x aA, eA]
      have r3 : wx.frozen? ⟨w.heap.size + 1 + 1, x, none⟩ = false := frozen_of_row wx _ x _ _ g3;have r4 := X5.out wx b2;gi_wp2
      refine ⟨Kept.trans (Kept.below (zAb b1 b2)) (Kept.chg (S := fun j => j = w.heap.size + 1 + 1) (zCR (zIg wx _ _ _) rfl) (fun j e => by omega)), zGA F (.inr ⟨jA, by rw [HL.out]; exact HQ.out, fun i hi e => ?_⟩), (heap_setCell_other wx ⟨w.heap.size + 1 + 1, x, none⟩ _ _ (by simp; omega)).trans g1, (heap_setCell_other wx ⟨w.heap.size + 1 + 1, x, none⟩ _ _ (by simp)).trans E, ⟨_, heap_setCell_same wx (w.heap.size + 1 + 1) x _ _ (.bool true) g3, by simpa using BA, fun y hy => ?_⟩, (heap_setCell_other wx ⟨w.heap.size + 1 + 1, x, none⟩ _ _ (by simp)).trans g6, H.setCell (p := ⟨w.heap.size + 1 + 1, x, none⟩) (by simp; omega) _⟩
      ·rw [HL.out] at e;have := (HY.out x).2 ⟨i, hi, e⟩;rw [eA] at this;cases this
      ·rw [zML HL.out, Array.getElem?_setIfInBounds];by_cases qB : x = y
       ·subst qB;simp [BA, aA]
       ·rw [if_neg qB, U y hy];have : decide (y = x) = false := by simp; omega
        rw [this, Bool.false_or]
    ·have HQ : Hid (¬ (x : Int) % (c.1.length : Int) = (k / m : Nat)) := hq;have AB : (((x : Int) % (c.1.length : Int)) != (k : Int) / (m : Int)) = true := by rw [show (k : Int) / (m : Int) = ((k / m : Nat) : Int) from rfl]; simpa using hq
     generalize (x : Int) % (c.1.length : Int) = q at bA AB;have HS : Hid _ := bA;clear bA hq mA;refine zCO (fun wx => Bl C wx) (by kernel_rfl) (by kernel_rfl) (by kernel_rfl) ((Below.refl _ C).drew) ?_;intro R;iterate 11 (quiet_step (first | (go_at_call 96; exact zAz (HF.out _ (Z.out _)) (fun A hc bb => zAb hc bb)) | (go_at_call 114; exact zAz (HS.out _) (fun A hc bb => zAb hc bb))))
     clear AB;quiet_step (skip)
     refine wpQuiet_step (fun K L => ?_);go_simp
     refine zGy K _ ?_;intro A0 lA;refine L A0 ?_;clear L K;have gA : A0.tmps[24]? = some (.bool true) := by rw [lA]; rfl
     refine zA4 (b := false) (d := 24) gA rfl rfl rfl (by decide) ?_;intro dB G s;clear gA;refine zA4 (b := false) (d := 24) s rfl rfl rfl (by decide) ?_;intro kB T v;clear s;refine zA4 (b := false) (d := 24) v rfl rfl rfl (by decide) ?_;intro lB M z;clear v;refine zA4 (b := false) (d := 24) z rfl rfl rfl (by decide) ?_;intro rB J D;clear z D;subst J M T G;subst lA;quiet_step (skip)
     refine wpQuiet_nil ?_;intro wx b2;clear m0 m1 m2 m3 n0 n1 R;obtain ⟨F, g1, E, g3, g6, H⟩ := zC8 K1 b2;have r2 : wx.cell? ⟨w.heap.size + 1, 0, none⟩ = some (.bool false) := by rw [cell_of_row wx _ 0 _ _ (0, 0) E]; rfl
     have r3 : wx.frozen? ⟨w.heap.size + 1, 0, none⟩ = false := frozen_of_row wx _ 0 _ _ E;gi_wp2
     refine ⟨Kept.trans (Kept.below (zAb b1 b2)) (Kept.chg (S := fun j => j = w.heap.size + 1) (zCR (grownBy_setCell' wx (w.heap.size + 1) _) rfl) (fun j e => by omega)), rfl, zIf hk I (fun h => HQ.out (by rw [← HL.out]; exact h.2.1)), heap_setCell_same wx (w.heap.size + 1) 0 _ _ (.bool false) E, H.setCell (p := ⟨w.heap.size + 1, 0, none⟩) (by simp) _⟩
 case hdone =>
  rintro W ⟨F, g1, E, _, _, H⟩ L;have q2 : W.cell? ⟨w.heap.size + 1, 0, none⟩ = some (.bool false) := by rw [cell_of_row W _ 0 _ _ (0, 0) E]; rfl
  have q3 : W.frozen? ⟨w.heap.size + 1, 0, none⟩ = false := frozen_of_row W _ 0 _ _ E;gi_wp2
  have g8 := heap_setCell_same W (w.heap.size + 1) 0 _ _ (.bool true) E;have EB : (W.setCell ⟨w.heap.size + 1, 0, none⟩ (.bool true)).heap[W0.heap.size]? = some (.deferred (some [])) := (heap_setCell_other W ⟨w.heap.size + 1, 0, none⟩ _ _ (by simp; omega)).trans L;refine ⟨by simp, .inl ⟨_, _, rfl, run_takeDeferred EB, ?_⟩⟩;have g9 := (World.putObj_heap_other (o := .deferred none) (show w.heap.size + 1 ≠ W0.heap.size by omega)).trans g8;have pA := cell_of_row _ _ 0 _ _ (0, 0) g9;refine ⟨.bool true, ?_, zA2 (zIX F).symm, (H.setCell (p := ⟨w.heap.size + 1, 0, none⟩) (by simp) _).trans ((Below.refl _ _).grown (grownBy_putObj' _ _ _) (by have := (ltH EB); omega) (fun k e => by cases e; omega))⟩;simp at pA
  simp [results, Tryz.results90, go_sem, pA]
 case hstop =>
  rintro x k W hk ⟨rfl, hf, O, H⟩ L;gi_wp2
  refine ⟨by simp, .inl ⟨_, _, rfl, run_takeDeferred L, ?_⟩⟩;have g9 := (World.putObj_heap_other (o := .deferred none) (show w.heap.size + 1 ≠ W0.heap.size by omega)).trans O;have pA := cell_of_row _ _ 0 _ _ (0, 0) g9;refine ⟨.bool false, ?_, zA2 hf.symm, H.trans ((Below.refl _ _).grown (grownBy_putObj' _ _ _) (by have := (ltH L); omega) (fun k e => by cases e; omega))⟩;simp at pA
  simp [results, Tryz.results90, go_sem, pA]
end Go.Proofs.YtmdhblhdfcocjaaGreatDoor
