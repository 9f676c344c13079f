import Derived.Test.YtcocbafhcpdheaaGreatDoorT00Box
import Derived.Test.YtcocbafhcpdheaaGreatDoorT10
namespace Go.Proofs.YtcocbafhcpdheaaGreatDoor
open Go.ChangeShapes Go.WideShapes Go.ChangeAt Go.RowKit Go.Shelf
set_option linter.unusedVariables false
attribute [local go_sem] Oper.semAt_some
def zBM (c : zA7) (m k : Nat) : zC3 := (c.1.getD (k / m) []).getD (k % m) zB0
def zDG (c : zA7) (m k : Nat) : Prop :=
 ∀ j, j < k → zB3 (zBM c m j) = true ∨ (zCC isL (zBM c m j) = true ∧ (zBM c m j).1 % (c.1.length : Int) = (j / m : Nat) ∧ ∀ i, i < j → (zBM c m i).1 ≠ (zBM c m j).1)
open Classical in
noncomputable def zF6 (c : zA7) (m k : Nat) (x : Nat) : Bool := decide (∃ j, j < k ∧ (zBM c m j).1 = (x : Int))
open Classical in
noncomputable def zHl (c : zA7) (m : Nat) : Bool := decide (zDG c m (c.1.length * m))
theorem zJe {c : zA7} {m : Nat} (h : zDG c m (c.1.length * m)) : zHl c m = true := by simp [zHl, h]
theorem zLw {c : zA7} {m : Nat} (h : ¬ zDG c m (c.1.length * m)) : zHl c m = false := by simp [zHl, h]
theorem zG5 {c : zA7} {m k : Nat} (h : zDG c m k) (hn : zB3 (zBM c m k) = true ∨ (zCC isL (zBM c m k) = true ∧ (zBM c m k).1 % (c.1.length : Int) = (k / m : Nat) ∧ ∀ i, i < k → (zBM c m i).1 ≠ (zBM c m k).1)) : zDG c m (k + 1) := fun j hj => by
 by_cases a : j < k
 ·exact h j a
 ·have : j = k := by omega
  subst this;exact hn
theorem zHW {c : zA7} {m k : Nat} (hk : k < c.1.length * m) (hc : zB3 (zBM c m k) = false) (hn : ¬ (zCC isL (zBM c m k) = true ∧ (zBM c m k).1 % (c.1.length : Int) = (k / m : Nat) ∧ ∀ i, i < k → (zBM c m i).1 ≠ (zBM c m k).1)) : zHl c m = false := zLw fun h => by
 rcases h k hk with h | h
 ·rw [hc] at h;cases h
 ·exact hn h
theorem zNA {c : zA7} {m x : Nat} : zF6 c m 0 x = false := by simp [zF6]
theorem zNB {c : zA7} {m k x : Nat} (h : zB3 (zBM c m k) = true) : zF6 c m (k + 1) x = zF6 c m k x := by
 have : (∃ j, j < k + 1 ∧ (zBM c m j).1 = (x : Int)) ↔ ∃ j, j < k ∧ (zBM c m j).1 = (x : Int) := by
  constructor
  ·rintro ⟨j, b, e⟩;by_cases a : j < k
   ·exact ⟨j, a, e⟩
   ·have : j = k := by omega
    subst this;rw [zE6 h] at e;simp [zB0] at e
  ·rintro ⟨j, b, e⟩;exact ⟨j, by omega, e⟩
 simp only [zF6, this]
theorem zNC {c : zA7} {m k x y : Nat} (h : (zBM c m k).1 = (y : Int)) : zF6 c m (k + 1) x = (decide (x = y) || zF6 c m k x) := by
 have : (∃ j, j < k + 1 ∧ (zBM c m j).1 = (x : Int)) ↔ (x = y ∨ ∃ j, j < k ∧ (zBM c m j).1 = (x : Int)) := by
  constructor
  ·rintro ⟨j, b, e⟩;by_cases a : j < k
   ·exact .inr ⟨j, a, e⟩
   ·have : j = k := by omega
    subst this;rw [h] at e;left
    omega
  ·rintro (rfl | ⟨j, b, e⟩)
   ·exact ⟨k, by omega, h⟩
   ·exact ⟨j, by omega, e⟩
 simp only [zF6, this, Bool.decide_or]
theorem seen_iff {c : zA7} {m k x : Nat} : zF6 c m k x = true ↔ ∃ j, j < k ∧ (zBM c m j).1 = (x : Int) := by simp [zF6]
theorem zJf {w : World} {a : Option Addr} {xs : List (List zC3)} {m : Nat} (h : zA4 zBh w a xs) (hne : xs ≠ []) (hm : 0 < m) (hrow : ∀ row ∈ xs, row.length = m) :
    ∃ p d g, a = some ⟨p, d, none⟩ ∧ zH9 w p d xs.length m g ∧ ∀ (i j : Nat) (row : List zC3) (u : zC3), xs[i]? = some row → row[j]? = some u →
     ((g i).way j).line = u.1 ∧ ((g i).way j).state = u.2.1 ∧ ((g i).way j).len = u.2.2.length ∧ u.2.2.length ≤ ((g i).way j).cap ∧ ((g i).way j).cap ≤ maxLen ∧ zA4 zAG w ((g i).way j).addr u.2.2 := by
 have n : 0 < xs.length := List.length_pos_iff.2 hne;obtain ⟨p, d, _, _, z, _⟩ := zDV h (List.getElem?_eq_getElem n);have l : ∀ i : Nat, ∃ x : SCells, ∀ row, xs[i]? = some row → (w.cell? ⟨p, d + i, none⟩ = some (.slice (some ⟨x.b, x.off, none⟩) m x.cap) ∧ zKb w x.b x.off m x.way) ∧ ∀ (j : Nat) (u : zC3), row[j]? = some u →
     (x.way j).line = u.1 ∧ (x.way j).state = u.2.1 ∧ (x.way j).len = u.2.2.length ∧ u.2.2.length ≤ (x.way j).cap ∧ (x.way j).cap ≤ maxLen ∧ zA4 zAG w (x.way j).addr u.2.2 := by
  intro i;cases q : xs[i]? with
  | none => exact ⟨⟨0, 0, 0, fun _ => ⟨0, 0, none, 0, 0⟩⟩, fun row hr => by cases hr⟩
  | some row =>
   obtain ⟨b', v, aj, A, k, y, -, -, r⟩ := zDV h q;rw [z] at k;cases k;have s := hrow row (List.mem_of_getElem? q);obtain ⟨b, off, c, rfl, o, f⟩ := zLt r (fun e => by rw [e] at s; simp at s; omega);rw [s] at o y;refine ⟨⟨b, off, A, c⟩, fun row' hr => ?_⟩;cases hr;exact ⟨⟨y, o⟩, f⟩
 obtain ⟨g, f⟩ := Classical.axiomOfChoice l;exact ⟨p, d, g, z, fun i q => (f i _ (List.getElem?_eq_getElem q)).1, fun i j row u hr hu => (f i row hr).2 j u hu⟩
theorem zFJ {w w' : World} {b0 off0 s m : Nat} {cc : Nat → SCells} (h : zH9 w b0 off0 s m cc) (hb : Below w.heap.size w w') (hm : 0 < m) : zH9 w' b0 off0 s m cc := by
 by_cases a : 0 < s
 ·exact zKf h (hb.block _ (zAk (h 0 a).1)) (fun i hi => hb.block _ (zLu (h i hi).2 hm))
 ·exact fun i hi => by omega
theorem zFn {c : zA7} {m k : Nat} (hm : 0 < m) (hrow : ∀ row ∈ c.1, row.length = m) (hk : k < c.1.length * m) : ∃ row, c.1[k / m]? = some row ∧ row[k % m]? = some (zBM c m k) := by
 have a : k / m < c.1.length := by rw [Nat.div_lt_iff_lt_mul hm]; exact hk
 have h2 : k % m < m := Nat.mod_lt _ hm;refine ⟨_, List.getElem?_eq_getElem a, ?_⟩;have h3 := hrow _ (List.getElem_mem a);have b : c.1.getD (k / m) [] = c.1[k / m] := by rw [List.getD_eq_getElem?_getD, List.getElem?_eq_getElem a]; rfl
 have : k % m < (c.1[k / m]).length := by omega
 rw [List.getElem?_eq_getElem this];unfold zBM;rw [b, List.getD_eq_getElem?_getD, List.getElem?_eq_getElem this];rfl
set_option maxHeartbeats 400000 in
theorem zFK (u v : Value) (a a' : Option Addr) (n n' cap cap' : Nat) (hu : u = .slice a n cap) (hv : v = .slice a' n' cap') (w : World) :
    Calls Tryz.prog 219 #[.agg #[u, v]] w fun e w' => e = .returned (.func (.func 253) #[] #[.pointer (some ⟨w.heap.size, 0, none⟩)]) ∧ w' = w.alloc (.cells #[u, v] 92) := by
 subst hu hv;go_enter Tryz.func219, Tryz.ntmps219;go_wp2;go_ret
 exact ⟨rfl, rfl⟩
theorem grown_at (W : World) (g o : Nat) (v : Value) : W.grownBy (W.setCell ⟨g, o, none⟩ v) (some g) := ⟨rfl, rfl, rfl, by simp, fun k _ hk => heap_setCell_other W ⟨g, o, none⟩ k v (fun e => hk (by simp [e]))⟩
def WOk (w : World) (v u : Value) (c : zA7) (m k : Nat) (W : World) : Prop :=
 zDG c m k ∧ W.heap[w.heap.size]? = some (.cells #[v, u] 92 (0, 0)) ∧ W.heap[w.heap.size + 1]? = some (.cells #[.bool false] 4 (0, 0)) ∧
 (∃ cur : Array Value, W.heap[w.heap.size + 1 + 1]? = some (.cells cur 281 (0, 0)) ∧ cur.size = 16 ∧ ∀ x, x < 16 → cur[x]? = some (.bool (zF6 c m k x))) ∧
 W.heap[w.heap.size + 1 + 1 + 1]? = some (.cells #[v, u] 92 (0, 0)) ∧ Below w.heap.size w W
theorem zND {w : World} {v u : Value} {c : zA7} {m B : Nat} (hB : w.heap.size ≤ B) : OwnFrom B (fun k W => WOk w v u c m k W) := by
 rintro k X Y a ⟨p, i, o, ⟨f, q, l, g⟩, n, j⟩ b d;exact ⟨p, zAP (β := Unit) _ _ _ _ () X Y a i b d, zAP (β := Unit) _ _ _ _ () X Y a o b d, ⟨f, zAP (β := Unit) _ _ _ _ () X Y a q b d, l, g⟩, zAP (β := Unit) _ _ _ _ () X Y a n b d, ownFrom_below (β := Unit) (Nat.le_refl _) hB () X Y a j b d⟩
theorem zC4 {w : World} {v u : Value} {c : zA7} {m k : Nat} {W W' : World} (h : WOk w v u c m k W) (hb : Below W.heap.size W W') : WOk w v u c m k W' := by
 obtain ⟨l, d, j, ⟨a, n, g, b⟩, i, f⟩ := h;exact ⟨l, zAb hb d, zAb hb j, ⟨a, zAb hb n, g, b⟩, zAb hb i, zAa f hb⟩
set_option maxHeartbeats 4000000 in
theorem zMj (a b : Option Addr) (c : zA7) (cap cp m : Nat) (w : World) (h1 : zA4 zBh w a c.1) (hp : c.1.length = 1 ∨ c.1.length = 2 ∨ c.1.length = 4) (hm : m = 1 ∨ m = 2 ∨ m = 4) (hrow : ∀ FA ∈ c.1, FA.length = m) :
    Calls Tryz.prog 235 #[.agg #[.slice a c.1.length cap, .slice b c.2.length cp]] w fun e C => e = .returned (.bool (zHl c m)) ∧ Below w.heap.size w C := by
 have AA : 0 < m := by omega
 obtain ⟨s, f, r, rfl, EB, qB⟩ := zJf h1 (fun e => by rw [e] at hp; simp at hp) AA hrow;have HG : Hid (∀ k, k < c.1.length * m → ((r (k / m)).way (k % m)).line = (zBM c m k).1 ∧ ((r (k / m)).way (k % m)).state = (zBM c m k).2.1 ∧ ((r (k / m)).way (k % m)).len = (zBM c m k).2.2.length ∧ (zBM c m k).2.2.length ≤ maxLen ∧ zA4 zAG w ((r (k / m)).way (k % m)).addr (zBM c m k).2.2) := fun k hk => by
  obtain ⟨FA, e1, e2⟩ := zFn AA hrow hk;obtain ⟨q1, q2, q3, q4, q5, q6⟩ := qB _ _ FA _ e1 e2;exact ⟨q1, q2, q3, Nat.le_trans q4 q5, q6⟩
 have HP : Hid (c.1.length = 1 ∨ c.1.length = 2 ∨ c.1.length = 4) := hp;have HM : Hid (m = 1 ∨ m = 2 ∨ m = 4) := hm;have HA : Hid _ := EB;clear h1 qB hrow hp hm EB;refine (callsIn_wide (n := 0)).1 ?_;refine callsIn_of_wp_marks Tryz.func235 rfl trivial ?_ rfl;simp only [Tryz.ntmps235, List.size_toArray, List.length_cons, List.length_nil, Nat.reduceAdd, Nat.reduceSub, Array.replicate_succ, Array.replicate_zero, List.push_toArray, List.append_toArray, List.nil_append, List.cons_append];gi_wp2
 refine ⟨trivial, rfl, (callsIn_wide.2 (zFK _ _ _ _ _ _ _ _ rfl rfl _)).mono ?_⟩;rintro e C ⟨rfl, rfl⟩;gi_wp2
 have mB : Below w.heap.size w ((((w.alloc (.cells #[.slice (some ⟨s, f, none⟩) c.1.length cap, .slice b c.2.length cp] 92)).alloc (.cells #[.bool false] 4)).alloc (.cells #[.bool false, .bool false, .bool false, .bool false, .bool false, .bool false, .bool false, .bool false, .bool false, .bool false, .bool false, .bool false, .bool false, .bool false, .bool false, .bool false] 281)).alloc (.cells #[.slice (some ⟨s, f, none⟩) c.1.length cap, .slice b c.2.length cp] 92)) := ((((Below.refl _ w).alloc (Nat.le_refl _) _).alloc (by simp) _).alloc (by simp; omega) _).alloc (by simp; omega) _;have k0 := zA3 (.cells #[.slice (some ⟨s, f, none⟩) c.1.length cap, .slice b c.2.length cp] 92) (zA3 (.cells #[.bool false, .bool false, .bool false, .bool false, .bool false, .bool false, .bool false, .bool false, .bool false, .bool false, .bool false, .bool false, .bool false, .bool false, .bool false, .bool false] 281) (zA3 (.cells #[.bool false] 4) (zAn w (.cells #[.slice (some ⟨s, f, none⟩) c.1.length cap, .slice b c.2.length cp] 92))));have k1 := zA3 (.cells #[.slice (some ⟨s, f, none⟩) c.1.length cap, .slice b c.2.length cp] 92) (zA3 (.cells #[.bool false, .bool false, .bool false, .bool false, .bool false, .bool false, .bool false, .bool false, .bool false, .bool false, .bool false, .bool false, .bool false, .bool false, .bool false, .bool false] 281) (zAn (w.alloc (.cells #[.slice (some ⟨s, f, none⟩) c.1.length cap, .slice b c.2.length cp] 92)) (.cells #[.bool false] 4)));have k2 := zA3 (.cells #[.slice (some ⟨s, f, none⟩) c.1.length cap, .slice b c.2.length cp] 92) (zAn ((w.alloc (.cells #[.slice (some ⟨s, f, none⟩) c.1.length cap, .slice b c.2.length cp] 92)).alloc (.cells #[.bool false] 4)) (.cells #[.bool false, .bool false, .bool false, .bool false, .bool false, .bool false, .bool false, .bool false, .bool false, .bool false, .bool false, .bool false, .bool false, .bool false, .bool false, .bool false] 281));have k3 := zAn (((w.alloc (.cells #[.slice (some ⟨s, f, none⟩) c.1.length cap, .slice b c.2.length cp] 92)).alloc (.cells #[.bool false] 4)).alloc (.cells #[.bool false, .bool false, .bool false, .bool false, .bool false, .bool false, .bool false, .bool false, .bool false, .bool false, .bool false, .bool false, .bool false, .bool false, .bool false, .bool false] 281)) (.cells #[.slice (some ⟨s, f, none⟩) c.1.length cap, .slice b c.2.length cp] 92);have e4 : ((((w.alloc (.cells #[.slice (some ⟨s, f, none⟩) c.1.length cap, .slice b c.2.length cp] 92)).alloc (.cells #[.bool false] 4)).alloc (.cells #[.bool false, .bool false, .bool false, .bool false, .bool false, .bool false, .bool false, .bool false, .bool false, .bool false, .bool false, .bool false, .bool false, .bool false, .bool false, .bool false] 281)).alloc (.cells #[.slice (some ⟨s, f, none⟩) c.1.length cap, .slice b c.2.length cp] 92)).heap.size = w.heap.size + 1 + 1 + 1 + 1 := by simp
 rw [zAv] at k1;rw [zAv, zAv] at k2;rw [zAv, zAv, zAv] at k3;have jB : WOk w (.slice (some ⟨s, f, none⟩) c.1.length cap) (.slice b c.2.length cp) c m 0 ((((w.alloc (.cells #[.slice (some ⟨s, f, none⟩) c.1.length cap, .slice b c.2.length cp] 92)).alloc (.cells #[.bool false] 4)).alloc (.cells #[.bool false, .bool false, .bool false, .bool false, .bool false, .bool false, .bool false, .bool false, .bool false, .bool false, .bool false, .bool false, .bool false, .bool false, .bool false, .bool false] 281)).alloc (.cells #[.slice (some ⟨s, f, none⟩) c.1.length cap, .slice b c.2.length cp] 92)) := by
  refine ⟨fun j hj => by omega, k0, k1, ⟨_, k2, rfl, fun x hx => ?_⟩, k3, mB⟩;rw [zNA];rcases x with _ | _ | _ | _ | _ | _ | _ | _ | _ | _ | _ | _ | _ | _ | _ | _ | x <;> first | rfl | omega
 clear k0 k1 k2 k3 mB;generalize (((w.alloc (.cells #[.slice (some ⟨s, f, none⟩) c.1.length cap, .slice b c.2.length cp] 92)).alloc (.cells #[.bool false] 4)).alloc (.cells #[.bool false, .bool false, .bool false, .bool false, .bool false, .bool false, .bool false, .bool false, .bool false, .bool false, .bool false, .bool false, .bool false, .bool false, .bool false, .bool false] 281)).alloc (.cells #[.slice (some ⟨s, f, none⟩) c.1.length cap, .slice b c.2.length cp] 92) = W0 at e4 jB ⊢;refine zE5 (N := c.1.length * m) (lb := #[.pointer (some ⟨w.heap.size + 1 + 1 + 1, 0, none⟩)]) (gf := 253) rfl (enters_of Tryz.func253 (by kernel_rfl) rfl)
  (zEG (w.heap.size + 1 + 1 + 1) s f c.1.length m cap r (by have := HP.out; omega) (by have := HM.out; omega) (by have := HP.out; omega) AA) (fun _ => rfl)
  (fun k W => WOk w (.slice (some ⟨s, f, none⟩) c.1.length cap) (.slice b c.2.length cp) c m k W)
  (fun x k W => x = .ret ∧ zHl c m = false ∧ W.heap[w.heap.size + 1]? = some (.cells #[.bool false] 4 (0, 0)) ∧ Below w.heap.size w W)
  (zND (by omega)) (fun x => OwnFrom.and (ownFrom_pure _ _) (OwnFrom.and (ownFrom_pure _ _) (OwnFrom.and (zAP _ _ _ _) (ownFrom_below (Nat.le_refl _) (by omega))))) ?hR jB
  (fun k a' W => ∃ B4 B5, W0.heap.size < B4 ∧ W0.heap.size < B5 ∧ W.heap[B4]? = some (.cells #[.int .i64 (k / m : Nat), .int .i64 (k % m : Nat)] 217 (0, 0)) ∧ W.heap[B5]? = some (.cells #[.int .i64 ((r (k / m)).way (k % m)).line, .int .i64 ((r (k / m)).way (k % m)).state, .slice ((r (k / m)).way (k % m)).addr ((r (k / m)).way (k % m)).len ((r (k / m)).way (k % m)).cap] 88 (0, 0)) ∧ WOk w (.slice (some ⟨s, f, none⟩) c.1.length cap) (.slice b c.2.length cp) c m k W ∧
   a' = { tmps := #[.agg #[.slice (some ⟨s, f, none⟩) c.1.length cap, .slice b c.2.length cp], .pointer (some ⟨w.heap.size, 0, none⟩), .pointer (some ⟨w.heap.size + 1, 0, none⟩), .pointer (some ⟨w.heap.size + 1 + 1, 0, none⟩), .pointer (some ⟨B4, 0, none⟩), .pointer (some ⟨B5, 0, none⟩), .agg #[.slice (some ⟨s, f, none⟩) c.1.length cap, .slice b c.2.length cp], .func (.func 253) #[] #[.pointer (some ⟨w.heap.size + 1 + 1 + 1, 0, none⟩)], .agg #[.int .i64 (k / m : Nat), .int .i64 (k % m : Nat)], ((r (k / m)).way (k % m)).agg, undef, undef, undef, undef, undef, undef, undef, undef, undef, undef, undef, undef, undef, undef, undef, undef, undef, undef, undef, undef, undef, undef, undef], defers := [] })
  ?hA ?hassign ?hbody ?hdone ?hstop
 case hR =>
  rintro k W ⟨_, _, _, _, g6, G⟩;exact ⟨by rw [cell_of_row W _ 0 _ _ (0, 0) g6]; rfl, zFJ HA.out G AA⟩
 case hA =>
  rintro k a' ⟨⟩ X Y rA ⟨B4, B5, l4, l5, g4, J, F, rfl⟩ hg hr;exact ⟨B4, B5, l4, l5, zAP (β := Unit) _ _ _ _ () X Y rA g4 hg hr, zAP (β := Unit) _ _ _ _ () X Y rA J hg hr, zND (B := W0.heap.size) (by omega) k X Y rA F hg hr, rfl⟩
 case hassign =>
  rintro k W K hk F BB H;gi_wp2
  have z1 := zAf W (.cells #[.int .i64 (k / m : Nat), .int .i64 (k % m : Nat)] 217);have z2 := zAf (W.alloc (.cells #[.int .i64 (k / m : Nat), .int .i64 (k % m : Nat)] 217)) (.cells #[.int .i64 ((r (k / m)).way (k % m)).line, .int .i64 ((r (k / m)).way (k % m)).state, .slice ((r (k / m)).way (k % m)).addr ((r (k / m)).way (k % m)).len ((r (k / m)).way (k % m)).cap] 88);have z3 := zAn (W.alloc (.cells #[.int .i64 (k / m : Nat), .int .i64 (k % m : Nat)] 217)) (.cells #[.int .i64 ((r (k / m)).way (k % m)).line, .int .i64 ((r (k / m)).way (k % m)).state, .slice ((r (k / m)).way (k % m)).addr ((r (k / m)).way (k % m)).len ((r (k / m)).way (k % m)).cap] 88);rw [zAv] at z3;exact H _ _ (Kept.below (zAa z1 z2)) ⟨W.heap.size, W.heap.size + 1, by omega, by omega, zA3 _ (zAn _ _), z3, zC4 (zC4 F z1) z2, rfl⟩
 case hbody =>
  rintro k a' V hk ⟨B4, B5, l4, l5, g4, J, F, rfl⟩ BB hD hL;obtain ⟨q1, q2, q3, q4, q5⟩ := HG.out k hk;have HU : Hid (zBM c m k = ((zBM c m k).1, (zBM c m k).2.1, (zBM c m k).2.2)) := rfl;rw [q1, q2, q3] at J;have CB : ((r (k / m)).way (k % m)).agg = .agg #[.int .i64 (zBM c m k).1, .int .i64 (zBM c m k).2.1, .slice ((r (k / m)).way (k % m)).addr (zBM c m k).2.2.length ((r (k / m)).way (k % m)).cap] := by rw [WCells.agg, q1, q2, q3]
  rw [CB];clear CB q1 q2 q3;generalize ((r (k / m)).way (k % m)).addr = ad at J q5 ⊢;generalize ((r (k / m)).way (k % m)).cap = cpw at J ⊢;have eA : Hid (∀ {x}, zB3 (zBM c m k) = x → zHk (zBM c m k).1 (zBM c m k).2.1 (zBM c m k).2.2.length = x) := fun h => by rw [zJc]; exact h
  have qA : Hid (∀ {x}, zCC isL (zBM c m k) = x → zCC isL ((zBM c m k).1, (zBM c m k).2.1, (zBM c m k).2.2) = x) := fun h => h;have HY : Hid (∀ x : Nat, zF6 c m k x = true ↔ ∃ j, j < k ∧ (zBM c m j).1 = (x : Int)) := fun x => seen_iff;have iB : Hid ((zBM c m k).1 = (zBM c m k).1) := rfl;generalize hl : (zBM c m k).1 = l at J eA qA iB ⊢;generalize (zBM c m k).2.1 = st at J eA qA ⊢;generalize (zBM c m k).2.2 = d at J q4 q5 eA qA ⊢;clear iB HU;have HL : Hid ((zBM c m k).1 = l) := hl;clear hl;obtain ⟨x0, x1, x2⟩ := zAJ J;obtain ⟨y0, y1⟩ := zAK g4;cases I : zB3 (zBM c m k)
  case true =>
   have HE : Hid (∀ W, Calls Tryz.prog 104 #[.agg #[.int .i64 l, .int .i64 st, .slice ad d.length cpw]] W fun e C => e = .returned (.bool true) ∧ Below W.heap.size W C) := fun W => by have := zDQ l st ad d.length cpw W q4; rwa [eA.out I] at this
   gi_wp2
   refine ⟨trivial, rfl, (CallsIn.inRound _ (callsIn_wide.2 (HE.out _))).mono ?_⟩;rintro e g ⟨rfl, b1⟩;gi_wp2
   obtain ⟨F, g1, E, ⟨yA, g3, zA, U⟩, g6, G⟩ := zC4 F b1;exact ⟨Kept.below b1, zG5 F (.inl I), g1, E, ⟨yA, g3, zA, fun x hx => by rw [zNB I]; exact U x hx⟩, g6, G⟩
  case false =>
   have HE : Hid (∀ W, Calls Tryz.prog 104 #[.agg #[.int .i64 l, .int .i64 st, .slice ad d.length cpw]] W fun e C => e = .returned (.bool false) ∧ Below W.heap.size W C) := fun W => by have := zDQ l st ad d.length cpw W q4; rwa [eA.out I] at this
   gi_wp2
   refine ⟨trivial, rfl, (CallsIn.inRound _ (callsIn_wide.2 (HE.out _))).mono ?_⟩;rintro e g ⟨rfl, b1⟩;have K1 := zC4 F b1;have nB : zA4 zAG g ad d := zAm q5 K1.2.2.2.2.2;obtain ⟨z0, z1⟩ := zAK K1.2.1;replace J := zAb b1 J;replace g4 := zAb b1 g4;clear x0 x1 x2 y0 y1 HE;obtain ⟨x0, x1, x2⟩ := zAJ J;obtain ⟨y0, y1⟩ := zAK g4;gi_wp2
   have m0 : ∀ n : Cls (fun wx => Below g.heap.size g wx), n.w.cell? ⟨B5, 0, none⟩ = some (.int .i64 l) := fun n => zAe n.h x0 (zAk x0);have m1 : ∀ n : Cls (fun wx => Below g.heap.size g wx), n.w.cell? ⟨B5, 1, none⟩ = some (.int .i64 st) := fun n => zAe n.h x1 (zAk x1);have m2 : ∀ n : Cls (fun wx => Below g.heap.size g wx), n.w.cell? ⟨B5, 2, none⟩ = some (.slice ad d.length cpw) := fun n => zAe n.h x2 (zAk x2);have m3 : ∀ n : Cls (fun wx => Below g.heap.size g wx), n.w.cell? ⟨B4, 0, none⟩ = some (.int .i64 (k / m : Nat)) := fun n => zAe n.h y0 (zAk y0);have n0 : ∀ n : Cls (fun wx => Below g.heap.size g wx), n.w.cell? ⟨w.heap.size, 0, none⟩ = some (.slice (some ⟨s, f, none⟩) c.1.length cap) := fun n => zAe n.h z0 (zAk z0);have n1 : ∀ n : Cls (fun wx => Below g.heap.size g wx), n.w.cell? ⟨w.heap.size, 1, none⟩ = some (.slice b c.2.length cp) := fun n => zAe n.h z1 (zAk z1);have aA : Hid (∀ n : Cls (fun wx => Below g.heap.size g wx), zA4 zAG n.w ad d) := fun n => zAm nB n.h;have X5 : Hid (∀ wx, Below g.heap.size g wx → wx.cell? ⟨B5, 0, none⟩ = some (.int .i64 l)) := fun wx h => zAe h x0 (zAk x0);have HK : Hid _ := K1;clear K1 x0 x1 x2 y0 y1 z0 z1 nB F q5 hD hL g4 J BB l4 l5;have K1 := HK.out;cases fA : zCC isL (zBM c m k)
   case false =>
    have HF : Hid (∀ W, zA4 zAG W ad d → Calls Tryz.prog 248 #[.agg #[.int .i64 l, .int .i64 st, .slice ad d.length cpw]] W fun e C => e = .returned (.bool false) ∧ Below W.heap.size W C) := fun W h => by have := zEk l st d ad cpw W h; rwa [qA.out fA] at this
    refine zCX (fun wx => Below g.heap.size g wx) (by kernel_rfl) (by kernel_rfl) (by kernel_rfl) ((Below.refl _ g).drew) ?_;intro R;iterate 3 (quiet_step ((go_at_call 248; exact zAj (HF.out _ (aA.out _)) (fun C hc bb => zAa hc bb))))
    refine wpQuiet_step (fun K H => ?_);go_simp
    refine zCp K _ ?_;intro A0 mA;refine H A0 ?_;clear H K;have kA : A0.tmps[15]? = some (.bool true) := by rw [mA]; rfl
    refine zAg (b := false) (d := 15) kA rfl rfl rfl (by decide) ?_;intro zB M v;clear kA;refine zAg (b := false) (d := 15) v rfl rfl rfl (by decide) ?_;intro AB L A;clear v;refine zAg (b := false) (d := 15) A rfl rfl rfl (by decide) ?_;intro DB O z;clear A;refine zAg (b := false) (d := 15) z rfl rfl rfl (by decide) ?_;intro pB T D;clear z;refine zAg (b := false) (d := 15) D rfl rfl rfl (by decide) ?_;intro AC OA pA;clear D;refine zAg (b := false) (d := 15) pA rfl rfl rfl (by decide) ?_;intro rC UA oA;clear pA;refine zAg (b := false) (d := 15) oA rfl rfl rfl (by decide) ?_;intro nC GA VA;clear oA;clear VA;subst GA UA OA T O L M;subst mA;quiet_step (skip)
    refine wpQuiet_step (fun K H => ?_);go_simp
    refine zCp K _ ?_;intro A1 fB;refine H A1 ?_;clear H K;have rB : A1.tmps[24]? = some (.bool true) := by rw [fB]; rfl
    refine zAg (b := false) (d := 24) rB rfl rfl rfl (by decide) ?_;intro yC KA jA;clear rB;refine zAg (b := false) (d := 24) jA rfl rfl rfl (by decide) ?_;intro BC MA dA;clear jA;refine zAg (b := false) (d := 24) dA rfl rfl rfl (by decide) ?_;intro CC NA iA;clear dA;refine zAg (b := false) (d := 24) iA rfl rfl rfl (by decide) ?_;intro vC TA IA;clear iA;clear IA;subst TA NA MA KA;subst fB;quiet_step (skip)
    refine wpQuiet_nil ?_;intro wx b2;clear m0 m1 m2 m3 n0 n1 R;obtain ⟨F, g1, E, g3, g6, G⟩ := zC4 K1 b2;have r2 : wx.cell? ⟨w.heap.size + 1, 0, none⟩ = some (.bool false) := by rw [cell_of_row wx _ 0 _ _ (0, 0) E]; rfl
    have r3 : wx.frozen? ⟨w.heap.size + 1, 0, none⟩ = false := frozen_of_row wx _ 0 _ _ E;gi_wp2
    refine ⟨Kept.trans (Kept.below (zAa b1 b2)) (Kept.chg (S := fun j => j = w.heap.size + 1) (zDs (grownBy_setCell' wx (w.heap.size + 1) _) rfl) (fun j e => by omega)), rfl, zHW hk I (fun h => by rw [fA] at h; exact absurd h.1 (by simp)), heap_setCell_same wx (w.heap.size + 1) 0 _ _ (.bool false) E, G.setCell (p := ⟨w.heap.size + 1, 0, none⟩) (by simp) _⟩
   case true =>
    have gA := zFl fA;rw [HL.out] at gA;obtain ⟨x, rfl⟩ : ∃ x : Nat, l = (x : Int) := ⟨l.toNat, by omega⟩;have Z : x < 16 := by omega
    have SB : (x : Int) < 16 := by omega
    have HF : Hid (∀ W, zA4 zAG W ad d → Calls Tryz.prog 248 #[.agg #[.int .i64 (x : Int), .int .i64 st, .slice ad d.length cpw]] W fun e C => e = .returned (.bool true) ∧ Below W.heap.size W C) := fun W h => by have := zEk (x : Int) st d ad cpw W h; rwa [qA.out fA] at this
    have bA : ∀ W, Calls Tryz.prog 236 #[.agg #[.slice (some ⟨s, f, none⟩) c.1.length cap, .slice b c.2.length cp], .int .i64 (x : Int)] W fun e C => e = .returned (.int .i64 ((x : Int) % (c.1.length : Int))) ∧ Below W.heap.size W C := fun W => zJd _ _ _ _ _ _ _ rfl _ W HP.out (by omega);by_cases hq : (x : Int) % (c.1.length : Int) = (k / m : Nat)
    ·have HS : Hid (∀ W, Calls Tryz.prog 236 #[.agg #[.slice (some ⟨s, f, none⟩) c.1.length cap, .slice b c.2.length cp], .int .i64 (x : Int)] W fun e C => e = .returned (.int .i64 ((k / m : Nat) : Int)) ∧ Below W.heap.size W C) := by rw [hq] at bA; exact bA
     have HQ : Hid ((x : Int) % (c.1.length : Int) = (k / m : Nat)) := hq;clear bA hq gA;cases lA : zF6 c m k x
     case true =>
      have m4 : ∀ n : Cls (fun wx => Below g.heap.size g wx), n.w.cell? ⟨w.heap.size + 1 + 1, x, none⟩ = some (.bool true) := fun n => by
       obtain ⟨-, -, -, ⟨yA, c1, -, c3⟩, -, -⟩ := zC4 HK.out n.h;rw [cell_of_row n.w _ x _ _ (0, 0) c1, c3 x Z, lA]
      refine zCX (fun wx => Below g.heap.size g wx) (by kernel_rfl) (by kernel_rfl) (by kernel_rfl) ((Below.refl _ g).drew) ?_;intro R;repeat (quiet_step (first | (go_at_call 248; exact zAj (HF.out _ (aA.out _)) (fun C hc bb => zAa hc bb)) | (go_at_call 236; exact zAj (HS.out _) (fun C hc bb => zAa hc bb))))
      refine wpQuiet_nil ?_;intro wx b2;clear m0 m1 m2 m3 n0 n1 R m4;obtain ⟨F, g1, E, g3, g6, G⟩ := zC4 K1 b2;have r2 : wx.cell? ⟨w.heap.size + 1, 0, none⟩ = some (.bool false) := by rw [cell_of_row wx _ 0 _ _ (0, 0) E]; rfl
      have r3 : wx.frozen? ⟨w.heap.size + 1, 0, none⟩ = false := frozen_of_row wx _ 0 _ _ E;gi_wp2
      refine ⟨Kept.trans (Kept.below (zAa b1 b2)) (Kept.chg (S := fun j => j = w.heap.size + 1) (zDs (grownBy_setCell' wx (w.heap.size + 1) _) rfl) (fun j e => by omega)), rfl, zHW hk I (fun h => by obtain ⟨j, hj, e⟩ := (HY.out x).1 lA; exact h.2.2 j hj (by rw [e, HL.out])), heap_setCell_same wx (w.heap.size + 1) 0 _ _ (.bool false) E, G.setCell (p := ⟨w.heap.size + 1, 0, none⟩) (by simp) _⟩
     case false =>
      have m4 : ∀ n : Cls (fun wx => Below g.heap.size g wx), n.w.cell? ⟨w.heap.size + 1 + 1, x, none⟩ = some (.bool false) := fun n => by
       obtain ⟨-, -, -, ⟨yA, c1, -, c3⟩, -, -⟩ := zC4 HK.out n.h;rw [cell_of_row n.w _ x _ _ (0, 0) c1, c3 x Z, lA]
      refine zCX (fun wx => Below g.heap.size g wx) (by kernel_rfl) (by kernel_rfl) (by kernel_rfl) ((Below.refl _ g).drew) ?_;intro R;repeat (quiet_step (first | (go_at_call 248; exact zAj (HF.out _ (aA.out _)) (fun C hc bb => zAa hc bb)) | (go_at_call 236; exact zAj (HS.out _) (fun C hc bb => zAa hc bb))))
      refine wpQuiet_nil ?_;intro wx b2;clear m0 m1 m2 m3 n0 n1 R m4;obtain ⟨F, g1, E, ⟨yA, g3, zA, U⟩, g6, G⟩ := zC4 K1 b2;have r2 : wx.cell? ⟨w.heap.size + 1 + 1, x, none⟩ = some (.bool false) := by rw [cell_of_row wx _ x _ _ (0, 0) g3, U x Z, lA]
      have r3 : wx.frozen? ⟨w.heap.size + 1 + 1, x, none⟩ = false := frozen_of_row wx _ x _ _ g3;have r4 := X5.out wx b2;gi_wp2
      refine ⟨Kept.trans (Kept.below (zAa b1 b2)) (Kept.chg (S := fun j => j = w.heap.size + 1 + 1) (zDs (grown_at wx _ _ _) rfl) (fun j e => by omega)), zG5 F (.inr ⟨fA, by rw [HL.out]; exact HQ.out, fun i hi e => ?_⟩), (heap_setCell_other wx ⟨w.heap.size + 1 + 1, x, none⟩ _ _ (by simp; omega)).trans g1, (heap_setCell_other wx ⟨w.heap.size + 1 + 1, x, none⟩ _ _ (by simp)).trans E, ⟨_, heap_setCell_same wx (w.heap.size + 1 + 1) x _ _ (.bool true) g3, by simpa using zA, fun y hy => ?_⟩, (heap_setCell_other wx ⟨w.heap.size + 1 + 1, x, none⟩ _ _ (by simp)).trans g6, G.setCell (p := ⟨w.heap.size + 1 + 1, x, none⟩) (by simp; omega) _⟩
      ·rw [HL.out] at e;have := (HY.out x).2 ⟨i, hi, e⟩;rw [lA] at this;cases this
      ·rw [zNC HL.out, Array.getElem?_setIfInBounds];by_cases eB : x = y
       ·subst eB;simp [zA, Z]
       ·rw [if_neg eB, U y hy];have : decide (y = x) = false := by simp; omega
        rw [this, Bool.false_or]
    ·have HQ : Hid (¬ (x : Int) % (c.1.length : Int) = (k / m : Nat)) := hq;have kB : (((x : Int) % (c.1.length : Int)) != (k : Int) / (m : Int)) = true := by rw [show (k : Int) / (m : Int) = ((k / m : Nat) : Int) from rfl]; simpa using hq
     generalize (x : Int) % (c.1.length : Int) = q at bA kB;have HS : Hid _ := bA;clear bA hq gA;refine zCX (fun wx => Below g.heap.size g wx) (by kernel_rfl) (by kernel_rfl) (by kernel_rfl) ((Below.refl _ g).drew) ?_;intro R;iterate 11 (quiet_step (first | (go_at_call 248; exact zAj (HF.out _ (aA.out _)) (fun C hc bb => zAa hc bb)) | (go_at_call 236; exact zAj (HS.out _) (fun C hc bb => zAa hc bb))))
     clear kB;quiet_step (skip)
     refine wpQuiet_step (fun K H => ?_);go_simp
     refine zCp K _ ?_;intro A0 mA;refine H A0 ?_;clear H K;have kA : A0.tmps[24]? = some (.bool true) := by rw [mA]; rfl
     refine zAg (b := false) (d := 24) kA rfl rfl rfl (by decide) ?_;intro zB M v;clear kA;refine zAg (b := false) (d := 24) v rfl rfl rfl (by decide) ?_;intro AB L A;clear v;refine zAg (b := false) (d := 24) A rfl rfl rfl (by decide) ?_;intro DB O z;clear A;refine zAg (b := false) (d := 24) z rfl rfl rfl (by decide) ?_;intro pB T D;clear z;clear D;subst T O L M;subst mA;quiet_step (skip)
     refine wpQuiet_nil ?_;intro wx b2;clear m0 m1 m2 m3 n0 n1 R;obtain ⟨F, g1, E, g3, g6, G⟩ := zC4 K1 b2;have r2 : wx.cell? ⟨w.heap.size + 1, 0, none⟩ = some (.bool false) := by rw [cell_of_row wx _ 0 _ _ (0, 0) E]; rfl
     have r3 : wx.frozen? ⟨w.heap.size + 1, 0, none⟩ = false := frozen_of_row wx _ 0 _ _ E;gi_wp2
     refine ⟨Kept.trans (Kept.below (zAa b1 b2)) (Kept.chg (S := fun j => j = w.heap.size + 1) (zDs (grownBy_setCell' wx (w.heap.size + 1) _) rfl) (fun j e => by omega)), rfl, zHW hk I (fun h => HQ.out (by rw [← HL.out]; exact h.2.1)), heap_setCell_same wx (w.heap.size + 1) 0 _ _ (.bool false) E, G.setCell (p := ⟨w.heap.size + 1, 0, none⟩) (by simp) _⟩
 case hdone =>
  rintro W ⟨F, g1, E, _, _, G⟩ H;have q2 : W.cell? ⟨w.heap.size + 1, 0, none⟩ = some (.bool false) := by rw [cell_of_row W _ 0 _ _ (0, 0) E]; rfl
  have q3 : W.frozen? ⟨w.heap.size + 1, 0, none⟩ = false := frozen_of_row W _ 0 _ _ E;gi_wp2
  have g8 := heap_setCell_same W (w.heap.size + 1) 0 _ _ (.bool true) E;have vB : (W.setCell ⟨w.heap.size + 1, 0, none⟩ (.bool true)).heap[W0.heap.size]? = some (.deferred (some [])) := (heap_setCell_other W ⟨w.heap.size + 1, 0, none⟩ _ _ (by simp; omega)).trans H;refine ⟨by simp, .inl ⟨_, _, rfl, run_takeDeferred vB, ?_⟩⟩;have g9 := (World.putObj_heap_other (o := .deferred none) (show w.heap.size + 1 ≠ W0.heap.size by omega)).trans g8;have nA := cell_of_row _ _ 0 _ _ (0, 0) g9;refine ⟨.bool true, ?_, zAl (zJe F).symm, (G.setCell (p := ⟨w.heap.size + 1, 0, none⟩) (by simp) _).trans ((Below.refl _ _).grown (grownBy_putObj' _ _ _) (by have := (ltH vB); omega) (fun k e => by cases e; omega))⟩;simp at nA
  simp [results, Tryz.results235, go_sem, nA]
 case hstop =>
  rintro x k W hk ⟨rfl, hf, J, G⟩ H;gi_wp2
  refine ⟨by simp, .inl ⟨_, _, rfl, run_takeDeferred H, ?_⟩⟩;have g9 := (World.putObj_heap_other (o := .deferred none) (show w.heap.size + 1 ≠ W0.heap.size by omega)).trans J;have nA := cell_of_row _ _ 0 _ _ (0, 0) g9;refine ⟨.bool false, ?_, zAl hf.symm, G.trans ((Below.refl _ _).grown (grownBy_putObj' _ _ _) (by have := (ltH H); omega) (fun k e => by cases e; omega))⟩;simp at nA
  simp [results, Tryz.results235, go_sem, nA]
end Go.Proofs.YtcocbafhcpdheaaGreatDoor
