import Derived.Test.YtmdhblhdfcocjaaGreatDoorP00Box
import Derived.Test.YtmdhblhdfcocjaaGreatDoorP01
import Derived.Deep.OwnRows
import Derived.LoopN
namespace Go.Proofs.YtmdhblhdfcocjaaGreatDoor
set_option maxHeartbeats 1000000
open Go.ChangeShapes Go.WideShapes Go.ChangeAt Go.RowKit
def zAP (a b c : Int) : Bool := decide (b ≤ a ∧ a ≤ c)
theorem zAV {k : IntKind} {a b : Int} (h : a = b) : Ending.returned (.int k a) = .returned (.int k b) := by rw [h]
theorem zA2 {a b : Bool} (h : a = b) : Ending.returned (.bool a) = .returned (.bool b) := by rw [h]
theorem zAZ (a b c : Int) (w : World) :
    Calls Tryz.prog 23 #[nI a, nI b, nI c] w fun e w' => e = .returned (.bool (zAP a b c)) ∧ w' = w := by
 by_cases f : b ≤ a
 ·by_cases d : a ≤ c
  all_goals
   go_enter Tryz.func23, Tryz.ntmps23;go_wp2;go_ret
   exact ⟨by simp [zAP, f, d], rfl⟩
 ·go_enter Tryz.func23, Tryz.ntmps23;go_wp2;go_ret
  exact ⟨by simp only [zAP]; congr 2; simp; omega, rfl⟩
theorem zBd (a b c : Int) (w : World) :
    Calls Tryz.prog 68 #[nI a, nI b, nI c] w fun e w' => e = .returned (.bool (zAP a b c)) ∧ w' = w := by
 by_cases f : b ≤ a
 ·by_cases d : a ≤ c
  all_goals
   go_enter Tryz.func68, Tryz.ntmps68;go_wp2;go_ret
   exact ⟨by simp [zAP, f, d], rfl⟩
 ·go_enter Tryz.func68, Tryz.ntmps68;go_wp2;go_ret
  exact ⟨by simp only [zAP]; congr 2; simp; omega, rfl⟩
theorem zAb {w w1 w2 : World} (h : Bl w w1) (h2 : Bl w1 w2) : Bl w w2 := h.trans (h2.mono h.size)
theorem Tryz.infoI : (Tryz.prog.info? 2).map (fun i => (i.zero, i.size, i.bytes)) = some (some (nI 0), 1, 8) := by kernel_rfl
def OwnI (B : Nat) (w : World) (g cap : Nat) (zs : List Int) : Prop :=
 w.ownsRow B 2 1 (.slice (some ⟨g, 0, none⟩) zs.length cap) zs.length (zs.map (Value.int .i64))
def zM2 (w w' : World) (v : Value) (zs : List Int) : Prop :=
 ∃ g cap, v = .slice (some ⟨g, 0, none⟩) zs.length cap ∧ w.heap.size ≤ g ∧ g < w'.heap.size ∧ OwnI w.heap.size w' g cap zs ∧ Below w.heap.size w w'
theorem owni_lit (w : World) (cs : Array Value) (zs : List Int) (h : cs.toList = zs.map (Value.int .i64)) (hm : zs.length ≤ maxLen) : OwnI w.heap.size (w.alloc (.cells cs 2)) w.heap.size zs.length zs := by
 have a : cs.size = zs.length := by rw [← Array.length_toList, h]; simp
 have := World.ownsRow_lit (base := w.heap.size) (e := 2) (size := 1) w cs zs.length (Nat.le_refl _) hm (by simpa using a);rw [h] at this;exact this
theorem zKQ (w : World) (cs : Array Value) (zs : List Int) (h : cs.toList = zs.map (Value.int .i64)) (hm : zs.length ≤ maxLen) : zM2 w (w.alloc (.cells cs 2)) (sL (some ⟨w.heap.size, 0, none⟩) zs.length zs.length) zs :=
 ⟨_, _, rfl, Nat.le_refl _, by simp, owni_lit w cs zs h hm, (Below.refl _ _).alloc (Nat.le_refl _) _⟩
theorem zD6 {w w1 w2 : World} {v : Value} {zs : List Int} (h : Bl w w1) (h2 : zM2 w1 w2 v zs) : zM2 w w2 v zs := by
 obtain ⟨g, d, rfl, j, i, f, k⟩ := h2;refine ⟨g, d, rfl, Nat.le_trans h.size j, i, ?_, zAb h k⟩;refine ⟨f.1, ?_⟩;rcases f.2 with c | ⟨m, a, b, c, l, rest⟩
 ·exact .inl c
 ·exact .inr ⟨m, a, b, c, Nat.le_trans h.size l, rest⟩
theorem zM3 (j : Nat) (xs : List Int) (ys : List Value) (h : j < xs.length) (h2 : j < ys.length) :
    ((xs.take j).map (Value.int .i64) ++ ys.drop j).set j (nI xs[j]) = (xs.take (j + 1)).map (Value.int .i64) ++ ys.drop (j + 1) := by
 have a : ((xs.take j).map (Value.int .i64)).length = j := by simp; omega
 rw [List.set_append_right _ _ (by omega), a, Nat.sub_self, List.drop_eq_getElem_cons h2, List.take_add_one, List.getElem?_eq_getElem h];simp only [List.set_cons_zero, List.map_append, List.map_cons, List.map_nil, List.append_assoc, List.cons_append, List.nil_append, Option.toList_some]
theorem zL0 (a : Option Addr) (xs : List Int) (cap : Nat) (w : World) (h : zDF w a xs) (hm : xs.length ≤ 1048576) :
    Calls Tryz.prog 29 #[sL a xs.length cap] w fun e w' => ∃ v, e = .returned v ∧ zM2 w w' v xs := by
 obtain ⟨i0, hi, s, C, A⟩ := info_parts Tryz.infoI;have z := Go.run_make_row' (P := Tryz.prog) 23 2 (nI 0) 8 Tryz.underlying23 Tryz.infoI rfl .i64 .i64 xs.length (by omega) (by omega);go_enter Tryz.func29, Tryz.ntmps29;go_wp2;go_loopw [4] (fun i wr => ∃ k : Nat, k ≤ xs.length ∧ i = nI k ∧ wr.ownsRow w.heap.size 2 1 (sL (some ⟨w.heap.size, 0, none⟩) xs.length xs.length) xs.length ((xs.take k).map (Value.int .i64) ++ (madeCells #[nI 0] xs.length).toList.drop k) ∧ Bl w wr)
  (fun i _ => xs.length - (intOf i).toNat)
 case atStart => exact ⟨0, Nat.zero_le _, rfl, by simpa using World.ownsRow_lit (base := w.heap.size) (e := 2) (size := 1) w (madeCells #[nI 0] xs.length) xs.length (Nat.le_refl _) (by unfold maxLen; omega) (by simp [size_madeCells]), (Below.refl _ _).alloc (Nat.le_refl _) _⟩
 case round =>
  obtain ⟨k, hk, rfl, d, f⟩ := hrel;by_cases c : k < xs.length
  ·rcases h with rfl | ⟨b, l, rfl, q⟩
   ·simp at c
   have n : (k : Int) < (xs.length : Int) := by omega
   have o := q k c;have g1 := (f.cell (World.block_lt_of_cell? w ⟨b, l + k, none⟩ o)).trans o;have y := d.frozenAt k;obtain ⟨m, r⟩ : ∃ m, wr.cell? ⟨w.heap.size, k, none⟩ = some m := by
    rw [d.cellAt k (by omega)];exact ⟨_, List.getElem?_eq_getElem (by have := d.1; omega)⟩
   have R := d.stored k (nI xs[k]);rw [zM3 k xs _ c (by simp [size_madeCells]; omega)] at R;have p : Hid _ := R;clear R q;go_wp2;go_roundw
   case rel => exact ⟨k + 1, by omega, by go_num, p.out.1, f.grown p.out.2 f.size (by intro j B; cases B; exact Nat.le_refl _)⟩
   case measure => simp [intOf]; omega
  ·have g : k = xs.length := by omega
   subst g;go_wp2;go_ret
   refine ⟨_, rfl, w.heap.size, xs.length, rfl, Nat.le_refl _, (d.lt _ rfl).2, ?_, f⟩;rw [List.take_length, List.drop_of_length_le (by simp [size_madeCells]), List.append_nil] at d;exact d
theorem zHS {w w1 : World} {v' : Value} {o : Obj} {xs : List Int} (h : w1.ownsRow w.heap.size 2 1 v' xs.length (xs.map (Value.int .i64)))
    (hg : (w.alloc o).grownBy w1 (Value.slice (some ⟨w.heap.size, 0, none⟩) 0 0).ownBlock) (hv : v' ≠ sL none 0 0) : zM2 w w1 v' xs := by
 rcases h.2 with ⟨rfl, _⟩ | ⟨g, a, b, rfl, c, f, rest⟩
 ·exact absurd rfl hv
 refine ⟨g, a, rfl, c, (ltH f), h, ((Below.refl _ _).alloc (Nat.le_refl _) _).grown hg (by simp) ?_⟩;intro k d;simp [Value.ownBlock] at d
 omega
theorem zL1 (a : Addr) (xs : List Int) (cap : Nat) (w : World) (h : zDF w (some a) xs) (hm : xs.length ≤ 1048576) :
    Calls Tryz.prog 57 #[sL (some a) xs.length cap] w fun e w' => ∃ v, e = .returned v ∧ zM2 w w' v xs := by
 obtain ⟨s, C, l, n, m⟩ := info_parts Tryz.infoI;have g : (w.alloc (.cells #[] 2)).ownsRow w.heap.size 2 1 (sL (some ⟨w.heap.size, 0, none⟩) 0 0) 0 [] := World.ownsRow_lit _ #[] 0 (Nat.le_refl _) (Nat.zero_le _) rfl;go_enter Tryz.func57, Tryz.ntmps57;go_wp2_with (at_builtin; refine wpList_append_own _ rfl _ _ 23 rfl w.heap.size 2 s (nI 0) 1 8 Tryz.underlying23 C l n m rfl (by decide) _ _ _ rfl g a xs.length cap (xs.map (Value.int .i64)) rfl (by simp) ?c1 ?c2 ?c3 ?c4 ?c5 ?_)
 case c1 =>
  intro j u B;obtain ⟨f, rfl⟩ := List.getElem?_eq_some_iff.1 B;simp at f
  rcases h with rfl | ⟨b, k, p, D⟩
  ·simp at f
  simp only [Option.some.injEq] at p;subst p;have o := D j f;rw [show (⟨b, k, none⟩ : Addr).add j = ⟨b, k + j, none⟩ from by simp [Addr.add], World.cell?_alloc_past _ _ _ (World.block_lt_of_cell? w _ o), o];simp [List.getD_eq_getElem?_getD, f]
 case c2 => intro u r; simp at r; obtain ⟨x, _, rfl⟩ := r; rfl
 case c3 => unfold maxLen; omega
 case c4 => omega
 case c5 => simp
 ·intro q z c d i;have A : q ≠ sL none 0 0 := i;have y : Hid (zM2 w z q xs) := zHS c d A;clear c d i g;go_wp2;go_ret
  exact ⟨_, rfl, y.out⟩
set_option linter.unusedVariables false
section
variable {α β : Type}
structure Mk (α : Type) where
 cE : α → Nat
 mE : Int → α → α
 cV : α → Nat
 mV : Int → α → α
 bk : α → Nat
def zBx : Mk Int := ⟨fun _ => 1, fun k _ => k, fun _ => 0, fun _ x => x, fun _ => 0⟩
def zDH (M : Mk α) (N : Mk β) : Mk (α × β) :=
 ⟨fun a => M.cE a.1 + N.cE a.2, fun k a => (M.mE k a.1, N.mE (k + M.cE a.1) a.2), fun a => M.cV a.1 + N.cV a.2, fun k a => (M.mV k a.1, N.mV (k + M.cV a.1) a.2), fun a => M.bk a.1 + N.bk a.2⟩
def zBz (M : Mk α) (xs : List α) : Nat := (xs.map M.bk).sum
def zA1 (M : Mk α) (xs : List α) : Nat := (xs.map M.cE).sum
def zBw (M : Mk α) : Int → List α → List α
 | _, [] => []
 | k, x :: xs => M.mE k x :: zBw M (k + M.cE x) xs
def slM (M : Mk α) : Mk (List α) := ⟨zA1 M, zBw M, zA1 M, zBw M, fun xs => xs.length + zBz M xs⟩
theorem zBF (M : Mk α) : ∀ (k : Int) (xs : List α), (zBw M k xs).length = xs.length
 | _, [] => rfl
 | k, x :: xs => by simp [zBw, zBF M _ xs]
theorem zCv {M : Mk α} {xs : List α} {j : Nat} {x : α} (h : xs[j]? = some x) : zA1 M (xs.take (j + 1)) = zA1 M (xs.take j) + M.cE x := by
 simp [zA1, List.take_add_one, h]
theorem zL2 (M : Mk α) (xs : List α) (j : Nat) : zA1 M (xs.take j) ≤ zA1 M xs := by
 have : zA1 M xs = zA1 M (xs.take j) + zA1 M (xs.drop j) := by
  conv => lhs; rw [← List.take_append_drop j xs]
  unfold zA1;rw [List.map_append, List.sum_append]
 omega
theorem zCT {M : Mk α} {xs : List α} {j : Nat} {x : α} (h : xs[j]? = some x) : zA1 M (xs.take j) + M.cE x ≤ zA1 M xs := by
 have h1 := zCv (M := M) h;have h2 := zL2 M xs (j + 1);omega
theorem zD7 {M : Mk α} : ∀ {xs : List α} {k : Int} {j : Nat} {x : α}, xs[j]? = some x → (zBw M k xs)[j]? = some (M.mE (k + zA1 M (xs.take j)) x)
 | [], k, j, x, h => by simp at h
 | y :: ys, k, 0, x, h => by
  simp at h
  subst h;simp [zBw, zA1]
 | y :: ys, k, j + 1, x, h => by
  simp at h
  have := zD7 (M := M) (k := k + M.cE y) h;simp only [zBw, List.getElem?_cons_succ, this, List.take_succ_cons, zA1, List.map_cons, List.sum_cons];congr 2
  omega
theorem zF6 {M : Mk α} {xs : List α} {j : Nat} {x : α} (h : xs[j]? = some x) : zBz M (xs.take (j + 1)) = zBz M (xs.take j) + M.bk x := by
 simp [zBz, List.take_add_one, h]
theorem zL3 (M : Mk α) (xs : List α) (j : Nat) : zBz M (xs.take j) ≤ zBz M xs := by
 have : zBz M xs = zBz M (xs.take j) + zBz M (xs.drop j) := by
  conv => lhs; rw [← List.take_append_drop j xs]
  unfold zBz;rw [List.map_append, List.sum_append]
 omega
theorem zGw {M : Mk α} {xs : List α} {j : Nat} {x : α} (h : xs[j]? = some x) : zBz M (xs.take j) + M.bk x ≤ zBz M xs := by
 have h1 := zF6 (M := M) h;have h2 := zL3 M xs (j + 1);omega
def Bd (M : Mk α) (K : Nat) : Prop := ∀ x, M.cE x ≤ K * (1 + M.bk x)
theorem zDh : Bd zBx 1 := fun _ => by simp [zBx]
theorem zDi {M : Mk α} {N : Mk β} {K L : Nat} (h : Bd M K) (k : Bd N L) : Bd (zDH M N) (K + L) := fun x => by
 have h1 := h x.1;have h2 := k x.2;show M.cE x.1 + N.cE x.2 ≤ (K + L) * (1 + (M.bk x.1 + N.bk x.2))
 have e1 : K * (1 + M.bk x.1) ≤ K * (1 + (M.bk x.1 + N.bk x.2)) := Nat.mul_le_mul_left _ (by omega);have e2 : L * (1 + N.bk x.2) ≤ L * (1 + (M.bk x.1 + N.bk x.2)) := Nat.mul_le_mul_left _ (by omega);rw [Nat.add_mul];omega
theorem zKR {M : Mk α} {K : Nat} (h : Bd M K) (xs : List α) : zA1 M xs ≤ K * (slM M).bk xs := by
 induction xs with
 | nil => exact Nat.zero_le _
 | cons x xs ih =>
  have h1 := h x;have e : (slM M).bk (x :: xs) = (1 + M.bk x) + (slM M).bk xs := by
   simp [slM, zBz]
   omega
  rw [e, Nat.mul_add];simp only [zA1, List.map_cons, List.sum_cons] at ih ⊢;omega
theorem bd_sl {M : Mk α} {K : Nat} (h : Bd M K) : Bd (slM M) K := fun xs => by
 have b := zKR h xs;have a : K * (slM M).bk xs ≤ K * (1 + (slM M).bk xs) := Nat.mul_le_mul_left _ (by omega);exact Nat.le_trans b a
def zEh (M : Mk α) (k : Int) (xs : List α) (j : Nat) : List α := (zBw M k xs).take j ++ xs.drop j
theorem zE0 (M : Mk α) (k : Int) (xs : List α) : zEh M k xs 0 = xs := by simp [zEh]
theorem zFf (M : Mk α) (k : Int) (xs : List α) : zEh M k xs xs.length = zBw M k xs := by
 simp [zEh, List.take_of_length_le (lE (zBF M k xs))]
theorem zFg {M : Mk α} {k : Int} {xs : List α} {j : Nat} {x : α} (h : xs[j]? = some x) : (zEh M k xs j)[j]? = some x := by
 have hj := (List.getElem?_eq_some_iff.1 h).1;have a : ((zBw M k xs).take j).length = j := by simp [zBF]; omega
 rw [zEh, List.getElem?_append_right (by omega), a, Nat.sub_self, List.getElem?_drop];exact h
theorem zE1 {M : Mk α} {k : Int} {xs : List α} {j : Nat} {x : α} (h : xs[j]? = some x) : (zEh M k xs j).set j (M.mE (k + zA1 M (xs.take j)) x) = zEh M k xs (j + 1) := by
 have a := (List.getElem?_eq_some_iff.1 h).1;have b : ((zBw M k xs).take j).length = j := by simp [zBF]; omega
 have c := zD7 (M := M) (k := k) h;rw [zEh, zEh, List.set_append_right _ _ (by omega), b, Nat.sub_self, List.drop_eq_getElem_cons a, List.set_cons_zero, List.take_add_one, c];simp
abbrev zA5 : Rep (List Int) := slR 2 zBC
abbrev zBn : Mk (List Int) := slM zBx
theorem zDI {w : World} : ∀ {rows : List Value} {xs : List Int}, lrd zBC w rows xs ↔ rows = xs.map (Value.int .i64) ∧ ∀ x ∈ xs, zBk x
 | rows, [] => by simp [lrd]
 | rows, x :: xs => by
  constructor
  ·rintro ⟨c1, c2, rfl, ⟨rfl, b⟩, c⟩;obtain ⟨rfl, a⟩ := zDI.1 c;exact ⟨rfl, by simpa using ⟨b, a⟩⟩
  ·rintro ⟨rfl, h⟩;simp at h
   exact ⟨[nI x], xs.map (Value.int .i64), rfl, ⟨rfl, h.1⟩, zDI.2 ⟨rfl, h.2⟩⟩
theorem zGx {w : World} {S : zAW} : ∀ {rows : List Value} {xs : List Int}, lrd zBC w rows xs → zHi zBC w S rows xs
 | rows, [], h => h
 | rows, x :: xs, ⟨c1, c2, e, h1, h2⟩ => ⟨c1, c2, fun _ => False, S, e, h1, zGx h2, fun _ h => h.elim, Sub.refl _, fun _ h _ => h⟩
theorem zCw {w : World} {a : Option Addr} {xs : List Int} (h : zBg zBC w a xs) : zDF w a xs := by
 rcases h with h | ⟨b, c, d, rfl, f, g⟩
 ·exact .inl h
 ·obtain ⟨rfl, _⟩ := zDI.1 f;refine .inr ⟨b, c, rfl, fun j hj => g j _ ?_⟩;simp [List.getD_eq_getElem?_getD, List.getElem?_eq_getElem hj]
theorem zHT {w : World} {a : Option Addr} {xs : List Int} (h : zBg zBC w a xs) : ∀ x ∈ xs, zBk x := by
 rcases h with rfl | ⟨b, d, c, rfl, f, h2⟩
 ·simp
 ·exact (zDI.1 f).2
theorem zD8 {w w' : World} {v : Value} {zs : List Int} (h : zM2 w w' v zs) (h64 : ∀ x ∈ zs, zBk x) : zAX zA5 w w' [v] zs := by
 obtain ⟨g, a, rfl, d, f, c, b⟩ := h;refine ⟨⟨_, zs.map (Value.int .i64), fun _ => False, rfl, zDr c (fun _ _ => Nat.zero_le _), fun g' hg => ?_, fun _ h => h.elim, zGx (zDI.2 ⟨rfl, h64⟩)⟩, b⟩;simp [Value.ownBlock] at hg
 subst hg;exact ⟨⟨d, f⟩, fun h => h⟩
theorem owni_of {S : zAW} {w : World} {v : Value} {zs : List Int} (h : zA5.own w S [v] zs) : (v = sL none 0 0 ∧ zs = []) ∨ ∃ g a, v = sL (some ⟨g, 0, none⟩) zs.length a ∧ S g ∧ OwnI 0 w g a zs := by
 obtain ⟨v', d, S', c, b, i, hs, j⟩ := h;simp only [List.cons.injEq, and_true] at c;subst c;obtain ⟨rfl, _⟩ := zDI.1 (zHQ j);rcases b.2 with ⟨rfl, k⟩ | ⟨g, a, f, rfl, rest⟩
 ·exact .inl ⟨rfl, List.eq_nil_of_length_eq_zero k⟩
 ·exact .inr ⟨g, a, rfl, (i g rfl).1, b⟩
theorem own_of {S : zAW} {B : Nat} {w : World} {g cap : Nat} {zs : List Int} (h : OwnI B w g cap zs) (hS : S g) (h64 : ∀ x ∈ zs, zBk x) : zA5.own w S [sL (some ⟨g, 0, none⟩) zs.length cap] zs := by
 refine ⟨_, zs.map (Value.int .i64), fun _ => False, rfl, zDr h (fun _ _ => Nat.zero_le _), fun g' hg => ?_, fun _ h => h.elim, zGx (zDI.2 ⟨rfl, h64⟩)⟩;simp [Value.ownBlock] at hg
 subst hg;exact ⟨hS, fun h => h⟩
theorem zH5 (xs : List Int) : zA1 zBx xs = xs.length := by
 induction xs with
 | nil => rfl
 | cons x xs ih =>
  simp only [zA1, List.map_cons, List.sum_cons, List.length_cons] at ih ⊢;rw [ih];simp [zBx]
  omega
theorem zEQ : ∀ (k : Int) (xs : List Int), zBw zBx k xs = zHO k xs.length
 | k, [] => rfl
 | k, x :: xs => by
  rw [zBw, zEQ];simp only [zHO, List.length_cons, List.range_succ_eq_map, List.map_cons, List.map_map, zBx];congr 1
  ·simp
  ·apply List.map_congr_left
   intro a _;simp
   omega
end
def szI (n : Nat) (left : Int) : Int := if (n : Int) ≤ left then left - n else -1
theorem zC2 {n : Nat} {left : Int} (h : (n : Int) ≤ left) : szI n left = left - n := by unfold szI; rw [if_pos h]
theorem zCz {n : Nat} {left : Int} (h : ¬ (n : Int) ≤ left) : szI n left = -1 := by unfold szI; rw [if_neg h]
theorem zCC (a : Option Addr) (xs : List Int) (cap : Nat) (left : Int) (w : World) (h0 : 0 ≤ left) (h1 : left ≤ 1048576) (hm : xs.length ≤ maxLen) :
    Calls Tryz.prog 21 #[sL a xs.length cap, nI left] w fun e w' => e = .returned (nI (szI (zBn.bk xs) left)) ∧ w' = w := by
 have d : zBn.bk xs = xs.length := by
  show xs.length + zBz zBx xs = xs.length
  have : zBz zBx xs = 0 := by
   induction xs with
   | nil => rfl
   | cons x xs ih => simp only [zBz, List.map_cons, List.sum_cons] at ih ⊢; rw [ih (by simp at hm; omega)]; rfl
  omega
 rw [d];have b : xs.length ≤ 9223372036854775807 := hm;clear hm d;generalize xs.length = n at b;by_cases f : (n : Int) ≤ left
 ·have c : ¬ (left - (n : Int) < 0) := by omega
  rw [zC2 f];go_enter Tryz.func21, Tryz.ntmps21;go_wp2;go_ret
  exact ⟨rfl, rfl⟩
 ·have c : left - (n : Int) < 0 := by omega
  rw [zCz f];go_enter Tryz.func21, Tryz.ntmps21;go_wp2;go_ret
  exact ⟨rfl, rfl⟩
theorem zDt (a : Option Addr) (xs : List Int) (cap : Nat) (w : World) (h : zBg zBC w a xs) (hm : zBn.bk xs ≤ 1048576) :
    Calls Tryz.prog 29 #[sL a xs.length cap] w fun e w' => ∃ v, e = .returned v ∧ zAX zA5 w w' [v] xs :=
 (zL0 a xs cap w (zCw h) (by have : zBn.bk xs = xs.length + zBz zBx xs := rfl; omega)).mono fun e w' ⟨v, h1, h2⟩ => ⟨v, h1, zD8 h2 (zHT h)⟩
theorem zDu (a1 a2 : Option Addr) (xs : List Int) (c1 c2 : Nat) (w : World) (h1 : zBg zBC w a1 xs) (h2 : zBg zBC w a2 xs) (hm : zBn.bk xs ≤ 1152921504606846976) :
    Calls Tryz.prog 40 #[sL a1 xs.length c1, sL a2 xs.length c2] w fun e w' => e = .returned (.bool true) ∧ ∃ n, w' = w.drewN n :=
 zLz a1 a2 xs c1 c2 w (zCw h1) (zCw h2) (by have : zBn.bk xs = xs.length + zBz zBx xs := rfl; omega)
theorem zHj (k : Int) (w : World) :
    Calls Tryz.prog 44 #[sL none 0 0, nI k] w fun e' w' => e' = .returned (nI k) ∧ w' = w := by
 go_enter Tryz.func44, Tryz.ntmps44;go_wp2;refine wp_loop_rounds 1 ?_;rw [rounds_succ];go_wp2;go_ret
 exact ⟨rfl, rfl⟩
theorem zM4 {k : Int} {n : Nat} (h0 : 0 ≤ k) (h1 : k ≤ 1152921504606846976) (hm : n ≤ 1152921504606846976) : ∀ x ∈ zHO k n, zBk x := by
 intro x a;simp only [zHO, List.mem_map, List.mem_range] at a;obtain ⟨j, hj, rfl⟩ := a;constructor <;> omega
theorem zCi (S : zAW) (v : Value) (k : Int) (xs : List Int) (w : World) (h0 : 0 ≤ k) (h1 : k ≤ 1152921504606846976) (hm : zA1 zBx xs ≤ 1152921504606846976) (h : zA5.own w S [v] xs) :
    Calls Tryz.prog 44 #[v, nI k] w fun e' w' => e' = .returned (nI (k + zA1 zBx xs)) ∧ zA5.own w' S [v] (zBw zBx k xs) ∧ Chg S w w' := by
 rw [zH5] at hm ⊢;rw [zEQ];rcases owni_of h with ⟨rfl, rfl⟩ | ⟨g, cap, rfl, a, b⟩
 ·exact (zHj k w).mono fun e w' ⟨e1, e2⟩ => ⟨by simpa using e1, by rw [e2]; exact h, by rw [e2]; exact Chg.refl _ _⟩
 ·refine (mark_any 0 _ g cap k xs.length _ w h0 (by omega) (by omega) b).mono fun e w' ⟨e1, e2, e3⟩ => ⟨e1, ?_, zCR e3 a⟩;have := own_of (S := S) (B := 0) (w := w') (g := g) (cap := cap) (zs := zHO k xs.length) (by unfold OwnI; rw [zFd]; exact e2) a (zM4 h0 h1 hm);rwa [zFd] at this
theorem zC6 (a : Option Addr) (cap : Nat) (k : Int) (xs : List Int) (w : World) (h0 : 0 ≤ k) (h1 : k ≤ 1152921504606846976) (hm : zA1 zBx xs ≤ 1152921504606846976) (h : zBg zBC w a (zBw zBx k xs)) :
    Calls Tryz.prog 48 #[sL a xs.length cap, nI k] w fun e' w' => e' = .returned (nI (k + zA1 zBx xs)) ∧ w' = w := by
 rw [zH5] at hm ⊢;rw [zEQ] at h;exact held_any a cap k xs.length w h0 (by omega) (by omega) (zCw h)
section
variable {α β : Type}
theorem zF7 {e : TypeId} {R : Rep α} {w0 w : World} {n : Nat} {xs : List α} (h : Fill e R w0 w n xs) : Bl w0 w := by
 obtain ⟨_, _, _, _, a, _⟩ := h;exact a
theorem zD9 {e : TypeId} {R : Rep α} {w : World} {S : zAW} {v : Value} {xs : List α} (h : (slR e R).own w S [v] xs) : (v = sL none 0 0 ∧ xs = []) ∨ ∃ g a, v = sL (some ⟨g, 0, none⟩) xs.length a ∧ S g := by
 obtain ⟨v', c, S', b, f, i, hs, hl⟩ := h;simp only [List.cons.injEq, and_true] at b;subst b;rcases f.2 with ⟨rfl, j⟩ | ⟨g, a, d, rfl, rest⟩
 ·exact .inl ⟨rfl, List.eq_nil_of_length_eq_zero j⟩
 ·exact .inr ⟨g, a, rfl, (i g rfl).1⟩
theorem zBD {e : TypeId} {R : Rep α} {w : World} {S : zAW} {v : Value} {xs : List α} (h : (slR e R).own w S [v] xs) : ∃ a c, v = sL a xs.length c := by
 rcases zD9 h with ⟨rfl, rfl⟩ | ⟨g, b, rfl, _⟩
 ·exact ⟨none, 0, rfl⟩
 ·exact ⟨_, _, rfl⟩
end
end Go.Proofs.YtmdhblhdfcocjaaGreatDoor
