import Derived.Test.YtcocbafhcpdheaaGreatDoorT00Box
import Derived.Test.YtcocbafhcpdheaaGreatDoorT01
import Derived.Deep.OwnRows
import Derived.LoopN
namespace Go.Proofs.YtcocbafhcpdheaaGreatDoor
set_option maxHeartbeats 1000000
open Go.ChangeShapes Go.WideShapes Go.ChangeAt Go.RowKit
def zA8 (a b c : Int) : Bool := decide (b ≤ a ∧ a ≤ c)
theorem zAx {k : IntKind} {a b : Int} (h : a = b) : Ending.returned (.int k a) = .returned (.int k b) := by rw [h]
theorem zAl {a b : Bool} (h : a = b) : Ending.returned (.bool a) = .returned (.bool b) := by rw [h]
theorem zAo (a b c : Int) (w : World) :
    Calls Tryz.prog 98 #[.int .i64 a, .int .i64 b, .int .i64 c] w fun e w' => e = .returned (.bool (zA8 a b c)) ∧ w' = w := by
 by_cases f : b ≤ a
 ·by_cases d : a ≤ c
  all_goals
   go_enter Tryz.func98, Tryz.ntmps98;go_wp2;go_ret
   exact ⟨by simp [zA8, f, d], rfl⟩
 ·go_enter Tryz.func98, Tryz.ntmps98;go_wp2;go_ret
  exact ⟨by simp only [zA8]; congr 2; simp; omega, rfl⟩
theorem zAw (a b c : Int) (w : World) :
    Calls Tryz.prog 76 #[.int .i64 a, .int .i64 b, .int .i64 c] w fun e w' => e = .returned (.bool (zA8 a b c)) ∧ w' = w := by
 by_cases f : b ≤ a
 ·by_cases d : a ≤ c
  all_goals
   go_enter Tryz.func76, Tryz.ntmps76;go_wp2;go_ret
   exact ⟨by simp [zA8, f, d], rfl⟩
 ·go_enter Tryz.func76, Tryz.ntmps76;go_wp2;go_ret
  exact ⟨by simp only [zA8]; congr 2; simp; omega, rfl⟩
theorem zAa {w w1 w2 : World} (h : Below w.heap.size w w1) (h2 : Below w1.heap.size w1 w2) : Below w.heap.size w w2 := h.trans (h2.mono h.size)
theorem Tryz.infoI : (Tryz.prog.info? 2).map (fun i => (i.zero, i.size, i.bytes)) = some (some (.int .i64 0), 1, 8) := by kernel_rfl
def zJS (B : Nat) (w : World) (g cap : Nat) (zs : List Int) : Prop :=
 w.ownsRow B 2 1 (.slice (some ⟨g, 0, none⟩) zs.length cap) zs.length (zs.map (Value.int .i64))
def zIJ (w w' : World) (v : Value) (zs : List Int) : Prop :=
 ∃ g cap, v = .slice (some ⟨g, 0, none⟩) zs.length cap ∧ w.heap.size ≤ g ∧ g < w'.heap.size ∧ zJS w.heap.size w' g cap zs ∧ Below w.heap.size w w'
theorem zGt {w w' : World} {a : Option Addr} {xs : List Int} (h : zDr w a xs) (hb : Below w.heap.size w w') : zDr w' a xs := by
 rcases h with h | ⟨b, c, f, d⟩
 ·exact .inl h
 ·exact .inr ⟨b, c, f, fun j hj => (hb.cell (World.block_lt_of_cell? w ⟨b, c + j, none⟩ (d j hj))).trans (d j hj)⟩
theorem zLO {B g cap D : Nat} {w w' : World} {zs : List Int} (h : zJS B w g cap zs) (hb : Below D w w') (hg : g < D) : zJS B w' g cap zs := zGs h hb hg
theorem zNf {B g cap : Nat} {w : World} {zs : List Int} (h : zJS B w g cap zs) : B ≤ g ∧ g < w.heap.size := h.lt g rfl
theorem owni_lit (w : World) (cs : Array Value) (zs : List Int) (h : cs.toList = zs.map (Value.int .i64)) (hm : zs.length ≤ maxLen) : zJS w.heap.size (w.alloc (.cells cs 2)) w.heap.size zs.length zs := by
 have a : cs.size = zs.length := by rw [← Array.length_toList, h]; simp
 have := World.ownsRow_lit (base := w.heap.size) (e := 2) (size := 1) w cs zs.length (Nat.le_refl _) hm (by simpa using a);rw [h] at this;exact this
theorem zLb (w : World) (cs : Array Value) (zs : List Int) (h : cs.toList = zs.map (Value.int .i64)) (hm : zs.length ≤ maxLen) : zIJ w (w.alloc (.cells cs 2)) (.slice (some ⟨w.heap.size, 0, none⟩) zs.length zs.length) zs :=
 ⟨_, _, rfl, Nat.le_refl _, by simp, owni_lit w cs zs h hm, (Below.refl _ _).alloc (Nat.le_refl _) _⟩
theorem zIK {w w1 w2 : World} {v : Value} {zs : List Int} (h : Below w.heap.size w w1) (h2 : zIJ w1 w2 v zs) : zIJ w w2 v zs := by
 obtain ⟨g, d, rfl, j, m, f, l⟩ := h2;refine ⟨g, d, rfl, Nat.le_trans h.size j, m, ?_, zAa h l⟩;refine ⟨f.1, ?_⟩;rcases f.2 with c | ⟨k, a, b, c, i, rest⟩
 ·exact .inl c
 ·exact .inr ⟨k, a, b, c, Nat.le_trans h.size i, rest⟩
theorem zNg (j : Nat) (xs : List Int) (ys : List Value) (h : j < xs.length) (h2 : j < ys.length) :
    ((xs.take j).map (Value.int .i64) ++ ys.drop j).set j (.int .i64 xs[j]) = (xs.take (j + 1)).map (Value.int .i64) ++ ys.drop (j + 1) := by
 have a : ((xs.take j).map (Value.int .i64)).length = j := by simp; omega
 rw [List.set_append_right _ _ (by omega), a, Nat.sub_self, List.drop_eq_getElem_cons h2, List.take_add_one, List.getElem?_eq_getElem h];simp only [List.set_cons_zero, List.map_append, List.map_cons, List.map_nil, List.append_assoc, List.cons_append, List.nil_append, Option.toList_some]
theorem zLP (a : Option Addr) (xs : List Int) (cap : Nat) (w : World) (h : zDr w a xs) (hm : xs.length ≤ 1048576) :
    Calls Tryz.prog 112 #[.slice a xs.length cap] w fun e w' => ∃ v, e = .returned v ∧ zIJ w w' v xs := by
 obtain ⟨i0, hi, y, B, r⟩ := info_parts Tryz.infoI;have z := Go.run_make_row' (P := Tryz.prog) 37 2 (.int .i64 0) 8 Tryz.underlying37 Tryz.infoI rfl .i64 .i64 xs.length (by omega) (by omega);go_enter Tryz.func112, Tryz.ntmps112;go_wp2;go_loopw [4] (fun i wr => ∃ k : Nat, k ≤ xs.length ∧ i = .int .i64 k ∧ wr.ownsRow w.heap.size 2 1 (.slice (some ⟨w.heap.size, 0, none⟩) xs.length xs.length) xs.length ((xs.take k).map (Value.int .i64) ++ (madeCells #[.int .i64 0] xs.length).toList.drop k) ∧ Below w.heap.size w wr)
  (fun i _ => xs.length - (intOf i).toNat)
 case atStart => exact ⟨0, Nat.zero_le _, rfl, by simpa using World.ownsRow_lit (base := w.heap.size) (e := 2) (size := 1) w (madeCells #[.int .i64 0] xs.length) xs.length (Nat.le_refl _) (by unfold maxLen; omega) (by simp [size_madeCells]), (Below.refl _ _).alloc (Nat.le_refl _) _⟩
 case round =>
  obtain ⟨k, hk, rfl, d, f⟩ := hrel;by_cases c : k < xs.length
  ·rcases h with rfl | ⟨b, l, rfl, n⟩
   ·simp at c
   have o : (k : Int) < (xs.length : Int) := by omega
   have q := n k c;have g1 := (f.cell (World.block_lt_of_cell? w ⟨b, l + k, none⟩ q)).trans q;have s := d.frozenAt k;obtain ⟨p, A⟩ : ∃ p, wr.cell? ⟨w.heap.size, k, none⟩ = some p := by
    rw [d.cellAt k (by omega)];exact ⟨_, List.getElem?_eq_getElem (by have := d.1; omega)⟩
   have R := d.stored k (.int .i64 xs[k]);rw [zNg k xs _ c (by simp [size_madeCells]; omega)] at R;have m : Hid _ := R;clear R n;go_wp2;go_roundw
   case rel => exact ⟨k + 1, by omega, by go_num, m.out.1, f.grown m.out.2 f.size (by intro j C; cases C; exact Nat.le_refl _)⟩
   case measure => simp [intOf]; omega
  ·have g : k = xs.length := by omega
   subst g;go_wp2;go_ret
   refine ⟨_, rfl, w.heap.size, xs.length, rfl, Nat.le_refl _, (d.lt _ rfl).2, ?_, f⟩;rw [List.take_length, List.drop_of_length_le (by simp [size_madeCells]), List.append_nil] at d;exact d
theorem zHN {w w1 : World} {v' : Value} {o : Obj} {xs : List Int} (h : w1.ownsRow w.heap.size 2 1 v' xs.length (xs.map (Value.int .i64)))
    (hg : (w.alloc o).grownBy w1 (Value.slice (some ⟨w.heap.size, 0, none⟩) 0 0).ownBlock) (hv : v' ≠ .slice none 0 0) : zIJ w w1 v' xs := by
 rcases h.2 with ⟨rfl, _⟩ | ⟨g, a, d, rfl, b, f, rest⟩
 ·exact absurd rfl hv
 refine ⟨g, a, rfl, b, (ltH f), h, ((Below.refl _ _).alloc (Nat.le_refl _) _).grown hg (by simp) ?_⟩;intro k c;simp [Value.ownBlock] at c
 omega
theorem zLQ (a : Addr) (xs : List Int) (cap : Nat) (w : World) (h : zDr w (some a) xs) (hm : xs.length ≤ 1048576) :
    Calls Tryz.prog 100 #[.slice (some a) xs.length cap] w fun e w' => ∃ v, e = .returned v ∧ zIJ w w' v xs := by
 obtain ⟨A, s, m, n, l⟩ := info_parts Tryz.infoI;have i : (w.alloc (.cells #[] 2)).ownsRow w.heap.size 2 1 (.slice (some ⟨w.heap.size, 0, none⟩) 0 0) 0 [] := World.ownsRow_lit _ #[] 0 (Nat.le_refl _) (Nat.zero_le _) rfl;go_enter Tryz.func100, Tryz.ntmps100;go_wp2_with (at_builtin; refine wpList_append_own _ rfl _ _ 37 rfl w.heap.size 2 A (.int .i64 0) 1 8 Tryz.underlying37 s m n l rfl (by decide) _ _ _ rfl i a xs.length cap (xs.map (Value.int .i64)) rfl (by simp) ?c1 ?c2 ?c3 ?c4 ?c5 ?_)
 case c1 =>
  intro j u D;obtain ⟨f, rfl⟩ := List.getElem?_eq_some_iff.1 D;simp at f
  rcases h with rfl | ⟨b, k, p, y⟩
  ·simp at f
  simp only [Option.some.injEq] at p;subst p;have r := y j f;rw [show (⟨b, k, none⟩ : Addr).add j = ⟨b, k + j, none⟩ from by simp [Addr.add], World.cell?_alloc_past _ _ _ (World.block_lt_of_cell? w _ r), r];simp [List.getD_eq_getElem?_getD, f]
 case c2 => intro u o; simp at o; obtain ⟨x, _, rfl⟩ := o; rfl
 case c3 => unfold maxLen; omega
 case c4 => omega
 case c5 => simp
 ·intro q B d c g;have z : q ≠ .slice none 0 0 := g;have C : Hid (zIJ w B q xs) := zHN d c z;clear d c g i;go_wp2;go_ret
  exact ⟨_, rfl, C.out⟩
set_option linter.unusedVariables false
section
variable {α β : Type}
structure Mk (α : Type) where
 cE : α → Nat
 mE : Int → α → α
 cV : α → Nat
 mV : Int → α → α
 bk : α → Nat
def zBa : Mk Int := ⟨fun _ => 1, fun k _ => k, fun _ => 0, fun _ x => x, fun _ => 0⟩
def zED : Mk Bool := ⟨fun _ => 1, fun k _ => k % 3 == 0, fun _ => 0, fun _ b => b, fun _ => 0⟩
def zBm (M : Mk α) (N : Mk β) : Mk (α × β) :=
 ⟨fun a => M.cE a.1 + N.cE a.2, fun k a => (M.mE k a.1, N.mE (k + M.cE a.1) a.2), fun a => M.cV a.1 + N.cV a.2, fun k a => (M.mV k a.1, N.mV (k + M.cV a.1) a.2), fun a => M.bk a.1 + N.bk a.2⟩
def zA6 (M : Mk α) (xs : List α) : Nat := (xs.map M.bk).sum
def zAt (M : Mk α) (xs : List α) : Nat := (xs.map M.cE).sum
def zAT (M : Mk α) : Int → List α → List α
 | _, [] => []
 | k, x :: xs => M.mE k x :: zAT M (k + M.cE x) xs
def slM (M : Mk α) : Mk (List α) := ⟨zAt M, zAT M, zAt M, zAT M, fun xs => xs.length + zA6 M xs⟩
theorem zDE (M : Mk α) : ∀ (k : Int) (xs : List α), (zAT M k xs).length = xs.length
 | _, [] => rfl
 | k, x :: xs => by simp [zAT, zDE M _ xs]
theorem zCf {M : Mk α} {xs : List α} {j : Nat} {x : α} (h : xs[j]? = some x) : zAt M (xs.take (j + 1)) = zAt M (xs.take j) + M.cE x := by
 simp [zAt, List.take_add_one, h]
theorem zLR (M : Mk α) (xs : List α) (j : Nat) : zAt M (xs.take j) ≤ zAt M xs := by
 have : zAt M xs = zAt M (xs.take j) + zAt M (xs.drop j) := by
  conv => lhs; rw [← List.take_append_drop j xs]
  unfold zAt;rw [List.map_append, List.sum_append]
 omega
theorem zCE {M : Mk α} {xs : List α} {j : Nat} {x : α} (h : xs[j]? = some x) : zAt M (xs.take j) + M.cE x ≤ zAt M xs := by
 have h1 := zCf (M := M) h;have h2 := zLR M xs (j + 1);omega
theorem zIL {M : Mk α} : ∀ {xs : List α} {k : Int} {j : Nat} {x : α}, xs[j]? = some x → (zAT M k xs)[j]? = some (M.mE (k + zAt M (xs.take j)) x)
 | [], k, j, x, h => by simp at h
 | y :: ys, k, 0, x, h => by
  simp at h
  subst h;simp [zAT, zAt]
 | y :: ys, k, j + 1, x, h => by
  simp at h
  have := zIL (M := M) (k := k + M.cE y) h;simp only [zAT, List.getElem?_cons_succ, this, List.take_succ_cons, zAt, List.map_cons, List.sum_cons];congr 2
  omega
theorem zCu {M : Mk α} {xs : List α} {j : Nat} {x : α} (h : xs[j]? = some x) : zA6 M (xs.take (j + 1)) = zA6 M (xs.take j) + M.bk x := by
 simp [zA6, List.take_add_one, h]
theorem zLS (M : Mk α) (xs : List α) (j : Nat) : zA6 M (xs.take j) ≤ zA6 M xs := by
 have : zA6 M xs = zA6 M (xs.take j) + zA6 M (xs.drop j) := by
  conv => lhs; rw [← List.take_append_drop j xs]
  unfold zA6;rw [List.map_append, List.sum_append]
 omega
theorem zCm {M : Mk α} {xs : List α} {j : Nat} {x : α} (h : xs[j]? = some x) : zA6 M (xs.take j) + M.bk x ≤ zA6 M xs := by
 have h1 := zCu (M := M) h;have h2 := zLS M xs (j + 1);omega
def Bd (M : Mk α) (K : Nat) : Prop := ∀ x, M.cE x ≤ K * (1 + M.bk x)
theorem zBl : Bd zBa 1 := fun _ => by simp [zBa]
theorem zNh : Bd zED 1 := fun _ => by simp [zED]
theorem zAV {M : Mk α} {N : Mk β} {K L : Nat} (h : Bd M K) (k : Bd N L) : Bd (zBm M N) (K + L) := fun x => by
 have h1 := h x.1;have h2 := k x.2;show M.cE x.1 + N.cE x.2 ≤ (K + L) * (1 + (M.bk x.1 + N.bk x.2))
 have e1 : K * (1 + M.bk x.1) ≤ K * (1 + (M.bk x.1 + N.bk x.2)) := Nat.mul_le_mul_left _ (by omega);have e2 : L * (1 + N.bk x.2) ≤ L * (1 + (M.bk x.1 + N.bk x.2)) := Nat.mul_le_mul_left _ (by omega);rw [Nat.add_mul];omega
theorem zLc {M : Mk α} {K : Nat} (h : Bd M K) (xs : List α) : zAt M xs ≤ K * (slM M).bk xs := by
 induction xs with
 | nil => exact Nat.zero_le _
 | cons x xs ih =>
  have h1 := h x;have e : (slM M).bk (x :: xs) = (1 + M.bk x) + (slM M).bk xs := by
   simp [slM, zA6]
   omega
  rw [e, Nat.mul_add];simp only [zAt, List.map_cons, List.sum_cons] at ih ⊢;omega
theorem zFV {M : Mk α} {K : Nat} (h : Bd M K) : Bd (slM M) K := fun xs => by
 have b := zLc h xs;have a : K * (slM M).bk xs ≤ K * (1 + (slM M).bk xs) := Nat.mul_le_mul_left _ (by omega);exact Nat.le_trans b a
def zCP (M : Mk α) (k : Int) (xs : List α) (j : Nat) : List α := (zAT M k xs).take j ++ xs.drop j
theorem zCv (M : Mk α) (k : Int) (xs : List α) : zCP M k xs 0 = xs := by simp [zCP]
theorem zCF (M : Mk α) (k : Int) (xs : List α) : zCP M k xs xs.length = zAT M k xs := by
 simp [zCP, List.take_of_length_le (Nat.le_of_eq (zDE M k xs))]
theorem zCW {M : Mk α} {k : Int} {xs : List α} {j : Nat} {x : α} (h : xs[j]? = some x) : (zCP M k xs j)[j]? = some x := by
 have hj := (List.getElem?_eq_some_iff.1 h).1;have a : ((zAT M k xs).take j).length = j := by simp [zDE]; omega
 rw [zCP, List.getElem?_append_right (by omega), a, Nat.sub_self, List.getElem?_drop];exact h
theorem zCw {M : Mk α} {k : Int} {xs : List α} {j : Nat} {x : α} (h : xs[j]? = some x) : (zCP M k xs j).set j (M.mE (k + zAt M (xs.take j)) x) = zCP M k xs (j + 1) := by
 have c := (List.getElem?_eq_some_iff.1 h).1;have b : ((zAT M k xs).take j).length = j := by simp [zDE]; omega
 have a := zIL (M := M) (k := k) h;rw [zCP, zCP, List.set_append_right _ _ (by omega), b, Nat.sub_self, List.drop_eq_getElem_cons c, List.set_cons_zero, List.take_add_one, a];simp
abbrev zA0 : Rep (List Int) := slR 2 zAG
abbrev zAs : Mk (List Int) := slM zBa
theorem zDN {w : World} : ∀ {rows : List Value} {xs : List Int}, lrd zAG w rows xs ↔ rows = xs.map (Value.int .i64) ∧ ∀ x ∈ xs, zAN x
 | rows, [] => by simp [lrd]
 | rows, x :: xs => by
  constructor
  ·rintro ⟨c1, c2, rfl, ⟨rfl, b⟩, c⟩;obtain ⟨rfl, a⟩ := zDN.1 c;exact ⟨rfl, by simpa using ⟨b, a⟩⟩
  ·rintro ⟨rfl, h⟩;simp at h
   exact ⟨[.int .i64 x], xs.map (Value.int .i64), rfl, ⟨rfl, h.1⟩, zDN.2 ⟨rfl, h.2⟩⟩
theorem zGu {w : World} {S : zBo} : ∀ {rows : List Value} {xs : List Int}, lrd zAG w rows xs → zIB zAG w S rows xs
 | rows, [], h => h
 | rows, x :: xs, ⟨c1, c2, e, h1, h2⟩ => ⟨c1, c2, fun _ => False, S, e, h1, zGu h2, fun _ h => h.elim, Sub.refl _, fun _ h _ => h⟩
theorem zBv {w : World} {a : Option Addr} {xs : List Int} (h : zA4 zAG w a xs) : zDr w a xs := by
 rcases h with h | ⟨b, c, d, rfl, f, g⟩
 ·exact .inl h
 ·obtain ⟨rfl, _⟩ := zDN.1 f;refine .inr ⟨b, c, rfl, fun j hj => g j _ ?_⟩;simp [List.getD_eq_getElem?_getD, List.getElem?_eq_getElem hj]
theorem zHO {w : World} {a : Option Addr} {xs : List Int} (h : zA4 zAG w a xs) : ∀ x ∈ xs, zAN x := by
 rcases h with rfl | ⟨b, f, c, rfl, d, h2⟩
 ·simp
 ·exact (zDN.1 d).2
theorem zDF {w w' : World} {v : Value} {zs : List Int} (h : zIJ w w' v zs) (h64 : ∀ x ∈ zs, zAN x) : zAI zA0 w w' [v] zs := by
 obtain ⟨g, c, rfl, b, d, a, f⟩ := h;refine ⟨⟨_, zs.map (Value.int .i64), fun _ => False, rfl, zKW a (fun _ _ => Nat.zero_le _), fun g' hg => ?_, fun _ h => h.elim, zGu (zDN.2 ⟨rfl, h64⟩)⟩, f⟩;simp [Value.ownBlock] at hg
 subst hg;exact ⟨⟨b, d⟩, fun h => h⟩
theorem owni_of {S : zBo} {w : World} {v : Value} {zs : List Int} (h : zA0.own w S [v] zs) : (v = .slice none 0 0 ∧ zs = []) ∨ ∃ g a, v = .slice (some ⟨g, 0, none⟩) zs.length a ∧ S g ∧ zJS 0 w g a zs := by
 obtain ⟨v', d, S', c, b, f, hs, k⟩ := h;simp only [List.cons.injEq, and_true] at c;subst c;obtain ⟨rfl, _⟩ := zDN.1 (zHK k);rcases b.2 with ⟨rfl, i⟩ | ⟨g, a, j, rfl, rest⟩
 ·exact .inl ⟨rfl, List.eq_nil_of_length_eq_zero i⟩
 ·exact .inr ⟨g, a, rfl, (f g rfl).1, b⟩
theorem own_of {S : zBo} {B : Nat} {w : World} {g cap : Nat} {zs : List Int} (h : zJS B w g cap zs) (hS : S g) (h64 : ∀ x ∈ zs, zAN x) : zA0.own w S [.slice (some ⟨g, 0, none⟩) zs.length cap] zs := by
 refine ⟨_, zs.map (Value.int .i64), fun _ => False, rfl, zKW h (fun _ _ => Nat.zero_le _), fun g' hg => ?_, fun _ h => h.elim, zGu (zDN.2 ⟨rfl, h64⟩)⟩;simp [Value.ownBlock] at hg
 subst hg;exact ⟨hS, fun h => h⟩
theorem zH0 (xs : List Int) : zAt zBa xs = xs.length := by
 induction xs with
 | nil => rfl
 | cons x xs ih =>
  simp only [zAt, List.map_cons, List.sum_cons, List.length_cons] at ih ⊢;rw [ih];simp [zBa]
  omega
theorem zEM : ∀ (k : Int) (xs : List Int), zAT zBa k xs = zHI k xs.length
 | k, [] => rfl
 | k, x :: xs => by
  rw [zAT, zEM];simp only [zHI, List.length_cons, List.range_succ_eq_map, List.map_cons, List.map_map, zBa];congr 1
  ·simp
  ·apply List.map_congr_left
   intro a _;simp
   omega
end
def szI (n : Nat) (left : Int) : Int := if (n : Int) ≤ left then left - n else -1
theorem zAF {n : Nat} {left : Int} (h : (n : Int) ≤ left) : szI n left = left - n := by unfold szI; rw [if_pos h]
theorem zAE {n : Nat} {left : Int} (h : ¬ (n : Int) ≤ left) : szI n left = -1 := by unfold szI; rw [if_neg h]
theorem zBg (a : Option Addr) (xs : List Int) (cap : Nat) (left : Int) (w : World) (h0 : 0 ≤ left) (h1 : left ≤ 1048576) (hm : xs.length ≤ maxLen) :
    Calls Tryz.prog 106 #[.slice a xs.length cap, .int .i64 left] w fun e w' => e = .returned (.int .i64 (szI (zAs.bk xs) left)) ∧ w' = w := by
 have d : zAs.bk xs = xs.length := by
  show xs.length + zA6 zBa xs = xs.length
  have : zA6 zBa xs = 0 := by
   induction xs with
   | nil => rfl
   | cons x xs ih => simp only [zA6, List.map_cons, List.sum_cons] at ih ⊢; rw [ih (by simp at hm; omega)]; rfl
  omega
 rw [d];have b : xs.length ≤ 9223372036854775807 := hm;clear hm d;generalize xs.length = n at b;by_cases f : (n : Int) ≤ left
 ·have c : ¬ (left - (n : Int) < 0) := by omega
  rw [zAF f];go_enter Tryz.func106, Tryz.ntmps106;go_wp2;go_ret
  exact ⟨rfl, rfl⟩
 ·have c : left - (n : Int) < 0 := by omega
  rw [zAE f];go_enter Tryz.func106, Tryz.ntmps106;go_wp2;go_ret
  exact ⟨rfl, rfl⟩
theorem zCn (a : Option Addr) (xs : List Int) (cap : Nat) (w : World) (h : zA4 zAG w a xs) (hm : zAs.bk xs ≤ 1048576) :
    Calls Tryz.prog 112 #[.slice a xs.length cap] w fun e w' => ∃ v, e = .returned v ∧ zAI zA0 w w' [v] xs :=
 (zLP a xs cap w (zBv h) (by have : zAs.bk xs = xs.length + zA6 zBa xs := rfl; omega)).mono fun e w' ⟨v, h1, h2⟩ => ⟨v, h1, zDF h2 (zHO h)⟩
theorem zCo (a1 a2 : Option Addr) (xs : List Int) (c1 c2 : Nat) (w : World) (h1 : zA4 zAG w a1 xs) (h2 : zA4 zAG w a2 xs) (hm : zAs.bk xs ≤ 1152921504606846976) :
    Calls Tryz.prog 11 #[.slice a1 xs.length c1, .slice a2 xs.length c2] w fun e w' => e = .returned (.bool true) ∧ ∃ n, w' = w.drewN n :=
 zLM a1 a2 xs c1 c2 w (zBv h1) (zBv h2) (by have : zAs.bk xs = xs.length + zA6 zBa xs := rfl; omega)
theorem zHd (k : Int) (w : World) :
    Calls Tryz.prog 14 #[.slice none 0 0, .int .i64 k] w fun e' w' => e' = .returned (.int .i64 k) ∧ w' = w := by
 go_enter Tryz.func14, Tryz.ntmps14;go_wp2;refine wp_loop_rounds 1 ?_;rw [rounds_succ];go_wp2;go_ret
 exact ⟨rfl, rfl⟩
theorem zNi {k : Int} {n : Nat} (h0 : 0 ≤ k) (h1 : k ≤ 1152921504606846976) (hm : n ≤ 1152921504606846976) : ∀ x ∈ zHI k n, zAN x := by
 intro x a;simp only [zHI, List.mem_map, List.mem_range] at a;obtain ⟨j, hj, rfl⟩ := a;constructor <;> omega
theorem zBJ (S : zBo) (v : Value) (k : Int) (xs : List Int) (w : World) (h0 : 0 ≤ k) (h1 : k ≤ 1152921504606846976) (hm : zAt zBa xs ≤ 1152921504606846976) (h : zA0.own w S [v] xs) :
    Calls Tryz.prog 14 #[v, .int .i64 k] w fun e' w' => e' = .returned (.int .i64 (k + zAt zBa xs)) ∧ zA0.own w' S [v] (zAT zBa k xs) ∧ Chg S w w' := by
 rw [zH0] at hm ⊢;rw [zEM];rcases owni_of h with ⟨rfl, rfl⟩ | ⟨g, cap, rfl, a, b⟩
 ·exact (zHd k w).mono fun e w' ⟨e1, e2⟩ => ⟨by simpa using e1, by rw [e2]; exact h, by rw [e2]; exact Chg.refl _ _⟩
 ·refine (mark_any 0 _ g cap k xs.length _ w h0 (by omega) (by omega) b).mono fun e w' ⟨e1, e2, e3⟩ => ⟨e1, ?_, zDs e3 a⟩;have := own_of (S := S) (B := 0) (w := w') (g := g) (cap := cap) (zs := zHI k xs.length) (by unfold zJS; rw [zFk]; exact e2) a (zNi h0 h1 hm);rwa [zFk] at this
theorem zHe (a : Option Addr) (cap : Nat) (k : Int) (xs : List Int) (w : World) (h0 : 0 ≤ k) (h1 : k ≤ 1152921504606846976) (hm : zAt zBa xs ≤ 1152921504606846976) (h : zA4 zAG w a (zAT zBa k xs)) :
    Calls Tryz.prog 15 #[.slice a xs.length cap, .int .i64 k] w fun e' w' => e' = .returned (.int .i64 (k + zAt zBa xs)) ∧ w' = w := by
 rw [zH0] at hm ⊢;rw [zEM] at h;exact held_any a cap k xs.length w h0 (by omega) (by omega) (zBv h)
section
variable {α β : Type}
theorem zCx {e : TypeId} {R : Rep α} {w0 w : World} {n : Nat} {xs : List α} (h : zLa e R w0 w n xs) : Below w0.heap.size w0 w := by
 obtain ⟨_, _, _, _, a, _⟩ := h;exact a
theorem zCg {e : TypeId} {R : Rep α} {w : World} {S : zBo} {v : Value} {xs : List α} (h : (slR e R).own w S [v] xs) : (v = .slice none 0 0 ∧ xs = []) ∨ ∃ g a, v = .slice (some ⟨g, 0, none⟩) xs.length a ∧ S g := by
 obtain ⟨v', c, S', b, i, d, hs, hl⟩ := h;simp only [List.cons.injEq, and_true] at b;subst b;rcases i.2 with ⟨rfl, f⟩ | ⟨g, a, j, rfl, rest⟩
 ·exact .inl ⟨rfl, List.eq_nil_of_length_eq_zero f⟩
 ·exact .inr ⟨g, a, rfl, (d g rfl).1⟩
theorem zBx {e : TypeId} {R : Rep α} {w : World} {S : zBo} {v : Value} {xs : List α} (h : (slR e R).own w S [v] xs) : ∃ a c, v = .slice a xs.length c := by
 rcases zCg h with ⟨rfl, rfl⟩ | ⟨g, b, rfl, _⟩
 ·exact ⟨none, 0, rfl⟩
 ·exact ⟨_, _, rfl⟩
end
end Go.Proofs.YtcocbafhcpdheaaGreatDoor
