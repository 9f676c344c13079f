import Derived.Test.YtoihjejenjcokaaGreatDoorP00Box
import Derived.Test.YtoihjejenjcokaaGreatDoorRows
import Derived.WalkKit
import Derived.ProofKit
import Derived.OpenShut
import Derived.Below
import Derived.Test.YtoihjejenjcokaaGreatDoorP01Lists
import Derived.Deep.OwnRows
import Derived.LoopN
namespace Go.Proofs.YtoihjejenjcokaaGreatDoor
set_option maxHeartbeats 1000000
open Go.ChangeShapes Go.WideShapes Go.ChangeAt Go.RowKit
def zAQ (a b c : Int) : Bool := decide (b ≤ a ∧ a ≤ c)
theorem zAW {k : IntKind} {a b : Int} (h : a = b) : Ending.returned (.int k a) = .returned (.int k b) := by rw [h]
theorem zA2 {a b : Bool} (h : a = b) : Ending.returned (.bool a) = .returned (.bool b) := by rw [h]
theorem zBa (a b c : Int) (w : World) :
    Calls Tryz.prog 23 #[.int .i64 a, .int .i64 b, .int .i64 c] w fun e w' => e = .returned (.bool (zAQ a b c)) ∧ w' = w := by
 by_cases h1 : b ≤ a
 ·by_cases h2 : a ≤ c
  all_goals
   go_enter Tryz.func23, Tryz.ntmps23
   go_wp2
   go_ret
   exact ⟨by simp [zAQ, h1, h2], rfl⟩
 ·go_enter Tryz.func23, Tryz.ntmps23
  go_wp2
  go_ret
  exact ⟨by simp only [zAQ]; congr 2; simp; omega, rfl⟩
theorem zBe (a b c : Int) (w : World) :
    Calls Tryz.prog 68 #[.int .i64 a, .int .i64 b, .int .i64 c] w fun e w' => e = .returned (.bool (zAQ a b c)) ∧ w' = w := by
 by_cases h1 : b ≤ a
 ·by_cases h2 : a ≤ c
  all_goals
   go_enter Tryz.func68, Tryz.ntmps68
   go_wp2
   go_ret
   exact ⟨by simp [zAQ, h1, h2], rfl⟩
 ·go_enter Tryz.func68, Tryz.ntmps68
  go_wp2
  go_ret
  exact ⟨by simp only [zAQ]; congr 2; simp; omega, rfl⟩
theorem zAb {w w1 w2 : World} (h : Below w.heap.size w w1) (h2 : Below w1.heap.size w1 w2) : Below w.heap.size w w2 := h.trans (h2.mono h.size)
theorem Tryz.infoI : (Tryz.prog.info? 2).map (fun i => (i.zero, i.size, i.bytes)) = some (some (.int .i64 0), 1, 8) := by kernel_rfl
def OwnI (B : Nat) (w : World) (g cap : Nat) (zs : List Int) : Prop :=
 w.ownsRow B 2 1 (.slice (some ⟨g, 0, none⟩) zs.length cap) zs.length (zs.map (Value.int .i64))
def zM2 (w w' : World) (v : Value) (zs : List Int) : Prop :=
 ∃ g cap, v = .slice (some ⟨g, 0, none⟩) zs.length cap ∧ w.heap.size ≤ g ∧ g < w'.heap.size ∧ OwnI w.heap.size w' g cap zs ∧ Below w.heap.size w w'
theorem owni_lit (w : World) (cs : Array Value) (zs : List Int) (h : cs.toList = zs.map (Value.int .i64)) (hm : zs.length ≤ maxLen) : OwnI w.heap.size (w.alloc (.cells cs 2)) w.heap.size zs.length zs := by
 have hs : cs.size = zs.length := by rw [← Array.length_toList, h]; simp
 have := World.ownsRow_lit (base := w.heap.size) (e := 2) (size := 1) w cs zs.length (Nat.le_refl _) hm (by simpa using hs)
 rw [h] at this
 exact this
theorem zKQ (w : World) (cs : Array Value) (zs : List Int) (h : cs.toList = zs.map (Value.int .i64)) (hm : zs.length ≤ maxLen) : zM2 w (w.alloc (.cells cs 2)) (.slice (some ⟨w.heap.size, 0, none⟩) zs.length zs.length) zs :=
 ⟨_, _, rfl, Nat.le_refl _, by simp, owni_lit w cs zs h hm, (Below.refl _ _).alloc (Nat.le_refl _) _⟩
theorem zD6 {w w1 w2 : World} {v : Value} {zs : List Int} (h : Below w.heap.size w w1) (h2 : zM2 w1 w2 v zs) : zM2 w w2 v zs := by
 obtain ⟨g, cap, rfl, h3, h4, h5, h6⟩ := h2
 refine ⟨g, cap, rfl, Nat.le_trans h.size h3, h4, ?_, zAb h h6⟩
 refine ⟨h5.1, ?_⟩
 rcases h5.2 with h' | ⟨g', cap', cur, h', hb, rest⟩
 ·exact .inl h'
 ·exact .inr ⟨g', cap', cur, h', Nat.le_trans h.size hb, rest⟩
theorem zM3 (j : Nat) (xs : List Int) (ys : List Value) (h : j < xs.length) (h2 : j < ys.length) :
    ((xs.take j).map (Value.int .i64) ++ ys.drop j).set j (.int .i64 xs[j]) = (xs.take (j + 1)).map (Value.int .i64) ++ ys.drop (j + 1) := by
 have hl : ((xs.take j).map (Value.int .i64)).length = j := by simp; omega
 rw [List.set_append_right _ _ (by omega), hl, Nat.sub_self, List.drop_eq_getElem_cons h2, List.take_add_one, List.getElem?_eq_getElem h]
 simp only [List.set_cons_zero, List.map_append, List.map_cons, List.map_nil, List.append_assoc, List.cons_append, List.nil_append, Option.toList_some]
theorem zL0 (a : Option Addr) (xs : List Int) (cap : Nat) (w : World) (h : zDF w a xs) (hm : xs.length ≤ 1048576) :
    Calls Tryz.prog 29 #[.slice a xs.length cap] w fun e w' => ∃ v, e = .returned v ∧ zM2 w w' v xs := by
 obtain ⟨i0, hi, hz0, hz1, hz2⟩ := info_parts Tryz.infoI
 have hmk := Go.run_make_row' (P := Tryz.prog) 23 2 (.int .i64 0) 8 Tryz.underlying23 Tryz.infoI rfl .i64 .i64 xs.length (by omega) (by omega)
 go_enter Tryz.func29, Tryz.ntmps29
 go_wp2
 go_loopw [4] (fun i wr => ∃ k : Nat, k ≤ xs.length ∧ i = .int .i64 k ∧ wr.ownsRow w.heap.size 2 1 (.slice (some ⟨w.heap.size, 0, none⟩) xs.length xs.length) xs.length ((xs.take k).map (Value.int .i64) ++ (madeCells #[.int .i64 0] xs.length).toList.drop k) ∧ Below w.heap.size w wr)
  (fun i _ => xs.length - (intOf i).toNat)
 case atStart => exact ⟨0, Nat.zero_le _, rfl, by simpa using World.ownsRow_lit (base := w.heap.size) (e := 2) (size := 1) w (madeCells #[.int .i64 0] xs.length) xs.length (Nat.le_refl _) (by unfold maxLen; omega) (by simp [size_madeCells]), (Below.refl _ _).alloc (Nat.le_refl _) _⟩
 case round =>
  obtain ⟨k, hk, rfl, hr, hb⟩ := hrel
  by_cases hlt : k < xs.length
  ·rcases h with rfl | ⟨b, off, rfl, hc⟩
   ·simp at hlt
   have hlt' : (k : Int) < (xs.length : Int) := by omega
   have g0 := hc k hlt
   have g1 := (hb.cell (World.block_lt_of_cell? w ⟨b, off + k, none⟩ g0)).trans g0
   have hfz := hr.frozenAt k
   obtain ⟨v0, hv0⟩ : ∃ v0, wr.cell? ⟨w.heap.size, k, none⟩ = some v0 := by
    rw [hr.cellAt k (by omega)]
    exact ⟨_, List.getElem?_eq_getElem (by have := hr.1; omega)⟩
   have R := hr.stored k (.int .i64 xs[k])
   rw [zM3 k xs _ hlt (by simp [size_madeCells]; omega)] at R
   have HR : Hid _ := R
   clear R hc
   go_wp2
   go_roundw
   case rel => exact ⟨k + 1, by omega, by go_num, HR.out.1, hb.grown HR.out.2 hb.size (by intro j hj; cases hj; exact Nat.le_refl _)⟩
   case measure => simp [intOf]; omega
  ·have hkl : k = xs.length := by omega
   subst hkl
   go_wp2
   go_ret
   refine ⟨_, rfl, w.heap.size, xs.length, rfl, Nat.le_refl _, (hr.lt _ rfl).2, ?_, hb⟩
   rw [List.take_length, List.drop_of_length_le (by simp [size_madeCells]), List.append_nil] at hr
   exact hr
theorem zHR {w w1 : World} {v' : Value} {o : Obj} {xs : List Int} (h : w1.ownsRow w.heap.size 2 1 v' xs.length (xs.map (Value.int .i64)))
    (hg : (w.alloc o).grownBy w1 (Value.slice (some ⟨w.heap.size, 0, none⟩) 0 0).ownBlock) (hv : v' ≠ .slice none 0 0) : zM2 w w1 v' xs := by
 rcases h.2 with ⟨rfl, _⟩ | ⟨g, cap, cur, rfl, hb, hh, rest⟩
 ·exact absurd rfl hv
 refine ⟨g, cap, rfl, hb, (Array.getElem?_eq_some_iff.1 hh).1, h, ((Below.refl _ _).alloc (Nat.le_refl _) _).grown hg (by simp) ?_⟩
 intro k hk
 simp [Value.ownBlock] at hk
 omega
theorem zL1 (a : Addr) (xs : List Int) (cap : Nat) (w : World) (h : zDF w (some a) xs) (hm : xs.length ≤ 1048576) :
    Calls Tryz.prog 57 #[.slice (some a) xs.length cap] w fun e w' => ∃ v, e = .returned v ∧ zM2 w w' v xs := by
 obtain ⟨i0, hi, hz0, hz1, hz2⟩ := info_parts Tryz.infoI
 have hown : (w.alloc (.cells #[] 2)).ownsRow w.heap.size 2 1 (.slice (some ⟨w.heap.size, 0, none⟩) 0 0) 0 [] := World.ownsRow_lit _ #[] 0 (Nat.le_refl _) (Nat.zero_le _) rfl
 go_enter Tryz.func57, Tryz.ntmps57
 go_wp2_with (at_builtin; refine wpList_append_own _ rfl _ _ 23 rfl w.heap.size 2 i0 (.int .i64 0) 1 8 Tryz.underlying23 hi hz0 hz1 hz2 rfl (by decide) _ _ _ rfl hown a xs.length cap (xs.map (Value.int .i64)) rfl (by simp) ?c1 ?c2 ?c3 ?c4 ?c5 ?_)
 case c1 =>
  intro j u hj
  obtain ⟨hjl, rfl⟩ := List.getElem?_eq_some_iff.1 hj
  simp at hjl
  rcases h with rfl | ⟨b, off, ha, hc⟩
  ·simp at hjl
  simp only [Option.some.injEq] at ha
  subst ha
  have g0 := hc j hjl
  rw [show (⟨b, off, none⟩ : Addr).add j = ⟨b, off + j, none⟩ from by simp [Addr.add], World.cell?_alloc_past _ _ _ (World.block_lt_of_cell? w _ g0), g0]
  simp [List.getD_eq_getElem?_getD, hjl]
 case c2 => intro u hu; simp at hu; obtain ⟨x, _, rfl⟩ := hu; rfl
 case c3 => unfold maxLen; omega
 case c4 => omega
 case c5 => simp
 ·intro v' w1 hown' hgrow hnil
  have hv : v' ≠ .slice none 0 0 := hnil
  have HO : Hid (zM2 w w1 v' xs) := zHR hown' hgrow hv
  clear hown' hgrow hnil hown
  go_wp2
  go_ret
  exact ⟨_, rfl, HO.out⟩
set_option linter.unusedVariables false
section
variable {α β : Type}
structure Mk (α : Type) where
 cE : α → Nat
 mE : Int → α → α
 cV : α → Nat
 mV : Int → α → α
 bk : α → Nat
def zBx : Mk Int := ⟨fun _ => 1, fun k _ => k, fun _ => 0, fun _ x => x, fun _ => 0⟩
def zDH (M : Mk α) (N : Mk β) : Mk (α × β) :=
 ⟨fun a => M.cE a.1 + N.cE a.2, fun k a => (M.mE k a.1, N.mE (k + M.cE a.1) a.2), fun a => M.cV a.1 + N.cV a.2, fun k a => (M.mV k a.1, N.mV (k + M.cV a.1) a.2), fun a => M.bk a.1 + N.bk a.2⟩
def zBz (M : Mk α) (xs : List α) : Nat := (xs.map M.bk).sum
def zA1 (M : Mk α) (xs : List α) : Nat := (xs.map M.cE).sum
def zBw (M : Mk α) : Int → List α → List α
 | _, [] => []
 | k, x :: xs => M.mE k x :: zBw M (k + M.cE x) xs
def slM (M : Mk α) : Mk (List α) := ⟨zA1 M, zBw M, zA1 M, zBw M, fun xs => xs.length + zBz M xs⟩
theorem zBF (M : Mk α) : ∀ (k : Int) (xs : List α), (zBw M k xs).length = xs.length
 | _, [] => rfl
 | k, x :: xs => by simp [zBw, zBF M _ xs]
theorem zCv {M : Mk α} {xs : List α} {j : Nat} {x : α} (h : xs[j]? = some x) : zA1 M (xs.take (j + 1)) = zA1 M (xs.take j) + M.cE x := by
 simp [zA1, List.take_add_one, h]
theorem zL2 (M : Mk α) (xs : List α) (j : Nat) : zA1 M (xs.take j) ≤ zA1 M xs := by
 have : zA1 M xs = zA1 M (xs.take j) + zA1 M (xs.drop j) := by
  conv => lhs; rw [← List.take_append_drop j xs]
  unfold zA1
  rw [List.map_append, List.sum_append]
 omega
theorem zCT {M : Mk α} {xs : List α} {j : Nat} {x : α} (h : xs[j]? = some x) : zA1 M (xs.take j) + M.cE x ≤ zA1 M xs := by
 have h1 := zCv (M := M) h
 have h2 := zL2 M xs (j + 1)
 omega
theorem zD7 {M : Mk α} : ∀ {xs : List α} {k : Int} {j : Nat} {x : α}, xs[j]? = some x → (zBw M k xs)[j]? = some (M.mE (k + zA1 M (xs.take j)) x)
 | [], k, j, x, h => by simp at h
 | y :: ys, k, 0, x, h => by
  simp at h
  subst h
  simp [zBw, zA1]
 | y :: ys, k, j + 1, x, h => by
  simp at h
  have := zD7 (M := M) (k := k + M.cE y) h
  simp only [zBw, List.getElem?_cons_succ, this, List.take_succ_cons, zA1, List.map_cons, List.sum_cons]
  congr 2
  omega
theorem zF6 {M : Mk α} {xs : List α} {j : Nat} {x : α} (h : xs[j]? = some x) : zBz M (xs.take (j + 1)) = zBz M (xs.take j) + M.bk x := by
 simp [zBz, List.take_add_one, h]
theorem zL3 (M : Mk α) (xs : List α) (j : Nat) : zBz M (xs.take j) ≤ zBz M xs := by
 have : zBz M xs = zBz M (xs.take j) + zBz M (xs.drop j) := by
  conv => lhs; rw [← List.take_append_drop j xs]
  unfold zBz
  rw [List.map_append, List.sum_append]
 omega
theorem zGw {M : Mk α} {xs : List α} {j : Nat} {x : α} (h : xs[j]? = some x) : zBz M (xs.take j) + M.bk x ≤ zBz M xs := by
 have h1 := zF6 (M := M) h
 have h2 := zL3 M xs (j + 1)
 omega
def Bd (M : Mk α) (K : Nat) : Prop := ∀ x, M.cE x ≤ K * (1 + M.bk x)
theorem zDh : Bd zBx 1 := fun _ => by simp [zBx]
theorem zDi {M : Mk α} {N : Mk β} {K L : Nat} (h : Bd M K) (k : Bd N L) : Bd (zDH M N) (K + L) := fun x => by
 have h1 := h x.1
 have h2 := k x.2
 show M.cE x.1 + N.cE x.2 ≤ (K + L) * (1 + (M.bk x.1 + N.bk x.2))
 have e1 : K * (1 + M.bk x.1) ≤ K * (1 + (M.bk x.1 + N.bk x.2)) := Nat.mul_le_mul_left _ (by omega)
 have e2 : L * (1 + N.bk x.2) ≤ L * (1 + (M.bk x.1 + N.bk x.2)) := Nat.mul_le_mul_left _ (by omega)
 rw [Nat.add_mul]
 omega
theorem zKR {M : Mk α} {K : Nat} (h : Bd M K) (xs : List α) : zA1 M xs ≤ K * (slM M).bk xs := by
 induction xs with
 | nil => exact Nat.zero_le _
 | cons x xs ih =>
  have h1 := h x
  have e : (slM M).bk (x :: xs) = (1 + M.bk x) + (slM M).bk xs := by
   simp [slM, zBz]
   omega
  rw [e, Nat.mul_add]
  simp only [zA1, List.map_cons, List.sum_cons] at ih ⊢
  omega
theorem bd_sl {M : Mk α} {K : Nat} (h : Bd M K) : Bd (slM M) K := fun xs => by
 have h1 := zKR h xs
 have h2 : K * (slM M).bk xs ≤ K * (1 + (slM M).bk xs) := Nat.mul_le_mul_left _ (by omega)
 exact Nat.le_trans h1 h2
def zEh (M : Mk α) (k : Int) (xs : List α) (j : Nat) : List α := (zBw M k xs).take j ++ xs.drop j
theorem zE0 (M : Mk α) (k : Int) (xs : List α) : zEh M k xs 0 = xs := by simp [zEh]
theorem zFf (M : Mk α) (k : Int) (xs : List α) : zEh M k xs xs.length = zBw M k xs := by
 simp [zEh, List.take_of_length_le (Nat.le_of_eq (zBF M k xs))]
theorem zFg {M : Mk α} {k : Int} {xs : List α} {j : Nat} {x : α} (h : xs[j]? = some x) : (zEh M k xs j)[j]? = some x := by
 have hj := (List.getElem?_eq_some_iff.1 h).1
 have hl : ((zBw M k xs).take j).length = j := by simp [zBF]; omega
 rw [zEh, List.getElem?_append_right (by omega), hl, Nat.sub_self, List.getElem?_drop]
 exact h
theorem zE1 {M : Mk α} {k : Int} {xs : List α} {j : Nat} {x : α} (h : xs[j]? = some x) : (zEh M k xs j).set j (M.mE (k + zA1 M (xs.take j)) x) = zEh M k xs (j + 1) := by
 have hj := (List.getElem?_eq_some_iff.1 h).1
 have hl : ((zBw M k xs).take j).length = j := by simp [zBF]; omega
 have hm := zD7 (M := M) (k := k) h
 rw [zEh, zEh, List.set_append_right _ _ (by omega), hl, Nat.sub_self, List.drop_eq_getElem_cons hj, List.set_cons_zero, List.take_add_one, hm]
 simp
abbrev zA5 : Rep (List Int) := slR 2 zBC
abbrev zBn : Mk (List Int) := slM zBx
theorem zDI {w : World} : ∀ {rows : List Value} {xs : List Int}, lrd zBC w rows xs ↔ rows = xs.map (Value.int .i64) ∧ ∀ x ∈ xs, zBk x
 | rows, [] => by simp [lrd]
 | rows, x :: xs => by
  constructor
  ·rintro ⟨c1, c2, rfl, ⟨rfl, h1⟩, h2⟩
   obtain ⟨rfl, h3⟩ := zDI.1 h2
   exact ⟨rfl, by simpa using ⟨h1, h3⟩⟩
  ·rintro ⟨rfl, h⟩
   simp at h
   exact ⟨[.int .i64 x], xs.map (Value.int .i64), rfl, ⟨rfl, h.1⟩, zDI.2 ⟨rfl, h.2⟩⟩
theorem zGx {w : World} {S : zAX} : ∀ {rows : List Value} {xs : List Int}, lrd zBC w rows xs → zHi zBC w S rows xs
 | rows, [], h => h
 | rows, x :: xs, ⟨c1, c2, e, h1, h2⟩ => ⟨c1, c2, fun _ => False, S, e, h1, zGx h2, fun _ h => h.elim, Sub.refl _, fun _ h _ => h⟩
theorem zCw {w : World} {a : Option Addr} {xs : List Int} (h : zBh zBC w a xs) : zDF w a xs := by
 rcases h with h | ⟨b, off, rows, rfl, h1, h2⟩
 ·exact .inl h
 ·obtain ⟨rfl, _⟩ := zDI.1 h1
  refine .inr ⟨b, off, rfl, fun j hj => h2 j _ ?_⟩
  simp [List.getD_eq_getElem?_getD, List.getElem?_eq_getElem hj]
theorem zHS {w : World} {a : Option Addr} {xs : List Int} (h : zBh zBC w a xs) : ∀ x ∈ xs, zBk x := by
 rcases h with rfl | ⟨b, off, rows, rfl, h1, h2⟩
 ·simp
 ·exact (zDI.1 h1).2
theorem zD8 {w w' : World} {v : Value} {zs : List Int} (h : zM2 w w' v zs) (h64 : ∀ x ∈ zs, zBk x) : zAY zA5 w w' [v] zs := by
 obtain ⟨g, cap, rfl, h1, h2, h3, h4⟩ := h
 refine ⟨⟨_, zs.map (Value.int .i64), fun _ => False, rfl, zDr h3 (fun _ _ => Nat.zero_le _), fun g' hg => ?_, fun _ h => h.elim, zGx (zDI.2 ⟨rfl, h64⟩)⟩, h4⟩
 simp [Value.ownBlock] at hg
 subst hg
 exact ⟨⟨h1, h2⟩, fun h => h⟩
theorem owni_of {S : zAX} {w : World} {v : Value} {zs : List Int} (h : zA5.own w S [v] zs) : (v = .slice none 0 0 ∧ zs = []) ∨ ∃ g cap, v = .slice (some ⟨g, 0, none⟩) zs.length cap ∧ S g ∧ OwnI 0 w g cap zs := by
 obtain ⟨v', rows, S', hv, hr, hg, hs, hl⟩ := h
 simp only [List.cons.injEq, and_true] at hv
 subst hv
 obtain ⟨rfl, _⟩ := zDI.1 (zHP hl)
 rcases hr.2 with ⟨rfl, h0⟩ | ⟨g, cap, cur, rfl, rest⟩
 ·exact .inl ⟨rfl, List.eq_nil_of_length_eq_zero h0⟩
 ·exact .inr ⟨g, cap, rfl, (hg g rfl).1, hr⟩
theorem own_of {S : zAX} {B : Nat} {w : World} {g cap : Nat} {zs : List Int} (h : OwnI B w g cap zs) (hS : S g) (h64 : ∀ x ∈ zs, zBk x) : zA5.own w S [.slice (some ⟨g, 0, none⟩) zs.length cap] zs := by
 refine ⟨_, zs.map (Value.int .i64), fun _ => False, rfl, zDr h (fun _ _ => Nat.zero_le _), fun g' hg => ?_, fun _ h => h.elim, zGx (zDI.2 ⟨rfl, h64⟩)⟩
 simp [Value.ownBlock] at hg
 subst hg
 exact ⟨hS, fun h => h⟩
theorem zH5 (xs : List Int) : zA1 zBx xs = xs.length := by
 induction xs with
 | nil => rfl
 | cons x xs ih =>
  simp only [zA1, List.map_cons, List.sum_cons, List.length_cons] at ih ⊢
  rw [ih]
  simp [zBx]
  omega
theorem zEQ : ∀ (k : Int) (xs : List Int), zBw zBx k xs = zHN k xs.length
 | k, [] => rfl
 | k, x :: xs => by
  rw [zBw, zEQ]
  simp only [zHN, List.length_cons, List.range_succ_eq_map, List.map_cons, List.map_map, zBx]
  congr 1
  ·simp
  ·apply List.map_congr_left
   intro a _
   simp
   omega
end
def szI (n : Nat) (left : Int) : Int := if (n : Int) ≤ left then left - n else -1
theorem zC2 {n : Nat} {left : Int} (h : (n : Int) ≤ left) : szI n left = left - n := by unfold szI; rw [if_pos h]
theorem zCz {n : Nat} {left : Int} (h : ¬ (n : Int) ≤ left) : szI n left = -1 := by unfold szI; rw [if_neg h]
theorem zCC (a : Option Addr) (xs : List Int) (cap : Nat) (left : Int) (w : World) (h0 : 0 ≤ left) (h1 : left ≤ 1048576) (hm : xs.length ≤ maxLen) :
    Calls Tryz.prog 21 #[.slice a xs.length cap, .int .i64 left] w fun e w' => e = .returned (.int .i64 (szI (zBn.bk xs) left)) ∧ w' = w := by
 have hb : zBn.bk xs = xs.length := by
  show xs.length + zBz zBx xs = xs.length
  have : zBz zBx xs = 0 := by
   induction xs with
   | nil => rfl
   | cons x xs ih => simp only [zBz, List.map_cons, List.sum_cons] at ih ⊢; rw [ih (by simp at hm; omega)]; rfl
  omega
 rw [hb]
 have hm' : xs.length ≤ 9223372036854775807 := hm
 clear hm hb
 generalize xs.length = n at hm'
 by_cases hl : (n : Int) ≤ left
 ·have hl' : ¬ (left - (n : Int) < 0) := by omega
  rw [zC2 hl]
  go_enter Tryz.func21, Tryz.ntmps21
  go_wp2
  go_ret
  exact ⟨rfl, rfl⟩
 ·have hl' : left - (n : Int) < 0 := by omega
  rw [zCz hl]
  go_enter Tryz.func21, Tryz.ntmps21
  go_wp2
  go_ret
  exact ⟨rfl, rfl⟩
theorem zDt (a : Option Addr) (xs : List Int) (cap : Nat) (w : World) (h : zBh zBC w a xs) (hm : zBn.bk xs ≤ 1048576) :
    Calls Tryz.prog 29 #[.slice a xs.length cap] w fun e w' => ∃ v, e = .returned v ∧ zAY zA5 w w' [v] xs :=
 (zL0 a xs cap w (zCw h) (by have : zBn.bk xs = xs.length + zBz zBx xs := rfl; omega)).mono fun e w' ⟨v, h1, h2⟩ => ⟨v, h1, zD8 h2 (zHS h)⟩
theorem zDu (a1 a2 : Option Addr) (xs : List Int) (c1 c2 : Nat) (w : World) (h1 : zBh zBC w a1 xs) (h2 : zBh zBC w a2 xs) (hm : zBn.bk xs ≤ 1152921504606846976) :
    Calls Tryz.prog 40 #[.slice a1 xs.length c1, .slice a2 xs.length c2] w fun e w' => e = .returned (.bool true) ∧ ∃ n, w' = w.drewN n :=
 zLz a1 a2 xs c1 c2 w (zCw h1) (zCw h2) (by have : zBn.bk xs = xs.length + zBz zBx xs := rfl; omega)
theorem zHj (k : Int) (w : World) :
    Calls Tryz.prog 44 #[.slice none 0 0, .int .i64 k] w fun e' w' => e' = .returned (.int .i64 k) ∧ w' = w := by
 go_enter Tryz.func44, Tryz.ntmps44
 go_wp2
 refine wp_loop_rounds 1 ?_
 rw [rounds_succ]
 go_wp2
 go_ret
 exact ⟨rfl, rfl⟩
theorem zM4 {k : Int} {n : Nat} (h0 : 0 ≤ k) (h1 : k ≤ 1152921504606846976) (hm : n ≤ 1152921504606846976) : ∀ x ∈ zHN k n, zBk x := by
 intro x hx
 simp only [zHN, List.mem_map, List.mem_range] at hx
 obtain ⟨j, hj, rfl⟩ := hx
 constructor <;> omega
theorem zCi (S : zAX) (v : Value) (k : Int) (xs : List Int) (w : World) (h0 : 0 ≤ k) (h1 : k ≤ 1152921504606846976) (hm : zA1 zBx xs ≤ 1152921504606846976) (h : zA5.own w S [v] xs) :
    Calls Tryz.prog 44 #[v, .int .i64 k] w fun e' w' => e' = .returned (.int .i64 (k + zA1 zBx xs)) ∧ zA5.own w' S [v] (zBw zBx k xs) ∧ Chg S w w' := by
 rw [zH5] at hm ⊢
 rw [zEQ]
 rcases owni_of h with ⟨rfl, rfl⟩ | ⟨g, cap, rfl, hS, ho⟩
 ·exact (zHj k w).mono fun e w' ⟨e1, e2⟩ => ⟨by simpa using e1, by rw [e2]; exact h, by rw [e2]; exact Chg.refl _ _⟩
 ·refine (mark_any 0 _ g cap k xs.length _ w h0 (by omega) (by omega) ho).mono fun e w' ⟨e1, e2, e3⟩ => ⟨e1, ?_, zCR e3 hS⟩
  have := own_of (S := S) (B := 0) (w := w') (g := g) (cap := cap) (zs := zHN k xs.length) (by unfold OwnI; rw [zFd]; exact e2) hS (zM4 h0 h1 hm)
  rwa [zFd] at this
theorem zC6 (a : Option Addr) (cap : Nat) (k : Int) (xs : List Int) (w : World) (h0 : 0 ≤ k) (h1 : k ≤ 1152921504606846976) (hm : zA1 zBx xs ≤ 1152921504606846976) (h : zBh zBC w a (zBw zBx k xs)) :
    Calls Tryz.prog 48 #[.slice a xs.length cap, .int .i64 k] w fun e' w' => e' = .returned (.int .i64 (k + zA1 zBx xs)) ∧ w' = w := by
 rw [zH5] at hm ⊢
 rw [zEQ] at h
 exact held_any a cap k xs.length w h0 (by omega) (by omega) (zCw h)
section
variable {α β : Type}
theorem zF7 {e : TypeId} {R : Rep α} {w0 w : World} {n : Nat} {xs : List α} (h : Fill e R w0 w n xs) : Below w0.heap.size w0 w := by
 obtain ⟨_, _, _, _, hb, _⟩ := h
 exact hb
theorem zD9 {e : TypeId} {R : Rep α} {w : World} {S : zAX} {v : Value} {xs : List α} (h : (slR e R).own w S [v] xs) : (v = .slice none 0 0 ∧ xs = []) ∨ ∃ g cap, v = .slice (some ⟨g, 0, none⟩) xs.length cap ∧ S g := by
 obtain ⟨v', rows, S', hv, hr, hg, hs, hl⟩ := h
 simp only [List.cons.injEq, and_true] at hv
 subst hv
 rcases hr.2 with ⟨rfl, h0⟩ | ⟨g, cap, cur, rfl, rest⟩
 ·exact .inl ⟨rfl, List.eq_nil_of_length_eq_zero h0⟩
 ·exact .inr ⟨g, cap, rfl, (hg g rfl).1⟩
theorem zBD {e : TypeId} {R : Rep α} {w : World} {S : zAX} {v : Value} {xs : List α} (h : (slR e R).own w S [v] xs) : ∃ a c, v = .slice a xs.length c := by
 rcases zD9 h with ⟨rfl, rfl⟩ | ⟨g, cap, rfl, _⟩
 ·exact ⟨none, 0, rfl⟩
 ·exact ⟨_, _, rfl⟩
end
end Go.Proofs.YtoihjejenjcokaaGreatDoor
