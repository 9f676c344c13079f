import Derived.Test.YtmaopldahnejdaaGreatDoorH00Box
import Derived.Deep.OwnRows
import Derived.Test.YtmaopldahnejdaaGreatDoorH02
import Derived.LoopN
import Derived.OrdersIn
import Derived.TacticsIn
namespace Go.Proofs.YtmaopldahnejdaaGreatDoor
set_option maxHeartbeats 1000000
open Go.ChangeShapes Go.WideShapes Go.ChangeAt Go.RowKit
def betw (a b c : Int) : Bool := decide (b ≤ a ∧ a ≤ c)
theorem ret_int {k : IntKind} {a b : Int} (h : a = b) : Ending.returned (.int k a) = .returned (.int k b) := by rw [h]
theorem ret_bool {a b : Bool} (h : a = b) : Ending.returned (.bool a) = .returned (.bool b) := by rw [h]
theorem l1In_any (a b c : Int) (w : World) :
    Calls Tryz.prog 58 #[nI a, nI b, nI c] w fun e w' => e = .returned (.bool (betw a b c)) ∧ w' = w := by
 by_cases f : b ≤ a
 ·by_cases d : a ≤ c
  all_goals
   go_enter Tryz.func58, Tryz.ntmps58;go_wp2;go_ret
   exact ⟨by simp [betw, f, d], rfl⟩
 ·go_enter Tryz.func58, Tryz.ntmps58;go_wp2;go_ret
  exact ⟨by simp only [betw]; congr 2; simp; omega, rfl⟩
theorem between_any (a b c : Int) (w : World) :
    Calls Tryz.prog 91 #[nI a, nI b, nI c] w fun e w' => e = .returned (.bool (betw a b c)) ∧ w' = w := by
 by_cases f : b ≤ a
 ·by_cases d : a ≤ c
  all_goals
   go_enter Tryz.func91, Tryz.ntmps91;go_wp2;go_ret
   exact ⟨by simp [betw, f, d], rfl⟩
 ·go_enter Tryz.func91, Tryz.ntmps91;go_wp2;go_ret
  exact ⟨by simp only [betw]; congr 2; simp; omega, rfl⟩
theorem below_step {w w1 w2 : World} (h : Bl w w1) (h2 : Bl w1 w2) : Bl w w2 := h.trans (h2.mono h.size)
theorem Tryz.infoI : (Tryz.prog.info? 2).map (fun i => (i.zero, i.size, i.bytes)) = some (some (nI 0), 1, 8) := by kernel_rfl
def OwnI (B : Nat) (w : World) (g cap : Nat) (zs : List Int) : Prop :=
 w.ownsRow B 2 1 (.slice (some ⟨g, 0, none⟩) zs.length cap) zs.length (zs.map (Value.int .i64))
def Made (w w' : World) (v : Value) (zs : List Int) : Prop :=
 ∃ g cap, v = .slice (some ⟨g, 0, none⟩) zs.length cap ∧ w.heap.size ≤ g ∧ g < w'.heap.size ∧ OwnI w.heap.size w' g cap zs ∧ Below w.heap.size w w'
theorem reads_owni {B g cap : Nat} {w : World} {zs : List Int} (h : OwnI B w g cap zs) : Reads w (some ⟨g, 0, none⟩) zs := reads_own h
theorem reads_below {w w' : World} {a : Option Addr} {xs : List Int} (h : Reads w a xs) (hb : Bl w w') : Reads w' a xs := by
 rcases h with h | ⟨b, c, f, d⟩
 ·exact .inl h
 ·exact .inr ⟨b, c, f, fun j hj => (hb.cell (World.block_lt_of_cell? w ⟨b, c + j, none⟩ (d j hj))).trans (d j hj)⟩
theorem owni_below {B g cap D : Nat} {w w' : World} {zs : List Int} (h : OwnI B w g cap zs) (hb : Below D w w') (hg : g < D) : OwnI B w' g cap zs := own_below h hb hg
theorem owni_lt {B g cap : Nat} {w : World} {zs : List Int} (h : OwnI B w g cap zs) : B ≤ g ∧ g < w.heap.size := h.lt g rfl
theorem owni_lit (w : World) (cs : Array Value) (zs : List Int) (h : cs.toList = zs.map (Value.int .i64)) (hm : zs.length ≤ maxLen) : OwnI w.heap.size (w.alloc (.cells cs 2)) w.heap.size zs.length zs := by
 have a : cs.size = zs.length := by rw [← Array.length_toList, h]; simp
 have := World.ownsRow_lit (base := w.heap.size) (e := 2) (size := 1) w cs zs.length (Nat.le_refl _) hm (by simpa using a);rw [h] at this;exact this
theorem made_lit (w : World) (cs : Array Value) (zs : List Int) (h : cs.toList = zs.map (Value.int .i64)) (hm : zs.length ≤ maxLen) : Made w (w.alloc (.cells cs 2)) (sL (some ⟨w.heap.size, 0, none⟩) zs.length zs.length) zs :=
 ⟨_, _, rfl, Nat.le_refl _, by simp, owni_lit w cs zs h hm, (Below.refl _ _).alloc (Nat.le_refl _) _⟩
theorem made_step {w w1 w2 : World} {v : Value} {zs : List Int} (h : Bl w w1) (h2 : Made w1 w2 v zs) : Made w w2 v zs := by
 obtain ⟨g, d, rfl, k, l, f, m⟩ := h2;refine ⟨g, d, rfl, Nat.le_trans h.size k, l, ?_, below_step h m⟩;refine ⟨f.1, ?_⟩;rcases f.2 with c | ⟨i, a, b, c, j, rest⟩
 ·exact .inl c
 ·exact .inr ⟨i, a, b, c, Nat.le_trans h.size j, rest⟩
theorem take_step (j : Nat) (xs : List Int) (ys : List Value) (h : j < xs.length) (h2 : j < ys.length) :
    ((xs.take j).map (Value.int .i64) ++ ys.drop j).set j (nI xs[j]) = (xs.take (j + 1)).map (Value.int .i64) ++ ys.drop (j + 1) := by
 have a : ((xs.take j).map (Value.int .i64)).length = j := by simp; omega
 rw [List.set_append_right _ _ (by omega), a, Nat.sub_self, List.drop_eq_getElem_cons h2, List.take_add_one, List.getElem?_eq_getElem h];simp only [List.set_cons_zero, List.map_append, List.map_cons, List.map_nil, List.append_assoc, List.cons_append, List.nil_append, Option.toList_some]
theorem toInts_any (a : Option Addr) (xs : List Int) (cap : Nat) (w : World) (h : Reads w a xs) (hm : xs.length ≤ 1048576) :
    Calls Tryz.prog 67 #[sL a xs.length cap] w fun e w' => ∃ v, e = .returned v ∧ Made w w' v xs := by
 obtain ⟨i0, hi, z, A, y⟩ := info_parts Tryz.infoI;have s := Go.run_make_row' (P := Tryz.prog) 28 2 (nI 0) 8 Tryz.underlying28 Tryz.infoI rfl .i64 .i64 xs.length (by omega) (by omega);go_enter Tryz.func67, Tryz.ntmps67;go_wp2;go_loopw [4] (fun i wr => ∃ k : Nat, k ≤ xs.length ∧ i = nI k ∧ wr.ownsRow w.heap.size 2 1 (sL (some ⟨w.heap.size, 0, none⟩) xs.length xs.length) xs.length ((xs.take k).map (Value.int .i64) ++ (madeCells #[nI 0] xs.length).toList.drop k) ∧ Bl w wr)
  (fun i _ => xs.length - (intOf i).toNat)
 case atStart => exact ⟨0, Nat.zero_le _, rfl, by simpa using World.ownsRow_lit (base := w.heap.size) (e := 2) (size := 1) w (madeCells #[nI 0] xs.length) xs.length (Nat.le_refl _) (by unfold maxLen; omega) (by simp [size_madeCells]), (Below.refl _ _).alloc (Nat.le_refl _) _⟩
 case round =>
  obtain ⟨k, hk, rfl, c, f⟩ := hrel;by_cases d : k < xs.length
  ·rcases h with rfl | ⟨b, l, rfl, o⟩
   ·simp at d
   have q : (k : Int) < (xs.length : Int) := by omega
   have m := o k d;have g1 := (f.cell (World.block_lt_of_cell? w ⟨b, l + k, none⟩ m)).trans m;have r := c.frozenAt k;obtain ⟨n, B⟩ : ∃ n, wr.cell? ⟨w.heap.size, k, none⟩ = some n := by
    rw [c.cellAt k (by omega)];exact ⟨_, List.getElem?_eq_getElem (by have := c.1; omega)⟩
   have R := c.stored k (nI xs[k]);rw [take_step k xs _ d (by simp [size_madeCells]; omega)] at R;have p : Hid _ := R;clear R o;go_wp2;go_roundw
   case rel => exact ⟨k + 1, by omega, by go_num, p.out.1, f.grown p.out.2 f.size (by intro j C; cases C; exact Nat.le_refl _)⟩
   case measure => simp [intOf]; omega
  ·have g : k = xs.length := by omega
   subst g;go_wp2;go_ret
   refine ⟨_, rfl, w.heap.size, xs.length, rfl, Nat.le_refl _, (c.lt _ rfl).2, ?_, f⟩;rw [List.take_length, List.drop_of_length_le (by simp [size_madeCells]), List.append_nil] at c;exact c
theorem made_app {w w1 : World} {v' : Value} {o : Obj} {xs : List Int} (h : w1.ownsRow w.heap.size 2 1 v' xs.length (xs.map (Value.int .i64)))
    (hg : (w.alloc o).grownBy w1 (Value.slice (some ⟨w.heap.size, 0, none⟩) 0 0).ownBlock) (hv : v' ≠ sL none 0 0) : Made w w1 v' xs := by
 rcases h.2 with ⟨rfl, _⟩ | ⟨g, a, c, rfl, b, f, rest⟩
 ·exact absurd rfl hv
 refine ⟨g, a, rfl, b, (ltH f), h, ((Below.refl _ _).alloc (Nat.le_refl _) _).grown hg (by simp) ?_⟩;intro k d;simp [Value.ownBlock] at d
 omega
theorem app_next {w0 w w1 : World} {g cap m : Nat} {zs ys : List Int} {v' : Value} {o : Obj} (hb : Bl w0 w) (ho : OwnI w0.heap.size w g cap zs) (hm : (zs ++ ys).length = m)
    (h : w1.ownsRow w0.heap.size 2 1 v' (zs.length + ys.length) (zs.map (Value.int .i64) ++ ys.map (Value.int .i64))) (hg : (w.alloc o).grownBy w1 (some g)) (hv : v' ≠ sL none 0 0) :
    ∃ b a, v' = sL (some ⟨b, 0, none⟩) m a ∧ OwnI w0.heap.size w1 b a (zs ++ ys) ∧ Bl w0 w1 := by
 have f := owni_lt ho;rcases h.2 with ⟨rfl, _⟩ | ⟨b, a, c, rfl, d, hh, rest⟩
 ·exact absurd rfl hv
 refine ⟨b, a, by rw [← hm]; simp, ?_, (hb.alloc hb.size o).grown hg (by simp; have := hb.size; omega) (fun k hk => by cases hk; exact f.1)⟩;unfold OwnI;rw [List.map_append, List.length_append];exact h
theorem app_last {w0 w w1 : World} {g cap : Nat} {zs ys : List Int} {v' : Value} (hb : Bl w0 w) (ho : OwnI w0.heap.size w g cap zs)
    (h : w1.ownsRow w0.heap.size 2 1 v' (zs.length + ys.length) (zs.map (Value.int .i64) ++ ys.map (Value.int .i64))) (hg : w.grownBy w1 (some g)) (hv : v' ≠ sL none 0 0) : Made w0 w1 v' (zs ++ ys) := by
 have f := owni_lt ho;rcases h.2 with ⟨rfl, _⟩ | ⟨c, a, d, rfl, b, i, rest⟩
 ·exact absurd rfl hv
 refine ⟨c, a, by simp, b, (ltH i), ?_, hb.grown hg hb.size (fun k hk => by cases hk; exact f.1)⟩;unfold OwnI;rw [List.map_append, List.length_append];exact h
theorem l1Copy_any (a : Addr) (xs : List Int) (cap : Nat) (w : World) (h : Reads w (some a) xs) (hm : xs.length ≤ 1048576) :
    Calls Tryz.prog 95 #[sL (some a) xs.length cap] w fun e w' => ∃ v, e = .returned v ∧ Made w w' v xs := by
 obtain ⟨y, A, m, n, l⟩ := info_parts Tryz.infoI;have i : (w.alloc (.cells #[] 2)).ownsRow w.heap.size 2 1 (sL (some ⟨w.heap.size, 0, none⟩) 0 0) 0 [] := World.ownsRow_lit _ #[] 0 (Nat.le_refl _) (Nat.zero_le _) rfl;go_enter Tryz.func95, Tryz.ntmps95;go_wp2_with (at_builtin; refine wpList_append_own _ rfl _ _ 28 rfl w.heap.size 2 y (nI 0) 1 8 Tryz.underlying28 A m n l rfl (by decide) _ _ _ rfl i a xs.length cap (xs.map (Value.int .i64)) rfl (by simp) ?c1 ?c2 ?c3 ?c4 ?c5 ?_)
 case c1 =>
  intro j u C;obtain ⟨f, rfl⟩ := List.getElem?_eq_some_iff.1 C;simp at f
  rcases h with rfl | ⟨b, k, r, z⟩
  ·simp at f
  simp only [Option.some.injEq] at r;subst r;have p := z j f;rw [show (⟨b, k, none⟩ : Addr).add j = ⟨b, k + j, none⟩ from by simp [Addr.add], World.cell?_alloc_past _ _ _ (World.block_lt_of_cell? w _ p), p];simp [List.getD_eq_getElem?_getD, f]
 case c2 => intro u o; simp at o; obtain ⟨x, _, rfl⟩ := o; rfl
 case c3 => unfold maxLen; omega
 case c4 => omega
 case c5 => simp
 ·intro q s d c g;have B : q ≠ sL none 0 0 := g;have D : Hid (Made w s q xs) := made_app d c B;clear d c g i;go_wp2;go_ret
  exact ⟨_, rfl, D.out⟩
set_option linter.unusedVariables false
section
variable {α β : Type}
structure Mk (α : Type) where
 cE : α → Nat
 mE : Int → α → α
 cV : α → Nat
 mV : Int → α → α
 bk : α → Nat
def intM : Mk Int := ⟨fun _ => 1, fun k _ => k, fun _ => 0, fun _ x => x, fun _ => 0⟩
def boolM : Mk Bool := ⟨fun _ => 1, fun k _ => k % 3 == 0, fun _ => 0, fun _ b => b, fun _ => 0⟩
def prodM (M : Mk α) (N : Mk β) : Mk (α × β) :=
 ⟨fun a => M.cE a.1 + N.cE a.2, fun k a => (M.mE k a.1, N.mE (k + M.cE a.1) a.2), fun a => M.cV a.1 + N.cV a.2, fun k a => (M.mV k a.1, N.mV (k + M.cV a.1) a.2), fun a => M.bk a.1 + N.bk a.2⟩
def sumbk (M : Mk α) (xs : List α) : Nat := (xs.map M.bk).sum
def slcnt (M : Mk α) (xs : List α) : Nat := (xs.map M.cE).sum
def slmark (M : Mk α) : Int → List α → List α
 | _, [] => []
 | k, x :: xs => M.mE k x :: slmark M (k + M.cE x) xs
def slM (M : Mk α) : Mk (List α) := ⟨slcnt M, slmark M, slcnt M, slmark M, fun xs => xs.length + sumbk M xs⟩
theorem slmark_len (M : Mk α) : ∀ (k : Int) (xs : List α), (slmark M k xs).length = xs.length
 | _, [] => rfl
 | k, x :: xs => by simp [slmark, slmark_len M _ xs]
theorem slcnt_step {M : Mk α} {xs : List α} {j : Nat} {x : α} (h : xs[j]? = some x) : slcnt M (xs.take (j + 1)) = slcnt M (xs.take j) + M.cE x := by
 simp [slcnt, List.take_add_one, h]
theorem slcnt_take (M : Mk α) (xs : List α) (j : Nat) : slcnt M (xs.take j) ≤ slcnt M xs := by
 have : slcnt M xs = slcnt M (xs.take j) + slcnt M (xs.drop j) := by
  conv => lhs; rw [← List.take_append_drop j xs]
  unfold slcnt;rw [List.map_append, List.sum_append]
 omega
theorem slcnt_get {M : Mk α} {xs : List α} {j : Nat} {x : α} (h : xs[j]? = some x) : slcnt M (xs.take j) + M.cE x ≤ slcnt M xs := by
 have h1 := slcnt_step (M := M) h;have h2 := slcnt_take M xs (j + 1);omega
theorem slmark_at {M : Mk α} : ∀ {xs : List α} {k : Int} {j : Nat} {x : α}, xs[j]? = some x → (slmark M k xs)[j]? = some (M.mE (k + slcnt M (xs.take j)) x)
 | [], k, j, x, h => by simp at h
 | y :: ys, k, 0, x, h => by
  simp at h
  subst h;simp [slmark, slcnt]
 | y :: ys, k, j + 1, x, h => by
  simp at h
  have := slmark_at (M := M) (k := k + M.cE y) h;simp only [slmark, List.getElem?_cons_succ, this, List.take_succ_cons, slcnt, List.map_cons, List.sum_cons];congr 2
  omega
theorem sumbk_step {M : Mk α} {xs : List α} {j : Nat} {x : α} (h : xs[j]? = some x) : sumbk M (xs.take (j + 1)) = sumbk M (xs.take j) + M.bk x := by
 simp [sumbk, List.take_add_one, h]
theorem sumbk_take (M : Mk α) (xs : List α) (j : Nat) : sumbk M (xs.take j) ≤ sumbk M xs := by
 have : sumbk M xs = sumbk M (xs.take j) + sumbk M (xs.drop j) := by
  conv => lhs; rw [← List.take_append_drop j xs]
  unfold sumbk;rw [List.map_append, List.sum_append]
 omega
theorem sumbk_get {M : Mk α} {xs : List α} {j : Nat} {x : α} (h : xs[j]? = some x) : sumbk M (xs.take j) + M.bk x ≤ sumbk M xs := by
 have h1 := sumbk_step (M := M) h;have h2 := sumbk_take M xs (j + 1);omega
def Bd (M : Mk α) (K : Nat) : Prop := ∀ x, M.cE x ≤ K * (1 + M.bk x)
theorem bd_int : Bd intM 1 := fun _ => by simp [intM]
theorem bd_bool : Bd boolM 1 := fun _ => by simp [boolM]
theorem bd_prod {M : Mk α} {N : Mk β} {K L : Nat} (h : Bd M K) (k : Bd N L) : Bd (prodM M N) (K + L) := fun x => by
 have h1 := h x.1;have h2 := k x.2;show M.cE x.1 + N.cE x.2 ≤ (K + L) * (1 + (M.bk x.1 + N.bk x.2))
 have e1 : K * (1 + M.bk x.1) ≤ K * (1 + (M.bk x.1 + N.bk x.2)) := Nat.mul_le_mul_left _ (by omega);have e2 : L * (1 + N.bk x.2) ≤ L * (1 + (M.bk x.1 + N.bk x.2)) := Nat.mul_le_mul_left _ (by omega);rw [Nat.add_mul];omega
theorem slcnt_bd {M : Mk α} {K : Nat} (h : Bd M K) (xs : List α) : slcnt M xs ≤ K * (slM M).bk xs := by
 induction xs with
 | nil => exact Nat.zero_le _
 | cons x xs ih =>
  have h1 := h x;have e : (slM M).bk (x :: xs) = (1 + M.bk x) + (slM M).bk xs := by
   simp [slM, sumbk]
   omega
  rw [e, Nat.mul_add];simp only [slcnt, List.map_cons, List.sum_cons] at ih ⊢;omega
theorem bd_sl {M : Mk α} {K : Nat} (h : Bd M K) : Bd (slM M) K := fun xs => by
 have b := slcnt_bd h xs;have a : K * (slM M).bk xs ≤ K * (1 + (slM M).bk xs) := Nat.mul_le_mul_left _ (by omega);exact Nat.le_trans b a
def pmark (M : Mk α) (k : Int) (xs : List α) (j : Nat) : List α := (slmark M k xs).take j ++ xs.drop j
theorem pmark_zero (M : Mk α) (k : Int) (xs : List α) : pmark M k xs 0 = xs := by simp [pmark]
theorem pmark_all (M : Mk α) (k : Int) (xs : List α) : pmark M k xs xs.length = slmark M k xs := by
 simp [pmark, List.take_of_length_le (lE (slmark_len M k xs))]
theorem pmark_at {M : Mk α} {k : Int} {xs : List α} {j : Nat} {x : α} (h : xs[j]? = some x) : (pmark M k xs j)[j]? = some x := by
 have hj := (List.getElem?_eq_some_iff.1 h).1;have a : ((slmark M k xs).take j).length = j := by simp [slmark_len]; omega
 rw [pmark, List.getElem?_append_right (by omega), a, Nat.sub_self, List.getElem?_drop];exact h
theorem pmark_step {M : Mk α} {k : Int} {xs : List α} {j : Nat} {x : α} (h : xs[j]? = some x) : (pmark M k xs j).set j (M.mE (k + slcnt M (xs.take j)) x) = pmark M k xs (j + 1) := by
 have a := (List.getElem?_eq_some_iff.1 h).1;have c : ((slmark M k xs).take j).length = j := by simp [slmark_len]; omega
 have b := slmark_at (M := M) (k := k) h;rw [pmark, pmark, List.set_append_right _ _ (by omega), c, Nat.sub_self, List.drop_eq_getElem_cons a, List.set_cons_zero, List.take_add_one, b];simp
abbrev intsR : Rep (List Int) := slR 2 intR
abbrev intsM : Mk (List Int) := slM intM
theorem lrd_ints {w : World} : ∀ {rows : List Value} {xs : List Int}, lrd intR w rows xs ↔ rows = xs.map (Value.int .i64) ∧ ∀ x ∈ xs, In64 x
 | rows, [] => by simp [lrd]
 | rows, x :: xs => by
  constructor
  ·rintro ⟨c1, c2, rfl, ⟨rfl, a⟩, b⟩;obtain ⟨rfl, c⟩ := lrd_ints.1 b;exact ⟨rfl, by simpa using ⟨a, c⟩⟩
  ·rintro ⟨rfl, h⟩;simp at h
   exact ⟨[nI x], xs.map (Value.int .i64), rfl, ⟨rfl, h.1⟩, lrd_ints.2 ⟨rfl, h.2⟩⟩
theorem lown_ints {w : World} {S : Foot} : ∀ {rows : List Value} {xs : List Int}, lrd intR w rows xs → lown intR w S rows xs
 | rows, [], h => h
 | rows, x :: xs, ⟨c1, c2, e, h1, h2⟩ => ⟨c1, c2, fun _ => False, S, e, h1, lown_ints h2, fun _ h => h.elim, Sub.refl _, fun _ h _ => h⟩
theorem reads_of {w : World} {a : Option Addr} {xs : List Int} (h : SlRd intR w a xs) : Reads w a xs := by
 rcases h with h | ⟨b, c, d, rfl, f, g⟩
 ·exact .inl h
 ·obtain ⟨rfl, _⟩ := lrd_ints.1 f;refine .inr ⟨b, c, rfl, fun j hj => g j _ ?_⟩;simp [List.getD_eq_getElem?_getD, List.getElem?_eq_getElem hj]
theorem in64_of {w : World} {a : Option Addr} {xs : List Int} (h : SlRd intR w a xs) : ∀ x ∈ xs, In64 x := by
 rcases h with rfl | ⟨b, f, c, rfl, d, h2⟩
 ·simp
 ·exact (lrd_ints.1 d).2
theorem madeR_ints {w w' : World} {v : Value} {zs : List Int} (h : Made w w' v zs) (h64 : ∀ x ∈ zs, In64 x) : MadeR intsR w w' [v] zs := by
 obtain ⟨g, f, rfl, a, b, c, d⟩ := h;refine ⟨⟨_, zs.map (Value.int .i64), fun _ => False, rfl, row_base c (fun _ _ => Nat.zero_le _), fun g' hg => ?_, fun _ h => h.elim, lown_ints (lrd_ints.2 ⟨rfl, h64⟩)⟩, d⟩;simp [Value.ownBlock] at hg
 subst hg;exact ⟨⟨a, b⟩, fun h => h⟩
theorem owni_of {S : Foot} {w : World} {v : Value} {zs : List Int} (h : intsR.own w S [v] zs) : (v = sL none 0 0 ∧ zs = []) ∨ ∃ g a, v = sL (some ⟨g, 0, none⟩) zs.length a ∧ S g ∧ OwnI 0 w g a zs := by
 obtain ⟨v', d, S', b, c, k, hs, f⟩ := h;simp only [List.cons.injEq, and_true] at b;subst b;obtain ⟨rfl, _⟩ := lrd_ints.1 (lown_rd f);rcases c.2 with ⟨rfl, i⟩ | ⟨g, a, j, rfl, rest⟩
 ·exact .inl ⟨rfl, List.eq_nil_of_length_eq_zero i⟩
 ·exact .inr ⟨g, a, rfl, (k g rfl).1, c⟩
theorem own_of {S : Foot} {B : Nat} {w : World} {g cap : Nat} {zs : List Int} (h : OwnI B w g cap zs) (hS : S g) (h64 : ∀ x ∈ zs, In64 x) : intsR.own w S [sL (some ⟨g, 0, none⟩) zs.length cap] zs := by
 refine ⟨_, zs.map (Value.int .i64), fun _ => False, rfl, row_base h (fun _ _ => Nat.zero_le _), fun g' hg => ?_, fun _ h => h.elim, lown_ints (lrd_ints.2 ⟨rfl, h64⟩)⟩;simp [Value.ownBlock] at hg
 subst hg;exact ⟨hS, fun h => h⟩
theorem slcnt_ints (xs : List Int) : slcnt intM xs = xs.length := by
 induction xs with
 | nil => rfl
 | cons x xs ih =>
  simp only [slcnt, List.map_cons, List.sum_cons, List.length_cons] at ih ⊢;rw [ih];simp [intM]
  omega
theorem slmark_ints : ∀ (k : Int) (xs : List Int), slmark intM k xs = seqs k xs.length
 | k, [] => rfl
 | k, x :: xs => by
  rw [slmark, slmark_ints];simp only [seqs, List.length_cons, List.range_succ_eq_map, List.map_cons, List.map_map, intM];congr 1
  ·simp
  ·apply List.map_congr_left
   intro a _;simp
   omega
end
def szI (n : Nat) (left : Int) : Int := if (n : Int) ≤ left then left - n else -1
theorem szI_yes {n : Nat} {left : Int} (h : (n : Int) ≤ left) : szI n left = left - n := by unfold szI; rw [if_pos h]
theorem szI_no {n : Nat} {left : Int} (h : ¬ (n : Int) ≤ left) : szI n left = -1 := by unfold szI; rw [if_neg h]
theorem szInt64S_rep (a : Option Addr) (xs : List Int) (cap : Nat) (left : Int) (w : World) (h0 : 0 ≤ left) (h1 : left ≤ 1048576) (hm : xs.length ≤ maxLen) :
    Calls Tryz.prog 64 #[sL a xs.length cap, nI left] w fun e w' => e = .returned (nI (szI (intsM.bk xs) left)) ∧ w' = w := by
 have f : intsM.bk xs = xs.length := by
  show xs.length + sumbk intM xs = xs.length
  have : sumbk intM xs = 0 := by
   induction xs with
   | nil => rfl
   | cons x xs ih => simp only [sumbk, List.map_cons, List.sum_cons] at ih ⊢; rw [ih (by simp at hm; omega)]; rfl
  omega
 rw [f];have c : xs.length ≤ 9223372036854775807 := hm;clear hm f;generalize xs.length = n at c;by_cases d : (n : Int) ≤ left
 ·have b : ¬ (left - (n : Int) < 0) := by omega
  rw [szI_yes d];go_enter Tryz.func64, Tryz.ntmps64;go_wp2;go_ret
  exact ⟨rfl, rfl⟩
 ·have b : left - (n : Int) < 0 := by omega
  rw [szI_no d];go_enter Tryz.func64, Tryz.ntmps64;go_wp2;go_ret
  exact ⟨rfl, rfl⟩
theorem toInt64S_rep (a : Option Addr) (xs : List Int) (cap : Nat) (w : World) (h : SlRd intR w a xs) (hm : intsM.bk xs ≤ 1048576) :
    Calls Tryz.prog 67 #[sL a xs.length cap] w fun e w' => ∃ v, e = .returned v ∧ MadeR intsR w w' [v] xs :=
 (toInts_any a xs cap w (reads_of h) (by have : intsM.bk xs = xs.length + sumbk intM xs := rfl; omega)).mono fun e w' ⟨v, h1, h2⟩ => ⟨v, h1, madeR_ints h2 (in64_of h)⟩
theorem eqInt64S_rep (a1 a2 : Option Addr) (xs : List Int) (c1 c2 : Nat) (w : World) (h1 : SlRd intR w a1 xs) (h2 : SlRd intR w a2 xs) (hm : intsM.bk xs ≤ 1152921504606846976) :
    Calls Tryz.prog 70 #[sL a1 xs.length c1, sL a2 xs.length c2] w fun e w' => e = .returned (.bool true) ∧ ∃ n, w' = w.drewN n :=
 eqInts_any a1 a2 xs c1 c2 w (reads_of h1) (reads_of h2) (by have : intsM.bk xs = xs.length + sumbk intM xs := rfl; omega)
theorem markInt64S_nil (k : Int) (w : World) :
    Calls Tryz.prog 73 #[sL none 0 0, nI k] w fun e' w' => e' = .returned (nI k) ∧ w' = w := by
 go_enter Tryz.func73, Tryz.ntmps73;go_wp2;refine wp_loop_rounds 1 ?_;rw [rounds_succ];go_wp2;go_ret
 exact ⟨rfl, rfl⟩
theorem seqs_in64 {k : Int} {n : Nat} (h0 : 0 ≤ k) (h1 : k ≤ 1152921504606846976) (hm : n ≤ 1152921504606846976) : ∀ x ∈ seqs k n, In64 x := by
 intro x a;simp only [seqs, List.mem_map, List.mem_range] at a;obtain ⟨j, hj, rfl⟩ := a;constructor <;> omega
theorem markInt64S_rep (S : Foot) (v : Value) (k : Int) (xs : List Int) (w : World) (h0 : 0 ≤ k) (h1 : k ≤ 1152921504606846976) (hm : slcnt intM xs ≤ 1152921504606846976) (h : intsR.own w S [v] xs) :
    Calls Tryz.prog 73 #[v, nI k] w fun e' w' => e' = .returned (nI (k + slcnt intM xs)) ∧ intsR.own w' S [v] (slmark intM k xs) ∧ Chg S w w' := by
 rw [slcnt_ints] at hm ⊢;rw [slmark_ints];rcases owni_of h with ⟨rfl, rfl⟩ | ⟨g, cap, rfl, a, b⟩
 ·exact (markInt64S_nil k w).mono fun e w' ⟨e1, e2⟩ => ⟨by simpa using e1, by rw [e2]; exact h, by rw [e2]; exact Chg.refl _ _⟩
 ·refine (mark_any 0 _ g cap k xs.length _ w h0 (by omega) (by omega) b).mono fun e w' ⟨e1, e2, e3⟩ => ⟨e1, ?_, chg_grown e3 a⟩;have := own_of (S := S) (B := 0) (w := w') (g := g) (cap := cap) (zs := seqs k xs.length) (by unfold OwnI; rw [seqs_len]; exact e2) a (seqs_in64 h0 h1 hm);rwa [seqs_len] at this
theorem heldInt64S_rep (a : Option Addr) (cap : Nat) (k : Int) (xs : List Int) (w : World) (h0 : 0 ≤ k) (h1 : k ≤ 1152921504606846976) (hm : slcnt intM xs ≤ 1152921504606846976) (h : SlRd intR w a (slmark intM k xs)) :
    Calls Tryz.prog 76 #[sL a xs.length cap, nI k] w fun e' w' => e' = .returned (nI (k + slcnt intM xs)) ∧ w' = w := by
 rw [slcnt_ints] at hm ⊢;rw [slmark_ints] at h;exact held_any a cap k xs.length w h0 (by omega) (by omega) (reads_of h)
section
variable {α β : Type}
theorem fill_below {e : TypeId} {R : Rep α} {w0 w : World} {n : Nat} {xs : List α} (h : Fill e R w0 w n xs) : Bl w0 w := by
 obtain ⟨_, _, _, _, a, _⟩ := h;exact a
theorem slown_form {e : TypeId} {R : Rep α} {w : World} {S : Foot} {v : Value} {xs : List α} (h : (slR e R).own w S [v] xs) : (v = sL none 0 0 ∧ xs = []) ∨ ∃ g a, v = sL (some ⟨g, 0, none⟩) xs.length a ∧ S g := by
 obtain ⟨v', c, S', b, d, j, hs, hl⟩ := h;simp only [List.cons.injEq, and_true] at b;subst b;rcases d.2 with ⟨rfl, f⟩ | ⟨g, a, i, rfl, rest⟩
 ·exact .inl ⟨rfl, List.eq_nil_of_length_eq_zero f⟩
 ·exact .inr ⟨g, a, rfl, (j g rfl).1⟩
theorem slown_val {e : TypeId} {R : Rep α} {w : World} {S : Foot} {v : Value} {xs : List α} (h : (slR e R).own w S [v] xs) : ∃ a c, v = sL a xs.length c := by
 rcases slown_form h with ⟨rfl, rfl⟩ | ⟨g, b, rfl, _⟩
 ·exact ⟨none, 0, rfl⟩
 ·exact ⟨_, _, rfl⟩
end
structure Rw where
 g : Nat
 cap : Nat
 xs : List Int
def Rw.v (r : Rw) : Value := .slice (some ⟨r.g, 0, none⟩) r.xs.length r.cap
def ReadsM (w : World) (a : Option Addr) (xss : List (List Int)) : Prop :=
 xss = [] ∨ ∃ b off, a = some ⟨b, off, none⟩ ∧ ∀ j xs, xss[j]? = some xs → ∃ aj cj, w.cell? ⟨b, off + j, none⟩ = some (.slice aj xs.length cj) ∧ Reads w aj xs
def Inn (lo hi : Nat) (w : World) (rs : List Rw) : Prop :=
 (∀ (i : Nat) (r : Rw), rs[i]? = some r → OwnI lo w r.g r.cap r.xs ∧ r.g < hi) ∧ ∀ (i j : Nat) (r s : Rw), rs[i]? = some r → rs[j]? = some s → r.g = s.g → i = j
def Out (lo : Nat) (w : World) (G cap n : Nat) (vs : List Value) : Prop := w.ownsRow lo 28 1 (.slice (some ⟨G, 0, none⟩) n cap) n vs
def OwnM (lo hi : Nat) (w : World) (G cap : Nat) (xss : List (List Int)) : Prop :=
 ∃ rs : List Rw, rs.map Rw.xs = xss ∧ Out lo w G cap xss.length (rs.map Rw.v) ∧ G < hi ∧ Inn lo hi w rs
def MadeM (w w' : World) (v : Value) (xss : List (List Int)) : Prop :=
 ∃ G cap, v = .slice (some ⟨G, 0, none⟩) xss.length cap ∧ w.heap.size ≤ G ∧ G < w'.heap.size ∧ OwnM w.heap.size w'.heap.size w' G cap xss ∧ Below w.heap.size w w'
structure Inside (lo hi : Nat) (w w' : World) : Prop where
 os : w'.os = w.os
 tape : w'.tape = w.tape
 output : w'.output = w.output
 size : w.heap.size ≤ w'.heap.size
 block : ∀ k, k < w.heap.size → (k < lo ∨ hi ≤ k) → w'.heap[k]? = w.heap[k]?
theorem Inside.refl (lo hi : Nat) (w : World) : Inside lo hi w w := ⟨rfl, rfl, rfl, Nat.le_refl _, fun _ _ _ => rfl⟩
theorem Inside.trans {lo hi : Nat} {a b c : World} (h : Inside lo hi a b) (k : Inside lo hi b c) : Inside lo hi a c :=
 ⟨k.os.trans h.os, k.tape.trans h.tape, k.output.trans h.output, Nat.le_trans h.size k.size, fun j hj hr => (k.block j (Nat.lt_of_lt_of_le hj h.size) hr).trans (h.block j hj hr)⟩
theorem own_block {w w' : World} {base e size g n cap : Nat} {xs : List Value} (h : w.ownsRow base e size (sL (some ⟨g, 0, none⟩) n cap) n xs) (hb : w'.heap[g]? = w.heap[g]?) :
    w'.ownsRow base e size (sL (some ⟨g, 0, none⟩) n cap) n xs := by
 refine ⟨h.1, ?_⟩;rcases h.2 with ⟨a, _⟩ | ⟨g', f, c, a, d, b, rest⟩
 ·simp at a
 ·simp only [Value.slice.injEq, Option.some.injEq, Addr.mk.injEq, and_true, true_and] at a;obtain ⟨rfl, rfl⟩ := a;exact .inr ⟨g, cap, c, rfl, d, by rw [hb]; exact b, rest⟩
theorem own_mono {w : World} {B B' e size n : Nat} {v : Value} {xs : List Value} (h : w.ownsRow B e size v n xs) (hb : B' ≤ B) : w.ownsRow B' e size v n xs := by
 refine ⟨h.1, ?_⟩;rcases h.2 with d | ⟨f, a, b, d, c, rest⟩
 ·exact .inl d
 ·exact .inr ⟨f, a, b, d, Nat.le_trans hb c, rest⟩
theorem own_type {w : World} {B g n cap e : Nat} {xs : List Value} (h : w.ownsRow B e 1 (sL (some ⟨g, 0, none⟩) n cap) n xs) : ∃ a, w.heap[g]? = some (.cells a e (0, 0)) := by
 rcases h.2 with ⟨b, _⟩ | ⟨g', d, a, b, f, c, rest⟩
 ·simp at b
 ·simp only [Value.slice.injEq, Option.some.injEq, Addr.mk.injEq, and_true, true_and] at b;obtain ⟨rfl, rfl⟩ := b;exact ⟨_, c⟩
theorem out_ne {lo lo' G cap n g c : Nat} {w : World} {vs : List Value} {zs : List Int} (h : Out lo w G cap n vs) (k : OwnI lo' w g c zs) : g ≠ G := by
 rintro rfl;obtain ⟨c1, b⟩ := own_type h;obtain ⟨c2, a⟩ := own_type k;rw [b] at a;simp at a
theorem inn_nil (lo hi : Nat) (w : World) : Inn lo hi w [] := ⟨by simp, by simp⟩
theorem inn_block {lo hi : Nat} {w w' : World} {rs : List Rw} (h : Inn lo hi w rs) (hb : ∀ (i : Nat) (r : Rw), rs[i]? = some r → w'.heap[r.g]? = w.heap[r.g]?) : Inn lo hi w' rs :=
 ⟨fun i r hr => ⟨own_block (h.1 i r hr).1 (hb i r hr), (h.1 i r hr).2⟩, h.2⟩
theorem inn_below {lo hi D : Nat} {w w' : World} {rs : List Rw} (h : Inn lo hi w rs) (hb : Below D w w') (hD : hi ≤ D) : Inn lo hi w' rs :=
 inn_block h fun i r hr => hb.block _ (Nat.lt_of_lt_of_le (h.1 i r hr).2 hD)
theorem inn_grown {lo hi x : Nat} {w w' : World} {rs : List Rw} (h : Inn lo hi w rs) (hb : w.grownBy w' (some x)) (hx : ∀ (i : Nat) (r : Rw), rs[i]? = some r → r.g ≠ x) : Inn lo hi w' rs :=
 inn_block h fun i r hr => hb.block _ (h.1 i r hr |>.1 |> owni_lt).2 (fun e => hx i r hr (by simpa using e))
theorem inn_mono {lo hi hi' : Nat} {w : World} {rs : List Rw} (h : Inn lo hi w rs) (hh : hi ≤ hi') : Inn lo hi' w rs :=
 ⟨fun i r hr => ⟨(h.1 i r hr).1, Nat.lt_of_lt_of_le (h.1 i r hr).2 hh⟩, h.2⟩
theorem inn_out {lo hi lo' G cap n : Nat} {w w' : World} {rs : List Rw} {vs : List Value} (h : Inn lo hi w rs) (ho : Out lo' w G cap n vs) (hb : w.grownBy w' (some G)) : Inn lo hi w' rs :=
 inn_grown h hb fun i r hr => out_ne ho (h.1 i r hr).1
theorem inn_push {lo hi b g cap : Nat} {w : World} {rs : List Rw} {xs : List Int} (h : Inn lo hi w rs) (o : OwnI lo w g cap xs) (hg : hi ≤ g) (hg2 : g < b) : Inn lo b w (rs ++ [⟨g, cap, xs⟩]) := by
 refine ⟨fun i r a => ?_, fun i j r s a hs e => ?_⟩
 ·by_cases b : i < rs.length
  ·rw [List.getElem?_append_left b] at a;have := h.1 i r a;exact ⟨this.1, by omega⟩
  ·rw [List.getElem?_append_right (by omega)] at a;by_cases f : i - rs.length = 0
   ·rw [f] at a; simp at a; subst a; exact ⟨o, hg2⟩
   ·rw [List.getElem?_eq_none (by simp; omega)] at a; cases a
 ·have c : ∀ (i : Nat) (r : Rw), (rs ++ [(⟨g, cap, xs⟩ : Rw)])[i]? = some r → (rs[i]? = some r ∧ i < rs.length) ∨ (i = rs.length ∧ r = ⟨g, cap, xs⟩) := by
    intro i r a;by_cases b : i < rs.length
    ·rw [List.getElem?_append_left b] at a;exact .inl ⟨a, b⟩
    ·rw [List.getElem?_append_right (by omega)] at a;by_cases f : i - rs.length = 0
     ·rw [f] at a; simp at a; exact .inr ⟨by omega, a.symm⟩
     ·rw [List.getElem?_eq_none (by simp; omega)] at a; cases a
  rcases c i r a with ⟨k, a2⟩ | ⟨k, rfl⟩ <;> rcases c j s hs with ⟨d, b2⟩ | ⟨d, rfl⟩
  ·exact h.2 i j r s k d e
  ·have := (h.1 i r k).2; simp at e; omega
  ·have := (h.1 j s d).2; simp at e; omega
  ·omega
theorem readsM_below {w w' : World} {a : Option Addr} {xss : List (List Int)} (h : ReadsM w a xss) (hb : Bl w w') : ReadsM w' a xss := by
 rcases h with h | ⟨b, c, l, i⟩
 ·exact .inl h
 ·refine .inr ⟨b, c, l, fun j xs hx => ?_⟩;obtain ⟨f, g, d, k⟩ := i j xs hx;exact ⟨f, g, (hb.cell (World.block_lt_of_cell? w ⟨b, c + j, none⟩ d)).trans d, reads_below k hb⟩
theorem readsM_at {w : World} {a : Option Addr} {xss : List (List Int)} (h : ReadsM w a xss) {j : Nat} {xs : List Int} (hx : xss[j]? = some xs) :
    ∃ b c d f, a = some ⟨b, c, none⟩ ∧ w.cell? ⟨b, c + j, none⟩ = some (sL d xs.length f) ∧ Reads w d xs := by
 rcases h with rfl | ⟨b, c, l, i⟩
 ·simp at hx
 ·obtain ⟨d, f, g, k⟩ := i j xs hx;exact ⟨b, c, d, f, l, g, k⟩
theorem get_of_lt {α : Type} {l : List α} {j : Nat} (h : j < l.length) : ∃ x, l[j]? = some x := ⟨_, List.getElem?_eq_getElem h⟩
theorem opens_i64 : Opens Tryz.prog 2 intR := opens_int Tryz.underlying2
theorem opens_ints : Opens Tryz.prog 28 intsR := opens_slice Tryz.underlying28 (by kernel_rfl) Nat.zero_lt_one opens_i64
abbrev rowsR : Rep (List (List Int)) := slR 28 intsR
abbrev rowsM : Mk (List (List Int)) := slM intsM
theorem opens_rows : Opens Tryz.prog 24 rowsR := opens_slice Tryz.underlying24 (by kernel_rfl) Nat.zero_lt_one opens_ints
theorem readsM_of {w : World} {a : Option Addr} {xss : List (List Int)} (h : SlRd intsR w a xss) : ReadsM w a xss := by
 rcases h with h | ⟨b, f, g, rfl, o, p⟩
 ·exact .inl h
 ·refine .inr ⟨b, f, rfl, fun j xs hx => ?_⟩;obtain ⟨b', k, c, m, ⟨l, n, rfl, _, _, i⟩, d⟩ := slrd_at (.inr ⟨b, f, g, rfl, o, p⟩) hx;cases m;have := d 0 _ rfl;rw [show j * intsR.size + 0 = j from Nat.mul_one j] at this;exact ⟨l, n, this, reads_of i⟩
open Go.RowKit
structure Cls (C : World → Prop) where
 w : World
 h : C w
theorem region_class {P : Program} {id : Nat} {Q : Exit → Act → World → Prop} {a : Act} {w : World} {l : List Oper} (C : World → Prop) (hm : P.follows .mixedOrders = true) (hB : Region.lexB .any l.toArray = true) (h0 : C w.drew)
    (h : Nonempty (Cls C) → wpQuiet P l.toArray (fun w' => ∃ n : Cls C, w' = n.w) (fun a' => ∀ w', C w' → Q .normal a' w') l a) : (Code.region id l.toArray true).wp P Q a w :=
 wp_region_quiet (C := fun w' => ∃ n : Cls C, w' = n.w) hm hB ⟨⟨w.drew, h0⟩, rfl⟩ (by
  have := h ⟨⟨w.drew, h0⟩⟩;have e : (fun a' => ∀ w', C w' → Q .normal a' w') = (fun a' => ∀ w', (∃ n : Cls C, w' = n.w) → Q .normal a' w') := by
   funext a'
   exact propext ⟨fun h w' ⟨n, e⟩ => h w' (by rw [e]; exact n.h), fun h w' hc => h w' ⟨⟨w', hc⟩, rfl⟩⟩
  rw [e] at this
  simpa using this)
section
variable {P : Program} {C : World → Prop} {r : Nat}
end
theorem calls_class {P : Program} {f : FuncId} {args : Array Value} {C : World → Prop} {n : Cls C} {v : Value} {R : World → Prop} (h : Calls P f args n.w fun e w' => e = .returned v ∧ R w') (hs : ∀ w', C n.w → R w' → C w') :
    Calls P f args n.w fun e w'' => e = .returned v ∧ ∃ m : Cls C, w'' = m.w := h.mono fun _ w' ⟨he, hr⟩ => ⟨he, ⟨w', hs w' n.h hr⟩, rfl⟩
def setB (s : Int) : Bool := decide (0 ≤ s ∧ s ≤ 255)
def itemB (i : Int) : Bool := decide (0 ≤ i ∧ i ≤ 7)
theorem ok_any (s : Int) (w : World) :
    Calls Tryz.prog 156 #[nI s] w fun e w' => e = .returned (.bool (setB s)) ∧ w' = w := by
 by_cases b : 0 ≤ s
 ·by_cases a : s ≤ 255
  all_goals
   go_enter Tryz.func156, Tryz.ntmps156;go_wp2;go_ret
   exact ⟨by simp [setB, b, a], rfl⟩
 ·go_enter Tryz.func156, Tryz.ntmps156;go_wp2;go_ret
  exact ⟨by simp only [setB]; congr 2; simp; omega, rfl⟩
theorem number_any (s : Int) (w : World) :
    Calls Tryz.prog 157 #[nI s] w fun e w' => e = .returned (.bool (itemB s)) ∧ w' = w := by
 by_cases b : 0 ≤ s
 ·by_cases a : s ≤ 7
  all_goals
   go_enter Tryz.func157, Tryz.ntmps157;go_wp2;go_ret
   exact ⟨by simp [itemB, b, a], rfl⟩
 ·go_enter Tryz.func157, Tryz.ntmps157;go_wp2;go_ret
  exact ⟨by simp only [itemB]; congr 2; simp; omega, rfl⟩
theorem l1Set_any (s : Int) (w : World) :
    Calls Tryz.prog 136 #[nI s] w fun e a => e = .returned (.bool (setB s)) ∧ a = w := by
 go_enter Tryz.func136, Tryz.ntmps136;go_wp2_with (go_at_call 58; refine (l1In_any _ _ _ _).mono ?_; rintro e a ⟨rfl, rfl⟩)
 go_ret
 exact ⟨rfl, rfl⟩
theorem l1Item_any (s : Int) (w : World) :
    Calls Tryz.prog 137 #[nI s] w fun e a => e = .returned (.bool (itemB s)) ∧ a = w := by
 go_enter Tryz.func137, Tryz.ntmps137;go_wp2_with (go_at_call 58; refine (l1In_any _ _ _ _).mono ?_; rintro e a ⟨rfl, rfl⟩)
 go_ret
 exact ⟨rfl, rfl⟩
theorem pow_small (i : Int) (h1 : 0 ≤ i) (h2 : i ≤ 7) : wrap64 (2 ^ i.toNat) = 2 ^ i.toNat := by
 have h : i = 0 ∨ i = 1 ∨ i = 2 ∨ i = 3 ∨ i = 4 ∨ i = 5 ∨ i = 6 ∨ i = 7 := by omega
 rcases h with rfl | rfl | rfl | rfl | rfl | rfl | rfl | rfl <;> decide +kernel
theorem bitOf_any (i : Int) (w : World) (h1 : 0 ≤ i) (h2 : i ≤ 7) :
    Calls Tryz.prog 158 #[nI i] w fun e w' => e = .returned (nI (2 ^ i.toNat)) ∧ w' = w := by
 go_enter Tryz.func158, Tryz.ntmps158;go_wp2;go_ret
 exact ⟨ret_int (pow_small i h1 h2), rfl⟩
def memB (s i : Int) : Bool := (s / 2 ^ i.toNat) % 2 == 1
def inB (s i : Int) : Bool := setB s && itemB i && memB s i
theorem and_fin : ∀ s : Fin 256, ∀ i : Fin 8, (bits BinOp.and IntKind.i64 (s.val : Int) (2 ^ (i.val : Int).toNat) != 0) = memB (s.val : Int) (i.val : Int) := by
 decide +kernel
theorem and_mem (s i : Int) (h7 : 0 ≤ s) (h8 : s ≤ 255) (h5 : 0 ≤ i) (h6 : i ≤ 7) :
    (bits BinOp.and IntKind.i64 s (2 ^ i.toNat) != 0) = memB s i := by
 have := and_fin ⟨s.toNat, by omega⟩ ⟨i.toNat, by omega⟩;simpa [Int.toNat_of_nonneg h7, Int.toNat_of_nonneg h5] using this
theorem tmod_mem (s i : Int) (h7 : 0 ≤ s) : ((s / 2 ^ i.toNat).tmod 2 == 1) = memB s i := by
 unfold memB;rw [Int.tmod_eq_emod_of_nonneg (Int.ediv_nonneg h7 (Int.pow_nonneg (by decide)))]
theorem setB_bd {s : Int} (h : setB s = true) : 0 ≤ s ∧ s ≤ 255 := by simpa [setB] using h
theorem itemB_bd {i : Int} (h : itemB i = true) : 0 ≤ i ∧ i ≤ 7 := by simpa [itemB] using h
theorem has_any (s i : Int) (w : World) :
    Calls Tryz.prog 135 #[nI s, nI i] w fun e a => e = .returned (.bool (inB s i)) ∧ a = w := by
 cases b : setB s
 ·have H : Hid (inB s i = false) := by unfold Hid; simp [inB, b]
  go_enter Tryz.func135, Tryz.ntmps135;go_wp2_with (go_at_call 156; refine (ok_any _ _).mono ?_; rintro e a ⟨rfl, rfl⟩)
  go_ret
  exact ⟨ret_bool H.out.symm, rfl⟩
 ·cases c : itemB i
  ·have H : Hid (inB s i = false) := by unfold Hid; simp [inB, c]
   go_enter Tryz.func135, Tryz.ntmps135
   go_wp2_with (first
    | (go_at_call 156; refine (ok_any _ _).mono ?_; rintro e a ⟨rfl, rfl⟩)
    | (go_at_call 157; refine (number_any _ _).mono ?_; rintro e a ⟨rfl, rfl⟩))
   go_ret
   exact ⟨ret_bool H.out.symm, rfl⟩
  ·obtain ⟨d, f⟩ := itemB_bd c;obtain ⟨g, j⟩ := setB_bd b;have H : Hid (inB s i = (bits BinOp.and IntKind.i64 s (2 ^ i.toNat) != 0)) := by unfold Hid; rw [and_mem s i g j d f]; simp [inB, b, c]
   go_enter Tryz.func135, Tryz.ntmps135
   go_wp2_with (first
    | (go_at_call 156; refine (ok_any _ _).mono ?_; rintro e a ⟨rfl, rfl⟩)
    | (go_at_call 157; refine (number_any _ _).mono ?_; rintro e a ⟨rfl, rfl⟩)
    | (go_at_call 158; refine (bitOf_any _ _ d f).mono ?_; rintro e a ⟨rfl, rfl⟩))
   go_ret
   exact ⟨ret_bool H.out.symm, rfl⟩
theorem specIn_any (s i : Int) (w : World) :
    Calls Tryz.prog 111 #[nI s, nI i] w fun e a => e = .returned (.bool (inB s i)) ∧ a = w := by
 cases b : setB s
 ·have H : Hid (inB s i = false) := by unfold Hid; simp [inB, b]
  go_enter Tryz.func111, Tryz.ntmps111;go_wp2_with (go_at_call 136; refine (l1Set_any _ _).mono ?_; rintro e a ⟨rfl, rfl⟩)
  go_ret
  exact ⟨ret_bool H.out.symm, rfl⟩
 ·cases c : itemB i
  ·have H : Hid (inB s i = false) := by unfold Hid; simp [inB, c]
   go_enter Tryz.func111, Tryz.ntmps111
   go_wp2_with (first
    | (go_at_call 136; refine (l1Set_any _ _).mono ?_; rintro e a ⟨rfl, rfl⟩)
    | (go_at_call 137; refine (l1Item_any _ _).mono ?_; rintro e a ⟨rfl, rfl⟩))
   go_ret
   exact ⟨ret_bool H.out.symm, rfl⟩
  ·obtain ⟨h5, h6⟩ := itemB_bd c;obtain ⟨d, h8⟩ := setB_bd b;have H : Hid (inB s i = ((s / 2 ^ i.toNat).tmod 2 == 1)) := by unfold Hid; rw [tmod_mem s i d]; simp [inB, b, c]
   go_enter Tryz.func111, Tryz.ntmps111
   go_wp2_with (first
    | (go_at_call 136; refine (l1Set_any _ _).mono ?_; rintro e a ⟨rfl, rfl⟩)
    | (go_at_call 137; refine (l1Item_any _ _).mono ?_; rintro e a ⟨rfl, rfl⟩))
   go_ret
   exact ⟨ret_bool H.out.symm, rfl⟩
theorem implIn_any (s i : Int) (w : World) :
    Calls Tryz.prog 180 #[nI s, nI i] w fun e a => e = .returned (.bool (inB s i)) ∧ a = w := by
 go_enter Tryz.func180, Tryz.ntmps180;go_wp2_with (go_at_call 135; refine (has_any _ _ _).mono ?_; rintro e a ⟨rfl, rfl⟩)
 go_ret
 exact ⟨rfl, rfl⟩
end Go.Proofs.YtmaopldahnejdaaGreatDoor
