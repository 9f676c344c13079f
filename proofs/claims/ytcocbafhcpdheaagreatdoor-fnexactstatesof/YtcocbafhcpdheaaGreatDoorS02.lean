import Derived.Test.YtcocbafhcpdheaaGreatDoorS00Box
import Derived.Test.YtcocbafhcpdheaaGreatDoorS01
import Derived.Deep.OwnRows
import Derived.LoopN
namespace Go.Proofs.YtcocbafhcpdheaaGreatDoor
set_option maxHeartbeats 1000000
open Go.ChangeShapes Go.WideShapes Go.ChangeAt Go.RowKit
def betw (a b c : Int) : Bool := decide (b ≤ a ∧ a ≤ c)
theorem ret_int {k : IntKind} {a b : Int} (h : a = b) : Ending.returned (.int k a) = .returned (.int k b) := by rw [h]
theorem ret_bool {a b : Bool} (h : a = b) : Ending.returned (.bool a) = .returned (.bool b) := by rw [h]
theorem l1In_any (a b c : Int) (w : World) :
    Calls Tryz.prog 98 #[.int .i64 a, .int .i64 b, .int .i64 c] w fun e w' => e = .returned (.bool (betw a b c)) ∧ w' = w := by
 by_cases d : b ≤ a
 ·by_cases f : a ≤ c
  all_goals
   go_enter Tryz.func98, Tryz.ntmps98;go_wp2;go_ret
   exact ⟨by simp [betw, d, f], rfl⟩
 ·go_enter Tryz.func98, Tryz.ntmps98;go_wp2;go_ret
  exact ⟨by simp only [betw]; congr 2; simp; omega, rfl⟩
theorem between_any (a b c : Int) (w : World) :
    Calls Tryz.prog 76 #[.int .i64 a, .int .i64 b, .int .i64 c] w fun e w' => e = .returned (.bool (betw a b c)) ∧ w' = w := by
 by_cases d : b ≤ a
 ·by_cases f : a ≤ c
  all_goals
   go_enter Tryz.func76, Tryz.ntmps76;go_wp2;go_ret
   exact ⟨by simp [betw, d, f], rfl⟩
 ·go_enter Tryz.func76, Tryz.ntmps76;go_wp2;go_ret
  exact ⟨by simp only [betw]; congr 2; simp; omega, rfl⟩
theorem below_step {w w1 w2 : World} (h : Below w.heap.size w w1) (h2 : Below w1.heap.size w1 w2) : Below w.heap.size w w2 := h.trans (h2.mono h.size)
theorem Tryz.infoI : (Tryz.prog.info? 2).map (fun i => (i.zero, i.size, i.bytes)) = some (some (.int .i64 0), 1, 8) := by kernel_rfl
def OwnI (B : Nat) (w : World) (g cap : Nat) (zs : List Int) : Prop :=
 w.ownsRow B 2 1 (.slice (some ⟨g, 0, none⟩) zs.length cap) zs.length (zs.map (Value.int .i64))
def Made (w w' : World) (v : Value) (zs : List Int) : Prop :=
 ∃ g cap, v = .slice (some ⟨g, 0, none⟩) zs.length cap ∧ w.heap.size ≤ g ∧ g < w'.heap.size ∧ OwnI w.heap.size w' g cap zs ∧ Below w.heap.size w w'
theorem reads_below {w w' : World} {a : Option Addr} {xs : List Int} (h : Reads w a xs) (hb : Below w.heap.size w w') : Reads w' a xs := by
 rcases h with h | ⟨b, c, f, d⟩
 ·exact .inl h
 ·exact .inr ⟨b, c, f, fun j hj => (hb.cell (World.block_lt_of_cell? w ⟨b, c + j, none⟩ (d j hj))).trans (d j hj)⟩
theorem owni_below {B g cap D : Nat} {w w' : World} {zs : List Int} (h : OwnI B w g cap zs) (hb : Below D w w') (hg : g < D) : OwnI B w' g cap zs := own_below h hb hg
theorem owni_lt {B g cap : Nat} {w : World} {zs : List Int} (h : OwnI B w g cap zs) : B ≤ g ∧ g < w.heap.size := h.lt g rfl
theorem owni_lit (w : World) (cs : Array Value) (zs : List Int) (h : cs.toList = zs.map (Value.int .i64)) (hm : zs.length ≤ maxLen) : OwnI w.heap.size (w.alloc (.cells cs 2)) w.heap.size zs.length zs := by
 have a : cs.size = zs.length := by rw [← Array.length_toList, h]; simp
 have := World.ownsRow_lit (base := w.heap.size) (e := 2) (size := 1) w cs zs.length (Nat.le_refl _) hm (by simpa using a);rw [h] at this;exact this
theorem made_lit (w : World) (cs : Array Value) (zs : List Int) (h : cs.toList = zs.map (Value.int .i64)) (hm : zs.length ≤ maxLen) : Made w (w.alloc (.cells cs 2)) (.slice (some ⟨w.heap.size, 0, none⟩) zs.length zs.length) zs :=
 ⟨_, _, rfl, Nat.le_refl _, by simp, owni_lit w cs zs h hm, (Below.refl _ _).alloc (Nat.le_refl _) _⟩
theorem made_step {w w1 w2 : World} {v : Value} {zs : List Int} (h : Below w.heap.size w w1) (h2 : Made w1 w2 v zs) : Made w w2 v zs := by
 obtain ⟨g, d, rfl, k, i, f, j⟩ := h2;refine ⟨g, d, rfl, Nat.le_trans h.size k, i, ?_, below_step h j⟩;refine ⟨f.1, ?_⟩;rcases f.2 with c | ⟨l, a, b, c, m, rest⟩
 ·exact .inl c
 ·exact .inr ⟨l, a, b, c, Nat.le_trans h.size m, rest⟩
theorem take_step (j : Nat) (xs : List Int) (ys : List Value) (h : j < xs.length) (h2 : j < ys.length) :
    ((xs.take j).map (Value.int .i64) ++ ys.drop j).set j (.int .i64 xs[j]) = (xs.take (j + 1)).map (Value.int .i64) ++ ys.drop (j + 1) := by
 have a : ((xs.take j).map (Value.int .i64)).length = j := by simp; omega
 rw [List.set_append_right _ _ (by omega), a, Nat.sub_self, List.drop_eq_getElem_cons h2, List.take_add_one, List.getElem?_eq_getElem h];simp only [List.set_cons_zero, List.map_append, List.map_cons, List.map_nil, List.append_assoc, List.cons_append, List.nil_append, Option.toList_some]
theorem toInts_any (a : Option Addr) (xs : List Int) (cap : Nat) (w : World) (h : Reads w a xs) (hm : xs.length ≤ 1048576) :
    Calls Tryz.prog 112 #[.slice a xs.length cap] w fun e w' => ∃ v, e = .returned v ∧ Made w w' v xs := by
 obtain ⟨i0, hi, B, s, A⟩ := info_parts Tryz.infoI;have C := Go.run_make_row' (P := Tryz.prog) 37 2 (.int .i64 0) 8 Tryz.underlying37 Tryz.infoI rfl .i64 .i64 xs.length (by omega) (by omega);go_enter Tryz.func112, Tryz.ntmps112;go_wp2;go_loopw [4] (fun i wr => ∃ k : Nat, k ≤ xs.length ∧ i = .int .i64 k ∧ wr.ownsRow w.heap.size 2 1 (.slice (some ⟨w.heap.size, 0, none⟩) xs.length xs.length) xs.length ((xs.take k).map (Value.int .i64) ++ (madeCells #[.int .i64 0] xs.length).toList.drop k) ∧ Below w.heap.size w wr)
  (fun i _ => xs.length - (intOf i).toNat)
 case atStart => exact ⟨0, Nat.zero_le _, rfl, by simpa using World.ownsRow_lit (base := w.heap.size) (e := 2) (size := 1) w (madeCells #[.int .i64 0] xs.length) xs.length (Nat.le_refl _) (by unfold maxLen; omega) (by simp [size_madeCells]), (Below.refl _ _).alloc (Nat.le_refl _) _⟩
 case round =>
  obtain ⟨k, hk, rfl, d, f⟩ := hrel;by_cases c : k < xs.length
  ·rcases h with rfl | ⟨b, g, rfl, o⟩
   ·simp at c
   have p : (k : Int) < (xs.length : Int) := by omega
   have n := o k c;have g1 := (f.cell (World.block_lt_of_cell? w ⟨b, g + k, none⟩ n)).trans n;have r := d.frozenAt k;obtain ⟨m, y⟩ : ∃ m, wr.cell? ⟨w.heap.size, k, none⟩ = some m := by
    rw [d.cellAt k (by omega)];exact ⟨_, List.getElem?_eq_getElem (by have := d.1; omega)⟩
   have R := d.stored k (.int .i64 xs[k]);rw [take_step k xs _ c (by simp [size_madeCells]; omega)] at R;have q : Hid _ := R;clear R o;go_wp2;go_roundw
   case rel => exact ⟨k + 1, by omega, by go_num, q.out.1, f.grown q.out.2 f.size (by intro j z; cases z; exact Nat.le_refl _)⟩
   case measure => simp [intOf]; omega
  ·have l : k = xs.length := by omega
   subst l;go_wp2;go_ret
   refine ⟨_, rfl, w.heap.size, xs.length, rfl, Nat.le_refl _, (d.lt _ rfl).2, ?_, f⟩;rw [List.take_length, List.drop_of_length_le (by simp [size_madeCells]), List.append_nil] at d;exact d
theorem made_app {w w1 : World} {v' : Value} {o : Obj} {xs : List Int} (h : w1.ownsRow w.heap.size 2 1 v' xs.length (xs.map (Value.int .i64)))
    (hg : (w.alloc o).grownBy w1 (Value.slice (some ⟨w.heap.size, 0, none⟩) 0 0).ownBlock) (hv : v' ≠ .slice none 0 0) : Made w w1 v' xs := by
 rcases h.2 with ⟨rfl, _⟩ | ⟨g, a, c, rfl, d, b, rest⟩
 ·exact absurd rfl hv
 refine ⟨g, a, rfl, d, (ltH b), h, ((Below.refl _ _).alloc (Nat.le_refl _) _).grown hg (by simp) ?_⟩;intro k f;simp [Value.ownBlock] at f
 omega
set_option linter.unusedVariables false
section
variable {α β : Type}
structure Mk (α : Type) where
 cE : α → Nat
 mE : Int → α → α
 cV : α → Nat
 mV : Int → α → α
 bk : α → Nat
def intM : Mk Int := ⟨fun _ => 1, fun k _ => k, fun _ => 0, fun _ x => x, fun _ => 0⟩
def boolM : Mk Bool := ⟨fun _ => 1, fun k _ => k % 3 == 0, fun _ => 0, fun _ b => b, fun _ => 0⟩
def prodM (M : Mk α) (N : Mk β) : Mk (α × β) :=
 ⟨fun a => M.cE a.1 + N.cE a.2, fun k a => (M.mE k a.1, N.mE (k + M.cE a.1) a.2), fun a => M.cV a.1 + N.cV a.2, fun k a => (M.mV k a.1, N.mV (k + M.cV a.1) a.2), fun a => M.bk a.1 + N.bk a.2⟩
def sumbk (M : Mk α) (xs : List α) : Nat := (xs.map M.bk).sum
def slcnt (M : Mk α) (xs : List α) : Nat := (xs.map M.cE).sum
def slmark (M : Mk α) : Int → List α → List α
 | _, [] => []
 | k, x :: xs => M.mE k x :: slmark M (k + M.cE x) xs
def slM (M : Mk α) : Mk (List α) := ⟨slcnt M, slmark M, slcnt M, slmark M, fun xs => xs.length + sumbk M xs⟩
theorem slmark_len (M : Mk α) : ∀ (k : Int) (xs : List α), (slmark M k xs).length = xs.length
 | _, [] => rfl
 | k, x :: xs => by simp [slmark, slmark_len M _ xs]
theorem slcnt_step {M : Mk α} {xs : List α} {j : Nat} {x : α} (h : xs[j]? = some x) : slcnt M (xs.take (j + 1)) = slcnt M (xs.take j) + M.cE x := by
 simp [slcnt, List.take_add_one, h]
theorem slcnt_take (M : Mk α) (xs : List α) (j : Nat) : slcnt M (xs.take j) ≤ slcnt M xs := by
 have : slcnt M xs = slcnt M (xs.take j) + slcnt M (xs.drop j) := by
  conv => lhs; rw [← List.take_append_drop j xs]
  unfold slcnt;rw [List.map_append, List.sum_append]
 omega
theorem slcnt_get {M : Mk α} {xs : List α} {j : Nat} {x : α} (h : xs[j]? = some x) : slcnt M (xs.take j) + M.cE x ≤ slcnt M xs := by
 have h1 := slcnt_step (M := M) h;have h2 := slcnt_take M xs (j + 1);omega
theorem slmark_at {M : Mk α} : ∀ {xs : List α} {k : Int} {j : Nat} {x : α}, xs[j]? = some x → (slmark M k xs)[j]? = some (M.mE (k + slcnt M (xs.take j)) x)
 | [], k, j, x, h => by simp at h
 | y :: ys, k, 0, x, h => by
  simp at h
  subst h;simp [slmark, slcnt]
 | y :: ys, k, j + 1, x, h => by
  simp at h
  have := slmark_at (M := M) (k := k + M.cE y) h;simp only [slmark, List.getElem?_cons_succ, this, List.take_succ_cons, slcnt, List.map_cons, List.sum_cons];congr 2
  omega
theorem sumbk_step {M : Mk α} {xs : List α} {j : Nat} {x : α} (h : xs[j]? = some x) : sumbk M (xs.take (j + 1)) = sumbk M (xs.take j) + M.bk x := by
 simp [sumbk, List.take_add_one, h]
theorem sumbk_take (M : Mk α) (xs : List α) (j : Nat) : sumbk M (xs.take j) ≤ sumbk M xs := by
 have : sumbk M xs = sumbk M (xs.take j) + sumbk M (xs.drop j) := by
  conv => lhs; rw [← List.take_append_drop j xs]
  unfold sumbk;rw [List.map_append, List.sum_append]
 omega
theorem sumbk_get {M : Mk α} {xs : List α} {j : Nat} {x : α} (h : xs[j]? = some x) : sumbk M (xs.take j) + M.bk x ≤ sumbk M xs := by
 have h1 := sumbk_step (M := M) h;have h2 := sumbk_take M xs (j + 1);omega
def Bd (M : Mk α) (K : Nat) : Prop := ∀ x, M.cE x ≤ K * (1 + M.bk x)
theorem bd_int : Bd intM 1 := fun _ => by simp [intM]
theorem bd_bool : Bd boolM 1 := fun _ => by simp [boolM]
theorem bd_prod {M : Mk α} {N : Mk β} {K L : Nat} (h : Bd M K) (k : Bd N L) : Bd (prodM M N) (K + L) := fun x => by
 have h1 := h x.1;have h2 := k x.2;show M.cE x.1 + N.cE x.2 ≤ (K + L) * (1 + (M.bk x.1 + N.bk x.2))
 have e1 : K * (1 + M.bk x.1) ≤ K * (1 + (M.bk x.1 + N.bk x.2)) := Nat.mul_le_mul_left _ (by omega);have e2 : L * (1 + N.bk x.2) ≤ L * (1 + (M.bk x.1 + N.bk x.2)) := Nat.mul_le_mul_left _ (by omega);rw [Nat.add_mul];omega
theorem slcnt_bd {M : Mk α} {K : Nat} (h : Bd M K) (xs : List α) : slcnt M xs ≤ K * (slM M).bk xs := by
 induction xs with
 | nil => exact Nat.zero_le _
 | cons x xs ih =>
  have h1 := h x;have e : (slM M).bk (x :: xs) = (1 + M.bk x) + (slM M).bk xs := by
   simp [slM, sumbk]
   omega
  rw [e, Nat.mul_add];simp only [slcnt, List.map_cons, List.sum_cons] at ih ⊢;omega
theorem bd_sl {M : Mk α} {K : Nat} (h : Bd M K) : Bd (slM M) K := fun xs => by
 have a := slcnt_bd h xs;have b : K * (slM M).bk xs ≤ K * (1 + (slM M).bk xs) := Nat.mul_le_mul_left _ (by omega);exact Nat.le_trans a b
def pmark (M : Mk α) (k : Int) (xs : List α) (j : Nat) : List α := (slmark M k xs).take j ++ xs.drop j
theorem pmark_zero (M : Mk α) (k : Int) (xs : List α) : pmark M k xs 0 = xs := by simp [pmark]
theorem pmark_all (M : Mk α) (k : Int) (xs : List α) : pmark M k xs xs.length = slmark M k xs := by
 simp [pmark, List.take_of_length_le (Nat.le_of_eq (slmark_len M k xs))]
theorem pmark_at {M : Mk α} {k : Int} {xs : List α} {j : Nat} {x : α} (h : xs[j]? = some x) : (pmark M k xs j)[j]? = some x := by
 have hj := (List.getElem?_eq_some_iff.1 h).1;have a : ((slmark M k xs).take j).length = j := by simp [slmark_len]; omega
 rw [pmark, List.getElem?_append_right (by omega), a, Nat.sub_self, List.getElem?_drop];exact h
theorem pmark_step {M : Mk α} {k : Int} {xs : List α} {j : Nat} {x : α} (h : xs[j]? = some x) : (pmark M k xs j).set j (M.mE (k + slcnt M (xs.take j)) x) = pmark M k xs (j + 1) := by
 have c := (List.getElem?_eq_some_iff.1 h).1;have b : ((slmark M k xs).take j).length = j := by simp [slmark_len]; omega
 have a := slmark_at (M := M) (k := k) h;rw [pmark, pmark, List.set_append_right _ _ (by omega), b, Nat.sub_self, List.drop_eq_getElem_cons c, List.set_cons_zero, List.take_add_one, a];simp
abbrev intsR : Rep (List Int) := slR 2 intR
abbrev intsM : Mk (List Int) := slM intM
theorem lrd_ints {w : World} : ∀ {rows : List Value} {xs : List Int}, lrd intR w rows xs ↔ rows = xs.map (Value.int .i64) ∧ ∀ x ∈ xs, In64 x
 | rows, [] => by simp [lrd]
 | rows, x :: xs => by
  constructor
  ·rintro ⟨c1, c2, rfl, ⟨rfl, c⟩, a⟩;obtain ⟨rfl, b⟩ := lrd_ints.1 a;exact ⟨rfl, by simpa using ⟨c, b⟩⟩
  ·rintro ⟨rfl, h⟩;simp at h
   exact ⟨[.int .i64 x], xs.map (Value.int .i64), rfl, ⟨rfl, h.1⟩, lrd_ints.2 ⟨rfl, h.2⟩⟩
theorem lown_ints {w : World} {S : Foot} : ∀ {rows : List Value} {xs : List Int}, lrd intR w rows xs → lown intR w S rows xs
 | rows, [], h => h
 | rows, x :: xs, ⟨c1, c2, e, h1, h2⟩ => ⟨c1, c2, fun _ => False, S, e, h1, lown_ints h2, fun _ h => h.elim, Sub.refl _, fun _ h _ => h⟩
theorem reads_of {w : World} {a : Option Addr} {xs : List Int} (h : SlRd intR w a xs) : Reads w a xs := by
 rcases h with h | ⟨b, c, d, rfl, g, f⟩
 ·exact .inl h
 ·obtain ⟨rfl, _⟩ := lrd_ints.1 g;refine .inr ⟨b, c, rfl, fun j hj => f j _ ?_⟩;simp [List.getD_eq_getElem?_getD, List.getElem?_eq_getElem hj]
theorem in64_of {w : World} {a : Option Addr} {xs : List Int} (h : SlRd intR w a xs) : ∀ x ∈ xs, In64 x := by
 rcases h with rfl | ⟨b, f, c, rfl, d, h2⟩
 ·simp
 ·exact (lrd_ints.1 d).2
theorem madeR_ints {w w' : World} {v : Value} {zs : List Int} (h : Made w w' v zs) (h64 : ∀ x ∈ zs, In64 x) : MadeR intsR w w' [v] zs := by
 obtain ⟨g, f, rfl, d, b, c, a⟩ := h;refine ⟨⟨_, zs.map (Value.int .i64), fun _ => False, rfl, row_base c (fun _ _ => Nat.zero_le _), fun g' hg => ?_, fun _ h => h.elim, lown_ints (lrd_ints.2 ⟨rfl, h64⟩)⟩, a⟩;simp [Value.ownBlock] at hg
 subst hg;exact ⟨⟨d, b⟩, fun h => h⟩
theorem owni_of {S : Foot} {w : World} {v : Value} {zs : List Int} (h : intsR.own w S [v] zs) : (v = .slice none 0 0 ∧ zs = []) ∨ ∃ g a, v = .slice (some ⟨g, 0, none⟩) zs.length a ∧ S g ∧ OwnI 0 w g a zs := by
 obtain ⟨v', c, S', b, d, j, hs, k⟩ := h;simp only [List.cons.injEq, and_true] at b;subst b;obtain ⟨rfl, _⟩ := lrd_ints.1 (lown_rd k);rcases d.2 with ⟨rfl, f⟩ | ⟨g, a, i, rfl, rest⟩
 ·exact .inl ⟨rfl, List.eq_nil_of_length_eq_zero f⟩
 ·exact .inr ⟨g, a, rfl, (j g rfl).1, d⟩
theorem own_of {S : Foot} {B : Nat} {w : World} {g cap : Nat} {zs : List Int} (h : OwnI B w g cap zs) (hS : S g) (h64 : ∀ x ∈ zs, In64 x) : intsR.own w S [.slice (some ⟨g, 0, none⟩) zs.length cap] zs := by
 refine ⟨_, zs.map (Value.int .i64), fun _ => False, rfl, row_base h (fun _ _ => Nat.zero_le _), fun g' hg => ?_, fun _ h => h.elim, lown_ints (lrd_ints.2 ⟨rfl, h64⟩)⟩;simp [Value.ownBlock] at hg
 subst hg;exact ⟨hS, fun h => h⟩
theorem slcnt_ints (xs : List Int) : slcnt intM xs = xs.length := by
 induction xs with
 | nil => rfl
 | cons x xs ih =>
  simp only [slcnt, List.map_cons, List.sum_cons, List.length_cons] at ih ⊢;rw [ih];simp [intM]
  omega
theorem slmark_ints : ∀ (k : Int) (xs : List Int), slmark intM k xs = seqs k xs.length
 | k, [] => rfl
 | k, x :: xs => by
  rw [slmark, slmark_ints];simp only [seqs, List.length_cons, List.range_succ_eq_map, List.map_cons, List.map_map, intM];congr 1
  ·simp
  ·apply List.map_congr_left
   intro a _;simp
   omega
end
def szI (n : Nat) (left : Int) : Int := if (n : Int) ≤ left then left - n else -1
theorem szI_yes {n : Nat} {left : Int} (h : (n : Int) ≤ left) : szI n left = left - n := by unfold szI; rw [if_pos h]
theorem szI_no {n : Nat} {left : Int} (h : ¬ (n : Int) ≤ left) : szI n left = -1 := by unfold szI; rw [if_neg h]
theorem szInt64S_rep (a : Option Addr) (xs : List Int) (cap : Nat) (left : Int) (w : World) (h0 : 0 ≤ left) (h1 : left ≤ 1048576) (hm : xs.length ≤ maxLen) :
    Calls Tryz.prog 106 #[.slice a xs.length cap, .int .i64 left] w fun e w' => e = .returned (.int .i64 (szI (intsM.bk xs) left)) ∧ w' = w := by
 have f : intsM.bk xs = xs.length := by
  show xs.length + sumbk intM xs = xs.length
  have : sumbk intM xs = 0 := by
   induction xs with
   | nil => rfl
   | cons x xs ih => simp only [sumbk, List.map_cons, List.sum_cons] at ih ⊢; rw [ih (by simp at hm; omega)]; rfl
  omega
 rw [f];have b : xs.length ≤ 9223372036854775807 := hm;clear hm f;generalize xs.length = n at b;by_cases d : (n : Int) ≤ left
 ·have c : ¬ (left - (n : Int) < 0) := by omega
  rw [szI_yes d];go_enter Tryz.func106, Tryz.ntmps106;go_wp2;go_ret
  exact ⟨rfl, rfl⟩
 ·have c : left - (n : Int) < 0 := by omega
  rw [szI_no d];go_enter Tryz.func106, Tryz.ntmps106;go_wp2;go_ret
  exact ⟨rfl, rfl⟩
theorem toInt64S_rep (a : Option Addr) (xs : List Int) (cap : Nat) (w : World) (h : SlRd intR w a xs) (hm : intsM.bk xs ≤ 1048576) :
    Calls Tryz.prog 112 #[.slice a xs.length cap] w fun e w' => ∃ v, e = .returned v ∧ MadeR intsR w w' [v] xs :=
 (toInts_any a xs cap w (reads_of h) (by have : intsM.bk xs = xs.length + sumbk intM xs := rfl; omega)).mono fun e w' ⟨v, h1, h2⟩ => ⟨v, h1, madeR_ints h2 (in64_of h)⟩
theorem eqInt64S_rep (a1 a2 : Option Addr) (xs : List Int) (c1 c2 : Nat) (w : World) (h1 : SlRd intR w a1 xs) (h2 : SlRd intR w a2 xs) (hm : intsM.bk xs ≤ 1152921504606846976) :
    Calls Tryz.prog 11 #[.slice a1 xs.length c1, .slice a2 xs.length c2] w fun e w' => e = .returned (.bool true) ∧ ∃ n, w' = w.drewN n :=
 eqInts_any a1 a2 xs c1 c2 w (reads_of h1) (reads_of h2) (by have : intsM.bk xs = xs.length + sumbk intM xs := rfl; omega)
theorem markInt64S_nil (k : Int) (w : World) :
    Calls Tryz.prog 14 #[.slice none 0 0, .int .i64 k] w fun e' w' => e' = .returned (.int .i64 k) ∧ w' = w := by
 go_enter Tryz.func14, Tryz.ntmps14;go_wp2;refine wp_loop_rounds 1 ?_;rw [rounds_succ];go_wp2;go_ret
 exact ⟨rfl, rfl⟩
theorem seqs_in64 {k : Int} {n : Nat} (h0 : 0 ≤ k) (h1 : k ≤ 1152921504606846976) (hm : n ≤ 1152921504606846976) : ∀ x ∈ seqs k n, In64 x := by
 intro x a;simp only [seqs, List.mem_map, List.mem_range] at a;obtain ⟨j, hj, rfl⟩ := a;constructor <;> omega
theorem markInt64S_rep (S : Foot) (v : Value) (k : Int) (xs : List Int) (w : World) (h0 : 0 ≤ k) (h1 : k ≤ 1152921504606846976) (hm : slcnt intM xs ≤ 1152921504606846976) (h : intsR.own w S [v] xs) :
    Calls Tryz.prog 14 #[v, .int .i64 k] w fun e' w' => e' = .returned (.int .i64 (k + slcnt intM xs)) ∧ intsR.own w' S [v] (slmark intM k xs) ∧ Chg S w w' := by
 rw [slcnt_ints] at hm ⊢;rw [slmark_ints];rcases owni_of h with ⟨rfl, rfl⟩ | ⟨g, cap, rfl, a, b⟩
 ·exact (markInt64S_nil k w).mono fun e w' ⟨e1, e2⟩ => ⟨by simpa using e1, by rw [e2]; exact h, by rw [e2]; exact Chg.refl _ _⟩
 ·refine (mark_any 0 _ g cap k xs.length _ w h0 (by omega) (by omega) b).mono fun e w' ⟨e1, e2, e3⟩ => ⟨e1, ?_, chg_grown e3 a⟩;have := own_of (S := S) (B := 0) (w := w') (g := g) (cap := cap) (zs := seqs k xs.length) (by unfold OwnI; rw [seqs_len]; exact e2) a (seqs_in64 h0 h1 hm);rwa [seqs_len] at this
theorem heldInt64S_rep (a : Option Addr) (cap : Nat) (k : Int) (xs : List Int) (w : World) (h0 : 0 ≤ k) (h1 : k ≤ 1152921504606846976) (hm : slcnt intM xs ≤ 1152921504606846976) (h : SlRd intR w a (slmark intM k xs)) :
    Calls Tryz.prog 15 #[.slice a xs.length cap, .int .i64 k] w fun e' w' => e' = .returned (.int .i64 (k + slcnt intM xs)) ∧ w' = w := by
 rw [slcnt_ints] at hm ⊢;rw [slmark_ints] at h;exact held_any a cap k xs.length w h0 (by omega) (by omega) (reads_of h)
section
variable {α β : Type}
theorem fill_below {e : TypeId} {R : Rep α} {w0 w : World} {n : Nat} {xs : List α} (h : Fill e R w0 w n xs) : Below w0.heap.size w0 w := by
 obtain ⟨_, _, _, _, a, _⟩ := h;exact a
theorem slown_form {e : TypeId} {R : Rep α} {w : World} {S : Foot} {v : Value} {xs : List α} (h : (slR e R).own w S [v] xs) : (v = .slice none 0 0 ∧ xs = []) ∨ ∃ g a, v = .slice (some ⟨g, 0, none⟩) xs.length a ∧ S g := by
 obtain ⟨v', c, S', b, j, i, hs, hl⟩ := h;simp only [List.cons.injEq, and_true] at b;subst b;rcases j.2 with ⟨rfl, d⟩ | ⟨g, a, f, rfl, rest⟩
 ·exact .inl ⟨rfl, List.eq_nil_of_length_eq_zero d⟩
 ·exact .inr ⟨g, a, rfl, (i g rfl).1⟩
theorem slown_val {e : TypeId} {R : Rep α} {w : World} {S : Foot} {v : Value} {xs : List α} (h : (slR e R).own w S [v] xs) : ∃ a c, v = .slice a xs.length c := by
 rcases slown_form h with ⟨rfl, rfl⟩ | ⟨g, b, rfl, _⟩
 ·exact ⟨none, 0, rfl⟩
 ·exact ⟨_, _, rfl⟩
end
end Go.Proofs.YtcocbafhcpdheaaGreatDoor
