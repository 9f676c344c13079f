import Derived.Test.YtdamokokcdcedaaGreatDoorE00Box
import Derived.Test.YtdamokokcdcedaaGreatDoorE01
import Derived.Deep.OwnRows
import Derived.LoopN
import Derived.OrdersIn
import Derived.TacticsIn
namespace Go.Proofs.YtdamokokcdcedaaGreatDoor
set_option maxHeartbeats 1000000
open Go.ChangeShapes Go.WideShapes Go.ChangeAt Go.RowKit
def betw (a b c : Int) : Bool := decide (b ≤ a ∧ a ≤ c)
theorem ret_int {k : IntKind} {a b : Int} (h : a = b) : Ending.returned (.int k a) = .returned (.int k b) := by rw [h]
theorem ret_bool {a b : Bool} (h : a = b) : Ending.returned (.bool a) = .returned (.bool b) := by rw [h]
theorem l1In_any (a b c : Int) (w : World) :
    Calls Tryz.prog 126 #[nI a, nI b, nI c] w fun e w' => e = .returned (.bool (betw a b c)) ∧ w' = w := by
 by_cases f : b ≤ a
 ·by_cases d : a ≤ c
  all_goals
   go_enter Tryz.func126, Tryz.ntmps126;go_wp2;go_ret
   exact ⟨by simp [betw, f, d], rfl⟩
 ·go_enter Tryz.func126, Tryz.ntmps126;go_wp2;go_ret
  exact ⟨by simp only [betw]; congr 2; simp; omega, rfl⟩
theorem between_any (a b c : Int) (w : World) :
    Calls Tryz.prog 156 #[nI a, nI b, nI c] w fun e w' => e = .returned (.bool (betw a b c)) ∧ w' = w := by
 by_cases f : b ≤ a
 ·by_cases d : a ≤ c
  all_goals
   go_enter Tryz.func156, Tryz.ntmps156;go_wp2;go_ret
   exact ⟨by simp [betw, f, d], rfl⟩
 ·go_enter Tryz.func156, Tryz.ntmps156;go_wp2;go_ret
  exact ⟨by simp only [betw]; congr 2; simp; omega, rfl⟩
theorem below_step {w w1 w2 : World} (h : Bl w w1) (h2 : Bl w1 w2) : Bl w w2 := h.trans (h2.mono h.size)
theorem Tryz.infoI : (Tryz.prog.info? 2).map (fun i => (i.zero, i.size, i.bytes)) = some (some (nI 0), 1, 8) := by kernel_rfl
def OwnI (B : Nat) (w : World) (g cap : Nat) (zs : List Int) : Prop :=
 w.ownsRow B 2 1 (.slice (some ⟨g, 0, none⟩) zs.length cap) zs.length (zs.map (Value.int .i64))
def Made (w w' : World) (v : Value) (zs : List Int) : Prop :=
 ∃ g cap, v = .slice (some ⟨g, 0, none⟩) zs.length cap ∧ w.heap.size ≤ g ∧ g < w'.heap.size ∧ OwnI w.heap.size w' g cap zs ∧ Below w.heap.size w w'
theorem reads_below {w w' : World} {a : Option Addr} {xs : List Int} (h : Reads w a xs) (hb : Bl w w') : Reads w' a xs := by
 rcases h with h | ⟨b, c, f, d⟩
 ·exact .inl h
 ·exact .inr ⟨b, c, f, fun j hj => (hb.cell (World.block_lt_of_cell? w ⟨b, c + j, none⟩ (d j hj))).trans (d j hj)⟩
theorem owni_below {B g cap D : Nat} {w w' : World} {zs : List Int} (h : OwnI B w g cap zs) (hb : Below D w w') (hg : g < D) : OwnI B w' g cap zs := own_below h hb hg
theorem owni_grown {B g cap r : Nat} {w w' : World} {zs : List Int} (h : OwnI B w g cap zs) (hb : w.grownBy w' (some r)) (hg : g ≠ r) : OwnI B w' g cap zs := own_grown h hb hg
theorem owni_lt {B g cap : Nat} {w : World} {zs : List Int} (h : OwnI B w g cap zs) : B ≤ g ∧ g < w.heap.size := h.lt g rfl
theorem owni_lit (w : World) (cs : Array Value) (zs : List Int) (h : cs.toList = zs.map (Value.int .i64)) (hm : zs.length ≤ maxLen) : OwnI w.heap.size (w.alloc (.cells cs 2)) w.heap.size zs.length zs := by
 have a : cs.size = zs.length := by rw [← Array.length_toList, h]; simp
 have := World.ownsRow_lit (base := w.heap.size) (e := 2) (size := 1) w cs zs.length (Nat.le_refl _) hm (by simpa using a);rw [h] at this;exact this
theorem made_lit (w : World) (cs : Array Value) (zs : List Int) (h : cs.toList = zs.map (Value.int .i64)) (hm : zs.length ≤ maxLen) : Made w (w.alloc (.cells cs 2)) (sL (some ⟨w.heap.size, 0, none⟩) zs.length zs.length) zs :=
 ⟨_, _, rfl, Nat.le_refl _, by simp, owni_lit w cs zs h hm, (Below.refl _ _).alloc (Nat.le_refl _) _⟩
theorem made_step {w w1 w2 : World} {v : Value} {zs : List Int} (h : Bl w w1) (h2 : Made w1 w2 v zs) : Made w w2 v zs := by
 obtain ⟨g, c, rfl, l, j, f, i⟩ := h2;refine ⟨g, c, rfl, Nat.le_trans h.size l, j, ?_, below_step h i⟩;refine ⟨f.1, ?_⟩;rcases f.2 with b | ⟨m, a, d, b, k, rest⟩
 ·exact .inl b
 ·exact .inr ⟨m, a, d, b, Nat.le_trans h.size k, rest⟩
theorem take_step (j : Nat) (xs : List Int) (ys : List Value) (h : j < xs.length) (h2 : j < ys.length) :
    ((xs.take j).map (Value.int .i64) ++ ys.drop j).set j (nI xs[j]) = (xs.take (j + 1)).map (Value.int .i64) ++ ys.drop (j + 1) := by
 have a : ((xs.take j).map (Value.int .i64)).length = j := by simp; omega
 rw [List.set_append_right _ _ (by omega), a, Nat.sub_self, List.drop_eq_getElem_cons h2, List.take_add_one, List.getElem?_eq_getElem h];simp only [List.set_cons_zero, List.map_append, List.map_cons, List.map_nil, List.append_assoc, List.cons_append, List.nil_append, Option.toList_some]
theorem toInts_any (a : Option Addr) (xs : List Int) (cap : Nat) (w : World) (h : Reads w a xs) (hm : xs.length ≤ 1048576) :
    Calls Tryz.prog 138 #[sL a xs.length cap] w fun e w' => ∃ v, e = .returned v ∧ Made w w' v xs := by
 obtain ⟨i0, hi, z, C, r⟩ := info_parts Tryz.infoI;have y := Go.run_make_row' (P := Tryz.prog) 68 2 (nI 0) 8 Tryz.underlying68 Tryz.infoI rfl .i64 .i64 xs.length (by omega) (by omega);go_enter Tryz.func138, Tryz.ntmps138;go_wp2;go_loopw [4] (fun i wr => ∃ k : Nat, k ≤ xs.length ∧ i = nI k ∧ wr.ownsRow w.heap.size 2 1 (sL (some ⟨w.heap.size, 0, none⟩) xs.length xs.length) xs.length ((xs.take k).map (Value.int .i64) ++ (madeCells #[nI 0] xs.length).toList.drop k) ∧ Bl w wr)
  (fun i _ => xs.length - (intOf i).toNat)
 case atStart => exact ⟨0, Nat.zero_le _, rfl, by simpa using World.ownsRow_lit (base := w.heap.size) (e := 2) (size := 1) w (madeCells #[nI 0] xs.length) xs.length (Nat.le_refl _) (by unfold maxLen; omega) (by simp [size_madeCells]), (Below.refl _ _).alloc (Nat.le_refl _) _⟩
 case round =>
  obtain ⟨k, hk, rfl, c, f⟩ := hrel;by_cases d : k < xs.length
  ·rcases h with rfl | ⟨b, l, rfl, q⟩
   ·simp at d
   have m : (k : Int) < (xs.length : Int) := by omega
   have p := q k d;have g1 := (f.cell (World.block_lt_of_cell? w ⟨b, l + k, none⟩ p)).trans p;have s := c.frozenAt k;obtain ⟨o, B⟩ : ∃ o, wr.cell? ⟨w.heap.size, k, none⟩ = some o := by
    rw [c.cellAt k (by omega)];exact ⟨_, List.getElem?_eq_getElem (by have := c.1; omega)⟩
   have R := c.stored k (nI xs[k]);rw [take_step k xs _ d (by simp [size_madeCells]; omega)] at R;have n : Hid _ := R;clear R q;go_wp2;go_roundw
   case rel => exact ⟨k + 1, by omega, by go_num, n.out.1, f.grown n.out.2 f.size (by intro j A; cases A; exact Nat.le_refl _)⟩
   case measure => simp [intOf]; omega
  ·have g : k = xs.length := by omega
   subst g;go_wp2;go_ret
   refine ⟨_, rfl, w.heap.size, xs.length, rfl, Nat.le_refl _, (c.lt _ rfl).2, ?_, f⟩;rw [List.take_length, List.drop_of_length_le (by simp [size_madeCells]), List.append_nil] at c;exact c
set_option linter.unusedVariables false
section
variable {α β : Type}
structure Mk (α : Type) where
 cE : α → Nat
 mE : Int → α → α
 cV : α → Nat
 mV : Int → α → α
 bk : α → Nat
def intM : Mk Int := ⟨fun _ => 1, fun k _ => k, fun _ => 0, fun _ x => x, fun _ => 0⟩
def boolM : Mk Bool := ⟨fun _ => 1, fun k _ => k % 3 == 0, fun _ => 0, fun _ b => b, fun _ => 0⟩
def prodM (M : Mk α) (N : Mk β) : Mk (α × β) :=
 ⟨fun a => M.cE a.1 + N.cE a.2, fun k a => (M.mE k a.1, N.mE (k + M.cE a.1) a.2), fun a => M.cV a.1 + N.cV a.2, fun k a => (M.mV k a.1, N.mV (k + M.cV a.1) a.2), fun a => M.bk a.1 + N.bk a.2⟩
def sumbk (M : Mk α) (xs : List α) : Nat := (xs.map M.bk).sum
def slcnt (M : Mk α) (xs : List α) : Nat := (xs.map M.cE).sum
def slmark (M : Mk α) : Int → List α → List α
 | _, [] => []
 | k, x :: xs => M.mE k x :: slmark M (k + M.cE x) xs
def slM (M : Mk α) : Mk (List α) := ⟨slcnt M, slmark M, slcnt M, slmark M, fun xs => xs.length + sumbk M xs⟩
theorem sumbk_step {M : Mk α} {xs : List α} {j : Nat} {x : α} (h : xs[j]? = some x) : sumbk M (xs.take (j + 1)) = sumbk M (xs.take j) + M.bk x := by
 simp [sumbk, List.take_add_one, h]
theorem sumbk_take (M : Mk α) (xs : List α) (j : Nat) : sumbk M (xs.take j) ≤ sumbk M xs := by
 have : sumbk M xs = sumbk M (xs.take j) + sumbk M (xs.drop j) := by
  conv => lhs; rw [← List.take_append_drop j xs]
  unfold sumbk;rw [List.map_append, List.sum_append]
 omega
theorem sumbk_get {M : Mk α} {xs : List α} {j : Nat} {x : α} (h : xs[j]? = some x) : sumbk M (xs.take j) + M.bk x ≤ sumbk M xs := by
 have h1 := sumbk_step (M := M) h;have h2 := sumbk_take M xs (j + 1);omega
abbrev intsR : Rep (List Int) := slR 2 intR
abbrev intsM : Mk (List Int) := slM intM
theorem lrd_ints {w : World} : ∀ {rows : List Value} {xs : List Int}, lrd intR w rows xs ↔ rows = xs.map (Value.int .i64) ∧ ∀ x ∈ xs, In64 x
 | rows, [] => by simp [lrd]
 | rows, x :: xs => by
  constructor
  ·rintro ⟨c1, c2, rfl, ⟨rfl, b⟩, c⟩;obtain ⟨rfl, a⟩ := lrd_ints.1 c;exact ⟨rfl, by simpa using ⟨b, a⟩⟩
  ·rintro ⟨rfl, h⟩;simp at h
   exact ⟨[nI x], xs.map (Value.int .i64), rfl, ⟨rfl, h.1⟩, lrd_ints.2 ⟨rfl, h.2⟩⟩
theorem lown_ints {w : World} {S : Foot} : ∀ {rows : List Value} {xs : List Int}, lrd intR w rows xs → lown intR w S rows xs
 | rows, [], h => h
 | rows, x :: xs, ⟨c1, c2, e, h1, h2⟩ => ⟨c1, c2, fun _ => False, S, e, h1, lown_ints h2, fun _ h => h.elim, Sub.refl _, fun _ h _ => h⟩
theorem reads_of {w : World} {a : Option Addr} {xs : List Int} (h : SlRd intR w a xs) : Reads w a xs := by
 rcases h with h | ⟨b, c, d, rfl, f, g⟩
 ·exact .inl h
 ·obtain ⟨rfl, _⟩ := lrd_ints.1 f;refine .inr ⟨b, c, rfl, fun j hj => g j _ ?_⟩;simp [List.getD_eq_getElem?_getD, List.getElem?_eq_getElem hj]
theorem in64_of {w : World} {a : Option Addr} {xs : List Int} (h : SlRd intR w a xs) : ∀ x ∈ xs, In64 x := by
 rcases h with rfl | ⟨b, d, c, rfl, f, h2⟩
 ·simp
 ·exact (lrd_ints.1 f).2
theorem madeR_ints {w w' : World} {v : Value} {zs : List Int} (h : Made w w' v zs) (h64 : ∀ x ∈ zs, In64 x) : MadeR intsR w w' [v] zs := by
 obtain ⟨g, a, rfl, d, f, c, b⟩ := h;refine ⟨⟨_, zs.map (Value.int .i64), fun _ => False, rfl, row_base c (fun _ _ => Nat.zero_le _), fun g' hg => ?_, fun _ h => h.elim, lown_ints (lrd_ints.2 ⟨rfl, h64⟩)⟩, b⟩;simp [Value.ownBlock] at hg
 subst hg;exact ⟨⟨d, f⟩, fun h => h⟩
end
def szI (n : Nat) (left : Int) : Int := if (n : Int) ≤ left then left - n else -1
theorem szI_yes {n : Nat} {left : Int} (h : (n : Int) ≤ left) : szI n left = left - n := by unfold szI; rw [if_pos h]
theorem szI_no {n : Nat} {left : Int} (h : ¬ (n : Int) ≤ left) : szI n left = -1 := by unfold szI; rw [if_neg h]
theorem szInt64S_rep (a : Option Addr) (xs : List Int) (cap : Nat) (left : Int) (w : World) (h0 : 0 ≤ left) (h1 : left ≤ 1048576) (hm : xs.length ≤ maxLen) :
    Calls Tryz.prog 120 #[sL a xs.length cap, nI left] w fun e w' => e = .returned (nI (szI (intsM.bk xs) left)) ∧ w' = w := by
 have f : intsM.bk xs = xs.length := by
  show xs.length + sumbk intM xs = xs.length
  have : sumbk intM xs = 0 := by
   induction xs with
   | nil => rfl
   | cons x xs ih => simp only [sumbk, List.map_cons, List.sum_cons] at ih ⊢; rw [ih (by simp at hm; omega)]; rfl
  omega
 rw [f];have c : xs.length ≤ 9223372036854775807 := hm;clear hm f;generalize xs.length = n at c;by_cases d : (n : Int) ≤ left
 ·have b : ¬ (left - (n : Int) < 0) := by omega
  rw [szI_yes d];go_enter Tryz.func120, Tryz.ntmps120;go_wp2;go_ret
  exact ⟨rfl, rfl⟩
 ·have b : left - (n : Int) < 0 := by omega
  rw [szI_no d];go_enter Tryz.func120, Tryz.ntmps120;go_wp2;go_ret
  exact ⟨rfl, rfl⟩
theorem toInt64S_rep (a : Option Addr) (xs : List Int) (cap : Nat) (w : World) (h : SlRd intR w a xs) (hm : intsM.bk xs ≤ 1048576) :
    Calls Tryz.prog 138 #[sL a xs.length cap] w fun e w' => ∃ v, e = .returned v ∧ MadeR intsR w w' [v] xs :=
 (toInts_any a xs cap w (reads_of h) (by have : intsM.bk xs = xs.length + sumbk intM xs := rfl; omega)).mono fun e w' ⟨v, h1, h2⟩ => ⟨v, h1, madeR_ints h2 (in64_of h)⟩
theorem eqInt64S_rep (a1 a2 : Option Addr) (xs : List Int) (c1 c2 : Nat) (w : World) (h1 : SlRd intR w a1 xs) (h2 : SlRd intR w a2 xs) (hm : intsM.bk xs ≤ 1152921504606846976) :
    Calls Tryz.prog 39 #[sL a1 xs.length c1, sL a2 xs.length c2] w fun e w' => e = .returned (.bool true) ∧ ∃ n, w' = w.drewN n :=
 eqInts_any a1 a2 xs c1 c2 w (reads_of h1) (reads_of h2) (by have : intsM.bk xs = xs.length + sumbk intM xs := rfl; omega)
section
variable {α β : Type}
theorem fill_below {e : TypeId} {R : Rep α} {w0 w : World} {n : Nat} {xs : List α} (h : Fill e R w0 w n xs) : Bl w0 w := by
 obtain ⟨_, _, _, _, a, _⟩ := h;exact a
theorem slown_form {e : TypeId} {R : Rep α} {w : World} {S : Foot} {v : Value} {xs : List α} (h : (slR e R).own w S [v] xs) : (v = sL none 0 0 ∧ xs = []) ∨ ∃ g a, v = sL (some ⟨g, 0, none⟩) xs.length a ∧ S g := by
 obtain ⟨v', b, S', c, d, i, hs, hl⟩ := h;simp only [List.cons.injEq, and_true] at c;subst c;rcases d.2 with ⟨rfl, j⟩ | ⟨g, a, f, rfl, rest⟩
 ·exact .inl ⟨rfl, List.eq_nil_of_length_eq_zero j⟩
 ·exact .inr ⟨g, a, rfl, (i g rfl).1⟩
theorem slown_val {e : TypeId} {R : Rep α} {w : World} {S : Foot} {v : Value} {xs : List α} (h : (slR e R).own w S [v] xs) : ∃ a c, v = sL a xs.length c := by
 rcases slown_form h with ⟨rfl, rfl⟩ | ⟨g, b, rfl, _⟩
 ·exact ⟨none, 0, rfl⟩
 ·exact ⟨_, _, rfl⟩
end
structure Rw where
 g : Nat
 cap : Nat
 xs : List Int
def Rw.v (r : Rw) : Value := .slice (some ⟨r.g, 0, none⟩) r.xs.length r.cap
def ReadsM (w : World) (a : Option Addr) (xss : List (List Int)) : Prop :=
 xss = [] ∨ ∃ b off, a = some ⟨b, off, none⟩ ∧ ∀ j xs, xss[j]? = some xs → ∃ aj cj, w.cell? ⟨b, off + j, none⟩ = some (.slice aj xs.length cj) ∧ Reads w aj xs
structure Inside (lo hi : Nat) (w w' : World) : Prop where
 os : w'.os = w.os
 tape : w'.tape = w.tape
 output : w'.output = w.output
 size : w.heap.size ≤ w'.heap.size
 block : ∀ k, k < w.heap.size → (k < lo ∨ hi ≤ k) → w'.heap[k]? = w.heap[k]?
theorem Inside.refl (lo hi : Nat) (w : World) : Inside lo hi w w := ⟨rfl, rfl, rfl, Nat.le_refl _, fun _ _ _ => rfl⟩
theorem Inside.trans {lo hi : Nat} {a b c : World} (h : Inside lo hi a b) (k : Inside lo hi b c) : Inside lo hi a c :=
 ⟨k.os.trans h.os, k.tape.trans h.tape, k.output.trans h.output, Nat.le_trans h.size k.size, fun j hj hr => (k.block j (Nat.lt_of_lt_of_le hj h.size) hr).trans (h.block j hj hr)⟩
theorem own_mono {w : World} {B B' e size n : Nat} {v : Value} {xs : List Value} (h : w.ownsRow B e size v n xs) (hb : B' ≤ B) : w.ownsRow B' e size v n xs := by
 refine ⟨h.1, ?_⟩;rcases h.2 with b | ⟨f, a, c, b, d, rest⟩
 ·exact .inl b
 ·exact .inr ⟨f, a, c, b, Nat.le_trans hb d, rest⟩
theorem readsM_below {w w' : World} {a : Option Addr} {xss : List (List Int)} (h : ReadsM w a xss) (hb : Bl w w') : ReadsM w' a xss := by
 rcases h with h | ⟨b, c, f, g⟩
 ·exact .inl h
 ·refine .inr ⟨b, c, f, fun j xs hx => ?_⟩;obtain ⟨i, k, d, l⟩ := g j xs hx;exact ⟨i, k, (hb.cell (World.block_lt_of_cell? w ⟨b, c + j, none⟩ d)).trans d, reads_below l hb⟩
theorem readsM_at {w : World} {a : Option Addr} {xss : List (List Int)} (h : ReadsM w a xss) {j : Nat} {xs : List Int} (hx : xss[j]? = some xs) :
    ∃ b c d f, a = some ⟨b, c, none⟩ ∧ w.cell? ⟨b, c + j, none⟩ = some (sL d xs.length f) ∧ Reads w d xs := by
 rcases h with rfl | ⟨b, c, g, i⟩
 ·simp at hx
 ·obtain ⟨d, f, k, l⟩ := i j xs hx;exact ⟨b, c, d, f, g, k, l⟩
theorem get_of_lt {α : Type} {l : List α} {j : Nat} (h : j < l.length) : ∃ x, l[j]? = some x := ⟨_, List.getElem?_eq_getElem h⟩
theorem opens_i64 : Opens Tryz.prog 2 intR := opens_int Tryz.underlying2
theorem opens_ints : Opens Tryz.prog 68 intsR := opens_slice Tryz.underlying68 (by kernel_rfl) Nat.zero_lt_one opens_i64
abbrev rowsR : Rep (List (List Int)) := slR 68 intsR
abbrev rowsM : Mk (List (List Int)) := slM intsM
theorem opens_rows : Opens Tryz.prog 24 rowsR := opens_slice Tryz.underlying24 (by kernel_rfl) Nat.zero_lt_one opens_ints
theorem readsM_of {w : World} {a : Option Addr} {xss : List (List Int)} (h : SlRd intsR w a xss) : ReadsM w a xss := by
 rcases h with h | ⟨b, g, f, rfl, o, p⟩
 ·exact .inl h
 ·refine .inr ⟨b, g, rfl, fun j xs hx => ?_⟩;obtain ⟨b', k, c, m, ⟨l, n, rfl, _, _, i⟩, d⟩ := slrd_at (.inr ⟨b, g, f, rfl, o, p⟩) hx;cases m;have := d 0 _ rfl;rw [show j * intsR.size + 0 = j from Nat.mul_one j] at this;exact ⟨l, n, this, reads_of i⟩
open Go.RowKit
structure Cls (C : World → Prop) where
 w : World
 h : C w
theorem region_class {P : Program} {id : Nat} {Q : Exit → Act → World → Prop} {a : Act} {w : World} {l : List Oper} (C : World → Prop) (hm : P.follows .mixedOrders = true) (hB : Region.lexB .any l.toArray = true) (h0 : C w.drew)
    (h : Nonempty (Cls C) → wpQuiet P l.toArray (fun w' => ∃ n : Cls C, w' = n.w) (fun a' => ∀ w', C w' → Q .normal a' w') l a) : (Code.region id l.toArray true).wp P Q a w :=
 wp_region_quiet (C := fun w' => ∃ n : Cls C, w' = n.w) hm hB ⟨⟨w.drew, h0⟩, rfl⟩ (by
  have := h ⟨⟨w.drew, h0⟩⟩;have e : (fun a' => ∀ w', C w' → Q .normal a' w') = (fun a' => ∀ w', (∃ n : Cls C, w' = n.w) → Q .normal a' w') := by
   funext a'
   exact propext ⟨fun h w' ⟨n, e⟩ => h w' (by rw [e]; exact n.h), fun h w' hc => h w' ⟨⟨w', hc⟩, rfl⟩⟩
  rw [e] at this
  simpa using this)
def noDef (l : List Oper) : Bool := l.all fun o => match o.op with
 | .defer _ => false
 | _ => true
theorem noDef_at {l : List Oper} (h : noDef l = true) {o : Oper} (ho : o ∈ l) (c : Call) : o.op ≠ .defer c := fun e => by
 have := List.all_eq_true.1 h o ho;rw [e] at this;cases this
section
variable {P : Program} {C : World → Prop} {r : Nat}
theorem wpIn_of_quietR {o : Oper} {a : Act} {K : Act → Prop} {K' : Act → World → Prop} {Q' : Exit → Act → World → Prop} {w : World} (hdf : ∀ c, o.op ≠ .defer c) (hw : C w) (h : ∀ a w', C w' → K a → K' a w')
    (hh : o.quiet P a C K) : o.wpIn (Fence.wide.inRound r) 0 P a w K' Q' := by
 obtain ⟨v, j, g⟩ := hh;have b := j w hw;refine ⟨fun _ _ => trivial, ?_⟩;show o.uponIn _ 0 P a K' Q' ((o.semAt (some r) a.eval).run P w)
 rw [Oper.semAt_some r a.eval o hdf];unfold Oper.quietAt at b;generalize (execOp a.eval o).run P w = x at b;cases x with
 | halt y w' => exact (show False from b).elim
 | ok y w' =>
  cases y with
  | value u =>
   obtain ⟨rfl, rfl⟩ := (show w' = w ∧ u = v from b);exact h _ _ hw g
  | skip =>
   obtain ⟨rfl, rfl⟩ := (show w' = w ∧ v = undef from b);exact h _ _ hw g
  | enter f args =>
   obtain ⟨rfl, i⟩ := (show w' = w ∧ Calls P f args w (fun e w'' => e = .returned v ∧ C w'') from b);refine ⟨fun e => (by cases e), (callsIn_wide.2 i).mono fun e w'' he => ?_⟩;obtain ⟨rfl, d⟩ := he;exact h _ _ d g
  | _ => exact (show False from b).elim
theorem anyIn_of_quietR {l : List Oper} {md : Region.Mode} {Q : Act → Prop} {Q' : Exit → Act → World → Prop} (hdf : noDef l = true) (hQ : ∀ a w, C w → Q a → Q' .normal a w) : ∀ (fuel : Nat) (listed : Array Bool) (a : Act) (w : World), C w →
    wpAnyQ P md l.toArray C Q fuel listed a → wpAnyIn (Fence.wide.inRound r) 0 P md l.toArray Q' fuel listed a w
 | 0, _, _, _, hw, h => ⟨h.1, hQ _ _ hw h.2⟩
 | fuel + 1, listed, a, w, hw, h => by
  refine ⟨fun h0 => hQ _ _ hw (h.1 h0), fun i hi => ?_⟩;have b := h.2 i hi;have f : ∀ a' w', C w' → wpAnyQ P md l.toArray C Q fuel (listed.setIfInBounds i true) a' → wpAnyIn (Fence.wide.inRound r) 0 P md l.toArray Q' fuel (listed.setIfInBounds i true) a' w' := fun a' w' hw' => anyIn_of_quietR hdf hQ fuel _ a' w' hw';unfold qOp at b;unfold wpOpIn;split
  ·rename_i ho
   simp only [ho] at b;exact f _ _ hw b
  ·rename_i o ho
   simp only [ho] at b;have d : o ∈ l := by
    simp at ho
    exact List.mem_of_getElem? ho
   by_cases c : Region.wanted o (yielded l.toArray a.tmps) = true
   ·simp only [c, if_true] at b ⊢;exact wpIn_of_quietR (noDef_at hdf d) hw f b
   ·simp only [c] at b ⊢;exact ⟨fun _ _ => trivial, f _ _ hw b⟩
end
theorem regionIn_class {P : Program} {id r : Nat} {Q : Exit → Act → World → Prop} {a : Act} {w : World} {l : List Oper} (C : World → Prop) (hm : P.follows .mixedOrders = true) (hB : Region.lexB .any l.toArray = true) (hdf : noDef l = true) (h0 : C w.drew)
    (h : Nonempty (Cls C) → wpQuiet P l.toArray (fun w' => ∃ n : Cls C, w' = n.w) (fun a' => ∀ w', C w' → Q .normal a' w') l a) : (Code.region id l.toArray true).wpIn (Fence.wide.inRound r) 0 P Q a w := by
 simp only [Region.lexB, Bool.and_eq_true] at hB;refine wpIn_region_any hm (anyIn_of_quietR (C := fun w' => ∃ n : Cls C, w' = n.w) (Q := fun a' => ∀ w', C w' → Q .normal a' w') hdf (fun a' w' ⟨n, hn⟩ h => h w' (by rw [hn]; exact n.h)) _ _ _ _ ⟨⟨w.drew, h0⟩, rfl⟩ ?_);have := wpAnyQ_lex (P := P) (C := fun w' => ∃ n : Cls C, w' = n.w) (md := .any) hB.1 l 0 (Array.replicate l.toArray.size false) a (by simp) (by simpa using hB.2) (h ⟨⟨w.drew, h0⟩⟩);simpa using this
theorem wpQuiet_skip {P : Program} {ops : Array Oper} {C : World → Prop} {Q : Act → Prop} {a : Act} {o : Oper} {rest : List Oper} {j : Nat} {b : Bool} {og : Oper} {d : Tmp} (ht : a.tmps[d]? = some (.bool (!b))) (hg : o.guard = some (j, b)) (ho : ops[j]? = some og) (hd : og.dst = some d)
    (hne : o.dst ≠ some d) (h : ∀ a', a' = a.put o.dst undef → a'.tmps[d]? = some (.bool (!b)) → wpQuiet P ops C Q rest a') : wpQuiet P ops C Q (o :: rest) a := by
 have g : yielded ops a.tmps j = some (!b) := by
  unfold yielded;simp [ho, hd, ht]
 have f : Region.wanted o (yielded ops a.tmps) = false := by
  unfold Region.wanted;simp [hg, g]
 unfold wpQuiet;rw [f];refine h _ rfl ?_;cases c : o.dst with
 | none => exact ht
 | some d' =>
  have : d' ≠ d := fun e => hne (by rw [c, e]);show (a.tmps.setIfInBounds d' undef)[d]? = _
  rw [Array.getElem?_setIfInBounds_ne this];exact ht
theorem hid_act (K : Act → Prop) (a : Act) (h : ∀ A, A = a → K A) : K a := h a rfl
theorem calls_class {P : Program} {f : FuncId} {args : Array Value} {C : World → Prop} {n : Cls C} {v : Value} {R : World → Prop} (h : Calls P f args n.w fun e w' => e = .returned v ∧ R w') (hs : ∀ w', C n.w → R w' → C w') :
    Calls P f args n.w fun e w'' => e = .returned v ∧ ∃ m : Cls C, w'' = m.w := h.mono fun _ w' ⟨he, hr⟩ => ⟨he, ⟨w', hs w' n.h hr⟩, rfl⟩
theorem calls_class_same {P : Program} {f : FuncId} {args : Array Value} {C : World → Prop} {n : Cls C} {v : Value} (h : Calls P f args n.w fun e w' => e = .returned v ∧ w' = n.w) :
    Calls P f args n.w fun e w'' => e = .returned v ∧ ∃ m : Cls C, w'' = m.w := h.mono fun _ w' ⟨he, hr⟩ => ⟨he, n, hr⟩
end Go.Proofs.YtdamokokcdcedaaGreatDoor
