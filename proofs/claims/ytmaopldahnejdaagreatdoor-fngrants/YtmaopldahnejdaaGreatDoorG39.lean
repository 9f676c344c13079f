import Derived.Test.YtmaopldahnejdaaGreatDoorG00Box
import Derived.Test.YtmaopldahnejdaaGreatDoorG37
import Derived.Test.YtmaopldahnejdaaGreatDoorG38
namespace Go.Proofs.YtmaopldahnejdaaGreatDoor
open Go.ChangeShapes Go.WideShapes Go.ChangeAt Go.RowKit
set_option linter.unusedVariables false
theorem zHd {α : Type} {M : Mk α} {K : Nat} : ∀ {xs : List α}, (∀ x ∈ xs, M.bk x ≤ K) → zBI M xs ≤ xs.length * K
 | [], _ => by simp [zBI]
 | x :: xs, h => by
  have h1 := zHd (xs := xs) (fun y hy => h y (List.mem_cons_of_mem _ hy));have h2 := h x List.mem_cons_self;have e : zBI M (x :: xs) = M.bk x + zBI M xs := by simp [zBI]
  rw [e, List.length_cons, Nat.succ_mul];omega
def SmA (a : zB0) : Prop := a.1.length ≤ 2 ∧ a.2.2.2.2.2.2.2.2.length ≤ 2
def SmO (o : zB0 × List zAS) : Prop := SmA o.1 ∧ o.2.length ≤ 8 ∧ ∀ u ∈ o.2, u.2.2.2.2.2.1.length ≤ 2
theorem mask_sm (xs ys : List Int) (m : Int) : (zBz xs ys m).length ≤ 2 := by unfold zBz; split <;> simp
theorem zLT {ws d : List Int} (h : ws.length ≤ 2) (hd : d.length ≤ 2) : (zBA ws d).length ≤ 2 := by unfold zBA; split <;> assumption
theorem zHe {k r t n g : Int} {d : List Int} (h : d.length ≤ 2) : [zC1 k r t n d g].length ≤ 8 ∧ ∀ u ∈ [zC1 k r t n d g], u.2.2.2.2.2.1.length ≤ 2 := ⟨by simp, fun u hu => by rw [List.mem_singleton.1 hu]; exact h⟩
theorem end_sm {k : Int} {a : zB0} (h : SmA a) : SmO (zDK k a) := by
 unfold zDK;split
 ·unfold zDa;split
  ·exact ⟨⟨h.1, h.2⟩, zHe h.1⟩
  ·exact ⟨⟨h.1, h.2⟩, zHe h.1⟩
 split
 ·exact ⟨⟨h.1, h.2⟩, zHe h.1⟩
 split
 ·exact ⟨⟨h.1, by simp [zCD]⟩, zHe h.1⟩
 ·exact ⟨⟨mask_sm _ _ _, by simp [zCD]⟩, zHe (by simp)⟩
theorem ask_sm (o s kind f : Int) : (zB1 o s kind f).length ≤ 8 := by
 unfold zB1;split
 ·split <;> simp
 ·exact zDA _ _
theorem hear_sm {k : Int} {a : zB0} {m : zAS} (h : SmA a) (hm : m.2.2.2.2.2.1.length ≤ 2) : SmO (zBm k a m) := by
 have c : ∀ kind l, SmA (a.1, zBP a.2 kind m l) := fun kind l => ⟨h.1, by unfold zBP; simp only; split; exact hm; exact h.2⟩;have b : SmA (zBA a.1 m.2.2.2.2.2.1, zDb a.2 m.2.1 m.2.2.2.2.2.2) := ⟨zLT h.1 hm, by unfold zDb; split <;> exact h.2⟩;unfold zBm;split
 ·unfold zGz;split
  ·exact end_sm (c _ _)
  ·refine ⟨c _ _, by simp only [zAG, List.length_map]; exact ask_sm _ _ _ _, fun u hu => ?_⟩;obtain ⟨j, -, rfl⟩ := List.mem_map.1 hu;exact Nat.zero_le _
 split
 ·unfold zDd;refine ⟨⟨?_, h.2⟩, zHe (by simp)⟩;simp only
  split
  ·exact zLT h.1 hm
  ·exact h.1
 split
 ·unfold zIn;split
  ·exact ⟨b, by simp, fun u hu => by cases hu⟩
  ·exact end_sm b
 ·exact ⟨⟨h.1, by simp [zCD]⟩, by simp, fun u hu => by cases hu⟩
theorem zLU {d : List Int} (h : isL d = true) : d.length ≤ 2 := by
 rcases zBJ d with q | ⟨p, q, rfl, -⟩
 ·rw [q] at h; cases h
 ·exact Nat.le_refl _
theorem dat_sm {d : List Int} (h : zDY d = true) : d.length ≤ 2 := by
 unfold zDY at h;rcases Bool.or_eq_true_iff.1 h with q | q
 ·rw [List.isEmpty_iff.1 q]; decide
 ·exact zLU q
theorem ent_sm {u : zA7} (h : zBR u = true) : u.2.2.2.2.2.2.2.length ≤ 2 := by
 unfold zBR at h;rw [Bool.and_eq_true] at h;have a := h.2;split at a
 ·unfold zAA zCo at a;simp only [Bool.and_eq_true] at a;have b := a.2.2.2;split at b
  ·rw [Bool.and_eq_true] at b;exact zLU b.2
  ·rw [Bool.and_eq_true, decide_eq_true_eq, decide_eq_true_eq] at b;omega
 ·unfold zAY at a;simp only [Bool.and_eq_true, decide_eq_true_eq] at a;omega
theorem house_sm {h : zA2} (h1 : h.1.length ≤ 16) (h2 : h.2.length ≤ 16) (r : ∀ x ∈ h.1, x.length ≤ 2) (s : ∀ u ∈ h.2, u.2.2.2.2.2.2.2.length ≤ 2) : zC3.bk h ≤ 8388608 := by
 have e : zC3.bk h = (h.1.length + zBI zDm h.1) + (h.2.length + zBI zK7 h.2) := rfl;have q1 := zHd (M := zDm) (K := 2) (xs := h.1) (fun x hx => by rw [zD1]; exact r x hx);have q2 := zHd (M := zK7) (K := 2) (xs := h.2) (fun u hu => by rw [zKM, zD1]; exact s u hu);omega
theorem zJn (x : zA2) (m : zAS) : zC3.bk x ≤ 1048576 → zK9.bk m ≤ 1048576 → zC3.bk (zBb x m).1 ≤ 8388608 ∧ zIj.bk (zBb x m).2.1 ≤ 8388608 := by
 intro hx _;have e0 : zIj.bk [] = 0 := rfl;unfold zBb;split
 ·rename_i hk
  split
  ·rename_i hl
   unfold zG6 at hl;rw [Bool.and_eq_true] at hl;have p : m.2.2.2.2.2.1.length ≤ 2 := by
    have b := hl.1;unfold zFB at b;simp only [Bool.and_eq_true] at b;exact dat_sm b.2.2.2.1
   split
   ·exact ⟨show zC3.bk x ≤ 8388608 by omega, show zIj.bk [] ≤ 8388608 by omega⟩
   ·obtain ⟨a, n⟩ := zCk hk;have o := (zEe a).2;have r : ∀ y ∈ x.1, y.length ≤ 2 := fun y hy => by
     obtain ⟨j, d⟩ := List.getElem?_of_mem hy;exact zLU (zEf a d)
    have s : ∀ u ∈ x.2, u.2.2.2.2.2.2.2.length ≤ 2 := fun u hu => by
     obtain ⟨j, d⟩ := List.getElem?_of_mem hu;exact ent_sm (zDJ hk d)
    have g : SmA (zFp x m.2.2.2.2.1) := by
     unfold zFp;refine ⟨?_, ?_⟩
     ·simp only
      rw [List.getD_eq_getElem?_getD];cases c : x.1[m.2.2.2.2.1.toNat]? with
      | none => simp
      | some y => exact r y (List.mem_of_getElem? c)
     ·simp only
      rw [List.getD_eq_getElem?_getD];cases c : x.2[m.2.2.2.2.1.toNat]? with
      | none => simp [zIh]
      | some y => exact s y (List.mem_of_getElem? c)
    obtain ⟨f, q2, i⟩ := hear_sm (k := m.2.2.2.2.1) g p;refine ⟨house_sm (by simp [zH7]; omega) (by simp [zH7]; omega) (fun y hy => ?_) (fun u hu => ?_), ?_⟩
    ·rcases List.mem_or_eq_of_mem_set hy with h | rfl
     ·exact r y h
     ·exact f.1
    ·rcases List.mem_or_eq_of_mem_set hu with h | rfl
     ·exact s u h
     ·exact f.2
    ·have e : ∀ l : List zAS, zIj.bk l = l.length + zBI zK9 l := fun _ => rfl;have q4 := zHd (M := zK9) (K := 2) (xs := (zBm m.2.2.2.2.1 (zFp x m.2.2.2.2.1) m).2) (fun u hu => by rw [zLk, zD1]; exact i u hu);show zIj.bk (zBm m.2.2.2.2.1 (zFp x m.2.2.2.2.1) m).2 ≤ 8388608
     rw [e];omega
  ·exact ⟨show zC3.bk x ≤ 8388608 by omega, show zIj.bk [] ≤ 8388608 by omega⟩
 ·have e1 : zC3.bk ([], []) = 0 := rfl;exact ⟨show zC3.bk ([], []) ≤ 8388608 by omega, show zIj.bk [] ≤ 8388608 by omega⟩
set_option linter.unusedSimpArgs false
theorem zLV {B g rb mb : Nat} {w wr w1 : World} {z : List Value} {v0 v1 : Value} {x : zA2} {es : List Value} {u : zA7} {j : Nat} (h : DrC zAz 27 B g w wr rb mb z [v0, v1] x) (d : DrewR zB6 B g wr w1 es u) (hj : j < x.2.length) :
    ∃ a f, v1 = sL (some ⟨a, 0, none⟩) x.2.length f ∧ (∀ i, i < 8 → ∃ p, w1.cell? ⟨a, j * 8 + i, none⟩ = some p) ∧ (∀ i, w1.frozen? ⟨a, i, none⟩ = false) ∧ a ≠ mb ∧ a ≠ rb ∧ DrC zAz 27 B g w (zDN w1 a (j * 8) es) rb mb z [v0, v1] (x.1, x.2.set j u) := by
 obtain ⟨T, V, J, F, O⟩ := h.lt;obtain ⟨I, G, N, H, e, D, M, s, l, m⟩ := zDH h.own;simp only [List.cons.injEq, and_true] at e;obtain ⟨rfl, rfl⟩ := e;have v := zBk D d.chg (fun k hk e => by have := (s k hk).1; omega);have y := zBk M d.chg (fun k hk e => by have := (l k hk).1; omega);have sz := d.chg.size;obtain ⟨a, f, U, n, L, E, R, A⟩ := zEn y (List.getElem?_eq_getElem hj) d.own (fun k h1 h2 => by have := (l k h2).2.1; have := h1.1; omega);have c := l a n;have K : ∀ k, k ≠ a → k < w1.heap.size → (zDN w1 a (j * zB6.size) es).heap[k]? = w1.heap[k]? := fun k hk hl => A.block k hl (fun e => hk (by simpa using e));have o := zBY.own_keep v (w' := zDN w1 a (j * zB6.size) es) fun k hk hl => K k (fun e => m k hk (by rw [e]; exact n)) hl;have C : Chg (fun b => b = a) w1 (zDN w1 a (j * zB6.size) es) := zB2 A rfl;have cs := C.size;refine ⟨a, f, U, L, E, c.2.2, by omega, ?_⟩;refine ⟨?_, ?_, ?_, ?_, ?_, ?_⟩
 ·exact (K mb (fun e => c.2.2 e.symm) (by omega)).trans ((d.chg.block mb J (by omega)).trans h.box)
 ·exact (K rb (by omega) (by omega)).trans ((d.chg.block rb (by omega) (by omega)).trans h.res)
 ·refine zAz.own_mono (zCt (x := (x.1, x.2.set j u)) (S := fun k => N k ∨ (H k ∨ rng wr.heap.size w1.heap.size k)) o R (fun k q => .inl q) (fun k q => .inr q) (fun k q r => r.elim (fun r => m k q r) (fun r => by have := (s k q).2.1; have := r.1; omega))) (fun k q => ?_);rcases q with q | q | q
  ·exact ⟨(s k q).1, by have := (s k q).2.1; show k < (zDN w1 a (j * zB6.size) es).heap.size; omega, (s k q).2.2⟩
  ·exact ⟨(l k q).1, by have := (l k q).2.1; show k < (zDN w1 a (j * zB6.size) es).heap.size; omega, (l k q).2.2⟩
  ·exact ⟨by have := q.1; omega, by have := q.2; show k < (zDN w1 a (j * zB6.size) es).heap.size; omega, by have := q.1; omega⟩
 ·exact zB5 d.cur C (fun k hk => by have := c.1; omega) (by have := d.cur.1; have := zBX d.cur; omega)
 ·exact zFu (h.chg.trans d.chg) C (by omega)
 ·exact ⟨T, V, by show mb < (zDN w1 a (j * zB6.size) es).heap.size; omega, F, O⟩
theorem hd_mem {B g rb mb : Nat} {w wr w1 : World} {z : List Value} {v0 v1 v : Value} {x : zA2} {r : List Int} {j : Nat} (h : DrC zAz 27 B g w wr rb mb z [v0, v1] x) (d : DrewR zAm B g wr w1 [v] r) (hj : j < x.1.length) :
    ∃ a f, v0 = sL (some ⟨a, 0, none⟩) x.1.length f ∧ (∃ p, w1.cell? ⟨a, j, none⟩ = some p) ∧ (∀ i, w1.frozen? ⟨a, i, none⟩ = false) ∧ a ≠ mb ∧ a ≠ rb ∧ DrC zAz 27 B g w (w1.setCell ⟨a, j, none⟩ v) rb mb z [v0, v1] (x.1.set j r, x.2) := by
 obtain ⟨X, Z, N, H, U⟩ := h.lt;obtain ⟨M, J, T, L, e, F, R, l, s, m⟩ := zDH h.own;simp only [List.cons.injEq, and_true] at e;obtain ⟨rfl, rfl⟩ := e;have y := zBk F d.chg (fun k hk e => by have := (l k hk).1; omega);have A := zBk R d.chg (fun k hk e => by have := (s k hk).1; omega);have sz := d.chg.size;obtain ⟨a, f, Y, n, O, G, V, E⟩ := zEn y (List.getElem?_eq_getElem hj) d.own (fun k h1 h2 => by have := (l k h2).2.1; have := h1.1; omega);have c := l a n;have K : ∀ k, k ≠ a → k < w1.heap.size → (zDN w1 a (j * zAm.size) [v]).heap[k]? = w1.heap[k]? := fun k hk hl => E.block k hl (fun e => hk (by simpa using e));have o := zCS.own_keep A (w' := zDN w1 a (j * zAm.size) [v]) fun k hk hl => K k (fun e => m k (by rw [e]; exact n) hk) hl;have C : Chg (fun b => b = a) w1 (zDN w1 a (j * zAm.size) [v]) := zB2 E rfl;have cs := C.size;have I : zDN w1 a (j * zAm.size) [v] = w1.setCell ⟨a, j, none⟩ v := by rw [show j * zAm.size = j from Nat.mul_one j]; rfl
 obtain ⟨p, D⟩ := O 0 (by decide);rw [show j * zAm.size + 0 = j from Nat.mul_one j] at D;refine ⟨a, f, Y, ⟨p, D⟩, G, c.2.2, by omega, ?_⟩;rw [← I];refine ⟨?_, ?_, ?_, ?_, ?_, ?_⟩
 ·exact (K mb (fun e => c.2.2 e.symm) (by omega)).trans ((d.chg.block mb N (by omega)).trans h.box)
 ·exact (K rb (by omega) (by omega)).trans ((d.chg.block rb (by omega) (by omega)).trans h.res)
 ·refine zAz.own_mono (zCt (x := (x.1.set j r, x.2)) (S := fun k => (T k ∨ rng wr.heap.size w1.heap.size k) ∨ L k) V o (fun k q => .inl q) (fun k q => .inr q) (fun k q r => q.elim (fun q => m k q r) (fun q => by have := (s k r).2.1; have := q.1; omega))) (fun k q => ?_);rcases q with (q | q) | q
  ·exact ⟨(l k q).1, by have := (l k q).2.1; omega, (l k q).2.2⟩
  ·exact ⟨by have := q.1; omega, by have := q.2; omega, by have := q.1; omega⟩
  ·exact ⟨(s k q).1, by have := (s k q).2.1; omega, (s k q).2.2⟩
 ·exact zB5 d.cur C (fun k hk => by have := c.1; omega) (by have := d.cur.1; have := zBX d.cur; omega)
 ·exact zFu (h.chg.trans d.chg) C (by omega)
 ·exact ⟨X, Z, by omega, H, U⟩
def SmH (x : zA2) : Prop := x.1.length ≤ 17 ∧ x.2.length ≤ 16 ∧ (∀ r ∈ x.1, r.length ≤ 3) ∧ ∀ u ∈ x.2, u.2.2.2.2.2.2.2.length ≤ 3
theorem zJN {x : zA2} (h : SmH x) : zC3.bk x ≤ 1000 := by
 have e : zC3.bk x = (x.1.length + zBI zDm x.1) + (x.2.length + zBI zK7 x.2) := rfl;have q1 := zHd (M := zDm) (K := 3) (xs := x.1) (fun r hr => by rw [zD1]; exact h.2.2.1 r hr);have q2 := zHd (M := zK7) (K := 3) (xs := x.2) (fun u hu => by rw [zKM, zD1]; exact h.2.2.2 u hu);have := h.1;have := h.2.1;omega
theorem zJO {x : zA2} {j : Nat} {u : zA7} (h : SmH x) (hu : u.2.2.2.2.2.2.2.length ≤ 3) : SmH (x.1, x.2.set j u) := ⟨h.1, by simpa using h.2.1, h.2.2.1, fun y hy => (List.mem_or_eq_of_mem_set hy).elim (h.2.2.2 y) (fun e => by rw [e]; exact hu)⟩
theorem zLW {x : zA2} {j : Nat} {r : List Int} (h : SmH x) (hr : r.length ≤ 3) : SmH (x.1.set j r, x.2) := ⟨by simpa using h.1, h.2.1, fun y hy => (List.mem_or_eq_of_mem_set hy).elim (h.2.2.1 y) (fun e => by rw [e]; exact hr), h.2.2.2⟩
theorem smh_new {n : Int} (h : 1 ≤ n ∧ n ≤ 4) : SmH (zBc n).1 ∧ (zBc n).1.1.length = (zBc n).1.2.length ∧ (zBc n).2 = true ∧ 1 ≤ (zBc n).1.2.length := by
 have a : zA6 n 1 16 = true := by simp [zA6]; omega
 have e : zBc n = ((List.replicate n.toNat [0, 0], List.replicate n.toNat newE), true) := by unfold zBc; rw [if_pos a]
 rw [e];refine ⟨⟨by simp; omega, by simp; omega, fun r hr => by rw [List.eq_of_mem_replicate hr]; decide, fun u hu => by rw [List.eq_of_mem_replicate hu]; decide⟩, by simp, rfl, by simp; omega⟩
def DrawHP (n B g : Nat) (w : World) (e : Ending) (w' : World) : Prop := ∃ (x : zA2) (a0 : Option Addr) (c0 : Nat) (a1 : Option Addr) (c1 : Nat), e = .returned (.agg #[.slice a0 x.1.length c0, .slice a1 x.2.length c1]) ∧ SmH x ∧ x.1.length ≤ n ∧ (1 ≤ x.1.length ∧ 1 ≤ x.2.length) ∧ DrewR zAz B g w w' [.slice a0 x.1.length c0, .slice a1 x.2.length c1] x
def HDr (B g : Nat) (w : World) (rb mb : Nat) (wr : World) : Prop := ∃ (x : zA2) (ga c0 gb c1 : Nat), SmH x ∧ (1 ≤ x.1.length ∧ 1 ≤ x.2.length) ∧ x.1.length = x.2.length ∧ DrC zAz 27 B g w wr rb mb [.slice none 0 0, .slice none 0 0] [.slice (some ⟨ga, 0, none⟩) x.1.length c0, .slice (some ⟨gb, 0, none⟩) x.2.length c1] x
theorem zLX {B g rb mb : Nat} {w wr : World} {z : List Value} {x : zA2} {a0 a1 : Option Addr} {c0 c1 : Nat} (h : DrC zAz 27 B g w wr rb mb z [sL a0 x.1.length c0, sL a1 x.2.length c1] x) (l : 1 ≤ x.1.length ∧ 1 ≤ x.2.length) : ∃ ga gb, a0 = some ⟨ga, 0, none⟩ ∧ a1 = some ⟨gb, 0, none⟩ := by
 obtain ⟨i, n, S0, S1, e, f, k, -⟩ := zDH h.own;simp only [List.cons.injEq, and_true] at e;obtain ⟨rfl, rfl⟩ := e;obtain ⟨j, c, a, -⟩ := (zDG f).resolve_left (fun q => by have := l.1; rw [q.2] at this; cases this);obtain ⟨m, d, b, -⟩ := (zDG k).resolve_left (fun q => by have := l.2; rw [q.2] at this; cases this);simp only [Value.slice.injEq] at a b;exact ⟨j, m, a.1, b.1⟩
theorem zLY {S : zAN} {w w' : World} (h : Chg S w w') : Chg S w w'.drew := ⟨h.os, h.tape, h.output, h.size, h.block⟩
theorem zDc {α : Type} {R : Rep α} {t : TypeId} {B g rb mb : Nat} {w wr : World} {z cs : List Value} {x : α} (h : DrC R t B g w wr rb mb z cs x) : DrC R t B g w wr.drew rb mb z cs x := zJj h (zLY (zBp (Below.refl _ _))) h.cur
set_option maxHeartbeats 8000000 in
set_option maxRecDepth 20000 in
theorem zJo (B g : Nat) (w : World) (hcur : Cur B w g) :
    Calls Tryz.prog 77 #[.pointer (some ⟨g, 0, none⟩)] w fun e w' => DrawHP 16 B g w e w' := by
 have E := zBX hcur;have R := zAw w (.cells #[sL none 0 0, sL none 0 0] 27);have bq := zAg w (.cells #[sL none 0 0, sL none 0 0] 27);have C1 := zAQ hcur (.cells #[sL none 0 0, sL none 0 0] 27);have m : Chg (fun b => b = g) w (w.alloc (.cells #[sL none 0 0, sL none 0 0] 27)) := zBp bq;have e1 := zAu w (.cells #[sL none 0 0, sL none 0 0] 27);clear bq hcur;go_enter Tryz.func77, Tryz.ntmps77;go_wp2_with fail
 generalize w.alloc (.cells #[sL none 0 0, sL none 0 0] 27) = w1 at R C1 m e1 ⊢;have KA : g < w1.heap.size := by omega
 have eA := (ltH R);refine (zAp B g 4 _ C1 (by omega) (by omega)).mono ?_;rintro e w2 ⟨n, rfl, n0, n4, C2, g2⟩;have c2 := m.trans (zB2 (S := fun b => b = g) g2 rfl);replace R := (g2.block w.heap.size eA (by simp; omega)).trans R;have s2 := g2.size;clear C1 m g2;have wn : IntKind.i64.wrap (1 + n) = 1 + n := by rw [IntKind.wrap_i64]; omega
 go_wp2_with fail
 obtain ⟨m1, m2, m3, m4⟩ := smh_new (n := 1 + n) (by omega);refine (zG9 (1 + n) _).mono ?_;rintro e Z ⟨ds, rfl, M⟩;rw [m3];obtain ⟨a0, l, a1, X, rfl⟩ := zB4 (zAz.own_rd M.1);generalize (zBc (1 + n)).1 = x at m1 m2 m4 M ⊢;clear m3;have D0 : DrewR zAz B g w2 Z _ x := ⟨M.1, zB5 C2 (S := fun _ => False) (zBp M.2) (fun k hk => hk.elim) (by have := C2.1; have := zBX C2; omega), zBp M.2⟩;have DN := zLM (cs := [sL a0 x.1.length l, sL a1 x.2.length X]) D0 c2 R (Nat.le_refl _) E;obtain ⟨c, a, rfl, rfl⟩ := zLX DN ⟨by omega, m4⟩;have z : Hid (HDr B g w w.heap.size Z.heap.size (Z.alloc (.cells #[sL (some ⟨c, 0, none⟩) x.1.length l, sL (some ⟨a, 0, none⟩) x.2.length X] 27))) := ⟨x, c, l, a, X, m1, ⟨by omega, m4⟩, m2, DN⟩;rw [show zBw [sL (some ⟨c, 0, none⟩) x.1.length l, sL (some ⟨a, 0, none⟩) x.2.length X] = .agg #[sL (some ⟨c, 0, none⟩) x.1.length l, sL (some ⟨a, 0, none⟩) x.2.length X] from rfl];have AA : w.heap.size < Z.heap.size := by have := M.2.size; omega
 clear M D0 DN C2 c2 R m1 m2 m4;go_upto_region 2 with fail
 generalize Z.alloc (.cells #[sL (some ⟨c, 0, none⟩) x.1.length l, sL (some ⟨a, 0, none⟩) x.2.length X] 27) = w4 at z ⊢;generalize Z.heap.size = mb at z AA ⊢;clear s2 eA KA e1 wn n0 n4;go_wp2;go_loopw [5] (fun q wr => ∃ k : Nat, k ≤ 16 ∧ q = nI k ∧ HDr B g w w.heap.size mb wr) (fun q _ => 16 - (intOf q).toNat)
 case atStart => exact ⟨0, Nat.zero_le _, rfl, z.out⟩
 case round =>
  clear z;obtain ⟨k, kB, rfl, x, c, l, a, m, J, Y, le, D⟩ := hrel;have jB := J.2.1;obtain ⟨y0, y1⟩ := zAd D.box;have L := (Array.getElem?_eq_some_iff.1 D.box).1;by_cases JA : k < x.2.length
  ·have OA : (k : Int) < (x.2.length : Int) := by omega
   have GA : (k : Int) < (x.1.length : Int) := by omega
   have cA : k < x.1.length := by omega
   go_upto_region 5 with fail
   have f : Hid _ := aI J (aI Y (aI le D));clear D J Y le y0 y1 L;have Q0 : Hid (wr.drew.cell? ⟨mb, 0, none⟩ = some (sL (some ⟨c, 0, none⟩) x.1.length l) ∧ wr.drew.cell? ⟨mb, 1, none⟩ = some (sL (some ⟨a, 0, none⟩) x.2.length m)) := zAd f.out.2.2.2.box
   (go_region_held3 (fun wx => wx.cell? ⟨mb, 0, none⟩ = some (sL (some ⟨c, 0, none⟩) x.1.length l) ∧ wx.cell? ⟨mb, 1, none⟩ = some (sL (some ⟨a, 0, none⟩) x.2.length m)) (first | (with_reducible exact Q0.out) | (with_reducible exact Q1.out) | (with_reducible exact Q2.out) | fail) (first | (go_at_call 110; refine (zGt B g _ (zFO f.out.2.2.2.cur)).mono ?_; rintro e i ⟨F, C, H, U, N, O, K, d, av, cv, rfl, dl, T⟩; obtain ⟨g1, sA, ev, A, s, zA, qA, D6⟩ := zLV (j := k) (zDc f.out.2.2.2) T JA; cases ev; have Q1 : Hid (i.cell? ⟨mb, 0, none⟩ = some (sL (some ⟨c, 0, none⟩) x.1.length l) ∧ i.cell? ⟨mb, 1, none⟩ = some (sL (some ⟨a, 0, none⟩) x.2.length m)) := zAd ((T.chg.block mb (zDc f.out.2.2.2).lt.2.2.1 (by have := f.out.2.2.2.lt; omega)).trans (zDc f.out.2.2.2).box); have o : Hid (DrC zAz 27 B g w ((((((((i.setCell ⟨a, k * 8, none⟩ (nI F)).setCell ⟨a, k * 8 + 1, none⟩ (nI C)).setCell ⟨a, k * 8 + 2, none⟩ (.bool H)).setCell ⟨a, k * 8 + 3, none⟩ (nI U)).setCell ⟨a, k * 8 + 4, none⟩ (nI N)).setCell ⟨a, k * 8 + 5, none⟩ (nI O)).setCell ⟨a, k * 8 + 6, none⟩ (nI K)).setCell ⟨a, k * 8 + 7, none⟩ (sL av d.length cv)) w.heap.size mb [sL none 0 0, sL none 0 0] [sL (some ⟨c, 0, none⟩) x.1.length l, sL (some ⟨a, 0, none⟩) x.2.length m] (x.1, x.2.set k (F, C, H, U, N, O, K, d))) := D6; have Q2 : Hid (((((((((i.setCell ⟨a, k * 8, none⟩ (nI F)).setCell ⟨a, k * 8 + 1, none⟩ (nI C)).setCell ⟨a, k * 8 + 2, none⟩ (.bool H)).setCell ⟨a, k * 8 + 3, none⟩ (nI U)).setCell ⟨a, k * 8 + 4, none⟩ (nI N)).setCell ⟨a, k * 8 + 5, none⟩ (nI O)).setCell ⟨a, k * 8 + 6, none⟩ (nI K)).setCell ⟨a, k * 8 + 7, none⟩ (sL av d.length cv)).cell? ⟨mb, 0, none⟩ = some (sL (some ⟨c, 0, none⟩) x.1.length l) ∧ ((((((((i.setCell ⟨a, k * 8, none⟩ (nI F)).setCell ⟨a, k * 8 + 1, none⟩ (nI C)).setCell ⟨a, k * 8 + 2, none⟩ (.bool H)).setCell ⟨a, k * 8 + 3, none⟩ (nI U)).setCell ⟨a, k * 8 + 4, none⟩ (nI N)).setCell ⟨a, k * 8 + 5, none⟩ (nI O)).setCell ⟨a, k * 8 + 6, none⟩ (nI K)).setCell ⟨a, k * 8 + 7, none⟩ (sL av d.length cv)).cell? ⟨mb, 1, none⟩ = some (sL (some ⟨a, 0, none⟩) x.2.length m)) := zAd o.out.box; obtain ⟨p0, k0⟩ : ∃ p, i.cell? ⟨a, k * 8, none⟩ = some p := A 0 (by decide); have z0 := s (k * 8); obtain ⟨p1, k1⟩ : ∃ p, i.cell? ⟨a, k * 8 + 1, none⟩ = some p := A 1 (by decide); have CA := s (k * 8 + 1); obtain ⟨p2, k2⟩ : ∃ p, i.cell? ⟨a, k * 8 + 2, none⟩ = some p := A 2 (by decide); have z2 := s (k * 8 + 2); obtain ⟨p3, k3⟩ : ∃ p, i.cell? ⟨a, k * 8 + 3, none⟩ = some p := A 3 (by decide); have z3 := s (k * 8 + 3); obtain ⟨p4, k4⟩ : ∃ p, i.cell? ⟨a, k * 8 + 4, none⟩ = some p := A 4 (by decide); have z4 := s (k * 8 + 4); obtain ⟨p5, k5⟩ : ∃ p, i.cell? ⟨a, k * 8 + 5, none⟩ = some p := A 5 (by decide); have z5 := s (k * 8 + 5); obtain ⟨p6, k6⟩ : ∃ p, i.cell? ⟨a, k * 8 + 6, none⟩ = some p := A 6 (by decide); have z6 := s (k * 8 + 6); obtain ⟨p7, k7⟩ : ∃ p, i.cell? ⟨a, k * 8 + 7, none⟩ = some p := A 7 (by decide); have z7 := s (k * 8 + 7); have y : Hid _ := dl; clear A s D6 T) | fail))
   clear Q0 Q1 Q2 k0 k1 k2 k3 k4 k5 k6 k7 z0 CA z2 z3 z4 z5 z6 z7;have r : Hid _ := aI (zJO (j := k) (u := (F, C, H, U, N, O, K, d)) f.out.1 y.out) (aI f.out.2.1 (aI f.out.2.2.1 o.out));clear f o y;generalize aA : x.2.set k (F, C, H, U, N, O, K, d) = y2 at r;have I : y2.length = x.2.length := by rw [← aA]; exact List.length_set
   clear aA;generalize ((((((((i.setCell ⟨a, k * 8, none⟩ (nI F)).setCell ⟨a, k * 8 + 1, none⟩ (nI C)).setCell ⟨a, k * 8 + 2, none⟩ (.bool H)).setCell ⟨a, k * 8 + 3, none⟩ (nI U)).setCell ⟨a, k * 8 + 4, none⟩ (nI N)).setCell ⟨a, k * 8 + 5, none⟩ (nI O)).setCell ⟨a, k * 8 + 6, none⟩ (nI K)).setCell ⟨a, k * 8 + 7, none⟩ (sL av d.length cv)) = wr at r ⊢;have f : Hid (SmH (x.1, y2) ∧ (1 ≤ x.1.length ∧ 1 ≤ x.2.length) ∧ x.1.length = x.2.length ∧ DrC zAz 27 B g w wr w.heap.size mb [sL none 0 0, sL none 0 0] [sL (some ⟨c, 0, none⟩) x.1.length l, sL (some ⟨a, 0, none⟩) x.2.length m] (x.1, y2)) := r.out;clear r;obtain ⟨y0, y1⟩ := zAd f.out.2.2.2.box;have L := (Array.getElem?_eq_some_iff.1 f.out.2.2.2.box).1;go_upto_region 6 with fail
   clear y0 y1 L;have Q0 : Hid (wr.drew.cell? ⟨mb, 0, none⟩ = some (sL (some ⟨c, 0, none⟩) x.1.length l) ∧ wr.drew.cell? ⟨mb, 1, none⟩ = some (sL (some ⟨a, 0, none⟩) x.2.length m)) := zAd f.out.2.2.2.box
   (go_region_held3 (fun wx => wx.cell? ⟨mb, 0, none⟩ = some (sL (some ⟨c, 0, none⟩) x.1.length l) ∧ wx.cell? ⟨mb, 1, none⟩ = some (sL (some ⟨a, 0, none⟩) x.2.length m)) (first | (with_reducible exact Q0.out) | (with_reducible exact Q1.out) | (with_reducible exact Q2.out) | fail) (first | (go_at_call 80; refine (zCi B g _ (zFO f.out.2.2.2.cur)).mono ?_; rintro e i ⟨E, n1, n2, rfl, pA, LA, OI, CU, GR⟩; have T : DrewR zAm B g wr.drew i [sL (some ⟨E, 0, none⟩) 2 2] [n1, n2] := zEm LA pA OI CU GR; have dl : ([n1, n2] : List Int).length ≤ 3 := (by simp); obtain ⟨g1, sA, ev, ⟨p0, k0⟩, s, zA, qA, D6⟩ := hd_mem (j := k) (zDc f.out.2.2.2) T cA; cases ev; have Q1 : Hid (i.cell? ⟨mb, 0, none⟩ = some (sL (some ⟨c, 0, none⟩) x.1.length l) ∧ i.cell? ⟨mb, 1, none⟩ = some (sL (some ⟨a, 0, none⟩) x.2.length m)) := zAd ((T.chg.block mb (zDc f.out.2.2.2).lt.2.2.1 (by have := f.out.2.2.2.lt; omega)).trans (zDc f.out.2.2.2).box); have o : Hid (DrC zAz 27 B g w (i.setCell ⟨c, k, none⟩ (sL (some ⟨E, 0, none⟩) 2 2)) w.heap.size mb [sL none 0 0, sL none 0 0] [sL (some ⟨c, 0, none⟩) x.1.length l, sL (some ⟨a, 0, none⟩) x.2.length m] (x.1.set k [n1, n2], y2)) := D6; have Q2 : Hid ((i.setCell ⟨c, k, none⟩ (sL (some ⟨E, 0, none⟩) 2 2)).cell? ⟨mb, 0, none⟩ = some (sL (some ⟨c, 0, none⟩) x.1.length l) ∧ (i.setCell ⟨c, k, none⟩ (sL (some ⟨E, 0, none⟩) 2 2)).cell? ⟨mb, 1, none⟩ = some (sL (some ⟨a, 0, none⟩) x.2.length m)) := zAd o.out.box; have z0 := s k; have y : Hid _ := dl; clear s D6 T) | fail))
   clear Q0 Q1 Q2 k0 z0;have r : Hid (HDr B g w w.heap.size mb (i.setCell ⟨c, k, none⟩ (sL (some ⟨E, 0, none⟩) 2 2))) := ⟨(x.1.set k [n1, n2], y2), c, l, a, m, zLW (x := (x.1, y2)) (j := k) f.out.1 y.out, ⟨by simpa using f.out.2.1.1, by rw [I]; exact f.out.2.1.2⟩, by have q := f.out.2.2.1; simp only [List.length_set]; rw [I]; exact q, by have q := o.out; simp only [List.length_set]; rw [I]; exact q⟩;clear f o y;generalize (i.setCell ⟨c, k, none⟩ (sL (some ⟨E, 0, none⟩) 2 2)) = wr at r ⊢;go_wp2;go_roundw
   case rel => exact ⟨k + 1, by omega, by go_num, r.out⟩
   case measure => simp [intOf]; omega
  ·have pB : ¬ (k : Int) < (x.2.length : Int) := by omega
   have rA : x.1.length ≤ 16 := by omega
   have G := D.res;obtain ⟨r0, r1⟩ := zAd G;obtain ⟨F, C⟩ := zA1 G;have aB := (ltH G);have HF : Hid _ := aI J (aI Y (aI D G));clear J Y D G le;go_wp2;obtain ⟨J, Y, D, G⟩ := HF.out;have V := zCu (y0 := sL (some ⟨c, 0, none⟩) x.1.length l) (y1 := sL (some ⟨a, 0, none⟩) x.2.length m) G;obtain ⟨v0, v1⟩ := zAd V;exact bodyPost_ret (v := .agg #[sL (some ⟨c, 0, none⟩) x.1.length l, sL (some ⟨a, 0, none⟩) x.2.length m]) (by simp [results, Tryz.results77, go_sem, v0, v1]) rfl ⟨x, some ⟨c, 0, none⟩, l, some ⟨a, 0, none⟩, m, rfl, J, rA, Y, zEE D (zAO.trans zAO)⟩
end Go.Proofs.YtmaopldahnejdaaGreatDoor
