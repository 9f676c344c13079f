import Derived.Test.YtmaopldahnejdaaGreatDoorG00Box
import Derived.Test.YtmaopldahnejdaaGreatDoorG32
import Derived.Test.YtmaopldahnejdaaGreatDoorG35
namespace Go.Proofs.YtmaopldahnejdaaGreatDoor
set_option maxHeartbeats 1000000
open Go.ChangeShapes Go.WideShapes Go.ChangeAt Go.RowKit
set_option linter.unusedVariables false
set_option linter.unusedSimpArgs false
theorem zGq {r c tq n kk gg : Int} {dt : List Int} (h7 : zFB (r, c, tq, n, kk, dt, gg) = true) : 0 ≤ c ∧ c ≤ 5 ∧ zDY dt = true := by
 have a : (zDB r c tq && (zA6 n 1 15 && (zA6 kk 0 15 && (zDY dt && zA6 gg 0 15)))) = true := h7;simp only [Bool.and_eq_true] at a;obtain ⟨b, -, -, d, -⟩ := a;unfold zDB at b;simp only [Bool.and_eq_true] at b;have : 0 ≤ c ∧ c ≤ 5 := by simpa [zA6] using b.2.1
 exact ⟨this.1, this.2, d⟩
theorem zLD {k kind : Int} {ws : List Int} {o s r c tq n kk gg : Int} {dt : List Int} (hl : isL ws = true) (hw : zAI o s = true) (c0 : 0 ≤ c) (c5 : c ≤ 5) (hk : 1 ≤ kind ∧ kind ≤ 4) (hmay : zDv kind (r, c, tq, n, kk, dt, gg) = true) :
    RO (o, s, false, 0, 0, 0, 0, []) (zGz kind k (ws, (o, s, false, 0, 0, 0, 0, [])) (r, c, tq, n, kk, dt, gg)) := by
 obtain ⟨f, m, p⟩ := zCV hk hmay;have i := g3 hw c0 c5;have d := ask_g hw c0 c5 hk;have B : ∀ l, zBP (o, s, false, 0, 0, 0, 0, []) kind (r, c, tq, n, kk, dt, gg) l = (o, s, true, kind, c, l, zJg kind gg, zJh kind dt) := fun l => rfl;unfold zGz;simp only [B];by_cases a : zB1 o s kind c = []
 ·rw [if_pos a, a];refine zI8 hl (zEY hw hl hk hmay) (fun q => ?_) f (fun q => ⟨if_neg q, if_neg q⟩);subst q;unfold zB1 at a;rw [if_pos (Or.inl rfl)] at a;have hb := zCy i.1;split at a
  ·cases a
  ·omega
 ·rw [if_neg a];have C : (zB1 o s kind c).length ≠ 0 := fun q => a (List.eq_nil_of_length_eq_zero q);refine ⟨hl, ?_, fun l h => ?_⟩
  ·show zBR (o, s, true, kind, c, ((zB1 o s kind c).length : Int), zJg kind gg, zJh kind dt) = true
   rw [eb, hw];have h4 := d.2;have g : zA6 kind 1 4 = true := by simp [zA6]; omega
   have y : zA6 ((zB1 o s kind c).length : Int) 0 4 = true := by simp [zA6]; omega
   have A : zBS kind c ((zB1 o s kind c).length : Int) = true := by
    unfold zBS;split
    ·rename_i q; exact f q
    ·rename_i q
     have b : decide (c = 5) = true := decide_eq_true (m (by omega));rw [b, Bool.true_and];simpa using a
   have z : zCo kind (zJg kind gg) (zJh kind dt) = true := by
    unfold zCo zJg zJh;by_cases q : kind = 4
    ·obtain ⟨E, v⟩ := p q;simp only [if_pos q]; rw [E, v]; rfl
    ·simp only [if_neg q]; rfl
   simp only [Bool.true_and, if_true, zAA, g, y, A, z]
  ·obtain ⟨j, D, rfl⟩ := List.mem_map.1 h;refine .inr (.inr (.inl ⟨?_, rfl, ?_, d.1 j D⟩))
   ·show (if kind = 1 ∨ kind = 3 then (6 : Int) else 7) = 6 ∨ (if kind = 1 ∨ kind = 3 then (6 : Int) else 7) = 7
    split
    ·exact .inl rfl
    ·exact .inr rfl
   ·show ((zB1 o s kind c).length : Int) = ((zAG k kind (zB1 o s kind c)).length : Int)
    unfold zAG;rw [List.length_map]
theorem zLE {k : Int} {ws d : List Int} {o s kd f l mk r c tq n kk gg : Int} {dt : List Int} (hl : isL ws = true) (he : zBR (o, s, true, kd, f, l, mk, d) = true) (c0 : 0 ≤ c) (c5 : c ≤ 5) (hd : zDY dt = true) (hy : zEH o s c = true) (hl0 : 0 < l) :
    RO (o, s, true, kd, f, l, mk, d) (zIn k (ws, (o, s, true, kd, f, l, mk, d)) (r, c, tq, n, kk, dt, gg)) := by
 have a := zHJ (gg := gg) he hy hl hd;have L := he;rw [eb, if_pos rfl, Bool.and_eq_true] at he;obtain ⟨N, A⟩ := he;unfold zAA at A;simp only [Bool.and_eq_true] at A;obtain ⟨B, I, b, g⟩ := A;have H : 1 ≤ kd ∧ kd ≤ 4 := by simpa [zA6] using B
 have G : 0 ≤ l ∧ l ≤ 4 := by simpa [zA6] using I
 obtain ⟨C, F, K⟩ := g1 N c0 c5 hy;obtain ⟨j, v, M⟩ : ∃ j, zAI (-1) j = true ∧ zDb (o, s, true, kd, f, l, mk, d) c gg = (-1, j, true, kd, f, l - 1, mk, d) := by
  unfold zDb;split
  ·exact ⟨_, F, by unfold zCp zKi; simp only; rw [C]⟩
  ·exact ⟨_, K, by unfold zCp zKi; simp only; rw [C]⟩
 have E := zHI hl hd;have i : kd ≤ 2 → zA6 f 0 3 = true := fun q => by unfold zBS at b; rw [if_pos q] at b; exact b
 have z : ¬ kd ≤ 2 → f = 5 := fun q => by unfold zBS at b; rw [if_neg q] at b; simp only [Bool.and_eq_true, decide_eq_true_eq] at b; exact b.1
 have J : kd ≠ 4 → mk = 0 ∧ d = [] := fun q => by
  unfold zCo at g;rw [if_neg q] at g;simp only [Bool.and_eq_true, decide_eq_true_eq] at g;exact ⟨g.1, List.eq_nil_of_length_eq_zero g.2⟩
 unfold zIn;simp only
 rw [M] at a ⊢;by_cases D : 0 < l - 1
 ·rw [if_pos D];refine ⟨E, ?_, fun u h => by cases h⟩;show zBR (-1, j, true, kd, f, l - 1, mk, d) = true
  rw [eb, v];have y : zA6 (l - 1) 0 4 = true := by simp [zA6]; omega
  have m : zBS kd f (l - 1) = true := by
   unfold zBS;split
   ·rename_i q; exact i q
   ·rename_i q; rw [z q]; simp; omega
  simp only [Bool.true_and, if_true, zAA, B, y, m, g]
 ·rw [if_neg D];have p : l - 1 = 0 := by omega
  rw [p] at a ⊢;exact zI8 E a (fun _ => by unfold fgO; split <;> rfl) i J
theorem zKu {k : Int} {ws : List Int} {e : zA7} {m : zAS} (hl : isL ws = true) (he : zBR e = true) (h7 : zFB m = true) (hs : zBd (ws, e) m = none) : RO e (zBm k (ws, e) m) := by
 have z := zEB he;by_cases g : 0 < zBL m.2.2.2.1
 ·have B : 1 ≤ zBL m.2.2.2.1 ∧ zBL m.2.2.2.1 ≤ 4 := by
    refine ⟨by omega, ?_⟩;unfold zBL;repeat (first | (split; omega) | omega)
  rw [zBi rfl g] at hs;rw [zDf rfl g];split at hs
  ·rename_i hmay
   split at hs
   ·cases hs
   ·rename_i hb
    have b : e.2.2.1 = false := by simpa using hb
    have j := zDL he b;obtain ⟨o, s, G, M, f, l, L, d⟩ := e;obtain ⟨r, c, I, n, J, E, K⟩ := m;simp only at j
    rw [j];obtain ⟨i, p, -⟩ := zGq h7;exact zLD hl z i p B hmay
  ·cases hs
 by_cases F : m.2.2.2.1 = 3
 ·rw [zHK F] at hs;rw [zJK F];split at hs
  ·rename_i hc
   split at hs
   ·cases hs
   ·rename_i hb
    have b : e.2.2.1 = false := by simpa using hb
    have j := zDL he b;obtain ⟨o, s, G, M, f, l, L, d⟩ := e;obtain ⟨r, c, I, n, J, E, K⟩ := m;simp only at j hc z
    rw [j];obtain ⟨i, p, D⟩ := zGq h7;have H := g3 z i p;have C : 0 ≤ c ∧ c ≤ 3 := by simpa [zA6] using hc
    refine ⟨?_, ?_, fun u h => ?_⟩
    ·show isL (if zEt o c then zBA ws E else ws) = true
     split
     ·exact zHI hl D
     ·exact hl
    ·exact zFN H.1
    ·rw [List.mem_singleton.1 h];exact .inr (.inr (.inr ⟨rfl, H.2.1 C.2⟩))
  ·cases hs
 by_cases a : m.2.2.2.1 = 8 ∨ m.2.2.2.1 = 9
 ·rw [zEZ a] at hs;rw [zHL a];split at hs
  ·rename_i ha
   obtain ⟨o, s, G, M, f, l, L, d⟩ := e;obtain ⟨r, c, I, n, J, E, K⟩ := m;unfold zFL at ha;simp only [Bool.and_eq_true, decide_eq_true_eq] at ha;obtain ⟨R, O, N⟩ := ha;obtain ⟨i, p, D⟩ := zGq h7;have A : G = true := R;subst A;exact zLE hl he i p D N O
  ·cases hs
 by_cases v : m.2.2.2.1 = 10
 ·rw [zIB v];exact ⟨hl, zFN z, fun u h => by cases h⟩
 ·have y : m.2.2.2.1 ≠ 1 ∧ m.2.2.2.1 ≠ 2 ∧ m.2.2.2.1 ≠ 4 ∧ m.2.2.2.1 ≠ 5 := by
    refine ⟨fun q => g ?_, fun q => g ?_, fun q => g ?_, fun q => g ?_⟩ <;> (rw [q]; decide)
  rw [zGp y.1 y.2.1 y.2.2.1 y.2.2.2 F (fun q => a (.inl q)) (fun q => a (.inr q)) v] at hs;cases hs
theorem zLF {x : zA2} {j : Nat} {r : List Int} {e : zA7} (h : zAR x = true) (hr : isL r = true) (he : zBR e = true) : zAR (x.1.set j r, x.2.set j e) = true := by
 unfold zAR at h ⊢;simp only [Bool.and_eq_true, decide_eq_true_eq, List.all_eq_true, List.length_set] at h ⊢;refine ⟨?_, h.2.1, fun u hu => (List.mem_or_eq_of_mem_set hu).elim (h.2.2 u) (fun q => by rw [q]; exact he)⟩;have a := h.1;unfold zCa at a ⊢;simp only [Bool.and_eq_true, List.all_eq_true, List.length_set] at a ⊢;exact ⟨a.1, fun u hu => (List.mem_or_eq_of_mem_set hu).elim (a.2 u) (fun q => by rw [q]; exact hr)⟩
theorem zLG {x : zA2} {m l : zAS} (hl : l ∈ (zBb x m).2.1) : ∃ (j : Nat) (r' : List Int) (e' u : zA7), m.2.2.2.2.1 = (j : Int) ∧ (zBb x m).1.1[j]? = some r' ∧ (zBb x m).1.2[j]? = some e' ∧ x.2[j]? = some u ∧ zCf (zBb x m).1 j = hoI e'.1 e'.2.1 ∧ zCf x j = hoI u.1 u.2.1 ∧ isL r' = true ∧ GP r' e' u ((zBb x m).2.1.length : Int) l := by
 cases d : zAR x
 ·have e : zBb x m = (([], []), [], -1) := by unfold zBb; rw [d]; rfl
  rw [e] at hl; cases hl
 cases a : zG6 x m
 ·have e : zBb x m = (x, [], 0) := by unfold zBb; rw [d, a]; rfl
  rw [e] at hl; cases hl
 have g : zFB m = true ∧ zA6 m.2.2.2.2.1 0 ((x.2.length : Int) - 1) = true := by unfold zG6 at a; exact Bool.and_eq_true_iff.1 a
 obtain ⟨y, F⟩ := zCk d;obtain ⟨n, s, i⟩ := zEN g.2;have f := List.getElem?_eq_getElem i;generalize x.2[n] = u at f;have b : n < x.1.length := by omega
 have v := List.getElem?_eq_getElem b;generalize x.1[n] = r at v;have p : zFp x m.2.2.2.2.1 = (r, u) := by
  unfold zFp;rw [s, show ((n : Int)).toNat = n by omega, List.getD_eq_getElem?_getD, List.getD_eq_getElem?_getD, v, f];rfl
 cases q : zBd (r, u) m with
 | some c =>
  have e : zBb x m = (x, [], c) := by unfold zBb; rw [d, a, p]; simp only [q, if_true]
  rw [e] at hl; cases hl
 | none =>
  have B := zKu (k := m.2.2.2.2.1) (zEf y v) (zDJ d f) g.1 q;have e : zBb x m = ((x.1.set n (zBm m.2.2.2.2.1 (r, u) m).1.1, x.2.set n (zBm m.2.2.2.2.1 (r, u) m).1.2), (zBm m.2.2.2.2.1 (r, u) m).2, 1) := by
   unfold zBb;rw [d, a, p];simp only [q, if_true];unfold zH7;rw [s, show ((n : Int)).toNat = n by omega]
  rw [e] at hl ⊢;generalize zBm m.2.2.2.2.1 (r, u) m = o at B hl;obtain ⟨A, D, H⟩ := B;have E := zLF (j := n) d A D;have C : (x.2.set n o.1.2)[n]? = some o.1.2 := by rw [List.getElem?_set_self i]
  have G : (x.1.set n o.1.1)[n]? = some o.1.1 := by rw [List.getElem?_set_self b]
  refine ⟨n, o.1.1, o.1.2, u, s, G, C, f, ?_, ?_, A, H l hl⟩
  ·unfold zCf;have z : zA6 (n : Int) 0 (((x.2.set n o.1.2).length : Int) - 1) = true := by simp [zA6]; omega
   simp only [E, z, Bool.true_and, if_true];rw [List.getD_eq_getElem?_getD, show ((n : Int)).toNat = n by omega, C];rfl
  ·unfold zCf;have z : zA6 (n : Int) 0 ((x.2.length : Int) - 1) = true := by simp [zA6]; omega
   simp only [d, z, Bool.true_and, if_true];rw [List.getD_eq_getElem?_getD, show ((n : Int)).toNat = n by omega, f];rfl
def zLH (B : Nat) (w : World) (a : Option Addr) (len : Nat) (zs : List Int) : Prop :=
 len ≤ 2305843009213693952 ∧ (len = 0 ∨ ∃ b off, a = some ⟨b, off, none⟩ ∧ b < B ∧ ∀ j, j < len → w.cell? ⟨b, off + j, none⟩ = some (.int .u8 (zs.getD j 0)))
def Cur (B : Nat) (w : World) (g : Nat) : Prop :=
 B ≤ g ∧ ∃ a len cap zs, ∃ (i : Nat) (h : Int), i ≤ len ∧ w.heap[g]? = some (.cells #[.slice a len cap, .int .i64 i, .int .i64 h] 95 (0, 0)) ∧ zLH B w a len zs
theorem zLI {n : Int} (h0 : 0 ≤ n) (h1 : n < 9223372036854775808) : wrap64 n = n := by unfold wrap64; omega
theorem zLJ (x : Int) : 0 ≤ bits .and .i64 x 255 ∧ bits .and .i64 x 255 ≤ 255 := by
 have h : (BitVec.ofInt 64 x &&& BitVec.ofInt 64 255).toNat ≤ 255 := by
  rw [BitVec.toNat_and];exact Nat.le_trans Nat.and_le_right (by decide)
 have e : bits .and .i64 x 255 = IntKind.i64.wrap ((BitVec.ofInt 64 x &&& BitVec.ofInt 64 255).toNat : Int) := rfl;rw [e, IntWalk.i64_left, zLI (by omega) (by omega)];omega
theorem zHM {B g : Nat} {w w' : World} {a : Option Addr} {len : Nat} {zs : List Int} (h : zLH B w a len zs) (hg : w.grownBy w' (some g)) (hB : B ≤ g) : zLH B w' a len zs := by
 refine ⟨h.1, ?_⟩;rcases h.2 with h | ⟨b, c, d, f, i⟩
 ·exact .inl h
 ·exact .inr ⟨b, c, d, f, fun j hj => hg.cell (i j hj) (by simp; omega)⟩
theorem zKv {w : World} {g : Nat} {x y z : Value} {t : TypeId} (h : w.heap[g]? = some (.cells #[x, y, z] t (0, 0))) :
    w.cell? ⟨g, 0, none⟩ = some x ∧ w.cell? ⟨g, 1, none⟩ = some y ∧ w.cell? ⟨g, 2, none⟩ = some z ∧ w.frozen? ⟨g, 0, none⟩ = false ∧ w.frozen? ⟨g, 1, none⟩ = false ∧ w.frozen? ⟨g, 2, none⟩ = false := by
 refine ⟨?_, ?_, ?_, ?_, ?_, ?_⟩
 ·rw [cell_of_row w g 0 _ t (0, 0) h]; rfl
 ·rw [cell_of_row w g 1 _ t (0, 0) h]; rfl
 ·rw [cell_of_row w g 2 _ t (0, 0) h]; rfl
 ·exact frozen_of_row w g 0 _ t h
 ·exact frozen_of_row w g 1 _ t h
 ·exact frozen_of_row w g 2 _ t h
theorem zGr {w : World} {g j : Nat} {cs : Array Value} {t : TypeId} (u : Value) (h : w.heap[g]? = some (.cells cs t (0, 0))) :
    (w.setCell ⟨g, j, none⟩ u).heap[g]? = some (.cells (cs.setIfInBounds j u) t (0, 0)) ∧ w.grownBy (w.setCell ⟨g, j, none⟩ u) (some g) :=
 ⟨heap_setCell_same w g j cs t u h, ⟨rfl, rfl, rfl, by simp, fun k _ hk => heap_setCell_other w ⟨g, j, none⟩ k u (fun e => hk (by simp [e]))⟩⟩
theorem zGs {a b : World} {row : Option Nat} (h : a.grownBy b row) (n : Nat) : a.grownBy (b.drewN n) row := ⟨h.os, h.tape, h.output, h.size, h.block⟩
theorem cur_set {B g : Nat} {w : World} {a : Option Addr} {len cap : Nat} {zs : List Int} {i : Nat} {h : Int} (hB : B ≤ g) (hi : i ≤ len)
    (hblk : w.heap[g]? = some (.cells #[sL a len cap, nI i, nI h] 95 (0, 0))) (hby : zLH B w a len zs) (h' : Int) (n : Nat) :
    Cur B ((w.setCell ⟨g, 2, none⟩ (nI h')).drewN n) g ∧ w.grownBy ((w.setCell ⟨g, 2, none⟩ (nI h')).drewN n) (some g) := by
 have s := zGr (j := 2) (nI h') hblk;have b := zGs s.2 n;exact ⟨⟨hB, a, len, cap, zs, i, h', hi, s.1, zHM hby b hB⟩, b⟩
theorem cur_set2 {B g : Nat} {w : World} {a : Option Addr} {len cap : Nat} {zs : List Int} {i : Nat} {h : Int} (hB : B ≤ g) (hi : i < len)
    (hblk : w.heap[g]? = some (.cells #[sL a len cap, nI i, nI h] 95 (0, 0))) (hby : zLH B w a len zs) (h' : Int) (n : Nat) :
    Cur B (((w.setCell ⟨g, 2, none⟩ (nI h')).drewN n).setCell ⟨g, 1, none⟩ (nI ((i : Int) + 1))) g ∧ w.grownBy (((w.setCell ⟨g, 2, none⟩ (nI h')).drewN n).setCell ⟨g, 1, none⟩ (nI ((i : Int) + 1))) (some g) := by
 have s := zGr (j := 2) (nI h') hblk;have d := zGs s.2 n;have c := zGr (w := (w.setCell ⟨g, 2, none⟩ (nI h')).drewN n) (j := 1) (nI ((i : Int) + 1)) s.1;have b := zBB d c.2;exact ⟨⟨hB, a, len, cap, zs, i + 1, h', by omega, c.1, zHM hby b hB⟩, b⟩
theorem zKw (B g : Nat) (w : World) (hcur : Cur B w g) :
    Calls Tryz.prog 81 #[.pointer (some ⟨g, 0, none⟩)] w fun e w' => ∃ x : Int, e = .returned (nI x) ∧ 0 ≤ x ∧ x ≤ 255 ∧ Cur B w' g ∧ w.grownBy w' (some g) := by
 obtain ⟨f, a, j, p, zs, i, h, n, c, d⟩ := hcur;obtain ⟨c0, c1, c2, f0, f1, f2⟩ := zKv c;have hl := d.1;by_cases k : i < j
 ·rcases d.2 with h0 | ⟨b, o, rfl, hb, m⟩
  ·omega
  have gb := m i k;have q : b ≠ g := by omega
  have l : (i : Int) < (j : Int) := by omega
  clear m;go_enter Tryz.func81, Tryz.ntmps81;go_wp2;go_quiet (fail)
  go_wp2;go_quiet (fail)
  go_wp2;go_quiet (fail)
  go_wp2;go_ret
  have A := zLJ;have C := cur_set2 f k c d;exact ⟨_, rfl, (A _).1, (A _).2, C _ _⟩
 ·go_enter Tryz.func81, Tryz.ntmps81;go_wp2;go_quiet (fail)
  go_wp2;go_quiet (fail)
  go_wp2;go_ret
  have A := zLJ;have C := cur_set f n c d;rw [World.drewN_drewN];exact ⟨_, rfl, (A _).1, (A _).2, C _ _⟩
theorem zAp (B g : Nat) (n : Int) (w : World) (hcur : Cur B w g) (h0 : 0 < n) (h1 : n ≤ 256) :
    Calls Tryz.prog 40 #[.pointer (some ⟨g, 0, none⟩), nI n] w fun e w' => ∃ x : Int, e = .returned (nI x) ∧ 0 ≤ x ∧ x < n ∧ Cur B w' g ∧ w.grownBy w' (some g) := by
 have b : (n == 0) = false := by simp; omega
 go_enter Tryz.func40, Tryz.ntmps40;go_wp2_with (go_at_call 81; refine (zKw B g _ hcur).mono ?_; rintro e w1 ⟨x, rfl, c, a, f, d⟩)
 go_ret
 exact ⟨_, rfl, Int.emod_nonneg _ (by omega), Int.emod_lt_of_pos _ h0, f, d⟩
theorem zBy (B g : Nat) (n : Int) (w : World) (hcur : Cur B w g) (h0 : 0 < n) (h1 : n ≤ 256) :
    Calls Tryz.prog 39 #[.pointer (some ⟨g, 0, none⟩), nI n] w fun e w' => ∃ x : Bool, e = .returned (.bool x) ∧ Cur B w' g ∧ w.grownBy w' (some g) := by
 go_enter Tryz.func39, Tryz.ntmps39;go_wp2_with (go_at_call 40; refine (zAp B g n _ hcur h0 h1).mono ?_; rintro e w1 ⟨x, rfl, b, a, d, c⟩)
 go_ret
 exact ⟨_, rfl, d, c⟩
theorem zAQ {B g : Nat} {w : World} (h : Cur B w g) (o : Obj) : Cur B (w.alloc o) g := by
 obtain ⟨v, a, l, f, r, i, p, n, c, d⟩ := h;have m : g < w.heap.size := (ltH c);refine ⟨v, a, l, f, r, i, p, n, (Below.heap_alloc w o g m).trans c, d.1, ?_⟩;rcases d.2 with h | ⟨b, k, q, s, y⟩
 ·exact .inl h
 ·exact .inr ⟨b, k, q, s, fun j hj => (World.cell?_alloc_past _ _ _ (by show b < w.heap.size; omega)).trans (y j hj)⟩
theorem zBX {B g : Nat} {w : World} (h : Cur B w g) : g < w.heap.size := by
 obtain ⟨hB, a, f, c, zs, i, hh, hi, b, d⟩ := h;exact (ltH b)
def Row8 (w : World) (a : Option Addr) (len : Nat) (zs : List Int) : Prop :=
 len ≤ 2305843009213693952 ∧ (len = 0 ∨ ∃ b off, a = some ⟨b, off, none⟩ ∧ b < w.heap.size ∧ ∀ j, j < len → w.cell? ⟨b, off + j, none⟩ = some (.int .u8 (zs.getD j 0)))
theorem cur_new {w : World} {a : Option Addr} {len cap : Nat} {zs : List Int} (hr : Row8 w a len zs) (h : Int) :
    Cur w.heap.size (w.alloc (.cells #[sL a len cap, nI 0, nI h] 95)) w.heap.size ∧
     Bl w (w.alloc (.cells #[sL a len cap, nI 0, nI h] 95)) := by
 refine ⟨⟨Nat.le_refl _, a, len, cap, zs, 0, h, Nat.zero_le _, heap_alloc_new w _, hr.1, ?_⟩, (Below.refl _ _).alloc (Nat.le_refl _) _⟩;rcases hr.2 with h | ⟨b, c, d, f, g⟩
 ·exact .inl h
 ·exact .inr ⟨b, c, d, f, fun j hj => (World.cell?_alloc_past _ _ _ (by show b < w.heap.size; omega)).trans (g j hj)⟩
theorem zLK (a : Option Addr) (len cap : Nat) (zs : List Int) (w : World) (hr : Row8 w a len zs) :
    Calls Tryz.prog 36 #[sL a len cap] w fun e w' => e = .returned (.pointer (some ⟨w.heap.size, 0, none⟩)) ∧ Cur w.heap.size w' w.heap.size ∧ Bl w w' := by
 have hl := hr.1;go_enter Tryz.func36, Tryz.ntmps36;go_wp2;go_loop [3, 4] (fun q i => ∃ (k : Nat) (h : Int), k ≤ len ∧ i = nI k ∧ q = nI h) (fun _ i => len - (intOf i).toNat)
 case atStart => exact ⟨0, _, Nat.zero_le _, rfl, rfl⟩
 case round =>
  obtain ⟨k, h, hk, rfl, rfl⟩ := hrel;by_cases c : k < len
  ·rcases hr.2 with h | ⟨b, g, rfl, hb, f⟩
   ·omega
   have gb := f k c;have d : (k : Int) < (len : Int) := by omega
   clear f;go_wp2;go_round
   case rel => exact ⟨k + 1, _, by omega, by go_num, rfl⟩
   case measure => simp [intOf]; omega
  ·go_wp2;go_ret
   exact ⟨rfl, cur_new hr h⟩
theorem zKx {w w' : World} {a : Option Addr} {len : Nat} {zs : List Int} (h : Row8 w a len zs) (hb : Bl w w') : Row8 w' a len zs := by
 refine ⟨h.1, ?_⟩;rcases h.2 with h | ⟨b, d, f, c, g⟩
 ·exact .inl h
 ·exact .inr ⟨b, d, f, Nat.lt_of_lt_of_le c hb.size, fun j hj => (hb.cell (by exact c)).trans (g j hj)⟩
theorem big_any (a : Option Addr) (len cap : Nat) (w : World) :
    Calls Tryz.prog 6 #[sL a len cap] w fun e w' => e = .returned (.bool (decide ((4096 : Int) < len))) ∧ w' = w := by
 go_enter Tryz.func6, Tryz.ntmps6;go_wp2;go_ret
 exact ⟨rfl, rfl⟩
theorem zFO {B g : Nat} {w : World} (h : Cur B w g) : Cur B w.drew g := h
theorem zEl (B g : Nat) (lo hi : Int) (w : World) (hcur : Cur B w g) (h0 : lo ≤ hi) (h1 : hi - lo < 256) (h2 : -1000000 ≤ lo) (h3 : hi ≤ 1000000) :
    Calls Tryz.prog 47 #[.pointer (some ⟨g, 0, none⟩), nI lo, nI hi] w fun e w' => ∃ x : Int, e = .returned (nI x) ∧ lo ≤ x ∧ x ≤ hi ∧ Cur B w' g ∧ w.grownBy w' (some g) := by
 go_enter Tryz.func47, Tryz.ntmps47;go_wp2_with (go_at_call 40; refine (zAp B g _ _ hcur (by omega) (by omega)).mono ?_; rintro e w1 ⟨x, rfl, b, a, d, c⟩)
 go_ret
 exact ⟨_, rfl, by omega, by omega, d, c⟩
theorem zLL {B B' g cap : Nat} {w : World} {zs : List Int} (h : zCW B w g cap zs) (hb : B' ≤ B) : zCW B' w g cap zs := by
 refine ⟨h.1, ?_⟩;rcases h.2 with b | ⟨f, a, c, b, d, rest⟩
 ·exact .inl b
 ·exact .inr ⟨f, a, c, b, Nat.le_trans hb d, rest⟩
theorem owni_one {B g cap : Nat} {w : World} {x y : Int} (h : zCW B w g cap [x, y]) : zCW B w g cap [x] := by
 refine ⟨rfl, ?_⟩;rcases h.2 with ⟨a, _⟩ | ⟨g', c, b, a, i, f, d, l, j, k⟩
 ·simp at a
 ·simp only [Value.slice.injEq, Option.some.injEq, Addr.mk.injEq, and_true, true_and] at a;obtain ⟨rfl, rfl⟩ := a;refine .inr ⟨g, cap, b, rfl, i, f, by simp at d ⊢; omega, l, j, ?_⟩;have := congrArg (List.take 1) k;rw [List.take_take] at this;simpa using this
theorem zIC {B g r : Nat} {w w' : World} (h : Cur B w g) (hg : w.grownBy w' (some r)) (hB : B ≤ r) (hne : r ≠ g) : Cur B w' g := by
 obtain ⟨d, a, j, c, m, i, l, k, b, f⟩ := h;exact ⟨d, a, j, c, m, i, l, k, (hg.block g (ltH b) (by simp; omega)).trans b, zHM f hg hB⟩
theorem zID {w a b : World} {g r : Nat} (h : w.grownBy a (some g)) (k : a.grownBy b (some r)) (hr : w.heap.size ≤ r) : w.grownBy b (some g) :=
 ⟨k.os.trans h.os, k.tape.trans h.tape, k.output.trans h.output, Nat.le_trans h.size k.size, fun j hj hne => (k.block j (Nat.lt_of_lt_of_le hj h.size) (by simp; omega)).trans (h.block j hj hne)⟩
theorem zKy {B g cap : Nat} {w : World} {zs : List Int} (h : zCW B w g cap zs) (o : Obj) : zCW B (w.alloc o) g cap zs := World.ownsRow.alloc h o
def Drew (B g : Nat) (w w' : World) (v : Value) (xs : List Int) : Prop :=
 ∃ gl cap, v = .slice (some ⟨gl, 0, none⟩) xs.length cap ∧ w.heap.size ≤ gl ∧ zCW w.heap.size w' gl cap xs ∧ Cur B w' g ∧ w.grownBy w' (some g)
structure DrewR {α : Type} (R : Rep α) (B g : Nat) (w w' : World) (cs : List Value) (x : α) : Prop where
 own : R.own w' (rng w.heap.size w'.heap.size) cs x
 cur : Cur B w' g
 chg : Chg (fun b => b = g) w w'
theorem zBe {x : Int} (h0 : -1000000 ≤ x) (h1 : x ≤ 1000000) : zA4 x := by constructor <;> omega
theorem zB5 {B g : Nat} {S : zAN} {w w' : World} (h : Cur B w g) (hc : Chg S w w') (hS : ∀ k, S k → B ≤ k ∧ k ≠ g) (hB : B ≤ w.heap.size) : Cur B w' g := by
 obtain ⟨m, a, n, l, s, i, q, p, c, f⟩ := h;refine ⟨m, a, n, l, s, i, q, p, (hc.block g (ltH c) (fun hx => (hS g hx).2 rfl)).trans c, f.1, ?_⟩;rcases f.2 with h | ⟨b, d, r, v, o⟩
 ·exact .inl h
 ·refine .inr ⟨b, d, r, v, fun j hj => ?_⟩;exact (World.cell?_of_block (w := w) (a := ⟨b, d + j, none⟩) (hc.block b (by omega) (fun hx => by have := (hS b hx).1; omega))).trans (o j hj)
theorem zCd {w w2 : World} {g n : Nat} {cs : Array Value} {t : TypeId} (hg : (w.alloc (.cells cs t)).grownBy w2 (some g)) (hgs : g < w.heap.size) (x : Int) (h0 : 0 ≤ x) (h1 : x < n)
    (hcs : ∀ j, j < n → ∃ v, cs[j]? = some (nI v) ∧ -1000000 ≤ v ∧ v ≤ 1000000) : ∃ v, w2.cell? ⟨w.heap.size, x.toNat, none⟩ = some (nI v) ∧ zA4 v := by
 obtain ⟨v, a, c, b⟩ := hcs x.toNat (by omega);refine ⟨v, ?_, zBe c b⟩;refine hg.cell ?_ (by simp; omega);rw [cell_of_row _ _ _ _ _ (0, 0) (heap_alloc_new w _)];exact a
theorem zCi (B g : Nat) (w : World) (hcur : Cur B w g) :
    Calls Tryz.prog 80 #[.pointer (some ⟨g, 0, none⟩)] w fun e w' => ∃ gl x y, e = .returned (sL (some ⟨gl, 0, none⟩) 2 2) ∧ w.heap.size ≤ gl ∧ (∀ z ∈ [x, y], zA4 z) ∧ zCW w.heap.size w' gl 2 [x, y] ∧ Cur B w' g ∧ w.grownBy w' (some g) := by
 go_enter Tryz.func80, Tryz.ntmps80;go_wp2_with fail
 refine (zAp B g 30 _ hcur (by omega) (by omega)).mono ?_;rintro e w1 ⟨x, rfl, m, k, c, d⟩;go_wp2_with fail
 refine (zAp B g 30 _ c (by omega) (by omega)).mono ?_;rintro e f ⟨y, rfl, l, j, b, a⟩;go_wp2;go_ret
 have G := zBB d a;have O := zFE f #[nI x, nI y] [x, y] rfl (by unfold maxLen; simp);refine ⟨f.heap.size, x, y, rfl, G.size, ?_, zLL O G.size, zAQ b _, zBB G (World.grownBy_alloc _ _ _)⟩;intro z i;simp at i
 rcases i with rfl | rfl
 ·exact zBe (by omega) (by omega)
 ·exact zBe (by omega) (by omega)
theorem zDg (B g : Nat) (w : World) (hcur : Cur B w g) :
    Calls Tryz.prog 79 #[.pointer (some ⟨g, 0, none⟩)] w fun e w' => ∃ v xs, e = .returned v ∧ xs.length ≤ 3 ∧ (∀ z ∈ xs, zA4 z) ∧ Drew B g w w' v xs := by
 have eA := zBX hcur;have J : zA4 0 := zBe (by omega) (by omega);go_enter Tryz.func79, Tryz.ntmps79;go_wp2_with fail
 refine (zCi B g _ hcur).mono ?_;rintro e w1 ⟨c, x, y, rfl, R, E, m, L, a⟩;have G : Hid (zA4 x ∧ zA4 y) := ⟨E x (by simp), E y (by simp)⟩;have HZ : Hid (zA4 0) := J;clear E J;have o : c ≠ g := by omega
 go_wp2_with fail
 refine (zBy B g 8 _ L (by omega) (by omega)).mono ?_;rintro e w2 ⟨b, rfl, C, A⟩;replace m := zFg m A o;replace a := zBB a A;clear A L;cases b
 ·go_wp2;go_ret
  exact ⟨_, [x, y], rfl, by simp, by simp [G.out.1, G.out.2], c, 2, rfl, R, m, C, a⟩
 ·go_wp2_with fail
  refine (zAp B g 3 _ C (by omega) (by omega)).mono ?_;rintro e w3 ⟨k, rfl, M, K, f, D⟩;replace m := zFg m D o;replace a := zBB a D;clear D C;obtain rfl | rfl | rfl : k = 0 ∨ k = 1 ∨ k = 2 := by omega
  ·have V := zBX f;go_wp2_with fail
   refine (zAp B g _ _ (zAQ f _) (by omega) (by omega)).mono ?_;rintro e d ⟨k, rfl, M, K, N, l⟩
   obtain ⟨v, hv, q⟩ := zCd (n := 3) l V k M K (by
    intro j O;obtain rfl | rfl | rfl : j = 0 ∨ j = 1 ∨ j = 2 := by omega
    all_goals exact ⟨_, rfl, by decide, by decide⟩)
   have HV : Hid (zA4 v) := q;have T : zCW w.heap.size d c 2 [x, y] := zFg (zKy m _) l o;have G4 := zBB (zBB a (World.grownBy_alloc _ _ _)) l;have c0 : d.cell? ⟨c, 0, none⟩ = some (nI x) := by rw [World.ownsRow.cellAt T 0 (by simp)]; rfl
   have f0 : d.frozen? ⟨c, 0, none⟩ = false := World.ownsRow.frozenAt T 0;have S := World.ownsRow.stored T 0 (nI v);have H : Hid (zCW w.heap.size (d.setCell ⟨c, 0, none⟩ (nI v)) c 2 [v, y] ∧ Cur B (d.setCell ⟨c, 0, none⟩ (nI v)) g ∧ w.grownBy (d.setCell ⟨c, 0, none⟩ (nI v)) (some g)) :=
    ⟨S.1, zIC N S.2 (by have := hcur.1; omega) o, zID G4 S.2 R⟩
   clear S T G4 N l m a f q;go_wp2;go_ret
   exact ⟨_, [v, y], rfl, by simp, by simp [G.out.2, HV.out], c, 2, rfl, R, H.out.1, H.out.2.1, H.out.2.2⟩
  ·go_wp2_with fail
   go_ret
   exact ⟨_, [x], rfl, by simp, by simp [G.out.1], c, 2, rfl, R, owni_one m, f, a⟩
  ·obtain ⟨i0, hi, Y, X, U⟩ := info_parts Tryz.infoI;go_wp2_with (at_builtin; refine wpList_append_own _ rfl _ _ 28 rfl w.heap.size 2 i0 (nI 0) 1 8 Tryz.underlying28 hi Y X U rfl (by decide) _ _ _ rfl (m.alloc _) ⟨_, 0, none⟩ 1 1 [nI 0] rfl rfl ?c1 ?c2 ?c3 ?c4 ?c5 ?_)
   case c1 =>
    intro j u O;match j, O with
    | 0, O => simp at O; subst O; simp [Addr.add]
   case c2 => intro u Z; simp at Z; subst Z; rfl
   case c3 => unfold maxLen; simp
   case c4 => simp
   case c5 => have := a.size; simp; omega
   ·intro v' d i I r;have H : Hid (∃ s F, v' = sL (some ⟨s, 0, none⟩) 3 F ∧ w.heap.size ≤ s ∧ zCW w.heap.size d s F [x, y, 0] ∧ Cur B d g ∧ w.grownBy d (some g)) := by
     have p : (w3.alloc (.cells #[nI 0] 2)).grownBy d (some c) := I;rcases i.2 with ⟨h', _⟩ | ⟨s, F, gA, rfl, hb, hh, rest⟩
     ·exact absurd h' r
     ·exact ⟨s, F, rfl, hb, i, zIC (zAQ f _) p (by have := hcur.1; omega) (by omega), zID (zBB a (World.grownBy_alloc _ _ _)) p R⟩
    clear i I r;go_wp2;go_ret
    obtain ⟨s, F, rfl, h1, h2, h3, h4⟩ := H.out;exact ⟨_, [x, y, 0], rfl, by simp, by simp [G.out.1, G.out.2, HZ.out], s, F, rfl, h1, h2, h3, h4⟩
theorem zEm {B g : Nat} {w w' : World} {gl cap : Nat} {xs : List Int} (h64 : ∀ z ∈ xs, zA4 z) (h1 : w.heap.size ≤ gl) (h2 : zCW w.heap.size w' gl cap xs) (h3 : Cur B w' g) (h4 : w.grownBy w' (some g)) : DrewR zAm B g w w' [sL (some ⟨gl, 0, none⟩) xs.length cap] xs :=
 ⟨zGE h2 ⟨h1, (World.ownsRow.lt h2 gl rfl).2⟩ h64, h3, zB2 h4 rfl⟩
variable {α : Type}
theorem zAO {w : World} {g i : Nat} {v : Value} : Chg (fun b => b = g) w (w.setCell ⟨g, i, none⟩ v) := ⟨rfl, rfl, rfl, by simp, fun j _ hj => heap_setCell_other w ⟨g, i, none⟩ j v hj⟩
theorem zFu {g rb : Nat} {w wr W : World} (h : Chg (fun b => b = g) w wr) (c : Chg (fun b => b = rb) wr W) (hl : w.heap.size ≤ rb) : Chg (fun b => b = g) w W :=
 ⟨c.os.trans h.os, c.tape.trans h.tape, c.output.trans h.output, Nat.le_trans h.size c.size, fun j hj hn => (c.block j (by have := h.size; omega) (by omega)).trans (h.block j hj hn)⟩
structure DB (R : Rep α) (t : TypeId) (B g : Nat) (w wr : World) (rb mb : Nat) (z cs : List Value) (x : α) : Prop where
 box : wr.heap[mb]? = some (.cells cs.toArray t (0, 0))
 res : wr.heap[rb]? = some (.cells z.toArray t (0, 0))
 own : R.own wr (fun k => mb < k ∧ k < wr.heap.size) cs x
 cur : Cur B wr g
 chg : Chg (fun b => b = g) w wr
 lt : w.heap.size ≤ rb ∧ rb < mb ∧ mb < wr.heap.size ∧ g < w.heap.size ∧ B ≤ g
theorem db_step {R : Rep α} {t : TypeId} {B g rb mb : Nat} {w wr w' : World} {z cs : List Value} {x : α} (h : DB R t B g w wr rb mb z cs x) (hc : Chg (fun b => b = g) wr w') (hcur : Cur B w' g) : DB R t B g w w' rb mb z cs x := by
 obtain ⟨c, f, l3, a, d⟩ := h.lt;have hs := hc.size;exact ⟨(hc.block mb (by omega) (by omega)).trans h.box, (hc.block rb (by omega) (by omega)).trans h.res, R.own_mono (zBk h.own hc (fun j hj e => by have := hj.1; omega)) (fun k hk => ⟨hk.1, by have := hk.2; omega⟩), hcur, h.chg.trans hc, c, f, by omega, a, d⟩
theorem db_put {R : Rep α} {t : TypeId} {B g rb mb i : Nat} {w wr : World} {z cs cs' : List Value} {x x' : α} {v : Value} (h : DB R t B g w wr rb mb z cs x) (hi : cs' = cs.set i v) (ho : R.own wr (fun k => mb < k ∧ k < wr.heap.size) cs' x') : DB R t B g w (wr.setCell ⟨mb, i, none⟩ v) rb mb z cs' x' := by
 obtain ⟨f, m, l3, d, l⟩ := h.lt;have a : Chg (fun b => b = mb) wr (wr.setCell ⟨mb, i, none⟩ v) := zAO;have c := heap_setCell_same wr mb i _ _ v h.box;rw [List.setIfInBounds_toArray, ← hi] at c;exact ⟨c, (a.block rb (by omega) (by omega)).trans h.res, R.own_mono (zBk ho a (fun j hj e => by have := hj.1; omega)) (fun k hk => ⟨hk.1, by have := hk.2; have := a.size; omega⟩), zB5 h.cur a (fun k hk => by omega) (by omega), zFu h.chg a (by omega), f, m, by have := a.size; omega, d, l⟩
theorem db_new {R : Rep α} {t : TypeId} {B g rb : Nat} {w wr : World} {z cs : List Value} {x : α} (hc : Chg (fun b => b = g) w wr) (hcur : Cur B wr g) (hres : wr.heap[rb]? = some (.cells z.toArray t (0, 0))) (ho : R.own (wr.alloc (.cells cs.toArray t)) (fun k => wr.heap.size < k ∧ k < wr.heap.size + 1) cs x) (h1 : w.heap.size ≤ rb) (h2 : rb < wr.heap.size) (h3 : g < w.heap.size) :
    DB R t B g w (wr.alloc (.cells cs.toArray t)) rb wr.heap.size z cs x :=
 ⟨zAw wr _, zAW _ hres, R.own_mono ho (fun k hk => ⟨hk.1, by have := hk.2; simp; omega⟩), zAQ hcur _, hc.trans (zBp (zAg _ _)), h1, h2, by simp, h3, hcur.1⟩
structure DrC (R : Rep α) (t : TypeId) (B g : Nat) (w wr : World) (rb mb : Nat) (z cs : List Value) (x : α) : Prop where
 box : wr.heap[mb]? = some (.cells cs.toArray t (0, 0))
 res : wr.heap[rb]? = some (.cells z.toArray t (0, 0))
 own : R.own wr (fun k => rb < k ∧ k < wr.heap.size ∧ k ≠ mb) cs x
 cur : Cur B wr g
 chg : Chg (fun b => b = g) w wr
 lt : w.heap.size ≤ rb ∧ rb < mb ∧ mb < wr.heap.size ∧ g < w.heap.size ∧ B ≤ g
theorem dc_of {R : Rep α} {t : TypeId} {B g rb mb : Nat} {w wr : World} {z cs : List Value} {x : α} (h : DB R t B g w wr rb mb z cs x) : DrC R t B g w wr rb mb z cs x :=
 ⟨h.box, h.res, R.own_mono h.own (fun k hk => ⟨by have := hk.1; have := h.lt; omega, hk.2, by have := hk.1; omega⟩), h.cur, h.chg, h.lt⟩
theorem zJj {R : Rep α} {t : TypeId} {B g rb mb : Nat} {w wr w' : World} {z cs : List Value} {x : α} (h : DrC R t B g w wr rb mb z cs x) (hc : Chg (fun b => b = g) wr w') (hcur : Cur B w' g) : DrC R t B g w w' rb mb z cs x := by
 obtain ⟨c, f, l3, a, d⟩ := h.lt;have hs := hc.size;exact ⟨(hc.block mb (by omega) (by omega)).trans h.box, (hc.block rb (by omega) (by omega)).trans h.res, R.own_mono (zBk h.own hc (fun j hj e => by have := hj.1; omega)) (fun k hk => ⟨hk.1, by have := hk.2; omega, hk.2.2⟩), hcur, h.chg.trans hc, c, f, by omega, a, d⟩
theorem zAZ {R : Rep α} {t : TypeId} {B g rb mb : Nat} {w wr w' : World} {z cs : List Value} {x : α} (h : DrC R t B g w wr rb mb z cs x) (hg : wr.grownBy w' (some g)) (hcur : Cur B w' g) : DrC R t B g w w' rb mb z cs x := zJj h (zB2 hg rfl) hcur
theorem zJL {R : Rep α} {t : TypeId} {B g rb mb : Nat} {w wr : World} {z cs : List Value} {x : α} (h : DrC R t B g w wr rb mb z cs x) (o : Obj) : DrC R t B g w (wr.alloc o) rb mb z cs x := zJj h (zBp (zAg wr o)) (zAQ h.cur o)
theorem zF5 {R : Rep α} {t : TypeId} {B g rb mb i : Nat} {w wr : World} {z cs cs' : List Value} {x x' : α} {v : Value} (h : DrC R t B g w wr rb mb z cs x) (hi : cs' = cs.set i v) (ho : R.own wr (fun k => rb < k ∧ k < wr.heap.size ∧ k ≠ mb) cs' x') : DrC R t B g w (wr.setCell ⟨mb, i, none⟩ v) rb mb z cs' x' := by
 obtain ⟨f, m, l3, d, l⟩ := h.lt;have a : Chg (fun b => b = mb) wr (wr.setCell ⟨mb, i, none⟩ v) := zAO;have c := heap_setCell_same wr mb i _ _ v h.box;rw [List.setIfInBounds_toArray, ← hi] at c;exact ⟨c, (a.block rb (by omega) (by omega)).trans h.res, R.own_mono (zBk ho a (fun j hj e => hj.2.2 e)) (fun k hk => ⟨hk.1, by have := hk.2; have := a.size; omega, hk.2.2⟩), zB5 h.cur a (fun k hk => by omega) (by omega), zFu h.chg a (by omega), f, m, by have := a.size; omega, d, l⟩
theorem zLM {R : Rep α} {t : TypeId} {B g rb : Nat} {w w0 wr : World} {z cs : List Value} {x : α} (hd : DrewR R B g w0 wr cs x) (hc : Chg (fun b => b = g) w w0) (hres : w0.heap[rb]? = some (.cells z.toArray t (0, 0))) (h1 : w.heap.size ≤ rb) (h3 : g < w.heap.size) :
    DrC R t B g w (wr.alloc (.cells cs.toArray t)) rb wr.heap.size z cs x := by
 have a := (ltH hres);have hs := hd.chg.size;refine ⟨zAw wr _, zAW _ ((hd.chg.block rb a (by omega)).trans hres), ?_, zAQ hd.cur _, (hc.trans hd.chg).trans (zBp (zAg _ _)), h1, by omega, by simp, h3, hd.cur.1⟩;refine R.own_mono (R.own_keep hd.own (fun k _ hl => Below.heap_alloc wr _ k hl)) (fun k hk => ⟨by have := hk.1; omega, by have := hk.2; simp; omega, by have := hk.2; omega⟩)
theorem zEE {R : Rep α} {t : TypeId} {B g rb mb : Nat} {w wr W : World} {z cs : List Value} {x : α} (h : DrC R t B g w wr rb mb z cs x) (c : Chg (fun b => b = rb) wr W) : DrewR R B g w W cs x := by
 obtain ⟨a, l2, l3, l4, l5⟩ := h.lt;have hs := c.size;exact ⟨R.own_mono (zBk h.own c (fun j hj e => by have := hj.1; omega)) (fun k hk => ⟨by have := hk.1; omega, by have := hk.2.1; omega⟩), zB5 h.cur c (fun k hk => by omega) (by omega), zFu h.chg c a⟩
theorem zDy {S : zAN} {w : World} {f0 f1 f3 f4 f5 f6 : Int} {f2 : Bool} {v : Value} {u : zA7} (h : zB6.own w S [nI f0, nI f1, .bool f2, nI f3, nI f4, nI f5, nI f6, v] u) : zAm.own w S [v] u.2.2.2.2.2.2.2 := by
 obtain ⟨v', e, _, _, _, _, _, _, a⟩ := zC8 h;simp only [List.cons.injEq, and_true] at e;rw [e.2.2.2.2.2.2.2];exact a
end Go.Proofs.YtmaopldahnejdaaGreatDoor
