import Derived.Test.YtcocbafhcpdheaaGreatDoorT00Box
import Derived.Test.YtcocbafhcpdheaaGreatDoorT42
namespace Go.Proofs.YtcocbafhcpdheaaGreatDoor
set_option maxHeartbeats 4000000
set_option maxRecDepth 20000
open Go.ChangeShapes Go.WideShapes Go.ChangeAt Go.RowKit
set_option linter.unusedVariables false
set_option linter.unusedSimpArgs false
theorem zOR {c : zA7} (h : OkC isL zAH c) (k : Int) : (zEy c k).1 = zCc c k := by
 unfold zEy zKa zCc;rw [if_pos (zEQ.2 h)];cases atC c k <;> rfl
theorem way_rng4 {c : zA7} (h : OkC isL zAH c) (k : Int) : zA8 (zCc c k).2.1 0 3 = true ∧ zB3 (zCc c k) = decide ((zCc c k).2.1 = 0) := by
 cases b : atC c k with
 | none =>
  have g : zCc c k = zB0 := by unfold zCc; rw [b]
  rw [g];exact ⟨rfl, rfl⟩
 | some fi =>
  obtain ⟨l, u, i, n⟩ := zER b;have g : zCc c k = u := by unfold zCc; rw [b]; simp only; rw [List.getD_eq_getElem?_getD, i]; rfl
  rw [g];obtain ⟨hp, f, -⟩ := zFQ h k;obtain ⟨-, -, m, -, j⟩ := h;rcases (j _ _ f).2.2.1 _ _ i with d | ⟨d, -⟩
  ·have a := d;unfold zB3 at a;simp only [decide_eq_true_eq] at a;rw [d, a.2.1];exact ⟨rfl, rfl⟩
  ·unfold zCC at d;simp only [decide_eq_true_eq] at d;obtain ⟨⟨p0, -⟩, ⟨p1, p2⟩, -⟩ := d;refine ⟨by simp [zA8]; omega, ?_⟩;unfold zB3;rw [decide_eq_false (by omega), decide_eq_false (by omega)]
theorem zOS {x : zA2} (h : zFj x = true) {u : zBi} (hu : u ∈ x.2.2.1) : zCd u = true := by
 unfold zFj at h;simp only [Bool.and_eq_true, decide_eq_true_eq] at h;obtain ⟨hc, -, a, -⟩ := h;unfold zDm at a;simp only [Bool.and_eq_true, decide_eq_true_eq] at a;have q := List.all_eq_true.1 a.2 u hu;unfold zD1 at q;simp only [Bool.and_eq_true, decide_eq_true_eq] at q;exact q.1
theorem fab_code {x : zA2} (h : zFj x = true) : zBe x.1.1 x.1.2.1 x.1.2.2.1 x.1.2.2.2 = 0 := by
 unfold zFj at h;simp only [Bool.and_eq_true, decide_eq_true_eq] at h;exact h.1
theorem own_u (cs : List Value) (u : zBi) (k : Int) (w : World) (hok : OkC isL zAH u.1) (h : zAB.rd w cs u) :
    Calls Tryz.prog 77 #[zBq cs, .int .i64 k] w fun e w' => ∃ c, e = .returned (zBq c) ∧ zAI zBu w w' c (zCc u.1 k) := by
 obtain ⟨b, i, f, d, o, m, q, r, p, n, rfl⟩ := zBd h;have A : Hid (∀ V, Below w.heap.size w V → Calls Tryz.prog 132 #[.agg #[.slice b u.1.1.length i, .slice f u.1.2.length d], .int .i64 k] V fun e w' => ∃ c, e = .returned (.tuple #[zBq c, .int .i64 (zEy u.1 k).2]) ∧ zAI zBu V w' c (zCc u.1 k)) := fun V hv => by rw [← zOR hok k]; exact zK8 [.slice b u.1.1.length i, .slice f u.1.2.length d] u.1 k V (zAr (zHH h) hv)
 rw [show zBq _ = .agg _ from rfl];have X := zA3 (.cells #[.int .i64 0, .int .i64 0, .slice none 0 0] 88) (zAn w (.cells #[.slice b u.1.1.length i, .slice f u.1.2.length d, .slice o u.2.1.length m, .int .i64 u.2.2.1, .int .i64 u.2.2.2.1, .int .i64 u.2.2.2.2.1.1, .int .i64 u.2.2.2.2.1.2.1, .slice q u.2.2.2.2.1.2.2.length r, .slice p u.2.2.2.2.2.length n] 95));have Y := zAn (w.alloc (.cells #[.slice b u.1.1.length i, .slice f u.1.2.length d, .slice o u.2.1.length m, .int .i64 u.2.2.1, .int .i64 u.2.2.2.1, .int .i64 u.2.2.2.2.1.1, .int .i64 u.2.2.2.2.1.2.1, .slice q u.2.2.2.2.1.2.2.length r, .slice p u.2.2.2.2.2.length n] 95)) (.cells #[.int .i64 0, .int .i64 0, .slice none 0 0] 88);rw [zAv] at Y;have B := zAa (zAf w (.cells #[.slice b u.1.1.length i, .slice f u.1.2.length d, .slice o u.2.1.length m, .int .i64 u.2.2.1, .int .i64 u.2.2.2.1, .int .i64 u.2.2.2.2.1.1, .int .i64 u.2.2.2.2.1.2.1, .slice q u.2.2.2.2.1.2.2.length r, .slice p u.2.2.2.2.2.length n] 95)) (zAf _ (.cells #[.int .i64 0, .int .i64 0, .slice none 0 0] 88));clear h hok;go_enter Tryz.func77, Tryz.ntmps77;go_upto_region 1 with fail
 generalize (w.alloc (.cells #[.slice b u.1.1.length i, .slice f u.1.2.length d, .slice o u.2.1.length m, .int .i64 u.2.2.1, .int .i64 u.2.2.2.1, .int .i64 u.2.2.2.2.1.1, .int .i64 u.2.2.2.2.1.2.1, .slice q u.2.2.2.2.1.2.2.length r, .slice p u.2.2.2.2.2.length n] 95)).alloc (.cells #[.int .i64 0, .int .i64 0, .slice none 0 0] 88) = W0 at X Y B ⊢;obtain ⟨K, F, N, L, S, C, I, T, G⟩ := zAh X;go_wp2_with fail
 clear K F N L S C I T G X;refine (A.out _ B).mono ?_;rintro e J ⟨c, rfl, M⟩;clear A;obtain ⟨l, j, rfl, -, -, -, -, -⟩ := zBz (zBu.own_rd M.1);rw [show zBq _ = .agg _ from rfl];have R := (ltH Y);replace Y := zAb M.2 Y;generalize s : zCc u.1 k = y at M ⊢;go_upto_region 2 with fail
 generalize a : J.alloc _ = w2;have Z := boxH a;have z := boxB a;clear a;replace Y := zAb z Y;replace M := made_on M z;obtain ⟨z0, z1, z2⟩ := zAJ Z;obtain ⟨y0, y1, y2⟩ := zAJ Y;obtain ⟨f0, f1, f2⟩ := zI8 Y;have O : Hid _ := And.intro Y (And.intro B M);clear Y B M Z z;go_wp2;obtain ⟨Y, B, M⟩ := O.out;have V := zFq (g := w.heap.size + 1) [.int .i64 y.1, .int .i64 y.2.1, .slice l y.2.2.length j] 0 Y;obtain ⟨D, H, E⟩ := zAJ (show (((w2.setCell ⟨w.heap.size + 1, 0, none⟩ (.int .i64 y.1)).setCell ⟨w.heap.size + 1, 1, none⟩ (.int .i64 y.2.1)).setCell ⟨w.heap.size + 1, 2, none⟩ (.slice l y.2.2.length j)).heap[w.heap.size + 1]? = some (.cells #[.int .i64 y.1, .int .i64 y.2.1, .slice l y.2.2.length j] 88 (0, 0)) from V);refine bodyPost_ret (v := .agg #[.int .i64 y.1, .int .i64 y.2.1, .slice l y.2.2.length j]) (by simp [results, Tryz.results77, go_sem, D, H, E]) rfl ⟨[.int .i64 y.1, .int .i64 y.2.1, .slice l y.2.2.length j], rfl, by rw [s]; exact zGq B M R (by omega)⟩
def zJR (x : zA2) (o k : Int) : Option (List Int) := (x.2.2.2.2.1.find? (zHc o k)).map fun m => m.2.2.2.2.2.1
def zOT (x : zA2) (o k : Int) (u : zBi) : Option (List Int) := if zGg k u = true then some u.2.2.2.2.1.2.2 else zJR x o k
theorem held_rng {u : zBi} (h : zCd u = true) : zA8 u.2.2.2.2.1.2.1 0 3 = true := by
 unfold zCd at h;simp only [Bool.and_eq_true] at h;have q := h.2.2.2.2.2.2.2;unfold zGI at q;split at q
 ·simp only [Bool.and_eq_true, Bool.or_eq_true] at q;rcases q.1 with g | g
  ·unfold zEx at g;simp only [Bool.and_eq_true, decide_eq_true_eq] at g;rw [g.2.1];rfl
  ·unfold zCC at g;simp only [decide_eq_true_eq] at g;simp [zA8]
   omega
 ·unfold zB3 at q;simp only [decide_eq_true_eq] at q;rw [q.2.1];rfl
theorem zOU {x : zA2} (h : zFj x = true) {e : zAW} (he : e ∈ x.2.1.2) : -1 ≤ e.1 := by
 unfold zFj at h;simp only [Bool.and_eq_true, decide_eq_true_eq] at h;obtain ⟨hc, a, -⟩ := h;unfold zDl zCe at a;simp only [Bool.and_eq_true, decide_eq_true_eq] at a;have q := List.all_eq_true.1 a.1.2.2 e he;unfold zDD zBw at q;simp only [Bool.and_eq_true, zA8, decide_eq_true_eq] at q;exact q.1.1.1
theorem fab_from {x : zA2} (h : zFj x = true) {m : zDy} (hm : m ∈ x.2.2.2.2.1) : m.2.1 ≠ -1 := by
 unfold zFj at h;simp only [Bool.and_eq_true, decide_eq_true_eq] at h;obtain ⟨hc, hh, hk, hd, a, -⟩ := h;unfold zGP at a;simp only [Bool.and_eq_true] at a;have q := List.all_eq_true.1 a.2 m hm;unfold zIi zCJ zCj zA8 at q;simp only [Bool.and_eq_true, Bool.or_eq_true, decide_eq_true_eq] at q;omega
theorem zLJ (x : zA2) (o k : Int) : zHv x o k = (zJR x o k).getD (x.2.1.1.getD k.toNat []) := by
 unfold zHv zJR;cases x.2.2.2.2.1.find? (zHc o k) <;> rfl
theorem held_no {x : zA2} (h : zFj x = true) (k : Int) : zGh x (-1) k = x.2.1.1.getD k.toNat [] := by
 unfold zGh;rw [if_neg (by decide), zLJ];have e : zJR x (-1) k = none := by
  unfold zJR;rw [zGW fun i v hv => ?_]
  ·rfl
  ·have := fab_from h (List.mem_of_getElem? hv);unfold zHc;rw [decide_eq_false this];simp
 rw [e];rfl
theorem held_own {x : zA2} {on : Nat} {k : Int} {u : zBi} (hu : x.2.2.1[on]? = some u) : zGh x on k = (zOT x on k u).getD (x.2.1.1.getD k.toNat []) := by
 unfold zGh zOT;rw [if_pos (by omega), Int.toNat_natCast, hu];simp only
 cases zGg k u
 ·simp only [Bool.false_eq_true, if_false];exact zLJ x on k
 ·rfl
theorem zE3 (o k : Int) (m : zDy) : zHc o k m = (decide (m.2.1 = o) && (decide (m.2.2.2.2.1 = k) && ((decide (m.2.2.2.1 = 8) || decide (m.2.2.2.1 = 3)) && decide (¬ (m.2.2.2.2.2.1.length : Int) = 0)))) := by
 unfold zHc;rw [show decide (0 < m.2.2.2.2.2.1.length) = decide (¬ (m.2.2.2.2.2.1.length : Int) = 0) from decide_eq_decide.2 (by omega)];cases decide (m.2.1 = o) <;> cases decide (m.2.2.2.2.1 = k) <;> cases decide (m.2.2.2.1 = 8) <;> cases decide (m.2.2.2.1 = 3) <;> cases decide (¬ (m.2.2.2.2.2.1.length : Int) = 0) <;> rfl
theorem zE4 {w : World} {cs : List Value} {u : zBr} (h : zA9.rd w cs u) : ∃ (ea : Option Addr) (ec : Nat), cs = [.int .i64 u.1, .int .i64 u.2.1.1, .int .i64 u.2.1.2.1, .int .i64 u.2.1.2.2.1, .int .i64 u.2.1.2.2.2, .int .i64 u.2.2.1, .int .i64 u.2.2.2.1, .slice ea u.2.2.2.2.1.length ec, .int .i64 u.2.2.2.2.2] ∧ u.2.2.2.2.1.length ≤ ec ∧ ec ≤ maxLen ∧ zA4 zAG w ea u.2.2.2.2.1 := by
 obtain ⟨v1, v2, v3, v4, v7, rfl, -, r1, -, -, ⟨a, c, e, l1, l2, q⟩, -⟩ := zE8 h;obtain ⟨e1, -⟩ := zN4 r1;simp only [List.cons.injEq, and_true] at e1 e;obtain ⟨rfl, rfl, rfl, rfl⟩ := e1;obtain rfl := e;exact ⟨a, c, rfl, l1, l2, q⟩
theorem zFU {w : World} {cs : List Value} {u : zBr} (h : zA9.rd w cs u) : ∃ (ea : Option Addr) (ec : Nat), cs = [.int .i64 u.1, .int .i64 u.2.1.1, .int .i64 u.2.1.2.1, .int .i64 u.2.1.2.2.1, .int .i64 u.2.1.2.2.2, .int .i64 u.2.2.1, .int .i64 u.2.2.2.1, .slice ea u.2.2.2.2.1.length ec, .int .i64 u.2.2.2.2.2] := by
 obtain ⟨a, c, e, -⟩ := zE4 h;exact ⟨a, c, e⟩
theorem zMU {p : zBr → Bool} {g : Nat} (a : Option Addr) (xs : List zBr) (cap : Nat) (w : World) (h : zA4 zA9 w a xs) (hm : xs.length ≤ maxLen) (HP : ∀ (x : zBr) (cs : List Value) (W : World), x ∈ xs → Below w.heap.size w W → zA9.rd W cs x → Calls Tryz.prog 191 #[zBq cs, .pointer (some ⟨g, 0, none⟩)] W fun e w' => e = .returned (.bool (!p x)) ∧ Below W.heap.size W w') :
    Calls Tryz.prog 230 #[.slice a xs.length cap, .func (.func 191) #[] #[.pointer (some ⟨g, 0, none⟩)]] w fun e w' => e = .returned (.int .i64 (zDW p xs)) ∧ Below w.heap.size w w' := by
 have hm' : xs.length ≤ 9223372036854775807 := hm;have H0 : Hid (∀ W, Below w.heap.size w W → zA4 zA9 W a xs) := fun W hb => zAq h fun k hk => hb.block k hk;have HPP : Hid _ := HP;clear h hm HP;go_enter Tryz.func230, Tryz.ntmps230;go_wp2;go_loopw [8] (fun i wr => ∃ k : Nat, k ≤ xs.length ∧ i = .int .i64 k ∧ (∀ j v, j < k → xs[j]? = some v → p v = true) ∧ Below w.heap.size w wr) (fun i _ => xs.length - (intOf i).toNat)
 case atStart => exact ⟨0, Nat.zero_le _, rfl, fun j v hj => by omega, Below.refl _ _⟩
 case round =>
  obtain ⟨k, hk, rfl, hno, BB⟩ := hrel;by_cases hlt : k < xs.length
  ·have hlt' : (k : Int) < (xs.length : Int) := by omega
   obtain ⟨x, hx⟩ : ∃ x, xs[k]? = some x := ⟨_, List.getElem?_eq_getElem hlt⟩;obtain ⟨b, off, cs, rfl, hrdx, hcell⟩ := zAy (H0.out _ BB) hx;have HC := HPP.out x cs wr (List.mem_of_getElem? hx) BB hrdx;obtain ⟨ga, gc, rfl⟩ := zFU hrdx;rw [show zBq [.int .i64 x.1, .int .i64 x.2.1.1, .int .i64 x.2.1.2.1, .int .i64 x.2.1.2.2.1, .int .i64 x.2.1.2.2.2, .int .i64 x.2.2.1, .int .i64 x.2.2.2.1, .slice ga x.2.2.2.2.1.length gc, .int .i64 x.2.2.2.2.2] = .agg #[.int .i64 x.1, .int .i64 x.2.1.1, .int .i64 x.2.1.2.1, .int .i64 x.2.1.2.2.1, .int .i64 x.2.1.2.2.2, .int .i64 x.2.2.1, .int .i64 x.2.2.2.1, .slice ga x.2.2.2.2.1.length gc, .int .i64 x.2.2.2.2.2] from rfl] at HC;obtain ⟨x0, x1, x2, x3, x4, x5, x6, x7, x8⟩ := cellsAt9 hcell rfl;have HX : Hid (xs[k]? = some x) := hx;clear hx hcell hrdx;cases hb : p x
   ·have HR : Hid (zDW p xs = k) := zEu HX.out hb hno;rw [hb] at HC;go_wp2_with fail
    refine HC.mono ?_;rintro e w2 ⟨rfl, b2⟩;replace BB := zAa BB b2;clear b2 x0 x1 x2 x3 x4 x5 x6 x7 x8;go_wp2;go_ret
    exact ⟨zAx HR.out.symm, BB⟩
   ·rw [hb] at HC;go_wp2_with fail
    refine HC.mono ?_;rintro e w2 ⟨rfl, b2⟩;replace BB := zAa BB b2;clear b2 x0 x1 x2 x3 x4 x5 x6 x7 x8;go_wp2;go_roundw
    case rel =>
     refine ⟨k + 1, by omega, by go_num, fun j v hj hv => ?_, BB⟩;by_cases he : j < k
     ·exact hno j v he hv
     ·have : j = k := by omega
      subst this;rw [HX.out] at hv;cases hv;exact hb
    case measure => simp [intOf]; omega
  ·have HR : Hid (zDW p xs = -1) := zDT fun j v hv => hno j v (by have := (List.getElem?_eq_some_iff.1 hv).1; omega) hv;go_wp2;go_ret
   exact ⟨zAx HR.out.symm, BB⟩
theorem zMV {p : zBr → Bool} {g : Nat} (a : Option Addr) (xs : List zBr) (cap : Nat) (w : World) (h : zA4 zA9 w a xs) (hm : xs.length ≤ maxLen) (HP : ∀ (x : zBr) (cs : List Value) (W : World), x ∈ xs → Below w.heap.size w W → zA9.rd W cs x → Calls Tryz.prog 191 #[zBq cs, .pointer (some ⟨g, 0, none⟩)] W fun e w' => e = .returned (.bool (!p x)) ∧ Below W.heap.size W w') :
    Calls Tryz.prog 190 #[.slice a xs.length cap, .func (.func 191) #[] #[.pointer (some ⟨g, 0, none⟩)]] w fun e w' => e = .returned (.bool (!xs.all p)) ∧ Below w.heap.size w w' := by
 have HI := zMU a xs cap w h hm HP;have hab := zD8 p xs;clear h hm HP;generalize zDW p xs = q at HI hab;generalize xs.all p = y at hab ⊢;subst hab;by_cases hq : q < 0
 ·have hq2 : ¬ (0 ≤ q) := by omega
  go_enter Tryz.func190, Tryz.ntmps190;go_wp2_with fail
  refine HI.mono ?_;rintro e w1 ⟨rfl, b1⟩;go_wp2;go_ret
  exact ⟨by simp [hq], b1⟩
 ·have hq2 : 0 ≤ q := by omega
  go_enter Tryz.func190, Tryz.ntmps190;go_wp2_with fail
  refine HI.mono ?_;rintro e w1 ⟨rfl, b1⟩;go_wp2;go_ret
  exact ⟨by simp [hq], b1⟩
theorem zJO {q : Bool} {g : Nat} (x : zBr) (cs : List Value) (w : World) (h : zA9.rd w cs x) (hg : w.heap[g]? = some (.cells #[.func (.func 131) #[] #[]] 149 (0, 0)))
    (HF : ∀ W, Below w.heap.size w W → Calls Tryz.prog 131 #[zBq cs] W fun e w' => e = .returned (.bool q) ∧ Below W.heap.size W w') :
    Calls Tryz.prog 191 #[zBq cs, .pointer (some ⟨g, 0, none⟩)] w fun e w' => e = .returned (.bool (!q)) ∧ Below w.heap.size w w' := by
 obtain ⟨ga, gc, rfl⟩ := zFU h;rw [show zBq [.int .i64 x.1, .int .i64 x.2.1.1, .int .i64 x.2.1.2.1, .int .i64 x.2.1.2.2.1, .int .i64 x.2.1.2.2.2, .int .i64 x.2.2.1, .int .i64 x.2.2.2.1, .slice ga x.2.2.2.2.1.length gc, .int .i64 x.2.2.2.2.2] = .agg #[.int .i64 x.1, .int .i64 x.2.1.1, .int .i64 x.2.1.2.1, .int .i64 x.2.1.2.2.1, .int .i64 x.2.1.2.2.2, .int .i64 x.2.2.1, .int .i64 x.2.2.2.1, .slice ga x.2.2.2.2.1.length gc, .int .i64 x.2.2.2.2.2] from rfl] at HF ⊢;have B := zAf w (.cells #[.int .i64 x.1, .int .i64 x.2.1.1, .int .i64 x.2.1.2.1, .int .i64 x.2.1.2.2.1, .int .i64 x.2.1.2.2.2, .int .i64 x.2.2.1, .int .i64 x.2.2.2.1, .slice ga x.2.2.2.2.1.length gc, .int .i64 x.2.2.2.2.2] 123);have G := zAb B hg;have HFF : Hid _ := HF;clear h hg HF;go_enter Tryz.func191, Tryz.ntmps191;go_upto_region 1 with fail
 have X := zAn w (.cells #[.int .i64 x.1, .int .i64 x.2.1.1, .int .i64 x.2.1.2.1, .int .i64 x.2.1.2.2.1, .int .i64 x.2.1.2.2.2, .int .i64 x.2.2.1, .int .i64 x.2.2.2.1, .slice ga x.2.2.2.2.1.length gc, .int .i64 x.2.2.2.2.2] 123);generalize w.alloc (.cells #[.int .i64 x.1, .int .i64 x.2.1.1, .int .i64 x.2.1.2.1, .int .i64 x.2.1.2.2.1, .int .i64 x.2.1.2.2.2, .int .i64 x.2.2.1, .int .i64 x.2.2.2.1, .slice ga x.2.2.2.2.1.length gc, .int .i64 x.2.2.2.2.2] 123) = W0 at B G X ⊢;have g0 : W0.cell? ⟨g, 0, none⟩ = some (.func (.func 131) #[] #[]) := by rw [cell_of_row W0 g 0 _ _ (0, 0) G]; rfl
 obtain ⟨y0, y1, y2, y3, y4, y5, y6, y7, y8⟩ := zAh X;clear G X;go_wp2_with fail
 refine (HFF.out _ B).mono ?_;rintro e w1 ⟨rfl, b1⟩;replace B := zAa B b1;clear g0 b1 y0 y1 y2 y3 y4 y5 y6 y7 y8;go_wp2;go_ret
 exact ⟨rfl, B⟩
theorem zKU {p : zBr → Bool} (a : Option Addr) (xs : List zBr) (cap : Nat) (w : World) (h : zA4 zA9 w a xs) (hm : xs.length ≤ maxLen)
    (HF : ∀ (x : zBr) (cs : List Value) (W : World), x ∈ xs → Below w.heap.size w W → zA9.rd W cs x → Calls Tryz.prog 131 #[zBq cs] W fun e w' => e = .returned (.bool (p x)) ∧ Below W.heap.size W w') :
    Calls Tryz.prog 130 #[.slice a xs.length cap, .func (.func 131) #[] #[]] w fun e w' => e = .returned (.bool (xs.all p)) ∧ Below w.heap.size w w' := by
 have B := zAf w (.cells #[.func (.func 131) #[] #[]] 149);have G := zAn w (.cells #[.func (.func 131) #[] #[]] 149);have HC := zMV (p := p) (g := w.heap.size) a xs cap (w.alloc (.cells #[.func (.func 131) #[] #[]] 149)) (zAm h B) hm (fun x cs W hx hb hr => zJO x cs W hr (zAb hb G) (fun W2 hb2 => HF x cs W2 hx (zAa (zAa B hb) hb2) (zAr hr hb2)));clear h hm HF G;generalize xs.all p = y at HC ⊢;go_enter Tryz.func130, Tryz.ntmps130;go_wp2_with fail
 refine HC.mono ?_;rintro e w1 ⟨rfl, b1⟩;replace B := zAa B b1;clear b1;go_wp2;go_ret
 exact ⟨by simp, B⟩
end Go.Proofs.YtcocbafhcpdheaaGreatDoor
