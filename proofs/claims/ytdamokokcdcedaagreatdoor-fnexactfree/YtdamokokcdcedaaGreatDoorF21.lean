import Derived.Test.YtdamokokcdcedaaGreatDoorF00Box
import Derived.Test.YtdamokokcdcedaaGreatDoorF20
namespace Go.Proofs.YtdamokokcdcedaaGreatDoor
set_option maxHeartbeats 8000000
set_option maxRecDepth 20000
open Go.ChangeShapes Go.WideShapes Go.ChangeAt Go.RowKit Go.Shelf
set_option linter.unusedVariables false
def findP (c : CacheD) (line : Int) : Int × Int × Bool := if betw line 0 15 then (line % (c.1.length : Int), firstI (rowFor c line) line, firstI (rowFor c line) line != -1) else (0, 0, false)
theorem ok_row {c : CacheD} (h : OkC isL treeB c) (line : Int) : pow3 c.1.length ∧ c.1[setNo c line]? = some (rowFor c line) ∧ rowFor c line ≠ [] ∧ (rowFor c line).length ≤ 4 ∧ ((setNo c line : Nat) : Int) = line % (c.1.length : Int) ∧ setNo c line < c.1.length := by
 obtain ⟨a, h2, m, f, g⟩ := h;have b := rowFor_get (line := line) a;have d := (g _ _ b).1;refine ⟨a, b, fun e => ?_, ?_, setNo_cast a, setNo_lt a⟩
 ·rw [e] at d;simp at d
  have := pow3_pos f;omega
 ·rcases f with rfl | rfl | rfl <;> omega
theorem putTwo {w : World} {g : Nat} {x y a b : Value} {t : TypeId} (h : w.heap[g]? = some (.cells #[x, y] t (0, 0))) :
    ((w.setCell ⟨g, 0, none⟩ a).setCell ⟨g, 1, none⟩ b).heap[g]? = some (.cells #[a, b] t (0, 0)) :=
 heap_setCell_same _ g 1 _ t b (heap_setCell_same w g 0 _ t a h)
theorem implFind_any (a b : Option Addr) (c : CacheD) (cap cp : Nat) (line : Int) (w : World) (hok : OkC isL treeB c) (h1 : SlRd waysR w a c.1) :
    Calls Tryz.prog 260 #[.agg #[sL a c.1.length cap, sL b c.2.length cp], nI line] w fun e n => e = .returned (.tuple #[.agg #[nI (findP c line).1, nI (findP c line).2.1], .bool (findP c line).2.2]) ∧ Bl w n := by
 obtain ⟨N, g, r, C, f, H⟩ := ok_row hok line;obtain ⟨m, j, F, D, rfl, d, -, -, o⟩ := set_at h1 g;cases q : betw line 0 15
 ·have y : Hid (findP c line = (0, 0, false)) := by unfold Hid findP; simp [q]
  clear d o h1 g;go_enter Tryz.func260, Tryz.ntmps260;go_wp2_with (go_at_call 245; refine (lineNumberOk_any _ _).mono ?_; rintro e n ⟨rfl, rfl⟩; rw [q])
  have Y := heap_at (w.alloc (.cells #[sL (some ⟨m, j, none⟩) c.1.length cap, sL b c.2.length cp] 95)) (.cells #[nI 0, nI 0] 151);rw [alloc_len] at Y;obtain ⟨I, J⟩ := cells_two Y;refine bodyPost_ret (v := .tuple #[.agg #[nI 0, nI 0], .bool false]) (by simp [results, Tryz.results260, go_sem]) rfl ⟨by rw [y.out], below_step (box_below w _) (box_below _ _)⟩
 ·have E : 0 ≤ line := by simp [betw] at q; omega
  have y : Hid (findP c line = (((setNo c line : Nat) : Int), firstI (rowFor c line) line, firstI (rowFor c line) line != -1)) := by unfold Hid findP; rw [if_pos q, f]
  have G : Hid (∀ W, Calls Tryz.prog 276 #[.agg #[sL (some ⟨m, j, none⟩) c.1.length cap, sL b c.2.length cp], nI line] W fun e n => e = .returned (nI ((setNo c line : Nat) : Int)) ∧ Bl W n) := fun W => by
   have := setOf_any (some ⟨m, j, none⟩) c.1.length cap (sL b c.2.length cp) _ _ _ rfl line W N E;rwa [← f] at this
  have i : Hid (∀ W, Bl w W → Calls Tryz.prog 278 #[sL F (rowFor c line).length D, nI line] W fun e n => e = .returned (nI (firstI (rowFor c line) line)) ∧ Bl W n) := fun W hbw =>
   firstWith_any F _ D line W (slrd_keep o fun k hk => hbw.block k hk) r (by omega)
  have s : ((setNo c line : Nat) : Int) < (c.1.length : Int) := by omega
  have A : Hid (∀ W, Bl w W → W.cell? ⟨m, j + setNo c line, none⟩ = some (sL F (rowFor c line).length D)) := fun W hbw => cell_keep hbw d (cell_lt d);clear d o h1 g r C f hok;generalize setNo c line = sn at y G H s A;generalize (rowFor c line).length = rn at i A;generalize firstI (rowFor c line) line = fi at y i;have X := heap_on (.cells #[nI 0, nI 0] 151) (heap_at w (.cells #[sL (some ⟨m, j, none⟩) c.1.length cap, sL b c.2.length cp] 95));have Y := heap_at (w.alloc (.cells #[sL (some ⟨m, j, none⟩) c.1.length cap, sL b c.2.length cp] 95)) (.cells #[nI 0, nI 0] 151);rw [alloc_len] at Y;have B := below_step (box_below w (.cells #[sL (some ⟨m, j, none⟩) c.1.length cap, sL b c.2.length cp] 95)) (box_below _ (.cells #[nI 0, nI 0] 151));go_enter Tryz.func260, Tryz.ntmps260;go_wp2_with (go_at_call 245; refine (lineNumberOk_any _ _).mono ?_; rintro e n ⟨rfl, rfl⟩; rw [q])
  generalize (w.alloc (.cells #[sL (some ⟨m, j, none⟩) c.1.length cap, sL b c.2.length cp] 95)).alloc (.cells #[nI 0, nI 0] 151) = W0 at X Y B ⊢;refine (G.out _).mono ?_;rintro e w1 ⟨rfl, l⟩;replace B := below_step B l;replace X := row_keep l X;replace Y := row_keep l Y;obtain ⟨M, O⟩ := cells_two X;have L := A.out _ B;clear l;go_wp2_with fail
  refine (i.out _ B).mono ?_;rintro e z ⟨rfl, l⟩;replace B := below_step B l;replace Y := row_keep l Y;obtain ⟨y0, y1⟩ := cells_two Y;obtain ⟨f0, f1⟩ : z.frozen? ⟨w.heap.size + 1, 0, none⟩ = false ∧ z.frozen? ⟨w.heap.size + 1, 1, none⟩ = false := ⟨frozen_of_row z _ 0 _ _ Y, frozen_of_row z _ 1 _ _ Y⟩;have K : Hid _ := Y;clear l L M O X Y G i A;go_wp2;have Z := putTwo (a := nI (sn : Int)) (b := nI fi) K.out;obtain ⟨I, J⟩ := cells_two Z;refine bodyPost_ret (v := .tuple #[.agg #[nI (sn : Int), nI fi], .bool (fi != -1)]) (by simp [results, Tryz.results260, go_sem, I, J]) rfl ⟨by rw [y.out], (B.setCell (p := ⟨w.heap.size + 1, 0, none⟩) (by simp) _).setCell (p := ⟨w.heap.size + 1, 1, none⟩) (by simp) _⟩
def idxI (o : Option Nat) : Int := match o with
 | some i => (i : Int)
 | none => -1
theorem firstI_eq (row : List WayD) (line : Int) : firstI row line = idxI (row.findIdx? fun u => u.1 == line) := by
 unfold firstI idxI;cases row.findIdx? fun u => u.1 == line <;> rfl
theorem idxI_neg (o : Option Nat) : (idxI o != -1) = o.isSome := by
 cases o with
 | none => rfl
 | some i =>
  have : ((i : Int) != -1) = true := by simp
  exact this
theorem at_first {c : CacheD} {line : Int} (h0 : 0 ≤ line) : firstI (rowFor c line) line = idxI (atC c line) := by
 rw [firstI_eq];unfold atC;rw [if_neg (by omega)]
theorem at_out {c : CacheD} (h : OkC isL treeB c) {line : Int} (hl : betw line 0 15 = false) : atC c line = none := by
 cases b : atC c line with
 | none => rfl
 | some i =>
  obtain ⟨h0, u, g, a⟩ := at_some b;obtain ⟨d, h2, m, hm, k⟩ := h;rcases (k _ _ (rowFor_get (line := line) d)).2.2.1 i u g with f | ⟨j, _⟩
  ·rw [clear_eq f] at a;simp [emptyW] at a
   omega
  ·have := full_line j;simp [betw] at hl
   omega
theorem findP_eq {c : CacheD} (h : OkC isL treeB c) {line : Int} : findP c line = if betw line 0 15 then (((setNo c line : Nat) : Int), idxI (atC c line), (atC c line).isSome) else (0, 0, false) := by
 unfold findP;split
 ·rename_i hb
  have a : 0 ≤ line := by simp [betw] at hb; omega
  rw [at_first a, idxI_neg, setNo_cast h.1]
 ·rfl
theorem go_in {t n : Int} (h : treeB t n = true) : 0 ≤ goI t n ∧ goI t n < n ∧ viI t n = goI t n := by
 refine ⟨?_, ?_, by unfold viI; rw [if_pos h]⟩
 all_goals
  simp only [treeB, decide_eq_true_eq] at h;unfold goI;rcases h with ⟨rfl, rfl⟩ | ⟨rfl, a, b⟩ | ⟨rfl, a, b⟩
  ·simp
  ·simp
   omega
  ·have c : t = 0 ∨ t = 1 ∨ t = 2 ∨ t = 3 ∨ t = 4 ∨ t = 5 ∨ t = 6 ∨ t = 7 := by omega
   rcases c with rfl | rfl | rfl | rfl | rfl | rfl | rfl | rfl <;> decide
theorem idx_first {p : WayD → Bool} {row : List WayD} {k : Nat} {u : WayD} (hu : row[k]? = some u) (hp : p u = true) (hno : ∀ j v, j < k → row[j]? = some v → p v = false) : row.findIdx? p = some k := by
 have a := (List.getElem?_eq_some_iff.1 hu).1;rw [List.findIdx?_eq_some_iff_getElem];refine ⟨a, ?_, fun j hj => ?_⟩
 ·rw [List.getElem?_eq_getElem a] at hu;cases hu;exact hp
 ·simpa using hno j _ hj (List.getElem?_eq_getElem (by omega))
theorem idx_never {p : WayD → Bool} {row : List WayD} (hno : ∀ (j : Nat) (v : WayD), row[j]? = some v → p v = false) : row.findIdx? p = none := by
 rw [List.findIdx?_eq_none_iff];intro u a;obtain ⟨j, b⟩ := List.mem_iff_getElem?.1 a;simpa using hno j u b
theorem specAt_any (a b : Option Addr) (c : CacheD) (cap cp : Nat) (line : Int) (w : World) (hok : OkC isL treeB c) (h1 : SlRd waysR w a c.1) :
    Calls Tryz.prog 136 #[.agg #[sL a c.1.length cap, sL b c.2.length cp], nI line] w fun e w' => e = .returned (nI (idxI (atC c line))) ∧ Bl w w' := by
 have X := heap_at w (.cells #[sL a c.1.length cap, sL b c.2.length cp] 95);have B := box_below w (.cells #[sL a c.1.length cap, sL b c.2.length cp] 95);by_cases p : line < 0
 ·have HR : Hid (idxI (atC c line) = -1) := by unfold Hid atC; rw [if_pos p]; rfl
  go_enter Tryz.func136, Tryz.ntmps136;go_wp2;go_ret
  exact ⟨ret_int HR.out.symm, B⟩
 ·have V : 0 ≤ line := by omega
  have F : Hid (atC c line = (rowFor c line).findIdx? fun u => u.1 == line) := by unfold Hid atC; rw [if_neg p]
  obtain ⟨hp, o, I, C, n, H⟩ := ok_row hok line;obtain ⟨Y, T, Z, cj, rfl, f, -, -, g⟩ := set_at h1 o;have hz : (c.1.length : Int) ≠ 0 := by omega
  have y : ((setNo c line : Nat) : Int) < (c.1.length : Int) := by omega
  have q : line % (c.1.length : Int) = ((setNo c line : Nat) : Int) := n.symm;have A := cell_keep B f (cell_lt f);have s : Hid (SlRd wayR w Z (rowFor c line)) := g;clear f g h1 o n hok I;obtain ⟨N, O⟩ := cells_two X;generalize setNo c line = sn at H y q A;generalize rowFor c line = row at C A s F;go_enter Tryz.func136, Tryz.ntmps136;go_wp2_with fail
  generalize w.alloc (.cells #[sL (some ⟨Y, T, none⟩) c.1.length cap, sL b c.2.length cp] 95) = W0 at X B N O A ⊢;go_quiet (fail)
  have D := bl_drewN B nq;clear N O A X B;go_wp2;go_loop [6] (fun i => ∃ k : Nat, k ≤ row.length ∧ i = nI k ∧ ∀ j v, j < k → row[j]? = some v → (v.1 == line) = false) (fun i => row.length - (intOf i).toNat)
  case atStart => exact ⟨0, Nat.zero_le _, rfl, fun j v hj => by omega⟩
  case round =>
   obtain ⟨k, R, rfl, r⟩ := hrel;by_cases K : k < row.length
   ·have z : (k : Int) < (row.length : Int) := by omega
    obtain ⟨u, J⟩ : ∃ u, row[k]? = some u := ⟨_, List.getElem?_eq_getElem K⟩;obtain ⟨bk, L, cs, rfl, g, f⟩ := slrd_at (slrd_keep s.out fun k R => D.block k R) J;obtain ⟨ad, bA, rfl, -, -, -, -, -⟩ := way_rd g;have S := f 0 _ rfl;rw [show L + (k * wayR.size + 0) = L + k * 3 from rfl] at S;have M : Hid (row[k]? = some u) := J;obtain ⟨l, st, d⟩ := u;simp only at S
    clear f g J;by_cases E : l = line
    ·have m : Hid (idxI (atC c line) = k) := by unfold Hid; rw [F.out, idx_first M.out (by simp [E]) r]; rfl
     subst E;go_wp2;go_ret
     exact ⟨ret_int m.out.symm, D⟩
    ·have G : (l == line) = false := by simpa using E
     go_wp2;go_round
     case rel =>
      refine ⟨k + 1, by omega, by go_num, fun j v hj hv => ?_⟩;by_cases U : j < k
      ·exact r j v U hv
      ·have : j = k := by omega
       subst this;rw [M.out] at hv;cases hv;exact G
     case measure => simp [intOf]; omega
   ·have m : Hid (idxI (atC c line) = -1) := by
      unfold Hid;rw [F.out, idx_never fun j v hv => r j v (by have := (List.getElem?_eq_some_iff.1 hv).1; omega) hv];rfl
    have z : ¬ (k : Int) < (row.length : Int) := by omega
    go_wp2;go_ret
    exact ⟨ret_int m.out.symm, D⟩
open Go.ChangeShapes Go.WideShapes Go.ChangeAt Go.RowKit
def goneB (u : WayD) : Bool := betw u.1 0 15 && (decide (u.2.1 = 0) && decide (u.2.2.length = 0))
noncomputable def restC (x : CoreD) : Bool := if x.2.2.2.1 = 1 then (goneB x.2.2.2.2.1 || fullB isL x.2.2.2.2.1) && decide (atC x.1 x.2.2.2.2.1.1 = none) else clearB x.2.2.2.2.1
noncomputable def coreB (x : CoreD) : Bool := okB isL treeB x.1 && (decide (x.2.1.length ≤ 30) && (betw x.2.2.1 0 x.2.1.length && (decide ((x.2.2.2.2.2.length : Int) = x.2.2.1) && (betw x.2.2.2.1 0 2 && (!(decide (x.2.2.2.1 = 2) && decide (x.2.2.1 = (x.2.1.length : Int))) && (x.2.1.all opOkD && restC x))))))
theorem idx_neg (o : Option Nat) : decide (idxI o < 0) = decide (o = none) := by
 cases o with
 | none => rfl
 | some i => exact (decide_eq_false (show ¬ ((i : Int) < 0) by omega)).trans (decide_eq_false (by simp)).symm
theorem rows_len {w : World} {a : Option Addr} {xs : List (List WayD)} (h : SlRd waysR w a xs) : ∀ c ∈ xs, c.length ≤ maxLen := by
 intro c g;obtain ⟨j, l⟩ := List.getElem?_of_mem g;obtain ⟨b, k, cs, rfl, ⟨a', d, rfl, i, f, -⟩, -⟩ := slrd_at h l;exact Nat.le_trans i f
theorem specCoreOk_u (cs : List Value) (x : CoreD) (w : World) (h : coreR.rd w cs x) :
    Calls Tryz.prog 71 #[aggV cs] w fun e K => e = .returned (.bool (coreB x)) ∧ Bl w K := by
 obtain ⟨v0, v1, v2, v5, v6, v7, v8, rfl, r0, r1, i2, i3, r4, r5⟩ := core_rd h;clear h;obtain ⟨a0, c0, b0, d0, e0, l1, l2, l3, l4, q0, q1⟩ := cache_rd r0;simp only [List.cons.injEq, and_true] at e0;obtain ⟨rfl, rfl⟩ := e0;obtain ⟨a1, c1, e1, k1, k2, q2⟩ := r1;simp only [List.cons.injEq, and_true] at e1;obtain rfl := e1;obtain ⟨a4, c4, e4, j1, j2, g1, g2, q4⟩ := way_rd r4;simp only [List.cons.injEq, and_true] at e4;obtain ⟨rfl, rfl, rfl⟩ := e4;obtain ⟨a5, c5, e5, m1, m2, q5⟩ := r5;simp only [List.cons.injEq, and_true] at e5;obtain rfl := e5;clear r0 r4;obtain ⟨c, p, j, Y, u, t⟩ := x;simp only at *
 have CB : p.length ≤ 9223372036854775807 := Nat.le_trans k1 k2;have lB : t.length ≤ 9223372036854775807 := Nat.le_trans m1 m2;have NB : u.2.2.length ≤ 9223372036854775807 := Nat.le_trans g1 g2;have KC : Hid _ := fun (W : World) (q : Bl w W) => specCacheOk_any a0 b0 c c0 d0 W (slrd_next q0 q) (slrd_next q1 q) (Nat.le_trans l1 l2) (Nat.le_trans l3 l4) (rows_len q0);have KP : Hid (∀ W, Bl w W → SlRd opR W a1 p) := fun W q => slrd_next q2 q;have KL : Hid (∀ W, Calls Tryz.prog 58 #[.agg #[nI u.1, nI u.2.1, sL a4 u.2.2.length c4]] W fun e K => e = .returned (.bool (clearB u)) ∧ Bl W K) := fun W => by rw [← clr_eq]; exact l6Clear_any _ _ _ _ _ W (Nat.le_trans g1 g2)
 have KF : Hid _ := fun (W : World) (q : Bl w W) => l6Full_any u.1 u.2.1 u.2.2 a4 c4 W (slrd_next q4 q);have KA : Hid (∀ W, okB isL treeB c = true → Bl w W → Calls Tryz.prog 136 #[.agg #[sL a0 c.1.length c0, sL b0 c.2.length d0], nI u.1] W fun e K => e = .returned (nI (idxI (atC c u.1))) ∧ Bl W K) := fun W hk q => specAt_any a0 b0 c c0 d0 u.1 W (okB_iff.1 hk) (slrd_next q0 q);clear q0 q1 q2 q4 q5 l1 l2 l3 l4 k1 k2 g1 g2 m1 m2 i2 i3 j1 j2;change Calls Tryz.prog 71 #[.agg #[sL a0 c.1.length c0, sL b0 c.2.length d0, sL a1 p.length c1, nI j, nI Y, nI u.1, nI u.2.1, sL a4 u.2.2.length c4, sL a5 t.length c5]] w _
 go_enter Tryz.func71, Tryz.ntmps71;go_wp2_with fail
 generalize eA : w.alloc _ = W0;have X := boxH eA;have B := boxB eA;clear eA;refine (KC.out _ B).mono ?_;rintro e w1 ⟨rfl, b1⟩;replace X := row_keep b1 X;replace B := below_step B b1;clear b1 KC;obtain ⟨y0, y1, y2, y3, y4, y5, y6, y7, y8⟩ := cells_core X;have HX : Hid _ := X;have F : Hid _ := B;clear X B;cases H : okB isL treeB c
 ·skip
  have r : Hid (coreB (c, p, j, Y, u, t) = false) := by unfold Hid coreB; simp [H]
  clear H;go_wp2;go_ret
  exact ⟨ret_bool r.out.symm, F.out⟩
 by_cases hn : p.length ≤ 30
 case neg =>
  have cB : (30 : Int) < (p.length : Int) := by omega
  have r : Hid (coreB (c, p, j, Y, u, t) = false) := by unfold Hid coreB; simp [hn]
  clear H hn;go_wp2;go_ret
  exact ⟨ret_bool r.out.symm, F.out⟩
 have cB : ¬ ((30 : Int) < (p.length : Int)) := by omega
 cases l : betw j 0 (p.length : Int)
 ·skip
  have r : Hid (coreB (c, p, j, Y, u, t) = false) := by unfold Hid coreB; simp [l]
  clear H;go_wp2_with (go_at_call 126; refine (l1In_any _ _ _ _).mono ?_; rintro e o ⟨rfl, a⟩; rw [a]; clear a o; first | rw [l] | rw [g] | rw [m])
  go_ret
  exact ⟨ret_bool r.out.symm, F.out⟩
 by_cases M : (t.length : Int) = j
 case neg =>
  have yA : ((t.length : Int) != j) = true := by simp [M]
  have r : Hid (coreB (c, p, j, Y, u, t) = false) := by unfold Hid coreB; simp [M]
  clear H M;go_wp2_with (go_at_call 126; refine (l1In_any _ _ _ _).mono ?_; rintro e o ⟨rfl, a⟩; rw [a]; clear a o; first | rw [l] | rw [g] | rw [m])
  go_ret
  exact ⟨ret_bool r.out.symm, F.out⟩
 have yA : ((t.length : Int) != j) = false := by simp [M]
 have S : Hid _ := M;have L : Hid _ := H;clear M H;cases g : betw Y 0 2
 ·skip
  have r : Hid (coreB (c, p, j, Y, u, t) = false) := by unfold Hid coreB; simp [g]
  clear S L;go_wp2_with (go_at_call 126; refine (l1In_any _ _ _ _).mono ?_; rintro e o ⟨rfl, a⟩; rw [a]; clear a o; first | rw [l] | rw [g] | rw [m])
  go_ret
  exact ⟨ret_bool r.out.symm, F.out⟩
 have h3 : Y = 0 ∨ Y = 1 ∨ Y = 2 := by simp [betw] at g; omega
 have Z : Hid _ := g;clear g;rcases h3 with rfl | rfl | rfl
 ·skip
  have V : Hid (coreB (c, p, j, 0, u, t) = (p.all opOkD && restC (c, p, j, 0, u, t))) := by unfold Hid coreB; simp [L.out, hn, l, S.out, Z.out]
  generalize hA : p.all opOkD = A at V;have T : Hid _ := hA;clear hA;have g : betw (0 : Int) 0 2 = true := by decide
  go_wp2_with (go_at_call 126; refine (l1In_any _ _ _ _).mono ?_; rintro e o ⟨rfl, a⟩; rw [a]; clear a o; first | rw [l] | rw [g] | rw [m])
  clear g y0 y1 y2 y3 y4 y5 y6 y7 y8;go_loopw [4] (fun i wr => ∃ k : Nat, k ≤ p.length ∧ i = nI k ∧ (p.take k).all opOkD = true ∧ Bl w1 wr) (fun i _ => p.length - (intOf i).toNat)
  case atStart => exact ⟨0, Nat.zero_le _, rfl, rfl, Below.refl _ _⟩
  case round =>
   obtain ⟨k, hk, rfl, d, n⟩ := hrel;obtain ⟨y0, y1, y2, y3, y4, y5, y6, y7, y8⟩ := cells_core (row_keep n HX.out);by_cases C : k < p.length
   ·have cA : (k : Int) < (p.length : Int) := by omega
    obtain ⟨z, v⟩ : ∃ z, p[k]? = some z := ⟨_, List.getElem?_eq_getElem C⟩;obtain ⟨b, EA, rfl, x0, x1, x2, x3, -⟩ := op_at (KP.out _ (below_step F.out n)) v;cases q : opOkD z
    ·have HN : Hid (A = false) := by rw [← T.out]; exact all_not v q
     have f : Hid _ := n;clear v d n;go_wp2_with (go_at_call 134; refine (specOpOk_any _ _ _ _ _).mono ?_; rintro e K ⟨rfl, G⟩; rw [show opB z.1 z.2.1 z.2.2.1 z.2.2.2 = _ from q])
     go_ret
     exact ⟨ret_bool (by rw [V.out, HN.out]; rfl), below_step (below_step F.out f.out) G⟩
    ·have HT : Hid ((p.take (k + 1)).all opOkD = true) := all_step d v q;have f : Hid _ := n;clear v d n;go_wp2_with (go_at_call 134; refine (specOpOk_any _ _ _ _ _).mono ?_; rintro e K ⟨rfl, G⟩; rw [show opB z.1 z.2.1 z.2.2.1 z.2.2.2 = _ from q])
     go_roundw
     case rel => exact ⟨k + 1, by omega, by go_num, HT.out, below_step f.out G⟩
     case measure => simp [intOf]; omega
   ·have O : k = p.length := by omega
    subst O;rw [List.take_length] at d;have N : A = true := by rw [← T.out]; exact d
    subst N;have f : Hid (Bl w wr) := below_step F.out n;have y : Hid _ := row_keep n HX.out;clear d n C hk T;have r : Hid (coreB (c, p, j, 0, u, t) = clearB u) := by unfold Hid; rw [V.out, Bool.true_and]; unfold restC; exact if_neg (show ¬ ((0 : Int) = 1) by decide)
    go_wp2_with (go_at_call 58; refine (KL.out _).mono ?_; rintro e K ⟨rfl, G⟩)
    go_ret
    exact ⟨ret_bool r.out.symm, below_step f.out G⟩
 ·skip
  have V : Hid (coreB (c, p, j, 1, u, t) = (p.all opOkD && restC (c, p, j, 1, u, t))) := by unfold Hid coreB; simp [L.out, hn, l, S.out, Z.out]
  generalize hA : p.all opOkD = A at V;have T : Hid _ := hA;clear hA;have g : betw (1 : Int) 0 2 = true := by decide
  go_wp2_with (go_at_call 126; refine (l1In_any _ _ _ _).mono ?_; rintro e o ⟨rfl, a⟩; rw [a]; clear a o; first | rw [l] | rw [g] | rw [m])
  clear g y0 y1 y2 y3 y4 y5 y6 y7 y8;go_loopw [4] (fun i wr => ∃ k : Nat, k ≤ p.length ∧ i = nI k ∧ (p.take k).all opOkD = true ∧ Bl w1 wr) (fun i _ => p.length - (intOf i).toNat)
  case atStart => exact ⟨0, Nat.zero_le _, rfl, rfl, Below.refl _ _⟩
  case round =>
   obtain ⟨k, hk, rfl, d, n⟩ := hrel;obtain ⟨y0, y1, y2, y3, y4, y5, y6, y7, y8⟩ := cells_core (row_keep n HX.out);by_cases C : k < p.length
   ·have cA : (k : Int) < (p.length : Int) := by omega
    obtain ⟨z, v⟩ : ∃ z, p[k]? = some z := ⟨_, List.getElem?_eq_getElem C⟩;obtain ⟨b, EA, rfl, x0, x1, x2, x3, -⟩ := op_at (KP.out _ (below_step F.out n)) v;cases q : opOkD z
    ·have HN : Hid (A = false) := by rw [← T.out]; exact all_not v q
     have f : Hid _ := n;clear v d n;go_wp2_with (go_at_call 134; refine (specOpOk_any _ _ _ _ _).mono ?_; rintro e K ⟨rfl, G⟩; rw [show opB z.1 z.2.1 z.2.2.1 z.2.2.2 = _ from q])
     go_ret
     exact ⟨ret_bool (by rw [V.out, HN.out]; rfl), below_step (below_step F.out f.out) G⟩
    ·have HT : Hid ((p.take (k + 1)).all opOkD = true) := all_step d v q;have f : Hid _ := n;clear v d n;go_wp2_with (go_at_call 134; refine (specOpOk_any _ _ _ _ _).mono ?_; rintro e K ⟨rfl, G⟩; rw [show opB z.1 z.2.1 z.2.2.1 z.2.2.2 = _ from q])
     go_roundw
     case rel => exact ⟨k + 1, by omega, by go_num, HT.out, below_step f.out G⟩
     case measure => simp [intOf]; omega
   ·have O : k = p.length := by omega
    subst O;rw [List.take_length] at d;have N : A = true := by rw [← T.out]; exact d
    subst N;have f : Hid (Bl w wr) := below_step F.out n;have y : Hid _ := row_keep n HX.out;clear d n C hk T;have r : Hid (coreB (c, p, j, 1, u, t) = ((goneB u || fullB isL u) && decide (atC c u.1 = none))) := by unfold Hid; rw [V.out, Bool.true_and]; unfold restC; exact if_pos rfl
    have aA : Hid _ := fun W => KA.out W L.out;clear KA;cases m : betw u.1 0 15
    ·have s : goneB u = false := by unfold goneB; rw [m]; rfl
     cases J : fullB isL u
     ·go_wp2_with (first | (go_at_call 126; refine (l1In_any _ _ _ _).mono ?_; rintro e o ⟨rfl, a⟩; rw [a]; clear a o; first | rw [l] | rw [g] | rw [m]) | (go_at_call 135; refine (KF.out _ f.out).mono ?_; rintro e wf ⟨rfl, D⟩; rw [J]; have I := below_step f.out D; obtain ⟨t0, t1, t2, t3, t4, t5, t6, t7, t8⟩ := cells_core (row_keep D y.out)))
      go_ret
      exact ⟨ret_bool (by rw [r.out, s, J]; rfl), I⟩
     ·go_wp2_with (first | (go_at_call 126; refine (l1In_any _ _ _ _).mono ?_; rintro e o ⟨rfl, a⟩; rw [a]; clear a o; first | rw [l] | rw [g] | rw [m]) | (go_at_call 135; refine (KF.out _ f.out).mono ?_; rintro e wf ⟨rfl, D⟩; rw [J]; have I := below_step f.out D; obtain ⟨t0, t1, t2, t3, t4, t5, t6, t7, t8⟩ := cells_core (row_keep D y.out)) | (go_at_call 136; refine (aA.out _ I).mono ?_; rintro e wa ⟨rfl, ba⟩))
      go_ret
      exact ⟨ret_bool (by rw [r.out, s, J]; simp [idx_neg]), below_step I ba⟩
    by_cases E : u.2.1 = 0
    case neg =>
     have fB : (u.2.1 == 0) = false := by simp [E]
     have s : goneB u = false := by unfold goneB; simp [E]
     clear E;cases J : fullB isL u
     ·go_wp2_with (first | (go_at_call 126; refine (l1In_any _ _ _ _).mono ?_; rintro e o ⟨rfl, a⟩; rw [a]; clear a o; first | rw [l] | rw [g] | rw [m]) | (go_at_call 135; refine (KF.out _ f.out).mono ?_; rintro e wf ⟨rfl, D⟩; rw [J]; have I := below_step f.out D; obtain ⟨t0, t1, t2, t3, t4, t5, t6, t7, t8⟩ := cells_core (row_keep D y.out)))
      go_ret
      exact ⟨ret_bool (by rw [r.out, s, J]; rfl), I⟩
     ·go_wp2_with (first | (go_at_call 126; refine (l1In_any _ _ _ _).mono ?_; rintro e o ⟨rfl, a⟩; rw [a]; clear a o; first | rw [l] | rw [g] | rw [m]) | (go_at_call 135; refine (KF.out _ f.out).mono ?_; rintro e wf ⟨rfl, D⟩; rw [J]; have I := below_step f.out D; obtain ⟨t0, t1, t2, t3, t4, t5, t6, t7, t8⟩ := cells_core (row_keep D y.out)) | (go_at_call 136; refine (aA.out _ I).mono ?_; rintro e wa ⟨rfl, ba⟩))
      go_ret
      exact ⟨ret_bool (by rw [r.out, s, J]; simp [idx_neg]), below_step I ba⟩
    have fB : (u.2.1 == 0) = true := by simp [E]
    by_cases U : u.2.2.length = 0
    case neg =>
     have eB : ((u.2.2.length : Int) == 0) = false := beq_false_of_ne (by omega);have s : goneB u = false := by unfold goneB; simp [U]
     clear E U;cases J : fullB isL u
     ·go_wp2_with (first | (go_at_call 126; refine (l1In_any _ _ _ _).mono ?_; rintro e o ⟨rfl, a⟩; rw [a]; clear a o; first | rw [l] | rw [g] | rw [m]) | (go_at_call 135; refine (KF.out _ f.out).mono ?_; rintro e wf ⟨rfl, D⟩; rw [J]; have I := below_step f.out D; obtain ⟨t0, t1, t2, t3, t4, t5, t6, t7, t8⟩ := cells_core (row_keep D y.out)))
      go_ret
      exact ⟨ret_bool (by rw [r.out, s, J]; rfl), I⟩
     ·go_wp2_with (first | (go_at_call 126; refine (l1In_any _ _ _ _).mono ?_; rintro e o ⟨rfl, a⟩; rw [a]; clear a o; first | rw [l] | rw [g] | rw [m]) | (go_at_call 135; refine (KF.out _ f.out).mono ?_; rintro e wf ⟨rfl, D⟩; rw [J]; have I := below_step f.out D; obtain ⟨t0, t1, t2, t3, t4, t5, t6, t7, t8⟩ := cells_core (row_keep D y.out)) | (go_at_call 136; refine (aA.out _ I).mono ?_; rintro e wa ⟨rfl, ba⟩))
      go_ret
      exact ⟨ret_bool (by rw [r.out, s, J]; simp [idx_neg]), below_step I ba⟩
    have eB : ((u.2.2.length : Int) == 0) = true := by simp [U]
    have s : goneB u = true := by unfold goneB; rw [m]; simp [E, U]
    clear E U;go_wp2_with (first | (go_at_call 126; refine (l1In_any _ _ _ _).mono ?_; rintro e o ⟨rfl, a⟩; rw [a]; clear a o; first | rw [l] | rw [g] | rw [m]) | (go_at_call 136; refine (aA.out _ f.out).mono ?_; rintro e wa ⟨rfl, ba⟩))
    go_ret
    exact ⟨ret_bool (by rw [r.out, s]; simp [idx_neg]), below_step f.out ba⟩
 ·by_cases R : j = (p.length : Int)
  ·have LA : (j == (p.length : Int)) = true := by simp [R]
   have g : betw (2 : Int) 0 2 = true := by decide
   have r : Hid (coreB (c, p, j, 2, u, t) = false) := by unfold Hid coreB; simp [R]
   clear S L Z R;go_wp2_with (go_at_call 126; refine (l1In_any _ _ _ _).mono ?_; rintro e o ⟨rfl, a⟩; rw [a]; clear a o; first | rw [l] | rw [g] | rw [m])
   go_ret
   exact ⟨ret_bool r.out.symm, F.out⟩
  ·have LA : (j == (p.length : Int)) = false := by simp [R]
   have V : Hid (coreB (c, p, j, 2, u, t) = (p.all opOkD && restC (c, p, j, 2, u, t))) := by unfold Hid coreB; simp [L.out, hn, l, S.out, Z.out, R]
   generalize hA : p.all opOkD = A at V;have T : Hid _ := hA;clear hA;have g : betw (2 : Int) 0 2 = true := by decide
   go_wp2_with (go_at_call 126; refine (l1In_any _ _ _ _).mono ?_; rintro e o ⟨rfl, a⟩; rw [a]; clear a o; first | rw [l] | rw [g] | rw [m])
   clear g y0 y1 y2 y3 y4 y5 y6 y7 y8;go_loopw [4] (fun i wr => ∃ k : Nat, k ≤ p.length ∧ i = nI k ∧ (p.take k).all opOkD = true ∧ Bl w1 wr) (fun i _ => p.length - (intOf i).toNat)
   case atStart => exact ⟨0, Nat.zero_le _, rfl, rfl, Below.refl _ _⟩
   case round =>
    obtain ⟨k, hk, rfl, d, n⟩ := hrel;obtain ⟨y0, y1, y2, y3, y4, y5, y6, y7, y8⟩ := cells_core (row_keep n HX.out);by_cases C : k < p.length
    ·have cA : (k : Int) < (p.length : Int) := by omega
     obtain ⟨z, v⟩ : ∃ z, p[k]? = some z := ⟨_, List.getElem?_eq_getElem C⟩;obtain ⟨b, EA, rfl, x0, x1, x2, x3, -⟩ := op_at (KP.out _ (below_step F.out n)) v;cases q : opOkD z
     ·have HN : Hid (A = false) := by rw [← T.out]; exact all_not v q
      have f : Hid _ := n;clear v d n;go_wp2_with (go_at_call 134; refine (specOpOk_any _ _ _ _ _).mono ?_; rintro e K ⟨rfl, G⟩; rw [show opB z.1 z.2.1 z.2.2.1 z.2.2.2 = _ from q])
      go_ret
      exact ⟨ret_bool (by rw [V.out, HN.out]; rfl), below_step (below_step F.out f.out) G⟩
     ·have HT : Hid ((p.take (k + 1)).all opOkD = true) := all_step d v q;have f : Hid _ := n;clear v d n;go_wp2_with (go_at_call 134; refine (specOpOk_any _ _ _ _ _).mono ?_; rintro e K ⟨rfl, G⟩; rw [show opB z.1 z.2.1 z.2.2.1 z.2.2.2 = _ from q])
      go_roundw
      case rel => exact ⟨k + 1, by omega, by go_num, HT.out, below_step f.out G⟩
      case measure => simp [intOf]; omega
    ·have O : k = p.length := by omega
     subst O;rw [List.take_length] at d;have N : A = true := by rw [← T.out]; exact d
     subst N;have f : Hid (Bl w wr) := below_step F.out n;have y : Hid _ := row_keep n HX.out;clear d n C hk T;have r : Hid (coreB (c, p, j, 2, u, t) = clearB u) := by unfold Hid; rw [V.out, Bool.true_and]; unfold restC; exact if_neg (show ¬ ((2 : Int) = 1) by decide)
     go_wp2_with (go_at_call 58; refine (KL.out _).mono ?_; rintro e K ⟨rfl, G⟩)
     go_ret
     exact ⟨ret_bool r.out.symm, below_step f.out G⟩
end Go.Proofs.YtdamokokcdcedaaGreatDoor
