import Derived.Test.YtdamokokcdcedaaGreatDoorE00Box
import Derived.Test.YtdamokokcdcedaaGreatDoorE19
namespace Go.Proofs.YtdamokokcdcedaaGreatDoor
set_option maxHeartbeats 8000000
set_option maxRecDepth 20000
open Go.ChangeShapes Go.WideShapes Go.ChangeAt Go.RowKit Go.Shelf
set_option linter.unusedVariables false
def findP (c : CacheD) (line : Int) : Int × Int × Bool := if betw line 0 15 then (line % (c.1.length : Int), firstI (rowFor c line) line, firstI (rowFor c line) line != -1) else (0, 0, false)
theorem ok_row {c : CacheD} (h : OkC isL treeB c) (line : Int) : pow3 c.1.length ∧ c.1[setNo c line]? = some (rowFor c line) ∧ rowFor c line ≠ [] ∧ (rowFor c line).length ≤ 4 ∧ ((setNo c line : Nat) : Int) = line % (c.1.length : Int) ∧ setNo c line < c.1.length := by
 obtain ⟨a, h2, m, b, g⟩ := h;have f := rowFor_get (line := line) a;have d := (g _ _ f).1;refine ⟨a, f, fun e => ?_, ?_, setNo_cast a, setNo_lt a⟩
 ·rw [e] at d;simp at d
  have := pow3_pos b;omega
 ·rcases b with rfl | rfl | rfl <;> omega
theorem putTwo {w : World} {g : Nat} {x y a b : Value} {t : TypeId} (h : w.heap[g]? = some (.cells #[x, y] t (0, 0))) :
    ((w.setCell ⟨g, 0, none⟩ a).setCell ⟨g, 1, none⟩ b).heap[g]? = some (.cells #[a, b] t (0, 0)) :=
 heap_setCell_same _ g 1 _ t b (heap_setCell_same w g 0 _ t a h)
theorem implFind_any (a b : Option Addr) (c : CacheD) (cap cp : Nat) (line : Int) (w : World) (hok : OkC isL treeB c) (h1 : SlRd waysR w a c.1) :
    Calls Tryz.prog 260 #[.agg #[sL a c.1.length cap, sL b c.2.length cp], nI line] w fun e n => e = .returned (.tuple #[.agg #[nI (findP c line).1, nI (findP c line).2.1], .bool (findP c line).2.2]) ∧ Bl w n := by
 obtain ⟨M, f, y, H, g, D⟩ := ok_row hok line;obtain ⟨l, j, E, C, rfl, d, -, -, o⟩ := set_at h1 f;cases q : betw line 0 15
 ·have s : Hid (findP c line = (0, 0, false)) := by unfold Hid findP; simp [q]
  clear d o h1 f;go_enter Tryz.func260, Tryz.ntmps260;go_wp2_with (go_at_call 245; refine (lineNumberOk_any _ _).mono ?_; rintro e n ⟨rfl, rfl⟩; rw [q])
  have Y := heap_at (w.alloc (.cells #[sL (some ⟨l, j, none⟩) c.1.length cap, sL b c.2.length cp] 95)) (.cells #[nI 0, nI 0] 151);rw [alloc_len] at Y;obtain ⟨I, J⟩ := cells_two Y;refine bodyPost_ret (v := .tuple #[.agg #[nI 0, nI 0], .bool false]) (by simp [results, Tryz.results260, go_sem]) rfl ⟨by rw [s.out], below_step (box_below w _) (box_below _ _)⟩
 ·have G : 0 ≤ line := by simp [betw] at q; omega
  have s : Hid (findP c line = (((setNo c line : Nat) : Int), firstI (rowFor c line) line, firstI (rowFor c line) line != -1)) := by unfold Hid findP; rw [if_pos q, g]
  have F : Hid (∀ W, Calls Tryz.prog 276 #[.agg #[sL (some ⟨l, j, none⟩) c.1.length cap, sL b c.2.length cp], nI line] W fun e n => e = .returned (nI ((setNo c line : Nat) : Int)) ∧ Bl W n) := fun W => by
   have := setOf_any (some ⟨l, j, none⟩) c.1.length cap (sL b c.2.length cp) _ _ _ rfl line W M G;rwa [← g] at this
  have i : Hid (∀ W, Bl w W → Calls Tryz.prog 278 #[sL E (rowFor c line).length C, nI line] W fun e n => e = .returned (nI (firstI (rowFor c line) line)) ∧ Bl W n) := fun W hbw =>
   firstWith_any E _ C line W (slrd_keep o fun k hk => hbw.block k hk) y (by omega)
  have r : ((setNo c line : Nat) : Int) < (c.1.length : Int) := by omega
  have A : Hid (∀ W, Bl w W → W.cell? ⟨l, j + setNo c line, none⟩ = some (sL E (rowFor c line).length C)) := fun W hbw => cell_keep hbw d (cell_lt d);clear d o h1 f y H g hok;generalize setNo c line = sn at s F D r A;generalize (rowFor c line).length = rn at i A;generalize firstI (rowFor c line) line = fi at s i;have X := heap_on (.cells #[nI 0, nI 0] 151) (heap_at w (.cells #[sL (some ⟨l, j, none⟩) c.1.length cap, sL b c.2.length cp] 95));have Y := heap_at (w.alloc (.cells #[sL (some ⟨l, j, none⟩) c.1.length cap, sL b c.2.length cp] 95)) (.cells #[nI 0, nI 0] 151);rw [alloc_len] at Y;have B := below_step (box_below w (.cells #[sL (some ⟨l, j, none⟩) c.1.length cap, sL b c.2.length cp] 95)) (box_below _ (.cells #[nI 0, nI 0] 151));go_enter Tryz.func260, Tryz.ntmps260;go_wp2_with (go_at_call 245; refine (lineNumberOk_any _ _).mono ?_; rintro e n ⟨rfl, rfl⟩; rw [q])
  generalize (w.alloc (.cells #[sL (some ⟨l, j, none⟩) c.1.length cap, sL b c.2.length cp] 95)).alloc (.cells #[nI 0, nI 0] 151) = W0 at X Y B ⊢;refine (F.out _).mono ?_;rintro e w1 ⟨rfl, m⟩;replace B := below_step B m;replace X := row_keep m X;replace Y := row_keep m Y;obtain ⟨O, N⟩ := cells_two X;have L := A.out _ B;clear m;go_wp2_with fail
  refine (i.out _ B).mono ?_;rintro e z ⟨rfl, m⟩;replace B := below_step B m;replace Y := row_keep m Y;obtain ⟨y0, y1⟩ := cells_two Y;obtain ⟨f0, f1⟩ : z.frozen? ⟨w.heap.size + 1, 0, none⟩ = false ∧ z.frozen? ⟨w.heap.size + 1, 1, none⟩ = false := ⟨frozen_of_row z _ 0 _ _ Y, frozen_of_row z _ 1 _ _ Y⟩;have K : Hid _ := Y;clear m L O N X Y F i A;go_wp2;have Z := putTwo (a := nI (sn : Int)) (b := nI fi) K.out;obtain ⟨I, J⟩ := cells_two Z;refine bodyPost_ret (v := .tuple #[.agg #[nI (sn : Int), nI fi], .bool (fi != -1)]) (by simp [results, Tryz.results260, go_sem, I, J]) rfl ⟨by rw [s.out], (B.setCell (p := ⟨w.heap.size + 1, 0, none⟩) (by simp) _).setCell (p := ⟨w.heap.size + 1, 1, none⟩) (by simp) _⟩
def idxI (o : Option Nat) : Int := match o with
 | some i => (i : Int)
 | none => -1
theorem firstI_eq (row : List WayD) (line : Int) : firstI row line = idxI (row.findIdx? fun u => u.1 == line) := by
 unfold firstI idxI;cases row.findIdx? fun u => u.1 == line <;> rfl
theorem idxI_neg (o : Option Nat) : (idxI o != -1) = o.isSome := by
 cases o with
 | none => rfl
 | some i =>
  have : ((i : Int) != -1) = true := by simp
  exact this
theorem at_first {c : CacheD} {line : Int} (h0 : 0 ≤ line) : firstI (rowFor c line) line = idxI (atC c line) := by
 rw [firstI_eq];unfold atC;rw [if_neg (by omega)]
theorem at_out {c : CacheD} (h : OkC isL treeB c) {line : Int} (hl : betw line 0 15 = false) : atC c line = none := by
 cases b : atC c line with
 | none => rfl
 | some i =>
  obtain ⟨h0, u, k, a⟩ := at_some b;obtain ⟨j, h2, m, hm, g⟩ := h;rcases (g _ _ (rowFor_get (line := line) j)).2.2.1 i u k with d | ⟨f, _⟩
  ·rw [clear_eq d] at a;simp [emptyW] at a
   omega
  ·have := full_line f;simp [betw] at hl
   omega
theorem findP_eq {c : CacheD} (h : OkC isL treeB c) {line : Int} : findP c line = if betw line 0 15 then (((setNo c line : Nat) : Int), idxI (atC c line), (atC c line).isSome) else (0, 0, false) := by
 unfold findP;split
 ·rename_i hb
  have a : 0 ≤ line := by simp [betw] at hb; omega
  rw [at_first a, idxI_neg, setNo_cast h.1]
 ·rfl
theorem go_in {t n : Int} (h : treeB t n = true) : 0 ≤ goI t n ∧ goI t n < n ∧ viI t n = goI t n := by
 refine ⟨?_, ?_, by unfold viI; rw [if_pos h]⟩
 all_goals
  simp only [treeB, decide_eq_true_eq] at h;unfold goI;rcases h with ⟨rfl, rfl⟩ | ⟨rfl, c, b⟩ | ⟨rfl, c, b⟩
  ·simp
  ·simp
   omega
  ·have a : t = 0 ∨ t = 1 ∨ t = 2 ∨ t = 3 ∨ t = 4 ∨ t = 5 ∨ t = 6 ∨ t = 7 := by omega
   rcases a with rfl | rfl | rfl | rfl | rfl | rfl | rfl | rfl <;> decide
theorem idx_first {p : WayD → Bool} {row : List WayD} {k : Nat} {u : WayD} (hu : row[k]? = some u) (hp : p u = true) (hno : ∀ j v, j < k → row[j]? = some v → p v = false) : row.findIdx? p = some k := by
 have a := (List.getElem?_eq_some_iff.1 hu).1;rw [List.findIdx?_eq_some_iff_getElem];refine ⟨a, ?_, fun j hj => ?_⟩
 ·rw [List.getElem?_eq_getElem a] at hu;cases hu;exact hp
 ·simpa using hno j _ hj (List.getElem?_eq_getElem (by omega))
theorem idx_never {p : WayD → Bool} {row : List WayD} (hno : ∀ (j : Nat) (v : WayD), row[j]? = some v → p v = false) : row.findIdx? p = none := by
 rw [List.findIdx?_eq_none_iff];intro u a;obtain ⟨j, b⟩ := List.mem_iff_getElem?.1 a;simpa using hno j u b
theorem specAt_any (a b : Option Addr) (c : CacheD) (cap cp : Nat) (line : Int) (w : World) (hok : OkC isL treeB c) (h1 : SlRd waysR w a c.1) :
    Calls Tryz.prog 136 #[.agg #[sL a c.1.length cap, sL b c.2.length cp], nI line] w fun e w' => e = .returned (nI (idxI (atC c line))) ∧ Bl w w' := by
 have X := heap_at w (.cells #[sL a c.1.length cap, sL b c.2.length cp] 95);have B := box_below w (.cells #[sL a c.1.length cap, sL b c.2.length cp] 95);by_cases n : line < 0
 ·have V : Hid (idxI (atC c line) = -1) := by unfold Hid atC; rw [if_pos n]; rfl
  go_enter Tryz.func136, Tryz.ntmps136;go_wp2;go_ret
  exact ⟨ret_int V.out.symm, B⟩
 ·have bA : 0 ≤ line := by omega
  have E : Hid (atC c line = (rowFor c line).findIdx? fun u => u.1 == line) := by unfold Hid atC; rw [if_neg n]
  obtain ⟨hp, o, K, J, p, F⟩ := ok_row hok line;obtain ⟨U, T, Y, cj, rfl, f, -, -, g⟩ := set_at h1 o;have hz : (c.1.length : Int) ≠ 0 := by omega
  have z : ((setNo c line : Nat) : Int) < (c.1.length : Int) := by omega
  have q : line % (c.1.length : Int) = ((setNo c line : Nat) : Int) := p.symm;have A := cell_keep B f (cell_lt f);have s : Hid (SlRd wayR w Y (rowFor c line)) := g;clear f g h1 o p hok K;obtain ⟨N, R⟩ := cells_two X;generalize setNo c line = sn at F z q A;generalize rowFor c line = row at J A s E;go_enter Tryz.func136, Tryz.ntmps136;go_wp2_with fail
  generalize w.alloc (.cells #[sL (some ⟨U, T, none⟩) c.1.length cap, sL b c.2.length cp] 95) = W0 at X B N R A ⊢;go_quiet (fail)
  have D := bl_drewN B nq;clear N R A X B;go_wp2;go_loop [6] (fun i => ∃ k : Nat, k ≤ row.length ∧ i = nI k ∧ ∀ j v, j < k → row[j]? = some v → (v.1 == line) = false) (fun i => row.length - (intOf i).toNat)
  case atStart => exact ⟨0, Nat.zero_le _, rfl, fun j v hj => by omega⟩
  case round =>
   obtain ⟨k, M, rfl, r⟩ := hrel;by_cases H : k < row.length
   ·have y : (k : Int) < (row.length : Int) := by omega
    obtain ⟨u, G⟩ : ∃ u, row[k]? = some u := ⟨_, List.getElem?_eq_getElem H⟩;obtain ⟨bk, O, cs, rfl, g, f⟩ := slrd_at (slrd_keep s.out fun k M => D.block k M) G;obtain ⟨ad, aA, rfl, -, -, -, -, -⟩ := way_rd g;have S := f 0 _ rfl;rw [show O + (k * wayR.size + 0) = O + k * 3 from rfl] at S;have L : Hid (row[k]? = some u) := G;obtain ⟨l, st, d⟩ := u;simp only at S
    clear f g G;by_cases C : l = line
    ·have m : Hid (idxI (atC c line) = k) := by unfold Hid; rw [E.out, idx_first L.out (by simp [C]) r]; rfl
     subst C;go_wp2;go_ret
     exact ⟨ret_int m.out.symm, D⟩
    ·have I : (l == line) = false := by simpa using C
     go_wp2;go_round
     case rel =>
      refine ⟨k + 1, by omega, by go_num, fun j v hj hv => ?_⟩;by_cases Z : j < k
      ·exact r j v Z hv
      ·have : j = k := by omega
       subst this;rw [L.out] at hv;cases hv;exact I
     case measure => simp [intOf]; omega
   ·have m : Hid (idxI (atC c line) = -1) := by
      unfold Hid;rw [E.out, idx_never fun j v hv => r j v (by have := (List.getElem?_eq_some_iff.1 hv).1; omega) hv];rfl
    have y : ¬ (k : Int) < (row.length : Int) := by omega
    go_wp2;go_ret
    exact ⟨ret_int m.out.symm, D⟩
open Go.ChangeShapes Go.WideShapes Go.ChangeAt Go.RowKit
def goneB (u : WayD) : Bool := betw u.1 0 15 && (decide (u.2.1 = 0) && decide (u.2.2.length = 0))
noncomputable def restC (x : CoreD) : Bool := if x.2.2.2.1 = 1 then (goneB x.2.2.2.2.1 || fullB isL x.2.2.2.2.1) && decide (atC x.1 x.2.2.2.2.1.1 = none) else clearB x.2.2.2.2.1
noncomputable def coreB (x : CoreD) : Bool := okB isL treeB x.1 && (decide (x.2.1.length ≤ 30) && (betw x.2.2.1 0 x.2.1.length && (decide ((x.2.2.2.2.2.length : Int) = x.2.2.1) && (betw x.2.2.2.1 0 2 && (!(decide (x.2.2.2.1 = 2) && decide (x.2.2.1 = (x.2.1.length : Int))) && (x.2.1.all opOkD && restC x))))))
theorem idx_neg (o : Option Nat) : decide (idxI o < 0) = decide (o = none) := by
 cases o with
 | none => rfl
 | some i => exact (decide_eq_false (show ¬ ((i : Int) < 0) by omega)).trans (decide_eq_false (by simp)).symm
theorem rows_len {w : World} {a : Option Addr} {xs : List (List WayD)} (h : SlRd waysR w a xs) : ∀ c ∈ xs, c.length ≤ maxLen := by
 intro c f;obtain ⟨j, g⟩ := List.getElem?_of_mem f;obtain ⟨b, k, cs, rfl, ⟨a', d, rfl, l, i, -⟩, -⟩ := slrd_at h g;exact Nat.le_trans l i
theorem specCoreOk_u (cs : List Value) (x : CoreD) (w : World) (h : coreR.rd w cs x) :
    Calls Tryz.prog 71 #[aggV cs] w fun e L => e = .returned (.bool (coreB x)) ∧ Bl w L := by
 obtain ⟨v0, v1, v2, v5, v6, v7, v8, rfl, r0, r1, i2, i3, r4, r5⟩ := core_rd h;clear h;obtain ⟨a0, c0, b0, d0, e0, l1, l2, l3, l4, q0, q1⟩ := cache_rd r0;simp only [List.cons.injEq, and_true] at e0;obtain ⟨rfl, rfl⟩ := e0;obtain ⟨a1, c1, e1, k1, k2, q2⟩ := r1;simp only [List.cons.injEq, and_true] at e1;obtain rfl := e1;obtain ⟨a4, c4, e4, j1, j2, g1, g2, q4⟩ := way_rd r4;simp only [List.cons.injEq, and_true] at e4;obtain ⟨rfl, rfl, rfl⟩ := e4;obtain ⟨a5, c5, e5, m1, m2, q5⟩ := r5;simp only [List.cons.injEq, and_true] at e5;obtain rfl := e5;clear r0 r4;obtain ⟨c, p, j, Y, u, t⟩ := x;simp only at *
 have pB : p.length ≤ 9223372036854775807 := Nat.le_trans k1 k2;have FB : t.length ≤ 9223372036854775807 := Nat.le_trans m1 m2;have jB : u.2.2.length ≤ 9223372036854775807 := Nat.le_trans g1 g2;have KC : Hid _ := fun (W : World) (q : Bl w W) => specCacheOk_any a0 b0 c c0 d0 W (slrd_next q0 q) (slrd_next q1 q) (Nat.le_trans l1 l2) (Nat.le_trans l3 l4) (rows_len q0);have KP : Hid (∀ W, Bl w W → SlRd opR W a1 p) := fun W q => slrd_next q2 q;have KL : Hid (∀ W, Calls Tryz.prog 58 #[.agg #[nI u.1, nI u.2.1, sL a4 u.2.2.length c4]] W fun e L => e = .returned (.bool (clearB u)) ∧ Bl W L) := fun W => by rw [← clr_eq]; exact l6Clear_any _ _ _ _ _ W (Nat.le_trans g1 g2)
 have KF : Hid _ := fun (W : World) (q : Bl w W) => l6Full_any u.1 u.2.1 u.2.2 a4 c4 W (slrd_next q4 q);have KA : Hid (∀ W, okB isL treeB c = true → Bl w W → Calls Tryz.prog 136 #[.agg #[sL a0 c.1.length c0, sL b0 c.2.length d0], nI u.1] W fun e L => e = .returned (nI (idxI (atC c u.1))) ∧ Bl W L) := fun W hk q => specAt_any a0 b0 c c0 d0 u.1 W (okB_iff.1 hk) (slrd_next q0 q);clear q0 q1 q2 q4 q5 l1 l2 l3 l4 k1 k2 g1 g2 m1 m2 i2 i3 j1 j2;change Calls Tryz.prog 71 #[.agg #[sL a0 c.1.length c0, sL b0 c.2.length d0, sL a1 p.length c1, nI j, nI Y, nI u.1, nI u.2.1, sL a4 u.2.2.length c4, sL a5 t.length c5]] w _
 go_enter Tryz.func71, Tryz.ntmps71;go_wp2_with fail
 generalize dA : w.alloc _ = W0;have X := boxH dA;have B := boxB dA;clear dA;refine (KC.out _ B).mono ?_;rintro e w1 ⟨rfl, b1⟩;replace X := row_keep b1 X;replace B := below_step B b1;clear b1 KC;obtain ⟨y0, y1, y2, y3, y4, y5, y6, y7, y8⟩ := cells_core X;have HX : Hid _ := X;have G : Hid _ := B;clear X B;cases H : okB isL treeB c
 ·skip
  have r : Hid (coreB (c, p, j, Y, u, t) = false) := by unfold Hid coreB; simp [H]
  clear H;go_wp2;go_ret
  exact ⟨ret_bool r.out.symm, G.out⟩
 by_cases hn : p.length ≤ 30
 case neg =>
  have YA : (30 : Int) < (p.length : Int) := by omega
  have r : Hid (coreB (c, p, j, Y, u, t) = false) := by unfold Hid coreB; simp [hn]
  clear H hn;go_wp2;go_ret
  exact ⟨ret_bool r.out.symm, G.out⟩
 have YA : ¬ ((30 : Int) < (p.length : Int)) := by omega
 cases l : betw j 0 (p.length : Int)
 ·skip
  have r : Hid (coreB (c, p, j, Y, u, t) = false) := by unfold Hid coreB; simp [l]
  clear H;go_wp2_with (go_at_call 126; refine (l1In_any _ _ _ _).mono ?_; rintro e o ⟨rfl, a⟩; rw [a]; clear a o; first | rw [l] | rw [g] | rw [m])
  go_ret
  exact ⟨ret_bool r.out.symm, G.out⟩
 by_cases M : (t.length : Int) = j
 case neg =>
  have GA : ((t.length : Int) != j) = true := by simp [M]
  have r : Hid (coreB (c, p, j, Y, u, t) = false) := by unfold Hid coreB; simp [M]
  clear H M;go_wp2_with (go_at_call 126; refine (l1In_any _ _ _ _).mono ?_; rintro e o ⟨rfl, a⟩; rw [a]; clear a o; first | rw [l] | rw [g] | rw [m])
  go_ret
  exact ⟨ret_bool r.out.symm, G.out⟩
 have GA : ((t.length : Int) != j) = false := by simp [M]
 have T : Hid _ := M;have K : Hid _ := H;clear M H;cases g : betw Y 0 2
 ·skip
  have r : Hid (coreB (c, p, j, Y, u, t) = false) := by unfold Hid coreB; simp [g]
  clear T K;go_wp2_with (go_at_call 126; refine (l1In_any _ _ _ _).mono ?_; rintro e o ⟨rfl, a⟩; rw [a]; clear a o; first | rw [l] | rw [g] | rw [m])
  go_ret
  exact ⟨ret_bool r.out.symm, G.out⟩
 have h3 : Y = 0 ∨ Y = 1 ∨ Y = 2 := by simp [betw] at g; omega
 have Z : Hid _ := g;clear g;rcases h3 with rfl | rfl | rfl
 ·skip
  have R : Hid (coreB (c, p, j, 0, u, t) = (p.all opOkD && restC (c, p, j, 0, u, t))) := by unfold Hid coreB; simp [K.out, hn, l, T.out, Z.out]
  generalize hA : p.all opOkD = A at R;have U : Hid _ := hA;clear hA;have g : betw (0 : Int) 0 2 = true := by decide
  go_wp2_with (go_at_call 126; refine (l1In_any _ _ _ _).mono ?_; rintro e o ⟨rfl, a⟩; rw [a]; clear a o; first | rw [l] | rw [g] | rw [m])
  clear g y0 y1 y2 y3 y4 y5 y6 y7 y8;go_loopw [4] (fun i wr => ∃ k : Nat, k ≤ p.length ∧ i = nI k ∧ (p.take k).all opOkD = true ∧ Bl w1 wr) (fun i _ => p.length - (intOf i).toNat)
  case atStart => exact ⟨0, Nat.zero_le _, rfl, rfl, Below.refl _ _⟩
  case round =>
   obtain ⟨k, hk, rfl, d, n⟩ := hrel;obtain ⟨y0, y1, y2, y3, y4, y5, y6, y7, y8⟩ := cells_core (row_keep n HX.out);by_cases D : k < p.length
   ·have bA : (k : Int) < (p.length : Int) := by omega
    obtain ⟨z, v⟩ : ∃ z, p[k]? = some z := ⟨_, List.getElem?_eq_getElem D⟩;obtain ⟨b, sA, rfl, x0, x1, x2, x3, -⟩ := op_at (KP.out _ (below_step G.out n)) v;cases q : opOkD z
    ·have HN : Hid (A = false) := by rw [← U.out]; exact all_not v q
     have f : Hid _ := n;clear v d n;go_wp2_with (go_at_call 134; refine (specOpOk_any _ _ _ _ _).mono ?_; rintro e L ⟨rfl, E⟩; rw [show opB z.1 z.2.1 z.2.2.1 z.2.2.2 = _ from q])
     go_ret
     exact ⟨ret_bool (by rw [R.out, HN.out]; rfl), below_step (below_step G.out f.out) E⟩
    ·have HT : Hid ((p.take (k + 1)).all opOkD = true) := all_step d v q;have f : Hid _ := n;clear v d n;go_wp2_with (go_at_call 134; refine (specOpOk_any _ _ _ _ _).mono ?_; rintro e L ⟨rfl, E⟩; rw [show opB z.1 z.2.1 z.2.2.1 z.2.2.2 = _ from q])
     go_roundw
     case rel => exact ⟨k + 1, by omega, by go_num, HT.out, below_step f.out E⟩
     case measure => simp [intOf]; omega
   ·have N : k = p.length := by omega
    subst N;rw [List.take_length] at d;have O : A = true := by rw [← U.out]; exact d
    subst O;have f : Hid (Bl w wr) := below_step G.out n;have y : Hid _ := row_keep n HX.out;clear d n D hk U;have r : Hid (coreB (c, p, j, 0, u, t) = clearB u) := by unfold Hid; rw [R.out, Bool.true_and]; unfold restC; exact if_neg (show ¬ ((0 : Int) = 1) by decide)
    go_wp2_with (go_at_call 58; refine (KL.out _).mono ?_; rintro e L ⟨rfl, E⟩)
    go_ret
    exact ⟨ret_bool r.out.symm, below_step f.out E⟩
 ·skip
  have R : Hid (coreB (c, p, j, 1, u, t) = (p.all opOkD && restC (c, p, j, 1, u, t))) := by unfold Hid coreB; simp [K.out, hn, l, T.out, Z.out]
  generalize hA : p.all opOkD = A at R;have U : Hid _ := hA;clear hA;have g : betw (1 : Int) 0 2 = true := by decide
  go_wp2_with (go_at_call 126; refine (l1In_any _ _ _ _).mono ?_; rintro e o ⟨rfl, a⟩; rw [a]; clear a o; first | rw [l] | rw [g] | rw [m])
  clear g y0 y1 y2 y3 y4 y5 y6 y7 y8;go_loopw [4] (fun i wr => ∃ k : Nat, k ≤ p.length ∧ i = nI k ∧ (p.take k).all opOkD = true ∧ Bl w1 wr) (fun i _ => p.length - (intOf i).toNat)
  case atStart => exact ⟨0, Nat.zero_le _, rfl, rfl, Below.refl _ _⟩
  case round =>
   obtain ⟨k, hk, rfl, d, n⟩ := hrel;obtain ⟨y0, y1, y2, y3, y4, y5, y6, y7, y8⟩ := cells_core (row_keep n HX.out);by_cases D : k < p.length
   ·have bA : (k : Int) < (p.length : Int) := by omega
    obtain ⟨z, v⟩ : ∃ z, p[k]? = some z := ⟨_, List.getElem?_eq_getElem D⟩;obtain ⟨b, sA, rfl, x0, x1, x2, x3, -⟩ := op_at (KP.out _ (below_step G.out n)) v;cases q : opOkD z
    ·have HN : Hid (A = false) := by rw [← U.out]; exact all_not v q
     have f : Hid _ := n;clear v d n;go_wp2_with (go_at_call 134; refine (specOpOk_any _ _ _ _ _).mono ?_; rintro e L ⟨rfl, E⟩; rw [show opB z.1 z.2.1 z.2.2.1 z.2.2.2 = _ from q])
     go_ret
     exact ⟨ret_bool (by rw [R.out, HN.out]; rfl), below_step (below_step G.out f.out) E⟩
    ·have HT : Hid ((p.take (k + 1)).all opOkD = true) := all_step d v q;have f : Hid _ := n;clear v d n;go_wp2_with (go_at_call 134; refine (specOpOk_any _ _ _ _ _).mono ?_; rintro e L ⟨rfl, E⟩; rw [show opB z.1 z.2.1 z.2.2.1 z.2.2.2 = _ from q])
     go_roundw
     case rel => exact ⟨k + 1, by omega, by go_num, HT.out, below_step f.out E⟩
     case measure => simp [intOf]; omega
   ·have N : k = p.length := by omega
    subst N;rw [List.take_length] at d;have O : A = true := by rw [← U.out]; exact d
    subst O;have f : Hid (Bl w wr) := below_step G.out n;have y : Hid _ := row_keep n HX.out;clear d n D hk U;have r : Hid (coreB (c, p, j, 1, u, t) = ((goneB u || fullB isL u) && decide (atC c u.1 = none))) := by unfold Hid; rw [R.out, Bool.true_and]; unfold restC; exact if_pos rfl
    have aA : Hid _ := fun W => KA.out W K.out;clear KA;cases m : betw u.1 0 15
    ·have s : goneB u = false := by unfold goneB; rw [m]; rfl
     cases J : fullB isL u
     ·go_wp2_with (first | (go_at_call 126; refine (l1In_any _ _ _ _).mono ?_; rintro e o ⟨rfl, a⟩; rw [a]; clear a o; first | rw [l] | rw [g] | rw [m]) | (go_at_call 135; refine (KF.out _ f.out).mono ?_; rintro e wf ⟨rfl, C⟩; rw [J]; have I := below_step f.out C; obtain ⟨t0, t1, t2, t3, t4, t5, t6, t7, t8⟩ := cells_core (row_keep C y.out)))
      go_ret
      exact ⟨ret_bool (by rw [r.out, s, J]; rfl), I⟩
     ·go_wp2_with (first | (go_at_call 126; refine (l1In_any _ _ _ _).mono ?_; rintro e o ⟨rfl, a⟩; rw [a]; clear a o; first | rw [l] | rw [g] | rw [m]) | (go_at_call 135; refine (KF.out _ f.out).mono ?_; rintro e wf ⟨rfl, C⟩; rw [J]; have I := below_step f.out C; obtain ⟨t0, t1, t2, t3, t4, t5, t6, t7, t8⟩ := cells_core (row_keep C y.out)) | (go_at_call 136; refine (aA.out _ I).mono ?_; rintro e wa ⟨rfl, ba⟩))
      go_ret
      exact ⟨ret_bool (by rw [r.out, s, J]; simp [idx_neg]), below_step I ba⟩
    by_cases F : u.2.1 = 0
    case neg =>
     have VA : (u.2.1 == 0) = false := by simp [F]
     have s : goneB u = false := by unfold goneB; simp [F]
     clear F;cases J : fullB isL u
     ·go_wp2_with (first | (go_at_call 126; refine (l1In_any _ _ _ _).mono ?_; rintro e o ⟨rfl, a⟩; rw [a]; clear a o; first | rw [l] | rw [g] | rw [m]) | (go_at_call 135; refine (KF.out _ f.out).mono ?_; rintro e wf ⟨rfl, C⟩; rw [J]; have I := below_step f.out C; obtain ⟨t0, t1, t2, t3, t4, t5, t6, t7, t8⟩ := cells_core (row_keep C y.out)))
      go_ret
      exact ⟨ret_bool (by rw [r.out, s, J]; rfl), I⟩
     ·go_wp2_with (first | (go_at_call 126; refine (l1In_any _ _ _ _).mono ?_; rintro e o ⟨rfl, a⟩; rw [a]; clear a o; first | rw [l] | rw [g] | rw [m]) | (go_at_call 135; refine (KF.out _ f.out).mono ?_; rintro e wf ⟨rfl, C⟩; rw [J]; have I := below_step f.out C; obtain ⟨t0, t1, t2, t3, t4, t5, t6, t7, t8⟩ := cells_core (row_keep C y.out)) | (go_at_call 136; refine (aA.out _ I).mono ?_; rintro e wa ⟨rfl, ba⟩))
      go_ret
      exact ⟨ret_bool (by rw [r.out, s, J]; simp [idx_neg]), below_step I ba⟩
    have VA : (u.2.1 == 0) = true := by simp [F]
    by_cases S : u.2.2.length = 0
    case neg =>
     have fB : ((u.2.2.length : Int) == 0) = false := beq_false_of_ne (by omega);have s : goneB u = false := by unfold goneB; simp [S]
     clear F S;cases J : fullB isL u
     ·go_wp2_with (first | (go_at_call 126; refine (l1In_any _ _ _ _).mono ?_; rintro e o ⟨rfl, a⟩; rw [a]; clear a o; first | rw [l] | rw [g] | rw [m]) | (go_at_call 135; refine (KF.out _ f.out).mono ?_; rintro e wf ⟨rfl, C⟩; rw [J]; have I := below_step f.out C; obtain ⟨t0, t1, t2, t3, t4, t5, t6, t7, t8⟩ := cells_core (row_keep C y.out)))
      go_ret
      exact ⟨ret_bool (by rw [r.out, s, J]; rfl), I⟩
     ·go_wp2_with (first | (go_at_call 126; refine (l1In_any _ _ _ _).mono ?_; rintro e o ⟨rfl, a⟩; rw [a]; clear a o; first | rw [l] | rw [g] | rw [m]) | (go_at_call 135; refine (KF.out _ f.out).mono ?_; rintro e wf ⟨rfl, C⟩; rw [J]; have I := below_step f.out C; obtain ⟨t0, t1, t2, t3, t4, t5, t6, t7, t8⟩ := cells_core (row_keep C y.out)) | (go_at_call 136; refine (aA.out _ I).mono ?_; rintro e wa ⟨rfl, ba⟩))
      go_ret
      exact ⟨ret_bool (by rw [r.out, s, J]; simp [idx_neg]), below_step I ba⟩
    have fB : ((u.2.2.length : Int) == 0) = true := by simp [S]
    have s : goneB u = true := by unfold goneB; rw [m]; simp [F, S]
    clear F S;go_wp2_with (first | (go_at_call 126; refine (l1In_any _ _ _ _).mono ?_; rintro e o ⟨rfl, a⟩; rw [a]; clear a o; first | rw [l] | rw [g] | rw [m]) | (go_at_call 136; refine (aA.out _ f.out).mono ?_; rintro e wa ⟨rfl, ba⟩))
    go_ret
    exact ⟨ret_bool (by rw [r.out, s]; simp [idx_neg]), below_step f.out ba⟩
 ·by_cases V : j = (p.length : Int)
  ·have EA : (j == (p.length : Int)) = true := by simp [V]
   have g : betw (2 : Int) 0 2 = true := by decide
   have r : Hid (coreB (c, p, j, 2, u, t) = false) := by unfold Hid coreB; simp [V]
   clear T K Z V;go_wp2_with (go_at_call 126; refine (l1In_any _ _ _ _).mono ?_; rintro e o ⟨rfl, a⟩; rw [a]; clear a o; first | rw [l] | rw [g] | rw [m])
   go_ret
   exact ⟨ret_bool r.out.symm, G.out⟩
  ·have EA : (j == (p.length : Int)) = false := by simp [V]
   have R : Hid (coreB (c, p, j, 2, u, t) = (p.all opOkD && restC (c, p, j, 2, u, t))) := by unfold Hid coreB; simp [K.out, hn, l, T.out, Z.out, V]
   generalize hA : p.all opOkD = A at R;have U : Hid _ := hA;clear hA;have g : betw (2 : Int) 0 2 = true := by decide
   go_wp2_with (go_at_call 126; refine (l1In_any _ _ _ _).mono ?_; rintro e o ⟨rfl, a⟩; rw [a]; clear a o; first | rw [l] | rw [g] | rw [m])
   clear g y0 y1 y2 y3 y4 y5 y6 y7 y8;go_loopw [4] (fun i wr => ∃ k : Nat, k ≤ p.length ∧ i = nI k ∧ (p.take k).all opOkD = true ∧ Bl w1 wr) (fun i _ => p.length - (intOf i).toNat)
   case atStart => exact ⟨0, Nat.zero_le _, rfl, rfl, Below.refl _ _⟩
   case round =>
    obtain ⟨k, hk, rfl, d, n⟩ := hrel;obtain ⟨y0, y1, y2, y3, y4, y5, y6, y7, y8⟩ := cells_core (row_keep n HX.out);by_cases D : k < p.length
    ·have bA : (k : Int) < (p.length : Int) := by omega
     obtain ⟨z, v⟩ : ∃ z, p[k]? = some z := ⟨_, List.getElem?_eq_getElem D⟩;obtain ⟨b, sA, rfl, x0, x1, x2, x3, -⟩ := op_at (KP.out _ (below_step G.out n)) v;cases q : opOkD z
     ·have HN : Hid (A = false) := by rw [← U.out]; exact all_not v q
      have f : Hid _ := n;clear v d n;go_wp2_with (go_at_call 134; refine (specOpOk_any _ _ _ _ _).mono ?_; rintro e L ⟨rfl, E⟩; rw [show opB z.1 z.2.1 z.2.2.1 z.2.2.2 = _ from q])
      go_ret
      exact ⟨ret_bool (by rw [R.out, HN.out]; rfl), below_step (below_step G.out f.out) E⟩
     ·have HT : Hid ((p.take (k + 1)).all opOkD = true) := all_step d v q;have f : Hid _ := n;clear v d n;go_wp2_with (go_at_call 134; refine (specOpOk_any _ _ _ _ _).mono ?_; rintro e L ⟨rfl, E⟩; rw [show opB z.1 z.2.1 z.2.2.1 z.2.2.2 = _ from q])
      go_roundw
      case rel => exact ⟨k + 1, by omega, by go_num, HT.out, below_step f.out E⟩
      case measure => simp [intOf]; omega
    ·have N : k = p.length := by omega
     subst N;rw [List.take_length] at d;have O : A = true := by rw [← U.out]; exact d
     subst O;have f : Hid (Bl w wr) := below_step G.out n;have y : Hid _ := row_keep n HX.out;clear d n D hk U;have r : Hid (coreB (c, p, j, 2, u, t) = clearB u) := by unfold Hid; rw [R.out, Bool.true_and]; unfold restC; exact if_neg (show ¬ ((2 : Int) = 1) by decide)
     go_wp2_with (go_at_call 58; refine (KL.out _).mono ?_; rintro e L ⟨rfl, E⟩)
     go_ret
     exact ⟨ret_bool r.out.symm, below_step f.out E⟩
end Go.Proofs.YtdamokokcdcedaaGreatDoor
