import Derived.Test.YtcocbafhcpdheaaGreatDoorP00Box
import Derived.Test.YtcocbafhcpdheaaGreatDoorP19
namespace Go.Proofs.YtcocbafhcpdheaaGreatDoor
set_option maxHeartbeats 8000000
set_option maxRecDepth 20000
open Go.ChangeShapes Go.WideShapes Go.ChangeAt Go.RowKit Go.Shelf
set_option linter.unusedVariables false
def findP (c : CacheD) (line : Int) : Int × Int × Bool := if betw line 0 15 then (line % (c.1.length : Int), firstI (rowFor c line) line, firstI (rowFor c line) line != -1) else (0, 0, false)
theorem ok_row {c : CacheD} (h : OkC isL treeB c) (line : Int) : pow3 c.1.length ∧ c.1[setNo c line]? = some (rowFor c line) ∧ rowFor c line ≠ [] ∧ (rowFor c line).length ≤ 4 ∧ ((setNo c line : Nat) : Int) = line % (c.1.length : Int) ∧ setNo c line < c.1.length := by
 obtain ⟨h1, h2, m, hm, h3⟩ := h;have hg := rowFor_get (line := line) h1;have hl := (h3 _ _ hg).1;refine ⟨h1, hg, fun e => ?_, ?_, setNo_cast h1, setNo_lt h1⟩
 ·rw [e] at hl;simp at hl
  have := pow3_pos hm;omega
 ·rcases hm with rfl | rfl | rfl <;> omega
theorem putTwo {w : World} {g : Nat} {x y a b : Value} {t : TypeId} (h : w.heap[g]? = some (.cells #[x, y] t (0, 0))) :
    ((w.setCell ⟨g, 0, none⟩ a).setCell ⟨g, 1, none⟩ b).heap[g]? = some (.cells #[a, b] t (0, 0)) :=
 heap_setCell_same _ g 1 _ t b (heap_setCell_same w g 0 _ t a h)
theorem implFind_any (a b : Option Addr) (c : CacheD) (cap cp : Nat) (line : Int) (w : World) (hok : OkC isL treeB c) (h1 : SlRd waysR w a c.1) :
    Calls Tryz.prog 196 #[.agg #[.slice a c.1.length cap, .slice b c.2.length cp], .int .i64 line] w fun e w' => e = .returned (.tuple #[.agg #[.int .i64 (findP c line).1, .int .i64 (findP c line).2.1], .bool (findP c line).2.2]) ∧ Below w.heap.size w w' := by
 obtain ⟨hp, hget, hne, hr4, hset, hsl⟩ := ok_row hok line;obtain ⟨b0, o0, aj, cj, rfl, hcell, -, -, hrd⟩ := set_at h1 hget;cases hb : betw line 0 15
 ·have HF : Hid (findP c line = (0, 0, false)) := by unfold Hid findP; simp [hb]
  clear hcell hrd h1 hget;go_enter Tryz.func196, Tryz.ntmps196;go_wp2_with (go_at_call 229; refine (lineNumberOk_any _ _).mono ?_; rintro e w' ⟨rfl, rfl⟩; rw [hb])
  have Y := heap_at (w.alloc (.cells #[.slice (some ⟨b0, o0, none⟩) c.1.length cap, .slice b c.2.length cp] 92)) (.cells #[.int .i64 0, .int .i64 0] 217);rw [alloc_len] at Y;obtain ⟨r0, r1⟩ := cells_two Y;refine bodyPost_ret (v := .tuple #[.agg #[.int .i64 0, .int .i64 0], .bool false]) (by simp [results, Tryz.results196, go_sem]) rfl ⟨by rw [HF.out], below_step (box_below w _) (box_below _ _)⟩
 ·have hl0 : 0 ≤ line := by simp [betw] at hb; omega
  have HF : Hid (findP c line = (((setNo c line : Nat) : Int), firstI (rowFor c line) line, firstI (rowFor c line) line != -1)) := by unfold Hid findP; rw [if_pos hb, hset]
  have HS : Hid (∀ W, Calls Tryz.prog 236 #[.agg #[.slice (some ⟨b0, o0, none⟩) c.1.length cap, .slice b c.2.length cp], .int .i64 line] W fun e w' => e = .returned (.int .i64 ((setNo c line : Nat) : Int)) ∧ Below W.heap.size W w') := fun W => by
   have := setOf_any (some ⟨b0, o0, none⟩) c.1.length cap (.slice b c.2.length cp) _ _ _ rfl line W hp hl0;rwa [← hset] at this
  have HFW : Hid (∀ W, Below w.heap.size w W → Calls Tryz.prog 237 #[.slice aj (rowFor c line).length cj, .int .i64 line] W fun e w' => e = .returned (.int .i64 (firstI (rowFor c line) line)) ∧ Below W.heap.size W w') := fun W hbw =>
   firstWith_any aj _ cj line W (slrd_keep hrd fun k hk => hbw.block k hk) hne (by omega)
  have hsl' : ((setNo c line : Nat) : Int) < (c.1.length : Int) := by omega
  have HC : Hid (∀ W, Below w.heap.size w W → W.cell? ⟨b0, o0 + setNo c line, none⟩ = some (.slice aj (rowFor c line).length cj)) := fun W hbw => cell_keep hbw hcell (cell_lt hcell);clear hcell hrd h1 hget hne hr4 hset hok;generalize setNo c line = sn at HF HS hsl hsl' HC;generalize (rowFor c line).length = rn at HFW HC;generalize firstI (rowFor c line) line = fi at HF HFW;have X := heap_on (.cells #[.int .i64 0, .int .i64 0] 217) (heap_at w (.cells #[.slice (some ⟨b0, o0, none⟩) c.1.length cap, .slice b c.2.length cp] 92));have Y := heap_at (w.alloc (.cells #[.slice (some ⟨b0, o0, none⟩) c.1.length cap, .slice b c.2.length cp] 92)) (.cells #[.int .i64 0, .int .i64 0] 217);rw [alloc_len] at Y;have B := below_step (box_below w (.cells #[.slice (some ⟨b0, o0, none⟩) c.1.length cap, .slice b c.2.length cp] 92)) (box_below _ (.cells #[.int .i64 0, .int .i64 0] 217));go_enter Tryz.func196, Tryz.ntmps196;go_wp2_with (go_at_call 229; refine (lineNumberOk_any _ _).mono ?_; rintro e w' ⟨rfl, rfl⟩; rw [hb])
  generalize (w.alloc (.cells #[.slice (some ⟨b0, o0, none⟩) c.1.length cap, .slice b c.2.length cp] 92)).alloc (.cells #[.int .i64 0, .int .i64 0] 217) = W0 at X Y B ⊢;refine (HS.out _).mono ?_;rintro e w1 ⟨rfl, b1⟩;replace B := below_step B b1;replace X := row_keep b1 X;replace Y := row_keep b1 Y;obtain ⟨x0, x1⟩ := cells_two X;have g0 := HC.out _ B;clear b1;go_wp2_with fail
  refine (HFW.out _ B).mono ?_;rintro e w2 ⟨rfl, b1⟩;replace B := below_step B b1;replace Y := row_keep b1 Y;obtain ⟨y0, y1⟩ := cells_two Y;obtain ⟨f0, f1⟩ : w2.frozen? ⟨w.heap.size + 1, 0, none⟩ = false ∧ w2.frozen? ⟨w.heap.size + 1, 1, none⟩ = false := ⟨frozen_of_row w2 _ 0 _ _ Y, frozen_of_row w2 _ 1 _ _ Y⟩;have HY : Hid _ := Y;clear b1 g0 x0 x1 X Y HS HFW HC;go_wp2;have Z := putTwo (a := .int .i64 (sn : Int)) (b := .int .i64 fi) HY.out;obtain ⟨r0, r1⟩ := cells_two Z;refine bodyPost_ret (v := .tuple #[.agg #[.int .i64 (sn : Int), .int .i64 fi], .bool (fi != -1)]) (by simp [results, Tryz.results196, go_sem, r0, r1]) rfl ⟨by rw [HF.out], (B.setCell (p := ⟨w.heap.size + 1, 0, none⟩) (by simp) _).setCell (p := ⟨w.heap.size + 1, 1, none⟩) (by simp) _⟩
def idxI (o : Option Nat) : Int := match o with
 | some i => (i : Int)
 | none => -1
theorem firstI_eq (row : List WayD) (line : Int) : firstI row line = idxI (row.findIdx? fun u => u.1 == line) := by
 unfold firstI idxI;cases row.findIdx? fun u => u.1 == line <;> rfl
theorem idxI_neg (o : Option Nat) : (idxI o != -1) = o.isSome := by
 cases o with
 | none => rfl
 | some i =>
  have : ((i : Int) != -1) = true := by simp
  exact this
theorem at_first {c : CacheD} {line : Int} (h0 : 0 ≤ line) : firstI (rowFor c line) line = idxI (atC c line) := by
 rw [firstI_eq];unfold atC;rw [if_neg (by omega)]
theorem at_out {c : CacheD} (h : OkC isL treeB c) {line : Int} (hl : betw line 0 15 = false) : atC c line = none := by
 cases ha : atC c line with
 | none => rfl
 | some i =>
  obtain ⟨h0, u, hu, he⟩ := at_some ha;obtain ⟨h1, h2, m, hm, h3⟩ := h;rcases (h3 _ _ (rowFor_get (line := line) h1)).2.2.1 i u hu with hc | ⟨hf, _⟩
  ·rw [clear_eq hc] at he;simp [emptyW] at he
   omega
  ·have := full_line hf;simp [betw] at hl
   omega
theorem findP_eq {c : CacheD} (h : OkC isL treeB c) {line : Int} : findP c line = if betw line 0 15 then (((setNo c line : Nat) : Int), idxI (atC c line), (atC c line).isSome) else (0, 0, false) := by
 unfold findP;split
 ·rename_i hb
  have h0 : 0 ≤ line := by simp [betw] at hb; omega
  rw [at_first h0, idxI_neg, setNo_cast h.1]
 ·rfl
theorem go_in {t n : Int} (h : treeB t n = true) : 0 ≤ goI t n ∧ goI t n < n ∧ viI t n = goI t n := by
 refine ⟨?_, ?_, by unfold viI; rw [if_pos h]⟩
 all_goals
  simp only [treeB, decide_eq_true_eq] at h;unfold goI;rcases h with ⟨rfl, rfl⟩ | ⟨rfl, h1, h2⟩ | ⟨rfl, h1, h2⟩
  ·simp
  ·simp
   omega
  ·have ht : t = 0 ∨ t = 1 ∨ t = 2 ∨ t = 3 ∨ t = 4 ∨ t = 5 ∨ t = 6 ∨ t = 7 := by omega
   rcases ht with rfl | rfl | rfl | rfl | rfl | rfl | rfl | rfl <;> decide
theorem idx_first {p : WayD → Bool} {row : List WayD} {k : Nat} {u : WayD} (hu : row[k]? = some u) (hp : p u = true) (hno : ∀ j v, j < k → row[j]? = some v → p v = false) : row.findIdx? p = some k := by
 have hk := (List.getElem?_eq_some_iff.1 hu).1;rw [List.findIdx?_eq_some_iff_getElem];refine ⟨hk, ?_, fun j hj => ?_⟩
 ·rw [List.getElem?_eq_getElem hk] at hu;cases hu;exact hp
 ·simpa using hno j _ hj (List.getElem?_eq_getElem (by omega))
theorem idx_never {p : WayD → Bool} {row : List WayD} (hno : ∀ (j : Nat) (v : WayD), row[j]? = some v → p v = false) : row.findIdx? p = none := by
 rw [List.findIdx?_eq_none_iff];intro u hu;obtain ⟨j, hj⟩ := List.mem_iff_getElem?.1 hu;simpa using hno j u hj
theorem specAt_any (a b : Option Addr) (c : CacheD) (cap cp : Nat) (line : Int) (w : World) (hok : OkC isL treeB c) (h1 : SlRd waysR w a c.1) :
    Calls Tryz.prog 150 #[.agg #[.slice a c.1.length cap, .slice b c.2.length cp], .int .i64 line] w fun e w' => e = .returned (.int .i64 (idxI (atC c line))) ∧ Below w.heap.size w w' := by
 have X := heap_at w (.cells #[.slice a c.1.length cap, .slice b c.2.length cp] 92);have B := box_below w (.cells #[.slice a c.1.length cap, .slice b c.2.length cp] 92);by_cases hneg : line < 0
 ·have HR : Hid (idxI (atC c line) = -1) := by unfold Hid atC; rw [if_pos hneg]; rfl
  go_enter Tryz.func150, Tryz.ntmps150;go_wp2;go_ret
  exact ⟨ret_int HR.out.symm, B⟩
 ·have hl0 : 0 ≤ line := by omega
  have HA : Hid (atC c line = (rowFor c line).findIdx? fun u => u.1 == line) := by unfold Hid atC; rw [if_neg hneg]
  obtain ⟨hp, hget, hne, hr4, hset, hsl⟩ := ok_row hok line;obtain ⟨b0, o0, aj, cj, rfl, hcell, -, -, hrd⟩ := set_at h1 hget;have hz : (c.1.length : Int) ≠ 0 := by omega
  have hsl' : ((setNo c line : Nat) : Int) < (c.1.length : Int) := by omega
  have hset' : line % (c.1.length : Int) = ((setNo c line : Nat) : Int) := hset.symm;have g0 := cell_keep B hcell (cell_lt hcell);have HRD : Hid (SlRd wayR w aj (rowFor c line)) := hrd;clear hcell hrd h1 hget hset hok hne;obtain ⟨x0, x1⟩ := cells_two X;generalize setNo c line = sn at hsl hsl' hset' g0;generalize rowFor c line = row at hr4 g0 HRD HA;go_enter Tryz.func150, Tryz.ntmps150;go_wp2_with fail
  generalize w.alloc (.cells #[.slice (some ⟨b0, o0, none⟩) c.1.length cap, .slice b c.2.length cp] 92) = W0 at X B x0 x1 g0 ⊢;go_quiet (fail)
  have B2 := bl_drewN B nq;clear x0 x1 g0 X B;go_wp2;go_loop [6] (fun i => ∃ k : Nat, k ≤ row.length ∧ i = .int .i64 k ∧ ∀ j v, j < k → row[j]? = some v → (v.1 == line) = false) (fun i => row.length - (intOf i).toNat)
  case atStart => exact ⟨0, Nat.zero_le _, rfl, fun j v hj => by omega⟩
  case round =>
   obtain ⟨k, hk, rfl, hno⟩ := hrel;by_cases hlt : k < row.length
   ·have hlt' : (k : Int) < (row.length : Int) := by omega
    obtain ⟨u, hu⟩ : ∃ u, row[k]? = some u := ⟨_, List.getElem?_eq_getElem hlt⟩;obtain ⟨bk, ok, cs, rfl, hrd, hcell⟩ := slrd_at (slrd_keep HRD.out fun k hk => B2.block k hk) hu;obtain ⟨ad, cpw, rfl, -, -, -, -, -⟩ := way_rd hrd;have y0 := hcell 0 _ rfl;rw [show ok + (k * wayR.size + 0) = ok + k * 3 from rfl] at y0;have HU : Hid (row[k]? = some u) := hu;obtain ⟨l, st, d⟩ := u;simp only at y0
    clear hcell hrd hu;by_cases hl : l = line
    ·have HRES : Hid (idxI (atC c line) = k) := by unfold Hid; rw [HA.out, idx_first HU.out (by simp [hl]) hno]; rfl
     subst hl;go_wp2;go_ret
     exact ⟨ret_int HRES.out.symm, B2⟩
    ·have hl' : (l == line) = false := by simpa using hl
     go_wp2;go_round
     case rel =>
      refine ⟨k + 1, by omega, by go_num, fun j v hj hv => ?_⟩;by_cases he : j < k
      ·exact hno j v he hv
      ·have : j = k := by omega
       subst this;rw [HU.out] at hv;cases hv;exact hl'
     case measure => simp [intOf]; omega
   ·have HRES : Hid (idxI (atC c line) = -1) := by
      unfold Hid;rw [HA.out, idx_never fun j v hv => hno j v (by have := (List.getElem?_eq_some_iff.1 hv).1; omega) hv];rfl
    have hlt' : ¬ (k : Int) < (row.length : Int) := by omega
    go_wp2;go_ret
    exact ⟨ret_int HRES.out.symm, B2⟩
open Go.ChangeShapes Go.WideShapes Go.ChangeAt Go.RowKit
def goneB (u : WayD) : Bool := betw u.1 0 15 && (decide (u.2.1 = 0) && decide (u.2.2.length = 0))
noncomputable def restC (x : CoreD) : Bool := if x.2.2.2.1 = 1 then (goneB x.2.2.2.2.1 || fullB isL x.2.2.2.2.1) && decide (atC x.1 x.2.2.2.2.1.1 = none) else clearB x.2.2.2.2.1
noncomputable def coreB (x : CoreD) : Bool := okB isL treeB x.1 && (decide (x.2.1.length ≤ 30) && (betw x.2.2.1 0 x.2.1.length && (decide ((x.2.2.2.2.2.length : Int) = x.2.2.1) && (betw x.2.2.2.1 0 2 && (!(decide (x.2.2.2.1 = 2) && decide (x.2.2.1 = (x.2.1.length : Int))) && (x.2.1.all opOkD && restC x))))))
theorem idx_neg (o : Option Nat) : decide (idxI o < 0) = decide (o = none) := by
 cases o with
 | none => rfl
 | some i => exact (decide_eq_false (show ¬ ((i : Int) < 0) by omega)).trans (decide_eq_false (by simp)).symm
theorem rows_len {w : World} {a : Option Addr} {xs : List (List WayD)} (h : SlRd waysR w a xs) : ∀ row ∈ xs, row.length ≤ maxLen := by
 intro row hr;obtain ⟨j, hj⟩ := List.getElem?_of_mem hr;obtain ⟨b, off, cs, rfl, ⟨a', cap', rfl, l1, l2, -⟩, -⟩ := slrd_at h hj;exact Nat.le_trans l1 l2
theorem specCoreOk_u (cs : List Value) (x : CoreD) (w : World) (h : coreR.rd w cs x) :
    Calls Tryz.prog 94 #[aggV cs] w fun e w' => e = .returned (.bool (coreB x)) ∧ Below w.heap.size w w' := by
 obtain ⟨v0, v1, v2, v5, v6, v7, v8, rfl, r0, r1, i2, i3, r4, r5⟩ := core_rd h;clear h;obtain ⟨a0, c0, b0, d0, e0, l1, l2, l3, l4, q0, q1⟩ := cache_rd r0;simp only [List.cons.injEq, and_true] at e0;obtain ⟨rfl, rfl⟩ := e0;obtain ⟨a1, c1, e1, k1, k2, q2⟩ := r1;simp only [List.cons.injEq, and_true] at e1;obtain rfl := e1;obtain ⟨a4, c4, e4, j1, j2, g1, g2, q4⟩ := way_rd r4;simp only [List.cons.injEq, and_true] at e4;obtain ⟨rfl, rfl, rfl⟩ := e4;obtain ⟨a5, c5, e5, m1, m2, q5⟩ := r5;simp only [List.cons.injEq, and_true] at e5;obtain rfl := e5;clear r0 r4;obtain ⟨c, p, at_, ph, u, t⟩ := x;simp only at *
 have hp63 : p.length ≤ 9223372036854775807 := Nat.le_trans k1 k2;have ht63 : t.length ≤ 9223372036854775807 := Nat.le_trans m1 m2;have hu63 : u.2.2.length ≤ 9223372036854775807 := Nat.le_trans g1 g2;have KC : Hid (∀ W, Below w.heap.size w W → Calls Tryz.prog 146 #[.agg #[.slice a0 c.1.length c0, .slice b0 c.2.length d0]] W fun e w' => e = .returned (.bool (okB isL treeB c)) ∧ Below W.heap.size W w') := fun W hb => specCacheOk_any a0 b0 c c0 d0 W (slrd_next q0 hb) (slrd_next q1 hb) (Nat.le_trans l1 l2) (Nat.le_trans l3 l4) (rows_len q0);have KP : Hid (∀ W, Below w.heap.size w W → SlRd opR W a1 p) := fun W hb => slrd_next q2 hb;have KL : Hid (∀ W, Calls Tryz.prog 148 #[.agg #[.int .i64 u.1, .int .i64 u.2.1, .slice a4 u.2.2.length c4]] W fun e w' => e = .returned (.bool (clearB u)) ∧ Below W.heap.size W w') := fun W => by rw [← clr_eq]; exact l6Clear_any _ _ _ _ _ W (Nat.le_trans g1 g2)
 have KF : Hid (∀ W, Below w.heap.size w W → Calls Tryz.prog 149 #[.agg #[.int .i64 u.1, .int .i64 u.2.1, .slice a4 u.2.2.length c4]] W fun e w' => e = .returned (.bool (fullB isL u)) ∧ Below W.heap.size W w') := fun W hb => l6Full_any u.1 u.2.1 u.2.2 a4 c4 W (slrd_next q4 hb);have KA : Hid (∀ W, okB isL treeB c = true → Below w.heap.size w W → Calls Tryz.prog 150 #[.agg #[.slice a0 c.1.length c0, .slice b0 c.2.length d0], .int .i64 u.1] W fun e w' => e = .returned (.int .i64 (idxI (atC c u.1))) ∧ Below W.heap.size W w') := fun W hk hb => specAt_any a0 b0 c c0 d0 u.1 W (okB_iff.1 hk) (slrd_next q0 hb);clear q0 q1 q2 q4 q5 l1 l2 l3 l4 k1 k2 g1 g2 m1 m2 i2 i3 j1 j2;change Calls Tryz.prog 94 #[.agg #[.slice a0 c.1.length c0, .slice b0 c.2.length d0, .slice a1 p.length c1, .int .i64 at_, .int .i64 ph, .int .i64 u.1, .int .i64 u.2.1, .slice a4 u.2.2.length c4, .slice a5 t.length c5]] w _
 go_enter Tryz.func94, Tryz.ntmps94;go_wp2_with fail
 generalize hW0 : w.alloc _ = W0;have X := boxH hW0;have B := boxB hW0;clear hW0;refine (KC.out _ B).mono ?_;rintro e w1 ⟨rfl, b1⟩;replace X := row_keep b1 X;replace B := below_step B b1;clear b1 KC;obtain ⟨y0, y1, y2, y3, y4, y5, y6, y7, y8⟩ := cells_core X;have HX : Hid _ := X;have HB : Hid _ := B;clear X B;cases hok : okB isL treeB c
 ·skip
  have HV : Hid (coreB (c, p, at_, ph, u, t) = false) := by unfold Hid coreB; simp [hok]
  clear hok;go_wp2;go_ret
  exact ⟨ret_bool HV.out.symm, HB.out⟩
 by_cases hn : p.length ≤ 30
 case neg =>
  have hn' : (30 : Int) < (p.length : Int) := by omega
  have HV : Hid (coreB (c, p, at_, ph, u, t) = false) := by unfold Hid coreB; simp [hn]
  clear hok hn;go_wp2;go_ret
  exact ⟨ret_bool HV.out.symm, HB.out⟩
 have hn' : ¬ ((30 : Int) < (p.length : Int)) := by omega
 cases hat : betw at_ 0 (p.length : Int)
 ·skip
  have HV : Hid (coreB (c, p, at_, ph, u, t) = false) := by unfold Hid coreB; simp [hat]
  clear hok;go_wp2_with (go_at_call 98; refine (l1In_any _ _ _ _).mono ?_; rintro e wz ⟨rfl, hz9⟩; rw [hz9]; clear hz9 wz; first | rw [hat] | rw [hph] | rw [hb1])
  go_ret
  exact ⟨ret_bool HV.out.symm, HB.out⟩
 by_cases htl : (t.length : Int) = at_
 case neg =>
  have htl' : ((t.length : Int) != at_) = true := by simp [htl]
  have HV : Hid (coreB (c, p, at_, ph, u, t) = false) := by unfold Hid coreB; simp [htl]
  clear hok htl;go_wp2_with (go_at_call 98; refine (l1In_any _ _ _ _).mono ?_; rintro e wz ⟨rfl, hz9⟩; rw [hz9]; clear hz9 wz; first | rw [hat] | rw [hph] | rw [hb1])
  go_ret
  exact ⟨ret_bool HV.out.symm, HB.out⟩
 have htl' : ((t.length : Int) != at_) = false := by simp [htl]
 have HTL : Hid _ := htl;have HOK : Hid _ := hok;clear htl hok;cases hph : betw ph 0 2
 ·skip
  have HV : Hid (coreB (c, p, at_, ph, u, t) = false) := by unfold Hid coreB; simp [hph]
  clear HTL HOK;go_wp2_with (go_at_call 98; refine (l1In_any _ _ _ _).mono ?_; rintro e wz ⟨rfl, hz9⟩; rw [hz9]; clear hz9 wz; first | rw [hat] | rw [hph] | rw [hb1])
  go_ret
  exact ⟨ret_bool HV.out.symm, HB.out⟩
 have h3 : ph = 0 ∨ ph = 1 ∨ ph = 2 := by simp [betw] at hph; omega
 have HHP : Hid _ := hph;clear hph;rcases h3 with rfl | rfl | rfl
 ·skip
  have HR : Hid (coreB (c, p, at_, 0, u, t) = (p.all opOkD && restC (c, p, at_, 0, u, t))) := by unfold Hid coreB; simp [HOK.out, hn, hat, HTL.out, HHP.out]
  generalize hA : p.all opOkD = A at HR;have HA : Hid _ := hA;clear hA;have hph : betw (0 : Int) 0 2 = true := by decide
  go_wp2_with (go_at_call 98; refine (l1In_any _ _ _ _).mono ?_; rintro e wz ⟨rfl, hz9⟩; rw [hz9]; clear hz9 wz; first | rw [hat] | rw [hph] | rw [hb1])
  clear hph;clear y0 y1 y2 y3 y4 y5 y6 y7 y8;go_loopw [4] (fun i wr => ∃ k : Nat, k ≤ p.length ∧ i = .int .i64 k ∧ (p.take k).all opOkD = true ∧ Below w1.heap.size w1 wr) (fun i _ => p.length - (intOf i).toNat)
  case atStart => exact ⟨0, Nat.zero_le _, rfl, rfl, Below.refl _ _⟩
  case round =>
   obtain ⟨k, hk, rfl, hall, BB⟩ := hrel;obtain ⟨y0, y1, y2, y3, y4, y5, y6, y7, y8⟩ := cells_core (row_keep BB HX.out);by_cases hlt : k < p.length
   ·have hlt' : (k : Int) < (p.length : Int) := by omega
    obtain ⟨z, hz⟩ : ∃ z, p[k]? = some z := ⟨_, List.getElem?_eq_getElem hlt⟩;obtain ⟨b, off, rfl, x0, x1, x2, x3, -⟩ := op_at (KP.out _ (below_step HB.out BB)) hz;cases hb : opOkD z
    ·have HN : Hid (A = false) := by rw [← HA.out]; exact all_not hz hb
     have HBB : Hid _ := BB;clear hz hall BB;go_wp2_with (go_at_call 147; refine (specOpOk_any _ _ _ _ _).mono ?_; rintro e w' ⟨rfl, bb⟩; rw [show opB z.1 z.2.1 z.2.2.1 z.2.2.2 = _ from hb])
     go_ret
     exact ⟨ret_bool (by rw [HR.out, HN.out]; rfl), below_step (below_step HB.out HBB.out) bb⟩
    ·have HT : Hid ((p.take (k + 1)).all opOkD = true) := all_step hall hz hb;have HBB : Hid _ := BB;clear hz hall BB;go_wp2_with (go_at_call 147; refine (specOpOk_any _ _ _ _ _).mono ?_; rintro e w' ⟨rfl, bb⟩; rw [show opB z.1 z.2.1 z.2.2.1 z.2.2.2 = _ from hb])
     go_roundw
     case rel => exact ⟨k + 1, by omega, by go_num, HT.out, below_step HBB.out bb⟩
     case measure => simp [intOf]; omega
   ·have hkl : k = p.length := by omega
    subst hkl;rw [List.take_length] at hall;have hA1 : A = true := by rw [← HA.out]; exact hall
    subst hA1;have HBB : Hid (Below w.heap.size w wr) := below_step HB.out BB;have HRW : Hid _ := row_keep BB HX.out;clear hall BB hlt hk HA;have HV : Hid (coreB (c, p, at_, 0, u, t) = clearB u) := by unfold Hid; rw [HR.out, Bool.true_and]; unfold restC; exact if_neg (show ¬ ((0 : Int) = 1) by decide)
    go_wp2_with (go_at_call 148; refine (KL.out _).mono ?_; rintro e w' ⟨rfl, bb⟩)
    go_ret
    exact ⟨ret_bool HV.out.symm, below_step HBB.out bb⟩
 ·skip
  have HR : Hid (coreB (c, p, at_, 1, u, t) = (p.all opOkD && restC (c, p, at_, 1, u, t))) := by unfold Hid coreB; simp [HOK.out, hn, hat, HTL.out, HHP.out]
  generalize hA : p.all opOkD = A at HR;have HA : Hid _ := hA;clear hA;have hph : betw (1 : Int) 0 2 = true := by decide
  go_wp2_with (go_at_call 98; refine (l1In_any _ _ _ _).mono ?_; rintro e wz ⟨rfl, hz9⟩; rw [hz9]; clear hz9 wz; first | rw [hat] | rw [hph] | rw [hb1])
  clear hph;clear y0 y1 y2 y3 y4 y5 y6 y7 y8;go_loopw [4] (fun i wr => ∃ k : Nat, k ≤ p.length ∧ i = .int .i64 k ∧ (p.take k).all opOkD = true ∧ Below w1.heap.size w1 wr) (fun i _ => p.length - (intOf i).toNat)
  case atStart => exact ⟨0, Nat.zero_le _, rfl, rfl, Below.refl _ _⟩
  case round =>
   obtain ⟨k, hk, rfl, hall, BB⟩ := hrel;obtain ⟨y0, y1, y2, y3, y4, y5, y6, y7, y8⟩ := cells_core (row_keep BB HX.out);by_cases hlt : k < p.length
   ·have hlt' : (k : Int) < (p.length : Int) := by omega
    obtain ⟨z, hz⟩ : ∃ z, p[k]? = some z := ⟨_, List.getElem?_eq_getElem hlt⟩;obtain ⟨b, off, rfl, x0, x1, x2, x3, -⟩ := op_at (KP.out _ (below_step HB.out BB)) hz;cases hb : opOkD z
    ·have HN : Hid (A = false) := by rw [← HA.out]; exact all_not hz hb
     have HBB : Hid _ := BB;clear hz hall BB;go_wp2_with (go_at_call 147; refine (specOpOk_any _ _ _ _ _).mono ?_; rintro e w' ⟨rfl, bb⟩; rw [show opB z.1 z.2.1 z.2.2.1 z.2.2.2 = _ from hb])
     go_ret
     exact ⟨ret_bool (by rw [HR.out, HN.out]; rfl), below_step (below_step HB.out HBB.out) bb⟩
    ·have HT : Hid ((p.take (k + 1)).all opOkD = true) := all_step hall hz hb;have HBB : Hid _ := BB;clear hz hall BB;go_wp2_with (go_at_call 147; refine (specOpOk_any _ _ _ _ _).mono ?_; rintro e w' ⟨rfl, bb⟩; rw [show opB z.1 z.2.1 z.2.2.1 z.2.2.2 = _ from hb])
     go_roundw
     case rel => exact ⟨k + 1, by omega, by go_num, HT.out, below_step HBB.out bb⟩
     case measure => simp [intOf]; omega
   ·have hkl : k = p.length := by omega
    subst hkl;rw [List.take_length] at hall;have hA1 : A = true := by rw [← HA.out]; exact hall
    subst hA1;have HBB : Hid (Below w.heap.size w wr) := below_step HB.out BB;have HRW : Hid _ := row_keep BB HX.out;clear hall BB hlt hk HA;have HV : Hid (coreB (c, p, at_, 1, u, t) = ((goneB u || fullB isL u) && decide (atC c u.1 = none))) := by unfold Hid; rw [HR.out, Bool.true_and]; unfold restC; exact if_pos rfl
    have KA1 : Hid _ := fun W => KA.out W HOK.out;clear KA;cases hb1 : betw u.1 0 15
    ·have hgo : goneB u = false := by unfold goneB; rw [hb1]; rfl
     cases hF : fullB isL u
     ·go_wp2_with (first | (go_at_call 98; refine (l1In_any _ _ _ _).mono ?_; rintro e wz ⟨rfl, hz9⟩; rw [hz9]; clear hz9 wz; first | rw [hat] | rw [hph] | rw [hb1]) | (go_at_call 149; refine (KF.out _ HBB.out).mono ?_; rintro e wf ⟨rfl, bf⟩; rw [hF]; have bg := below_step HBB.out bf; obtain ⟨t0, t1, t2, t3, t4, t5, t6, t7, t8⟩ := cells_core (row_keep bf HRW.out)))
      go_ret
      exact ⟨ret_bool (by rw [HV.out, hgo, hF]; rfl), bg⟩
     ·go_wp2_with (first | (go_at_call 98; refine (l1In_any _ _ _ _).mono ?_; rintro e wz ⟨rfl, hz9⟩; rw [hz9]; clear hz9 wz; first | rw [hat] | rw [hph] | rw [hb1]) | (go_at_call 149; refine (KF.out _ HBB.out).mono ?_; rintro e wf ⟨rfl, bf⟩; rw [hF]; have bg := below_step HBB.out bf; obtain ⟨t0, t1, t2, t3, t4, t5, t6, t7, t8⟩ := cells_core (row_keep bf HRW.out)) | (go_at_call 150; refine (KA1.out _ bg).mono ?_; rintro e wa ⟨rfl, ba⟩))
      go_ret
      exact ⟨ret_bool (by rw [HV.out, hgo, hF]; simp [idx_neg]), below_step bg ba⟩
    by_cases hs0 : u.2.1 = 0
    case neg =>
     have hs1 : (u.2.1 == 0) = false := by simp [hs0]
     have hgo : goneB u = false := by unfold goneB; simp [hs0]
     clear hs0;cases hF : fullB isL u
     ·go_wp2_with (first | (go_at_call 98; refine (l1In_any _ _ _ _).mono ?_; rintro e wz ⟨rfl, hz9⟩; rw [hz9]; clear hz9 wz; first | rw [hat] | rw [hph] | rw [hb1]) | (go_at_call 149; refine (KF.out _ HBB.out).mono ?_; rintro e wf ⟨rfl, bf⟩; rw [hF]; have bg := below_step HBB.out bf; obtain ⟨t0, t1, t2, t3, t4, t5, t6, t7, t8⟩ := cells_core (row_keep bf HRW.out)))
      go_ret
      exact ⟨ret_bool (by rw [HV.out, hgo, hF]; rfl), bg⟩
     ·go_wp2_with (first | (go_at_call 98; refine (l1In_any _ _ _ _).mono ?_; rintro e wz ⟨rfl, hz9⟩; rw [hz9]; clear hz9 wz; first | rw [hat] | rw [hph] | rw [hb1]) | (go_at_call 149; refine (KF.out _ HBB.out).mono ?_; rintro e wf ⟨rfl, bf⟩; rw [hF]; have bg := below_step HBB.out bf; obtain ⟨t0, t1, t2, t3, t4, t5, t6, t7, t8⟩ := cells_core (row_keep bf HRW.out)) | (go_at_call 150; refine (KA1.out _ bg).mono ?_; rintro e wa ⟨rfl, ba⟩))
      go_ret
      exact ⟨ret_bool (by rw [HV.out, hgo, hF]; simp [idx_neg]), below_step bg ba⟩
    have hs1 : (u.2.1 == 0) = true := by simp [hs0]
    by_cases hl0 : u.2.2.length = 0
    case neg =>
     have hl1 : ((u.2.2.length : Int) == 0) = false := beq_false_of_ne (by omega);have hgo : goneB u = false := by unfold goneB; simp [hl0]
     clear hs0 hl0;cases hF : fullB isL u
     ·go_wp2_with (first | (go_at_call 98; refine (l1In_any _ _ _ _).mono ?_; rintro e wz ⟨rfl, hz9⟩; rw [hz9]; clear hz9 wz; first | rw [hat] | rw [hph] | rw [hb1]) | (go_at_call 149; refine (KF.out _ HBB.out).mono ?_; rintro e wf ⟨rfl, bf⟩; rw [hF]; have bg := below_step HBB.out bf; obtain ⟨t0, t1, t2, t3, t4, t5, t6, t7, t8⟩ := cells_core (row_keep bf HRW.out)))
      go_ret
      exact ⟨ret_bool (by rw [HV.out, hgo, hF]; rfl), bg⟩
     ·go_wp2_with (first | (go_at_call 98; refine (l1In_any _ _ _ _).mono ?_; rintro e wz ⟨rfl, hz9⟩; rw [hz9]; clear hz9 wz; first | rw [hat] | rw [hph] | rw [hb1]) | (go_at_call 149; refine (KF.out _ HBB.out).mono ?_; rintro e wf ⟨rfl, bf⟩; rw [hF]; have bg := below_step HBB.out bf; obtain ⟨t0, t1, t2, t3, t4, t5, t6, t7, t8⟩ := cells_core (row_keep bf HRW.out)) | (go_at_call 150; refine (KA1.out _ bg).mono ?_; rintro e wa ⟨rfl, ba⟩))
      go_ret
      exact ⟨ret_bool (by rw [HV.out, hgo, hF]; simp [idx_neg]), below_step bg ba⟩
    have hl1 : ((u.2.2.length : Int) == 0) = true := by simp [hl0]
    have hgo : goneB u = true := by unfold goneB; rw [hb1]; simp [hs0, hl0]
    clear hs0 hl0;go_wp2_with (first | (go_at_call 98; refine (l1In_any _ _ _ _).mono ?_; rintro e wz ⟨rfl, hz9⟩; rw [hz9]; clear hz9 wz; first | rw [hat] | rw [hph] | rw [hb1]) | (go_at_call 150; refine (KA1.out _ HBB.out).mono ?_; rintro e wa ⟨rfl, ba⟩))
    go_ret
    exact ⟨ret_bool (by rw [HV.out, hgo]; simp [idx_neg]), below_step HBB.out ba⟩
 ·by_cases hwt : at_ = (p.length : Int)
  ·have hwt' : (at_ == (p.length : Int)) = true := by simp [hwt]
   have hph : betw (2 : Int) 0 2 = true := by decide
   have HV : Hid (coreB (c, p, at_, 2, u, t) = false) := by unfold Hid coreB; simp [hwt]
   clear HTL HOK HHP hwt;go_wp2_with (go_at_call 98; refine (l1In_any _ _ _ _).mono ?_; rintro e wz ⟨rfl, hz9⟩; rw [hz9]; clear hz9 wz; first | rw [hat] | rw [hph] | rw [hb1])
   go_ret
   exact ⟨ret_bool HV.out.symm, HB.out⟩
  ·have hwt' : (at_ == (p.length : Int)) = false := by simp [hwt]
   have HR : Hid (coreB (c, p, at_, 2, u, t) = (p.all opOkD && restC (c, p, at_, 2, u, t))) := by unfold Hid coreB; simp [HOK.out, hn, hat, HTL.out, HHP.out, hwt]
   generalize hA : p.all opOkD = A at HR;have HA : Hid _ := hA;clear hA;have hph : betw (2 : Int) 0 2 = true := by decide
   go_wp2_with (go_at_call 98; refine (l1In_any _ _ _ _).mono ?_; rintro e wz ⟨rfl, hz9⟩; rw [hz9]; clear hz9 wz; first | rw [hat] | rw [hph] | rw [hb1])
   clear hph;clear y0 y1 y2 y3 y4 y5 y6 y7 y8;go_loopw [4] (fun i wr => ∃ k : Nat, k ≤ p.length ∧ i = .int .i64 k ∧ (p.take k).all opOkD = true ∧ Below w1.heap.size w1 wr) (fun i _ => p.length - (intOf i).toNat)
   case atStart => exact ⟨0, Nat.zero_le _, rfl, rfl, Below.refl _ _⟩
   case round =>
    obtain ⟨k, hk, rfl, hall, BB⟩ := hrel;obtain ⟨y0, y1, y2, y3, y4, y5, y6, y7, y8⟩ := cells_core (row_keep BB HX.out);by_cases hlt : k < p.length
    ·have hlt' : (k : Int) < (p.length : Int) := by omega
     obtain ⟨z, hz⟩ : ∃ z, p[k]? = some z := ⟨_, List.getElem?_eq_getElem hlt⟩;obtain ⟨b, off, rfl, x0, x1, x2, x3, -⟩ := op_at (KP.out _ (below_step HB.out BB)) hz;cases hb : opOkD z
     ·have HN : Hid (A = false) := by rw [← HA.out]; exact all_not hz hb
      have HBB : Hid _ := BB;clear hz hall BB;go_wp2_with (go_at_call 147; refine (specOpOk_any _ _ _ _ _).mono ?_; rintro e w' ⟨rfl, bb⟩; rw [show opB z.1 z.2.1 z.2.2.1 z.2.2.2 = _ from hb])
      go_ret
      exact ⟨ret_bool (by rw [HR.out, HN.out]; rfl), below_step (below_step HB.out HBB.out) bb⟩
     ·have HT : Hid ((p.take (k + 1)).all opOkD = true) := all_step hall hz hb;have HBB : Hid _ := BB;clear hz hall BB;go_wp2_with (go_at_call 147; refine (specOpOk_any _ _ _ _ _).mono ?_; rintro e w' ⟨rfl, bb⟩; rw [show opB z.1 z.2.1 z.2.2.1 z.2.2.2 = _ from hb])
      go_roundw
      case rel => exact ⟨k + 1, by omega, by go_num, HT.out, below_step HBB.out bb⟩
      case measure => simp [intOf]; omega
    ·have hkl : k = p.length := by omega
     subst hkl;rw [List.take_length] at hall;have hA1 : A = true := by rw [← HA.out]; exact hall
     subst hA1;have HBB : Hid (Below w.heap.size w wr) := below_step HB.out BB;have HRW : Hid _ := row_keep BB HX.out;clear hall BB hlt hk HA;have HV : Hid (coreB (c, p, at_, 2, u, t) = clearB u) := by unfold Hid; rw [HR.out, Bool.true_and]; unfold restC; exact if_neg (show ¬ ((2 : Int) = 1) by decide)
     go_wp2_with (go_at_call 148; refine (KL.out _).mono ?_; rintro e w' ⟨rfl, bb⟩)
     go_ret
     exact ⟨ret_bool HV.out.symm, below_step HBB.out bb⟩
end Go.Proofs.YtcocbafhcpdheaaGreatDoor
