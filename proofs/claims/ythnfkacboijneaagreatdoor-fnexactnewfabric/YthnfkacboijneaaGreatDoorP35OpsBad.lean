import Derived.Test.YthnfkacboijneaaGreatDoorP32BadP
import Derived.Test.YthnfkacboijneaaGreatDoorP10Ops
import Derived.Test.YthnfkacboijneaaGreatDoorP12Prog11
import Derived.Test.YthnfkacboijneaaGreatDoorP22OkLink
import Derived.Test.YthnfkacboijneaaGreatDoorP21Change
import Derived.Test.YthnfkacboijneaaGreatDoorP04Mems
namespace Go.Proofs.YthnfkacboijneaaGreatDoor
set_option maxHeartbeats 2000000
open Go.ChangeShapes Go.WideShapes Go.ChangeAt Go.RowKit
set_option linter.unusedVariables false
theorem opsOk1_any (x : OpD) (w : World) :
    Calls Tryz.prog 200 #[.agg #[.int .i64 x.1, .int .i64 x.2.1, .int .i64 x.2.2.1, .int .i64 x.2.2.2]] w fun e w' => e = .returned (.bool (!opOkD x)) ∧ Below w.heap.size w w' := by
 have B := box_below w (.cells #[.int .i64 x.1, .int .i64 x.2.1, .int .i64 x.2.2.1, .int .i64 x.2.2.2] 98)
 have HM : Hid (∀ W, Calls Tryz.prog 201 #[.agg #[.int .i64 x.1, .int .i64 x.2.1, .int .i64 x.2.2.1, .int .i64 x.2.2.2]] W fun e w' => e = .returned (.bool (opOkD x)) ∧ Below W.heap.size W w') := fun W => implOpOk_any x.1 x.2.1 x.2.2.1 x.2.2.2 W
 generalize opOkD x = q at HM ⊢
 go_enter Tryz.func200, Tryz.ntmps200
 go_wp2_with fail
 generalize w.alloc (.cells #[.int .i64 x.1, .int .i64 x.2.1, .int .i64 x.2.2.1, .int .i64 x.2.2.2] 98) = W0 at B ⊢
 refine (HM.out _).mono ?_
 rintro e w1 ⟨rfl, b1⟩
 go_wp2
 go_ret
 exact ⟨rfl, below_step B b1⟩
theorem indexBadO_any (a : Option Addr) (xs : List OpD) (cap : Nat) (w : World) (h : SlRd opR w a xs) (hm : xs.length ≤ maxLen) :
    Calls Tryz.prog 242 #[.slice a xs.length cap, .func (.func 200) #[] #[]] w fun e w' => e = .returned (.int .i64 (badP opOkD xs)) ∧ Below w.heap.size w w' := by
 have hm' : xs.length ≤ 9223372036854775807 := hm
 have H0 : Hid (∀ W, Below w.heap.size w W → SlRd opR W a xs) := fun W hb => slrd_keep h fun k hk => hb.block k hk
 clear h hm
 go_enter Tryz.func242, Tryz.ntmps242
 go_wp2
 go_loopw [8] (fun i wr => ∃ k : Nat, k ≤ xs.length ∧ i = .int .i64 k ∧ (∀ j v, j < k → xs[j]? = some v → opOkD v = true) ∧ Below w.heap.size w wr) (fun i _ => xs.length - (intOf i).toNat)
 case atStart => exact ⟨0, Nat.zero_le _, rfl, fun j v hj => by omega, Below.refl _ _⟩
 case round =>
  obtain ⟨k, hk, rfl, hno, BB⟩ := hrel
  by_cases hlt : k < xs.length
  ·have hlt' : (k : Int) < (xs.length : Int) := by omega
   obtain ⟨x, hx⟩ : ∃ x, xs[k]? = some x := ⟨_, List.getElem?_eq_getElem hlt⟩
   obtain ⟨b, off, rfl, x0, x1, x2, x3, -⟩ := op_at (H0.out _ BB) hx
   have HC := opsOk1_any x wr
   have HX : Hid (xs[k]? = some x) := hx
   clear hx
   cases hb : opOkD x
   ·have HR : Hid (badP opOkD xs = k) := badP_at HX.out hb hno
    rw [hb] at HC
    go_wp2_with fail
    refine HC.mono ?_
    rintro e w2 ⟨rfl, b2⟩
    replace BB := below_step BB b2
    clear b2 x0 x1 x2 x3
    go_wp2
    go_ret
    exact ⟨ret_int HR.out.symm, BB⟩
   ·rw [hb] at HC
    go_wp2_with fail
    refine HC.mono ?_
    rintro e w2 ⟨rfl, b2⟩
    replace BB := below_step BB b2
    clear b2 x0 x1 x2 x3
    go_wp2
    go_roundw
    case rel =>
     refine ⟨k + 1, by omega, by go_num, fun j v hj hv => ?_, BB⟩
     by_cases he : j < k
     ·exact hno j v he hv
     ·have : j = k := by omega
      subst this
      rw [HX.out] at hv
      cases hv
      exact hb
    case measure => simp [intOf]; omega
  ·have HR : Hid (badP opOkD xs = -1) := badP_no fun j v hv => hno j v (by have := (List.getElem?_eq_some_iff.1 hv).1; omega) hv
   go_wp2
   go_ret
   exact ⟨ret_int HR.out.symm, BB⟩
theorem containsBadO_any (a : Option Addr) (xs : List OpD) (cap : Nat) (w : World) (h : SlRd opR w a xs) (hm : xs.length ≤ maxLen) :
    Calls Tryz.prog 199 #[.slice a xs.length cap, .func (.func 200) #[] #[]] w fun e w' => e = .returned (.bool (!xs.all opOkD)) ∧ Below w.heap.size w w' := by
 have HI := indexBadO_any a xs cap w h hm
 have hab := badP_all opOkD xs
 clear h hm
 generalize badP opOkD xs = q at HI hab
 generalize xs.all opOkD = y at hab ⊢
 subst hab
 by_cases hq : q < 0
 ·have hq2 : ¬ (0 ≤ q) := by omega
  go_enter Tryz.func199, Tryz.ntmps199
  go_wp2_with fail
  refine HI.mono ?_
  rintro e w1 ⟨rfl, b1⟩
  go_wp2
  go_ret
  exact ⟨by simp [hq], b1⟩
 ·have hq2 : 0 ≤ q := by omega
  go_enter Tryz.func199, Tryz.ntmps199
  go_wp2_with fail
  refine HI.mono ?_
  rintro e w1 ⟨rfl, b1⟩
  go_wp2
  go_ret
  exact ⟨by simp [hq], b1⟩
def progB (xs : List OpD) : Bool := decide (xs.length ≤ 30) && xs.all opOkD
theorem implOpsOk_any (a : Option Addr) (xs : List OpD) (cap : Nat) (w : World) (h : SlRd opR w a xs) (hm : xs.length ≤ maxLen) :
    Calls Tryz.prog 133 #[.slice a xs.length cap] w fun e w' => e = .returned (.bool (progB xs)) ∧ Below w.heap.size w w' := by
 have HC := containsBadO_any a xs cap w h hm
 have hm' : xs.length ≤ 9223372036854775807 := hm
 unfold progB
 generalize xs.all opOkD = y at HC ⊢
 clear h hm
 by_cases hl : xs.length ≤ 30
 ·have hl' : (xs.length : Int) ≤ 30 := by omega
  go_enter Tryz.func133, Tryz.ntmps133
  go_wp2_with fail
  refine HC.mono ?_
  rintro e w1 ⟨rfl, b1⟩
  go_wp2
  go_ret
  exact ⟨by simp [hl], b1⟩
 ·have hl' : ¬ ((xs.length : Int) ≤ 30) := by omega
  go_enter Tryz.func133, Tryz.ntmps133
  go_wp2
  go_ret
  exact ⟨by simp, Below.refl _ _⟩
open Go.ChangeShapes Go.WideShapes Go.ChangeAt Go.RowKit Go.Shelf
def findP (c : CacheD) (line : Int) : Int × Int × Bool := if betw line 0 15 then (line % (c.1.length : Int), firstI (rowFor c line) line, firstI (rowFor c line) line != -1) else (0, 0, false)
theorem ok_row {c : CacheD} (h : OkC isL treeB c) (line : Int) : pow3 c.1.length ∧ c.1[setNo c line]? = some (rowFor c line) ∧ rowFor c line ≠ [] ∧ (rowFor c line).length ≤ 4 ∧ ((setNo c line : Nat) : Int) = line % (c.1.length : Int) ∧ setNo c line < c.1.length := by
 obtain ⟨h1, h2, m, hm, h3⟩ := h
 have hg := rowFor_get (line := line) h1
 have hl := (h3 _ _ hg).1
 refine ⟨h1, hg, fun e => ?_, ?_, setNo_cast h1, setNo_lt h1⟩
 ·rw [e] at hl
  simp at hl
  have := pow3_pos hm
  omega
 ·rcases hm with rfl | rfl | rfl <;> omega
theorem putTwo {w : World} {g : Nat} {x y a b : Value} {t : TypeId} (h : w.heap[g]? = some (.cells #[x, y] t (0, 0))) :
    ((w.setCell ⟨g, 0, none⟩ a).setCell ⟨g, 1, none⟩ b).heap[g]? = some (.cells #[a, b] t (0, 0)) :=
 heap_setCell_same _ g 1 _ t b (heap_setCell_same w g 0 _ t a h)
theorem implFind_any (a b : Option Addr) (c : CacheD) (cap cp : Nat) (line : Int) (w : World) (hok : OkC isL treeB c) (h1 : SlRd waysR w a c.1) :
    Calls Tryz.prog 257 #[.agg #[.slice a c.1.length cap, .slice b c.2.length cp], .int .i64 line] w fun e w' => e = .returned (.tuple #[.agg #[.int .i64 (findP c line).1, .int .i64 (findP c line).2.1], .bool (findP c line).2.2]) ∧ Below w.heap.size w w' := by
 obtain ⟨hp, hget, hne, hr4, hset, hsl⟩ := ok_row hok line
 obtain ⟨b0, o0, aj, cj, rfl, hcell, -, -, hrd⟩ := set_at h1 hget
 cases hb : betw line 0 15
 ·have HF : Hid (findP c line = (0, 0, false)) := by unfold Hid findP; simp [hb]
  clear hcell hrd h1 hget
  go_enter Tryz.func257, Tryz.ntmps257
  go_wp2_with (go_at_call 233; refine (lineNumberOk_any _ _).mono ?_; rintro e w' ⟨rfl, rfl⟩; rw [hb])
  have Y := heap_at (w.alloc (.cells #[.slice (some ⟨b0, o0, none⟩) c.1.length cap, .slice b c.2.length cp] 81)) (.cells #[.int .i64 0, .int .i64 0] 249)
  rw [alloc_len] at Y
  obtain ⟨r0, r1⟩ := cells_two Y
  refine bodyPost_ret (v := .tuple #[.agg #[.int .i64 0, .int .i64 0], .bool false]) (by simp [results, Tryz.results257, go_sem]) rfl ⟨by rw [HF.out], below_step (box_below w _) (box_below _ _)⟩
 ·have hl0 : 0 ≤ line := by simp [betw] at hb; omega
  have HF : Hid (findP c line = (((setNo c line : Nat) : Int), firstI (rowFor c line) line, firstI (rowFor c line) line != -1)) := by unfold Hid findP; rw [if_pos hb, hset]
  have HS : Hid (∀ W, Calls Tryz.prog 282 #[.agg #[.slice (some ⟨b0, o0, none⟩) c.1.length cap, .slice b c.2.length cp], .int .i64 line] W fun e w' => e = .returned (.int .i64 ((setNo c line : Nat) : Int)) ∧ Below W.heap.size W w') := fun W => by
   have := setOf_any (some ⟨b0, o0, none⟩) c.1.length cap (.slice b c.2.length cp) _ _ _ rfl line W hp hl0
   rwa [← hset] at this
  have HFW : Hid (∀ W, Below w.heap.size w W → Calls Tryz.prog 283 #[.slice aj (rowFor c line).length cj, .int .i64 line] W fun e w' => e = .returned (.int .i64 (firstI (rowFor c line) line)) ∧ Below W.heap.size W w') := fun W hbw =>
   firstWith_any aj _ cj line W (slrd_keep hrd fun k hk => hbw.block k hk) hne (by omega)
  have hsl' : ((setNo c line : Nat) : Int) < (c.1.length : Int) := by omega
  have HC : Hid (∀ W, Below w.heap.size w W → W.cell? ⟨b0, o0 + setNo c line, none⟩ = some (.slice aj (rowFor c line).length cj)) := fun W hbw => cell_keep hbw hcell (cell_lt hcell)
  clear hcell hrd h1 hget hne hr4 hset hok
  generalize setNo c line = sn at HF HS hsl hsl' HC
  generalize (rowFor c line).length = rn at HFW HC
  generalize firstI (rowFor c line) line = fi at HF HFW
  have X := heap_on (.cells #[.int .i64 0, .int .i64 0] 249) (heap_at w (.cells #[.slice (some ⟨b0, o0, none⟩) c.1.length cap, .slice b c.2.length cp] 81))
  have Y := heap_at (w.alloc (.cells #[.slice (some ⟨b0, o0, none⟩) c.1.length cap, .slice b c.2.length cp] 81)) (.cells #[.int .i64 0, .int .i64 0] 249)
  rw [alloc_len] at Y
  have B := below_step (box_below w (.cells #[.slice (some ⟨b0, o0, none⟩) c.1.length cap, .slice b c.2.length cp] 81)) (box_below _ (.cells #[.int .i64 0, .int .i64 0] 249))
  go_enter Tryz.func257, Tryz.ntmps257
  go_wp2_with (go_at_call 233; refine (lineNumberOk_any _ _).mono ?_; rintro e w' ⟨rfl, rfl⟩; rw [hb])
  generalize (w.alloc (.cells #[.slice (some ⟨b0, o0, none⟩) c.1.length cap, .slice b c.2.length cp] 81)).alloc (.cells #[.int .i64 0, .int .i64 0] 249) = W0 at X Y B ⊢
  refine (HS.out _).mono ?_
  rintro e w1 ⟨rfl, b1⟩
  replace B := below_step B b1
  replace X := row_keep b1 X
  replace Y := row_keep b1 Y
  obtain ⟨x0, x1⟩ := cells_two X
  have g0 := HC.out _ B
  clear b1
  go_wp2_with fail
  refine (HFW.out _ B).mono ?_
  rintro e w2 ⟨rfl, b1⟩
  replace B := below_step B b1
  replace Y := row_keep b1 Y
  obtain ⟨y0, y1⟩ := cells_two Y
  obtain ⟨f0, f1⟩ : w2.frozen? ⟨w.heap.size + 1, 0, none⟩ = false ∧ w2.frozen? ⟨w.heap.size + 1, 1, none⟩ = false := ⟨frozen_of_row w2 _ 0 _ _ Y, frozen_of_row w2 _ 1 _ _ Y⟩
  have HY : Hid _ := Y
  clear b1 g0 x0 x1 X Y HS HFW HC
  go_wp2
  have Z := putTwo (a := .int .i64 (sn : Int)) (b := .int .i64 fi) HY.out
  obtain ⟨r0, r1⟩ := cells_two Z
  refine bodyPost_ret (v := .tuple #[.agg #[.int .i64 (sn : Int), .int .i64 fi], .bool (fi != -1)]) (by simp [results, Tryz.results257, go_sem, r0, r1]) rfl ⟨by rw [HF.out], (B.setCell (p := ⟨w.heap.size + 1, 0, none⟩) (by simp) _).setCell (p := ⟨w.heap.size + 1, 1, none⟩) (by simp) _⟩
def idxI (o : Option Nat) : Int := match o with
 | some i => (i : Int)
 | none => -1
theorem go_in {t n : Int} (h : treeB t n = true) : 0 ≤ goI t n ∧ goI t n < n ∧ viI t n = goI t n := by
 refine ⟨?_, ?_, by unfold viI; rw [if_pos h]⟩
 all_goals
  simp only [treeB, decide_eq_true_eq] at h
  unfold goI
  rcases h with ⟨rfl, rfl⟩ | ⟨rfl, h1, h2⟩ | ⟨rfl, h1, h2⟩
  ·simp
  ·simp
   omega
  ·have ht : t = 0 ∨ t = 1 ∨ t = 2 ∨ t = 3 ∨ t = 4 ∨ t = 5 ∨ t = 6 ∨ t = 7 := by omega
   rcases ht with rfl | rfl | rfl | rfl | rfl | rfl | rfl | rfl <;> decide
theorem idx_first {p : WayD → Bool} {row : List WayD} {k : Nat} {u : WayD} (hu : row[k]? = some u) (hp : p u = true) (hno : ∀ j v, j < k → row[j]? = some v → p v = false) : row.findIdx? p = some k := by
 have hk := (List.getElem?_eq_some_iff.1 hu).1
 rw [List.findIdx?_eq_some_iff_getElem]
 refine ⟨hk, ?_, fun j hj => ?_⟩
 ·rw [List.getElem?_eq_getElem hk] at hu
  cases hu
  exact hp
 ·simpa using hno j _ hj (List.getElem?_eq_getElem (by omega))
theorem idx_never {p : WayD → Bool} {row : List WayD} (hno : ∀ (j : Nat) (v : WayD), row[j]? = some v → p v = false) : row.findIdx? p = none := by
 rw [List.findIdx?_eq_none_iff]
 intro u hu
 obtain ⟨j, hj⟩ := List.mem_iff_getElem?.1 hu
 simpa using hno j u hj
theorem specAt_any (a b : Option Addr) (c : CacheD) (cap cp : Nat) (line : Int) (w : World) (hok : OkC isL treeB c) (h1 : SlRd waysR w a c.1) :
    Calls Tryz.prog 95 #[.agg #[.slice a c.1.length cap, .slice b c.2.length cp], .int .i64 line] w fun e w' => e = .returned (.int .i64 (idxI (atC c line))) ∧ Below w.heap.size w w' := by
 have X := heap_at w (.cells #[.slice a c.1.length cap, .slice b c.2.length cp] 81)
 have B := box_below w (.cells #[.slice a c.1.length cap, .slice b c.2.length cp] 81)
 by_cases hneg : line < 0
 ·have HR : Hid (idxI (atC c line) = -1) := by unfold Hid atC; rw [if_pos hneg]; rfl
  go_enter Tryz.func95, Tryz.ntmps95
  go_wp2
  go_ret
  exact ⟨ret_int HR.out.symm, B⟩
 ·have hl0 : 0 ≤ line := by omega
  have HA : Hid (atC c line = (rowFor c line).findIdx? fun u => u.1 == line) := by unfold Hid atC; rw [if_neg hneg]
  obtain ⟨hp, hget, hne, hr4, hset, hsl⟩ := ok_row hok line
  obtain ⟨b0, o0, aj, cj, rfl, hcell, -, -, hrd⟩ := set_at h1 hget
  have hz : (c.1.length : Int) ≠ 0 := by omega
  have hsl' : ((setNo c line : Nat) : Int) < (c.1.length : Int) := by omega
  have hset' : line % (c.1.length : Int) = ((setNo c line : Nat) : Int) := hset.symm
  have g0 := cell_keep B hcell (cell_lt hcell)
  have HRD : Hid (SlRd wayR w aj (rowFor c line)) := hrd
  clear hcell hrd h1 hget hset hok hne
  obtain ⟨x0, x1⟩ := cells_two X
  generalize setNo c line = sn at hsl hsl' hset' g0
  generalize rowFor c line = row at hr4 g0 HRD HA
  go_enter Tryz.func95, Tryz.ntmps95
  go_wp2_with fail
  generalize w.alloc (.cells #[.slice (some ⟨b0, o0, none⟩) c.1.length cap, .slice b c.2.length cp] 81) = W0 at X B x0 x1 g0 ⊢
  go_quiet (fail)
  have B2 := bl_drewN B nq
  clear x0 x1 g0 X B
  go_wp2
  go_loop [6] (fun i => ∃ k : Nat, k ≤ row.length ∧ i = .int .i64 k ∧ ∀ j v, j < k → row[j]? = some v → (v.1 == line) = false) (fun i => row.length - (intOf i).toNat)
  case atStart => exact ⟨0, Nat.zero_le _, rfl, fun j v hj => by omega⟩
  case round =>
   obtain ⟨k, hk, rfl, hno⟩ := hrel
   by_cases hlt : k < row.length
   ·have hlt' : (k : Int) < (row.length : Int) := by omega
    obtain ⟨u, hu⟩ : ∃ u, row[k]? = some u := ⟨_, List.getElem?_eq_getElem hlt⟩
    obtain ⟨bk, ok, cs, rfl, hrd, hcell⟩ := slrd_at (slrd_keep HRD.out fun k hk => B2.block k hk) hu
    obtain ⟨ad, cpw, rfl, -, -, -, -, -⟩ := way_rd hrd
    have y0 := hcell 0 _ rfl
    rw [show ok + (k * wayR.size + 0) = ok + k * 3 from rfl] at y0
    have HU : Hid (row[k]? = some u) := hu
    obtain ⟨l, st, d⟩ := u
    simp only at y0
    clear hcell hrd hu
    by_cases hl : l = line
    ·have HRES : Hid (idxI (atC c line) = k) := by unfold Hid; rw [HA.out, idx_first HU.out (by simp [hl]) hno]; rfl
     subst hl
     go_wp2
     go_ret
     exact ⟨ret_int HRES.out.symm, B2⟩
    ·have hl' : (l == line) = false := by simpa using hl
     go_wp2
     go_round
     case rel =>
      refine ⟨k + 1, by omega, by go_num, fun j v hj hv => ?_⟩
      by_cases he : j < k
      ·exact hno j v he hv
      ·have : j = k := by omega
       subst this
       rw [HU.out] at hv
       cases hv
       exact hl'
     case measure => simp [intOf]; omega
   ·have HRES : Hid (idxI (atC c line) = -1) := by
      unfold Hid
      rw [HA.out, idx_never fun j v hv => hno j v (by have := (List.getElem?_eq_some_iff.1 hv).1; omega) hv]
      rfl
    have hlt' : ¬ (k : Int) < (row.length : Int) := by omega
    go_wp2
    go_ret
    exact ⟨ret_int HRES.out.symm, B2⟩
end Go.Proofs.YthnfkacboijneaaGreatDoor
