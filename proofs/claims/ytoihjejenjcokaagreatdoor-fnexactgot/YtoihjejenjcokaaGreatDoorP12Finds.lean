import Derived.Test.YtoihjejenjcokaaGreatDoorP00Box
import Derived.Test.YtoihjejenjcokaaGreatDoorP11OkLink
import Derived.Test.YtoihjejenjcokaaGreatDoorP09Lines6
import Derived.Test.YtoihjejenjcokaaGreatDoorP03OpensBase
namespace Go.Proofs.YtoihjejenjcokaaGreatDoor
set_option maxHeartbeats 1000000
open Go.ChangeShapes Go.WideShapes Go.ChangeAt Go.RowKit Go.Shelf
set_option linter.unusedVariables false
def zCr (c : zAu) (line : Int) : Int × Int × Bool := if zAQ line 0 15 then (line % (c.1.length : Int), zCn (zAm c line) line, zCn (zAm c line) line != -1) else (0, 0, false)
def zIg (c : zAu) (line : Int) : Int × Int × Bool := if (zCr c line).2.2 then zCr c line else (line % (c.1.length : Int), zCn (zAm c line) (-1), zCn (zAm c line) (-1) != -1)
theorem zDy {c : zAu} (h : OkC isL zAJ c) (line : Int) : zIU c.1.length ∧ c.1[zAF c line]? = some (zAm c line) ∧ zAm c line ≠ [] ∧ (zAm c line).length ≤ 4 ∧ ((zAF c line : Nat) : Int) = line % (c.1.length : Int) ∧ zAF c line < c.1.length := by
 obtain ⟨h1, h2, m, hm, h3⟩ := h
 have hg := zDb (line := line) h1
 have hl := (h3 _ _ hg).1
 refine ⟨h1, hg, fun e => ?_, ?_, zDa h1, zFk h1⟩
 ·rw [e] at hl
  simp at hl
  have := zDv hm
  omega
 ·rcases hm with rfl | rfl | rfl <;> omega
theorem zMO {w : World} {g : Nat} {x y a b : Value} {t : TypeId} (h : w.heap[g]? = some (.cells #[x, y] t (0, 0))) :
    ((w.setCell ⟨g, 0, none⟩ a).setCell ⟨g, 1, none⟩ b).heap[g]? = some (.cells #[a, b] t (0, 0)) :=
 heap_setCell_same _ g 1 _ t b (heap_setCell_same w g 0 _ t a h)
theorem zEo (a b : Option Addr) (c : zAu) (cap cp : Nat) (line : Int) (w : World) (hok : OkC isL zAJ c) (h1 : zBh zBl w a c.1) :
    Calls Tryz.prog 95 #[.agg #[.slice a c.1.length cap, .slice b c.2.length cp], .int .i64 line] w fun e w' => e = .returned (.tuple #[.agg #[.int .i64 (zCr c line).1, .int .i64 (zCr c line).2.1], .bool (zCr c line).2.2]) ∧ Below w.heap.size w w' := by
 obtain ⟨hp, hget, hne, hr4, hset, hsl⟩ := zDy hok line
 obtain ⟨b0, o0, aj, cj, rfl, hcell, -, -, hrd⟩ := zDj h1 hget
 cases hb : zAQ line 0 15
 ·have HF : Hid (zCr c line = (0, 0, false)) := by unfold Hid zCr; simp [hb]
  clear hcell hrd h1 hget
  go_enter Tryz.func95, Tryz.ntmps95
  go_wp2_with (go_at_call 33; refine (zBI _ _).mono ?_; rintro e w' ⟨rfl, rfl⟩; rw [hb])
  have Y := zAy (w.alloc (.cells #[.slice (some ⟨b0, o0, none⟩) c.1.length cap, .slice b c.2.length cp] 37)) (.cells #[.int .i64 0, .int .i64 0] 126)
  rw [zAp] at Y
  obtain ⟨r0, r1⟩ := zAx Y
  refine bodyPost_ret (v := .tuple #[.agg #[.int .i64 0, .int .i64 0], .bool false]) (by simp [results, Tryz.results95, go_sem]) rfl ⟨by rw [HF.out], zAb (zAf w _) (zAf _ _)⟩
 ·have hl0 : 0 ≤ line := by simp [zAQ] at hb; omega
  have HF : Hid (zCr c line = (((zAF c line : Nat) : Int), zCn (zAm c line) line, zCn (zAm c line) line != -1)) := by unfold Hid zCr; rw [if_pos hb, hset]
  have HS : Hid (∀ W, Calls Tryz.prog 114 #[.agg #[.slice (some ⟨b0, o0, none⟩) c.1.length cap, .slice b c.2.length cp], .int .i64 line] W fun e w' => e = .returned (.int .i64 ((zAF c line : Nat) : Int)) ∧ Below W.heap.size W w') := fun W => by
   have := zG8 (some ⟨b0, o0, none⟩) c.1.length cap (.slice b c.2.length cp) _ _ _ rfl line W hp hl0
   rwa [← hset] at this
  have HFW : Hid (∀ W, Below w.heap.size w W → Calls Tryz.prog 118 #[.slice aj (zAm c line).length cj, .int .i64 line] W fun e w' => e = .returned (.int .i64 (zCn (zAm c line) line)) ∧ Below W.heap.size W w') := fun W hbw =>
   zFl aj _ cj line W (zA7 hrd fun k hk => hbw.block k hk) hne (by omega)
  have hsl' : ((zAF c line : Nat) : Int) < (c.1.length : Int) := by omega
  have HC : Hid (∀ W, Below w.heap.size w W → W.cell? ⟨b0, o0 + zAF c line, none⟩ = some (.slice aj (zAm c line).length cj)) := fun W hbw => zAd hbw hcell (zAi hcell)
  clear hcell hrd h1 hget hne hr4 hset hok
  generalize zAF c line = sn at HF HS hsl hsl' HC
  generalize (zAm c line).length = rn at HFW HC
  generalize zCn (zAm c line) line = fi at HF HFW
  have X := zAK (.cells #[.int .i64 0, .int .i64 0] 126) (zAy w (.cells #[.slice (some ⟨b0, o0, none⟩) c.1.length cap, .slice b c.2.length cp] 37))
  have Y := zAy (w.alloc (.cells #[.slice (some ⟨b0, o0, none⟩) c.1.length cap, .slice b c.2.length cp] 37)) (.cells #[.int .i64 0, .int .i64 0] 126)
  rw [zAp] at Y
  have B := zAb (zAf w (.cells #[.slice (some ⟨b0, o0, none⟩) c.1.length cap, .slice b c.2.length cp] 37)) (zAf _ (.cells #[.int .i64 0, .int .i64 0] 126))
  go_enter Tryz.func95, Tryz.ntmps95
  go_wp2_with (go_at_call 33; refine (zBI _ _).mono ?_; rintro e w' ⟨rfl, rfl⟩; rw [hb])
  generalize (w.alloc (.cells #[.slice (some ⟨b0, o0, none⟩) c.1.length cap, .slice b c.2.length cp] 37)).alloc (.cells #[.int .i64 0, .int .i64 0] 126) = W0 at X Y B ⊢
  refine (HS.out _).mono ?_
  rintro e w1 ⟨rfl, b1⟩
  replace B := zAb B b1
  replace X := zAa b1 X
  replace Y := zAa b1 Y
  obtain ⟨x0, x1⟩ := zAx X
  have g0 := HC.out _ B
  clear b1
  go_wp2_with fail
  refine (HFW.out _ B).mono ?_
  rintro e w2 ⟨rfl, b1⟩
  replace B := zAb B b1
  replace Y := zAa b1 Y
  obtain ⟨y0, y1⟩ := zAx Y
  obtain ⟨f0, f1⟩ : w2.frozen? ⟨w.heap.size + 1, 0, none⟩ = false ∧ w2.frozen? ⟨w.heap.size + 1, 1, none⟩ = false := ⟨frozen_of_row w2 _ 0 _ _ Y, frozen_of_row w2 _ 1 _ _ Y⟩
  have HY : Hid _ := Y
  clear b1 g0 x0 x1 X Y HS HFW HC
  go_wp2
  have Z := zMO (a := .int .i64 (sn : Int)) (b := .int .i64 fi) HY.out
  obtain ⟨r0, r1⟩ := zAx Z
  refine bodyPost_ret (v := .tuple #[.agg #[.int .i64 (sn : Int), .int .i64 fi], .bool (fi != -1)]) (by simp [results, Tryz.results95, go_sem, r0, r1]) rfl ⟨by rw [HF.out], (B.setCell (p := ⟨w.heap.size + 1, 0, none⟩) (by simp) _).setCell (p := ⟨w.heap.size + 1, 1, none⟩) (by simp) _⟩
theorem zIZ (a b : Option Addr) (c : zAu) (cap cp : Nat) (line : Int) (w : World) (hok : OkC isL zAJ c) (h1 : zBh zBl w a c.1) (hl0 : 0 ≤ line) :
    Calls Tryz.prog 132 #[.agg #[.slice a c.1.length cap, .slice b c.2.length cp], .int .i64 line] w fun e w' => e = .returned (.tuple #[.agg #[.int .i64 (zIg c line).1, .int .i64 (zIg c line).2.1], .bool (zIg c line).2.2]) ∧ Below w.heap.size w w' := by
 obtain ⟨hp, hget, hne, hr4, hset, hsl⟩ := zDy hok line
 have HFD : Hid (∀ W, Below w.heap.size w W → Calls Tryz.prog 95 #[.agg #[.slice a c.1.length cap, .slice b c.2.length cp], .int .i64 line] W fun e w' => e = .returned (.tuple #[.agg #[.int .i64 (zCr c line).1, .int .i64 (zCr c line).2.1], .bool (zCr c line).2.2]) ∧ Below W.heap.size W w') :=
  fun W hbw => zEo a b c cap cp line W hok (zA7 h1 fun k hk => hbw.block k hk)
 obtain ⟨b0, o0, aj, cj, rfl, hcell, -, -, hrd⟩ := zDj h1 hget
 have hsl' : ((zAF c line : Nat) : Int) < (c.1.length : Int) := by omega
 have HC : Hid (∀ W, Below w.heap.size w W → W.cell? ⟨b0, o0 + zAF c line, none⟩ = some (.slice aj (zAm c line).length cj)) := fun W hbw => zAd hbw hcell (zAi hcell)
 have HS : Hid (∀ W, Calls Tryz.prog 114 #[.agg #[.slice (some ⟨b0, o0, none⟩) c.1.length cap, .slice b c.2.length cp], .int .i64 line] W fun e w' => e = .returned (.int .i64 ((zAF c line : Nat) : Int)) ∧ Below W.heap.size W w') := fun W => by
  have := zG8 (some ⟨b0, o0, none⟩) c.1.length cap (.slice b c.2.length cp) _ _ _ rfl line W hp hl0
  rwa [← hset] at this
 have HFW : Hid (∀ W, Below w.heap.size w W → Calls Tryz.prog 118 #[.slice aj (zAm c line).length cj, .int .i64 (-1)] W fun e w' => e = .returned (.int .i64 (zCn (zAm c line) (-1))) ∧ Below W.heap.size W w') := fun W hbw =>
  zFl aj _ cj (-1) W (zA7 hrd fun k hk => hbw.block k hk) hne (by omega)
 have X := zAK (.cells #[.int .i64 0, .int .i64 0] 126) (zAy w (.cells #[.slice (some ⟨b0, o0, none⟩) c.1.length cap, .slice b c.2.length cp] 37))
 have Y := zAy (w.alloc (.cells #[.slice (some ⟨b0, o0, none⟩) c.1.length cap, .slice b c.2.length cp] 37)) (.cells #[.int .i64 0, .int .i64 0] 126)
 rw [zAp] at Y
 have B := zAb (zAf w (.cells #[.slice (some ⟨b0, o0, none⟩) c.1.length cap, .slice b c.2.length cp] 37)) (zAf _ (.cells #[.int .i64 0, .int .i64 0] 126))
 cases hq : (zCr c line).2.2
 ·have HP : Hid (zIg c line = (((zAF c line : Nat) : Int), zCn (zAm c line) (-1), zCn (zAm c line) (-1) != -1)) := by unfold Hid zIg; rw [hq, hset]; rfl
  rw [hq] at HFD
  clear hcell hrd h1 hget hne hr4 hset hok
  generalize (zCr c line).1 = f1 at HFD
  generalize (zCr c line).2.1 = f2 at HFD
  generalize zAF c line = sn at HP HS hsl hsl' HC
  generalize (zAm c line).length = rn at HFW HC
  generalize zCn (zAm c line) (-1) = fi at HP HFW
  go_enter Tryz.func132, Tryz.ntmps132
  go_wp2_with fail
  generalize (w.alloc (.cells #[.slice (some ⟨b0, o0, none⟩) c.1.length cap, .slice b c.2.length cp] 37)).alloc (.cells #[.int .i64 0, .int .i64 0] 126) = W0 at X Y B ⊢
  refine (HFD.out _ B).mono ?_
  rintro e w1 ⟨rfl, b1⟩
  replace B := zAb B b1
  replace X := zAa b1 X
  replace Y := zAa b1 Y
  have ba := zAf w1 (.cells #[.int .i64 f1, .int .i64 f2] 126)
  replace B := zAb B ba
  replace X := zAa ba X
  replace Y := zAa ba Y
  obtain ⟨x0, x1⟩ := zAx X
  clear b1 ba hq HFD
  go_wp2_with fail
  generalize w1.alloc (.cells #[.int .i64 f1, .int .i64 f2] 126) = w2 at X Y B x0 x1 ⊢
  refine (HS.out _).mono ?_
  rintro e w3 ⟨rfl, b1⟩
  replace B := zAb B b1
  replace X := zAa b1 X
  replace Y := zAa b1 Y
  clear x0 x1 b1
  obtain ⟨x0, x1⟩ := zAx X
  have g0 := HC.out _ B
  go_wp2_with fail
  refine (HFW.out _ B).mono ?_
  rintro e w4 ⟨rfl, b1⟩
  replace B := zAb B b1
  replace Y := zAa b1 Y
  obtain ⟨y0, y1⟩ := zAx Y
  obtain ⟨f0, f1'⟩ : w4.frozen? ⟨w.heap.size + 1, 0, none⟩ = false ∧ w4.frozen? ⟨w.heap.size + 1, 1, none⟩ = false := ⟨frozen_of_row w4 _ 0 _ _ Y, frozen_of_row w4 _ 1 _ _ Y⟩
  have HY : Hid _ := Y
  clear b1 g0 x0 x1 X Y HS HFW HC
  go_wp2
  have Z := zMO (a := .int .i64 (sn : Int)) (b := .int .i64 fi) HY.out
  obtain ⟨r0, r1⟩ := zAx Z
  refine bodyPost_ret (v := .tuple #[.agg #[.int .i64 (sn : Int), .int .i64 fi], .bool (fi != -1)]) (by simp [results, Tryz.results132, go_sem, r0, r1]) rfl ⟨by rw [HP.out], (B.setCell (p := ⟨w.heap.size + 1, 0, none⟩) (by simp) _).setCell (p := ⟨w.heap.size + 1, 1, none⟩) (by simp) _⟩
 ·have HP : Hid (zIg c line = ((zCr c line).1, (zCr c line).2.1, true)) := by unfold Hid zIg; rw [hq, if_pos rfl, ← hq]
  rw [hq] at HFD
  clear hcell hrd h1 hget hne hr4 hset hok HS HFW HC hsl hsl'
  generalize (zCr c line).1 = f1 at HFD HP
  generalize (zCr c line).2.1 = f2 at HFD HP
  go_enter Tryz.func132, Tryz.ntmps132
  go_wp2_with fail
  generalize (w.alloc (.cells #[.slice (some ⟨b0, o0, none⟩) c.1.length cap, .slice b c.2.length cp] 37)).alloc (.cells #[.int .i64 0, .int .i64 0] 126) = W0 at X Y B ⊢
  refine (HFD.out _ B).mono ?_
  rintro e w1 ⟨rfl, b1⟩
  replace B := zAb B b1
  replace Y := zAa b1 Y
  have l1 := (Array.getElem?_eq_some_iff.1 Y).1
  obtain ⟨y0, y1⟩ := zAx Y
  obtain ⟨f0, f1'⟩ : w1.frozen? ⟨w.heap.size + 1, 0, none⟩ = false ∧ w1.frozen? ⟨w.heap.size + 1, 1, none⟩ = false := ⟨frozen_of_row w1 _ 0 _ _ Y, frozen_of_row w1 _ 1 _ _ Y⟩
  have HY : Hid _ := Y
  clear b1 X Y hq HFD
  go_wp2
  have Z := zAK (.cells #[.int .i64 f1, .int .i64 f2] 126) (zMO (a := .int .i64 f1) (b := .int .i64 f2) HY.out)
  obtain ⟨r0, r1⟩ := zAx Z
  refine bodyPost_ret (v := .tuple #[.agg #[.int .i64 f1, .int .i64 f2], .bool true]) (by simp [results, Tryz.results132, go_sem, r0, r1]) rfl ⟨by rw [HP.out], ((B.setCell (p := ⟨w.heap.size + 1, 0, none⟩) (by simp) _).setCell (p := ⟨w.heap.size + 1, 1, none⟩) (by simp) _).alloc (by simp; omega) _⟩
theorem zJa {p q : zAU → Bool} : ∀ {row : List zAU}, (∀ u ∈ row, p u = q u) → row.findIdx? p = row.findIdx? q
 | [], _ => rfl
 | u :: row, h => by
  simp only [List.findIdx?_cons, h u (by simp), zJa (row := row) fun x hx => h x (by simp [hx])]
def zGc (o : Option Nat) : Int := match o with
 | some i => (i : Int)
 | none => -1
theorem zJb (row : List zAU) (line : Int) : zCn row line = zGc (row.findIdx? fun u => u.1 == line) := by
 unfold zCn zGc
 cases row.findIdx? fun u => u.1 == line <;> rfl
theorem zLg (o : Option Nat) : (zGc o != -1) = o.isSome := by
 cases o with
 | none => rfl
 | some i =>
  have : ((i : Int) != -1) = true := by simp
  exact this
theorem at_first {c : zAu} {line : Int} (h0 : 0 ≤ line) : zCn (zAm c line) line = zGc (atC c line) := by
 rw [zJb]
 unfold atC
 rw [if_neg (by omega)]
theorem zLG {c : zAu} (h : OkC isL zAJ c) (line : Int) : zCn (zAm c line) (-1) = zGc (zJQ c line) := by
 rw [zJb]
 unfold zJQ
 congr 1
 refine zJa fun u hu => ?_
 obtain ⟨h1, h2, m, hm, h3⟩ := h
 obtain ⟨i, hi⟩ := List.mem_iff_getElem?.1 hu
 rcases (h3 _ _ (zDb (line := line) h1)).2.2.1 i u hi with hc | ⟨hf, _⟩
 ·rw [hc, zCQ hc]
  rfl
 ·rw [zEJ hf]
  have := (zBY hf).1
  simp
  omega
theorem at_out {c : zAu} (h : OkC isL zAJ c) {line : Int} (hl : zAQ line 0 15 = false) : atC c line = none := by
 cases ha : atC c line with
 | none => rfl
 | some i =>
  obtain ⟨h0, u, hu, he⟩ := zD1 ha
  obtain ⟨h1, h2, m, hm, h3⟩ := h
  rcases (h3 _ _ (zDb (line := line) h1)).2.2.1 i u hu with hc | ⟨hf, _⟩
  ·rw [zCQ hc] at he
   simp [zAA] at he
   omega
  ·have := zBY hf
   simp [zAQ] at hl
   omega
theorem zE8 {c : zAu} (h : OkC isL zAJ c) {line : Int} : zCr c line = if zAQ line 0 15 then (((zAF c line : Nat) : Int), zGc (atC c line), (atC c line).isSome) else (0, 0, false) := by
 unfold zCr
 split
 ·rename_i hb
  have h0 : 0 ≤ line := by simp [zAQ] at hb; omega
  rw [at_first h0, zLg, zDa h.1]
 ·rfl
theorem roomP_eq {c : zAu} (h : OkC isL zAJ c) {line : Int} (hb : zAQ line 0 15 = true) : zIg c line = (((zAF c line : Nat) : Int), zGc (zB2 c line), (zB2 c line).isSome) := by
 unfold zIg
 rw [zE8 h, if_pos hb]
 unfold zB2
 cases ha : atC c line with
 | some i => rfl
 | none =>
  show (line % (c.1.length : Int), zCn (zAm c line) (-1), zCn (zAm c line) (-1) != -1) = _
  rw [zLG h, zLg, zDa h.1]
theorem zKi {c : zAu} (h : OkC isL zAJ c) (line : Int) : (zAm c line).length = zCB c ∧ c.2[zAF c line]? = some (zBs c line) ∧ zAJ (zBs c line) (zCB c) = true ∧ (c.1.getD 0 []).length = zCB c ∧ c.1[0]? = some (c.1.getD 0 []) ∧ 0 < c.1.length ∧ c.2.length = c.1.length := by
 obtain ⟨h1, h2, m, hm, h3⟩ := h
 have hpos := zDv h1
 have e0 : c.1[0]? = some (c.1.getD 0 []) := by rw [List.getD_eq_getElem?_getD, List.getElem?_eq_getElem hpos]; rfl
 have hw : zCB c = m := (h3 0 _ e0).1
 obtain ⟨a1, a2, a3, a4⟩ := zE4 (line := line) h1 h2 h3
 rw [hw]
 exact ⟨a1, a2, a3, (h3 0 _ e0).1, e0, hpos, h2⟩
theorem go_in {t n : Int} (h : zAJ t n = true) : 0 ≤ goI t n ∧ goI t n < n ∧ viI t n = goI t n := by
 refine ⟨?_, ?_, by unfold viI; rw [if_pos h]⟩
 all_goals
  simp only [zAJ, decide_eq_true_eq] at h
  unfold goI
  rcases h with ⟨rfl, rfl⟩ | ⟨rfl, h1, h2⟩ | ⟨rfl, h1, h2⟩
  ·simp
  ·simp
   omega
  ·have ht : t = 0 ∨ t = 1 ∨ t = 2 ∨ t = 3 ∨ t = 4 ∨ t = 5 ∨ t = 6 ∨ t = 7 := by omega
   rcases ht with rfl | rfl | rfl | rfl | rfl | rfl | rfl | rfl <;> decide
theorem zJc {p : zAU → Bool} {row : List zAU} {k : Nat} {u : zAU} (hu : row[k]? = some u) (hp : p u = true) (hno : ∀ j v, j < k → row[j]? = some v → p v = false) : row.findIdx? p = some k := by
 have hk := (List.getElem?_eq_some_iff.1 hu).1
 rw [List.findIdx?_eq_some_iff_getElem]
 refine ⟨hk, ?_, fun j hj => ?_⟩
 ·rw [List.getElem?_eq_getElem hk] at hu
  cases hu
  exact hp
 ·simpa using hno j _ hj (List.getElem?_eq_getElem (by omega))
theorem zJd {p : zAU → Bool} {row : List zAU} (hno : ∀ (j : Nat) (v : zAU), row[j]? = some v → p v = false) : row.findIdx? p = none := by
 rw [List.findIdx?_eq_none_iff]
 intro u hu
 obtain ⟨j, hj⟩ := List.mem_iff_getElem?.1 hu
 simpa using hno j u hj
theorem zFD (a b : Option Addr) (c : zAu) (cap cp : Nat) (line : Int) (w : World) (hok : OkC isL zAJ c) (h1 : zBh zBl w a c.1) :
    Calls Tryz.prog 54 #[.agg #[.slice a c.1.length cap, .slice b c.2.length cp], .int .i64 line] w fun e w' => e = .returned (.int .i64 (zGc (atC c line))) ∧ Below w.heap.size w w' := by
 have X := zAy w (.cells #[.slice a c.1.length cap, .slice b c.2.length cp] 37)
 have B := zAf w (.cells #[.slice a c.1.length cap, .slice b c.2.length cp] 37)
 by_cases hneg : line < 0
 ·have HR : Hid (zGc (atC c line) = -1) := by unfold Hid atC; rw [if_pos hneg]; rfl
  go_enter Tryz.func54, Tryz.ntmps54
  go_wp2
  go_ret
  exact ⟨zAW HR.out.symm, B⟩
 ·have hl0 : 0 ≤ line := by omega
  have HA : Hid (atC c line = (zAm c line).findIdx? fun u => u.1 == line) := by unfold Hid atC; rw [if_neg hneg]
  obtain ⟨hp, hget, hne, hr4, hset, hsl⟩ := zDy hok line
  obtain ⟨b0, o0, aj, cj, rfl, hcell, -, -, hrd⟩ := zDj h1 hget
  have hz : (c.1.length : Int) ≠ 0 := by omega
  have hsl' : ((zAF c line : Nat) : Int) < (c.1.length : Int) := by omega
  have hset' : line % (c.1.length : Int) = ((zAF c line : Nat) : Int) := hset.symm
  have g0 := zAd B hcell (zAi hcell)
  have HRD : Hid (zBh zAS w aj (zAm c line)) := hrd
  clear hcell hrd h1 hget hset hok hne
  obtain ⟨x0, x1⟩ := zAx X
  generalize zAF c line = sn at hsl hsl' hset' g0
  generalize zAm c line = row at hr4 g0 HRD HA
  go_enter Tryz.func54, Tryz.ntmps54
  go_wp2_with fail
  generalize w.alloc (.cells #[.slice (some ⟨b0, o0, none⟩) c.1.length cap, .slice b c.2.length cp] 37) = W0 at X B x0 x1 g0 ⊢
  go_quiet (fail)
  have B2 := zGi B nq
  clear x0 x1 g0 X B
  go_wp2
  go_loop [6] (fun i => ∃ k : Nat, k ≤ row.length ∧ i = .int .i64 k ∧ ∀ j v, j < k → row[j]? = some v → (v.1 == line) = false) (fun i => row.length - (intOf i).toNat)
  case atStart => exact ⟨0, Nat.zero_le _, rfl, fun j v hj => by omega⟩
  case round =>
   obtain ⟨k, hk, rfl, hno⟩ := hrel
   by_cases hlt : k < row.length
   ·have hlt' : (k : Int) < (row.length : Int) := by omega
    obtain ⟨u, hu⟩ : ∃ u, row[k]? = some u := ⟨_, List.getElem?_eq_getElem hlt⟩
    obtain ⟨bk, ok, cs, rfl, hrd, hcell⟩ := zBG (zA7 HRD.out fun k hk => B2.block k hk) hu
    obtain ⟨ad, cpw, rfl, -, -, -, -, -⟩ := zAL hrd
    have y0 := hcell 0 _ rfl
    rw [show ok + (k * zAS.size + 0) = ok + k * 3 from rfl] at y0
    have HU : Hid (row[k]? = some u) := hu
    obtain ⟨l, st, d⟩ := u
    simp only at y0
    clear hcell hrd hu
    by_cases hl : l = line
    ·have HRES : Hid (zGc (atC c line) = k) := by unfold Hid; rw [HA.out, zJc HU.out (by simp [hl]) hno]; rfl
     subst hl
     go_wp2
     go_ret
     exact ⟨zAW HRES.out.symm, B2⟩
    ·have hl' : (l == line) = false := by simpa using hl
     go_wp2
     go_round
     case rel =>
      refine ⟨k + 1, by omega, by go_num, fun j v hj hv => ?_⟩
      by_cases he : j < k
      ·exact hno j v he hv
      ·have : j = k := by omega
       subst this
       rw [HU.out] at hv
       cases hv
       exact hl'
     case measure => simp [intOf]; omega
   ·have HRES : Hid (zGc (atC c line) = -1) := by
      unfold Hid
      rw [HA.out, zJd fun j v hv => hno j v (by have := (List.getElem?_eq_some_iff.1 hv).1; omega) hv]
      rfl
    have hlt' : ¬ (k : Int) < (row.length : Int) := by omega
    go_wp2
    go_ret
    exact ⟨zAW HRES.out.symm, B2⟩
open Go.RowKit
def zGo (o : Oper) : Oper := { o with op := .move (.const (.bool false)) }
def zFo : List Oper → Oper
 | [] => { dst := none, op := .move (.const (.bool false)), type := 0, pos := "", after := #[], guard := none }
 | [o] => o
 | _ :: o :: r => zFo (o :: r)
theorem zIh : ∀ {l : List Oper}, l ≠ [] → l.dropLast ++ [zFo l] = l
 | [], h => (h rfl).elim
 | [o], _ => rfl
 | p :: o :: r, _ => by
  have := zIh (l := o :: r) (by simp)
  rw [List.dropLast_cons_of_ne_nil (by simp), List.cons_append, zFo, this]
def zFR (l : List Oper) (o : Oper) : Bool :=
 (List.range l.length).all (fun i => o.after.any (fun e => e.on == i && Region.binds .any e)) && (List.range (l.length + 1)).all (fun i => match (l ++ [o])[i]? with
  | none => true
  | some p => p.after.all (fun e => decide (e.on < i))) && o.guard.isNone && o.dst.isNone
section
variable {P : Program} {C : World → Prop} {l : List Oper} {o : Oper}
theorem zMP {i : Nat} (h : i ≠ l.length) : (l ++ [zGo o]).toArray[i]? = (l ++ [o]).toArray[i]? := by
 simp only [List.getElem?_toArray, List.getElem?_append]
 by_cases hi : i < l.length
 ·rw [if_pos hi, if_pos hi]
 ·rw [if_neg hi, if_neg hi, List.getElem?_eq_none (by simp; omega), List.getElem?_eq_none (by simp; omega)]
theorem zFS (p : Oper) : (l ++ [p]).toArray[l.length]? = some p := by simp
theorem zFE {listed : Array Bool} {j : Nat} : j ∈ Region.ready .any (l ++ [zGo o]).toArray listed ↔ j ∈ Region.ready .any (l ++ [o]).toArray listed := by
 rw [mem_ready, mem_ready]
 by_cases h : j = l.length
 ·subst h
  rw [zFS, zFS]
  constructor
  ·rintro ⟨h1, p, hp, h2⟩
   cases hp
   exact ⟨h1, o, rfl, h2⟩
  ·rintro ⟨h1, p, hp, h2⟩
   cases hp
   exact ⟨h1, zGo o, rfl, h2⟩
 ·rw [zMP h]
theorem zJe (ts : Array Value) : yielded (l ++ [zGo o]).toArray ts = yielded (l ++ [o]).toArray ts := by
 funext j
 unfold yielded
 by_cases h : j = l.length
 ·subst h
  rw [zFS, zFS]
  rfl
 ·rw [zMP h]
theorem zHB {listed : Array Bool} (hL : zFR l o = true) (hs : listed.size = l.length + 1) (hn : listed.getD l.length true = false) : ∃ j, j ∈ Region.ready .any (l ++ [o]).toArray listed := by
 simp only [zFR, Bool.and_eq_true, List.all_eq_true, List.mem_range] at hL
 obtain ⟨⟨⟨-, h2⟩, -⟩, -⟩ := hL
 have key : ∀ k, k ≤ l.length → (∀ i, i < k → listed.getD i true = true) → ∃ j, j ∈ Region.ready .any (l ++ [o]).toArray listed := by
  intro k
  induction h : l.length - k generalizing k with
  | zero =>
   intro hk hall
   have e : k = l.length := by omega
   subst e
   refine ⟨l.length, mem_ready.2 ⟨hn, o, zFS o, fun e he _ => ?_⟩⟩
   have h3 := h2 l.length (by omega)
   rw [show (l ++ [o])[l.length]? = some o from by simp] at h3
   have h4 := Array.all_eq_true_iff_forall_mem.1 h3 e he
   simp only [decide_eq_true_eq] at h4
   have h5 := hall e.on h4
   rw [Array.getD_eq_getD_getElem?, Array.getElem?_eq_getElem (by omega)] at h5 ⊢
   exact h5
  | succ m ih =>
   intro hk hall
   by_cases hu : listed.getD k true = true
   ·exact ih (k + 1) (by omega) (by omega) fun i hi => by
      by_cases hik : i = k
      ·rw [hik]
       exact hu
      ·exact hall i (by omega)
   ·have hkl : k < (l ++ [o]).length := by simp; omega
    refine ⟨k, mem_ready.2 ⟨by simpa using hu, (l ++ [o])[k], by simp [List.getElem?_eq_getElem hkl], fun e he _ => ?_⟩⟩
    have h3 := h2 k (by simp at hkl; omega)
    rw [List.getElem?_eq_getElem hkl] at h3
    have h4 := Array.all_eq_true_iff_forall_mem.1 h3 e he
    simp only [decide_eq_true_eq] at h4
    have h5 := hall e.on h4
    rw [Array.getD_eq_getD_getElem?, Array.getElem?_eq_getElem (by simp at hkl; omega)] at h5 ⊢
    exact h5
 exact key 0 (Nat.zero_le _) (fun i hi => by omega)
theorem zLH {listed : Array Bool} (hL : zFR l o = true) (hs : listed.size = l.length + 1) (hr : l.length ∈ Region.ready .any (l ++ [o]).toArray listed) : Region.ready .any (l ++ [o]).toArray (listed.setIfInBounds l.length true) = [] := by
 simp only [zFR, Bool.and_eq_true, List.all_eq_true, List.mem_range] at hL
 obtain ⟨⟨⟨h1, -⟩, -⟩, -⟩ := hL
 obtain ⟨hn, p, hp, hall⟩ := mem_ready.1 hr
 rw [zFS] at hp
 cases hp
 refine List.eq_nil_iff_forall_not_mem.2 fun j hj => ?_
 obtain ⟨hj1, -⟩ := mem_ready.1 hj
 by_cases hjn : j = l.length
 ·subst hjn
  rw [Array.getD_eq_getD_getElem?, Array.getElem?_setIfInBounds_self_of_lt (by omega)] at hj1
  simp at hj1
 ·rw [Array.getD_eq_getD_getElem?, Array.getElem?_setIfInBounds_ne (by omega)] at hj1
  by_cases hjl : j < l.length
  ·obtain ⟨i, hi, heq⟩ := Array.any_eq_true.1 (h1 j hjl)
   have he := Array.getElem_mem hi
   simp only [Bool.and_eq_true, beq_iff_eq] at heq
   have h5 := hall _ he heq.2
   rw [heq.1, Array.getD_eq_getD_getElem?] at h5
   rw [Array.getElem?_eq_getElem (by omega)] at h5 hj1
   simp at h5 hj1
   rw [h5] at hj1
   cases hj1
  ·rw [Array.getElem?_eq_none (by omega)] at hj1
   simp at hj1
theorem zLI {Q : Act → Prop} {Q' : Exit → Act → World → Prop} (hL : zFR l o = true) (hQ : ∀ a w, C w → Q a → o.wp P a w (fun a' w' => Q' .normal a' w') Q') : ∀ (fuel : Nat) (listed : Array Bool) (a : Act) (w : World), C w → listed.size = l.length + 1 → listed.getD l.length true = false →
    wpAnyQ P .any (l ++ [zGo o]).toArray C Q fuel listed a → wpAny P .any (l ++ [o]).toArray Q' fuel listed a w := by
 have hg : o.guard = none ∧ o.dst = none := by
  simp only [zFR, Bool.and_eq_true] at hL
  exact ⟨Option.isNone_iff_eq_none.1 hL.1.2, Option.isNone_iff_eq_none.1 hL.2⟩
 intro fuel
 induction fuel with
 | zero =>
  intro listed a w hw hs hn h
  obtain ⟨j, hj⟩ := zHB hL hs hn
  rw [← zFE, h.1] at hj
  cases hj
 | succ fuel ih =>
  intro listed a w hw hs hn h
  refine ⟨fun h0 => ?_, fun i hi => ?_⟩
  ·obtain ⟨j, hj⟩ := zHB hL hs hn
   rw [h0] at hj
   cases hj
  ·have hq := h.2 i (zFE.2 hi)
   by_cases hin : i = l.length
   ·subst hin
    have hover := zLH hL hs hi
    have hover' : Region.ready .any (l ++ [zGo o]).toArray (listed.setIfInBounds l.length true) = [] := List.eq_nil_iff_forall_not_mem.2 fun j hj => by
     rw [zFE, hover] at hj
     cases hj
    have hqa : Q a := by
     unfold qOp at hq
     rw [zFS] at hq
     have hwt : Region.wanted (zGo o) (yielded (l ++ [zGo o]).toArray a.tmps) = true := by
      unfold Region.wanted
      simp [zGo, hg.1]
     simp only [hwt, if_true] at hq
     obtain ⟨v, -, hk⟩ := hq
     have e : a.put (zGo o).dst v = a := by
      have : (zGo o).dst = none := hg.2
      rw [this]
      rfl
     rw [e] at hk
     cases fuel with
     | zero => exact hk.2
     | succ f => exact hk.1 hover'
    unfold wpOp
    rw [zFS]
    have hwt : Region.wanted o (yielded (l ++ [o]).toArray a.tmps) = true := by
     unfold Region.wanted
     simp [hg.1]
    simp only [hwt, if_true]
    refine .inl (Oper.wp_mono (fun a' w' h' => ?_) (hQ a w hw hqa))
    cases fuel with
    | zero => exact ⟨hover, h'⟩
    | succ f => exact ⟨fun _ => h', fun j hj => by rw [hover] at hj; cases hj⟩
   ·refine wpOp_of_qOp (C := C) hw (fun a' w' hw' hk => ih (listed.setIfInBounds i true) a' w' hw' (by simpa using hs) (by rw [Array.getD_eq_getD_getElem?, Array.getElem?_setIfInBounds_ne hin, ← Array.getD_eq_getD_getElem?]; exact hn) hk) ?_
    unfold qOp at hq ⊢
    rw [zMP hin, zJe] at hq
    exact hq
theorem zEp {ops : Array Oper} {Q : Act → Prop} (hg : o.guard = none ∧ o.dst = none) : ∀ (l : List Oper) (a : Act), wpQuiet P ops C Q l a → wpQuiet P ops C Q (l ++ [zGo o]) a
 | [], a, h => by
  have hwt : Region.wanted (zGo o) (yielded ops a.tmps) = true := by
   unfold Region.wanted
   simp [zGo, hg.1]
  show if Region.wanted (zGo o) (yielded ops a.tmps) then (zGo o).quiet P a C (wpQuiet P ops C Q []) else _
  rw [if_pos hwt]
  refine ⟨.bool false, fun w hw => ?_, ?_⟩
  ·unfold Oper.quietAt
   simp [zGo, execOp, go_sem, Oper.quietUpon]
  ·have : (zGo o).dst = none := hg.2
   rw [this]
   exact h
 | p :: l, a, h => by
  unfold wpQuiet at h
  show wpQuiet P ops C Q (p :: (l ++ [zGo o])) a
  unfold wpQuiet
  split
  ·rename_i hwt
   rw [if_pos hwt] at h
   exact Oper.quiet_mono (fun a' h' => zEp hg l a' h') h
  ·rename_i hwt
   rw [if_neg hwt] at h
   exact zEp hg l _ h
theorem zGE {id : Nat} {Q : Exit → Act → World → Prop} {a : Act} {w : World} {ll : List Oper} (C : World → Prop) (hm : P.follows .mixedOrders = true) (hB : Region.lexB .any (ll.dropLast ++ [zGo (zFo ll)]).toArray = true) (hL : zFR ll.dropLast (zFo ll) = true) (hne : ll ≠ []) (h0 : C w.drew)
    (h : Nonempty (Cls C) → wpQuiet P (ll.dropLast ++ [zGo (zFo ll)]).toArray (fun w' => ∃ n : Cls C, w' = n.w) (fun a' => ∀ w', C w' → (zFo ll).wp P a' w' (fun a'' w'' => Q .normal a'' w'') Q) ll.dropLast a) : (Code.region id ll.toArray true).wp P Q a w := by
 have hg : (zFo ll).guard = none ∧ (zFo ll).dst = none := by
  simp only [zFR, Bool.and_eq_true] at hL
  exact ⟨Option.isNone_iff_eq_none.1 hL.1.2, Option.isNone_iff_eq_none.1 hL.2⟩
 simp only [Region.lexB, Bool.and_eq_true] at hB
 have hq := zEp hg _ _ (h ⟨⟨w.drew, h0⟩⟩)
 have h1 := wpAnyQ_lex (P := P) (C := fun w' => ∃ n : Cls C, w' = n.w) (md := .any) hB.1 (ll.dropLast ++ [zGo (zFo ll)]) 0 (Array.replicate (ll.dropLast ++ [zGo (zFo ll)]).toArray.size false) a (by simp) (by simpa using hB.2) hq
 have h2 := zLI (P := P) (C := fun w' => ∃ n : Cls C, w' = n.w) (Q' := Q) hL (fun a' w' hw' hQ => hQ w' (by obtain ⟨n, e⟩ := hw'; rw [e]; exact n.h)) _ _ a w.drew ⟨⟨w.drew, h0⟩, rfl⟩ (by simp) (by simp) h1
 rw [zIh hne] at h2
 refine wp_region_any hm ?_
 have e1 : (ll.dropLast ++ [zGo (zFo ll)]).length = ll.length := by
  have := congrArg List.length (zIh hne)
  simpa using this
 simpa [e1] using h2
end
open Go.ChangeShapes Go.WideShapes Go.ChangeAt Go.RowKit
theorem zGF {P : Program} {w : World} (base : Nat) (t ty e : TypeId) (i : TypeInfo) (size : Nat) (ht : P.underlying t = some (.slice e)) (hi : P.info? e = some i) (c : Nat)
    (v : Value) (n : Nat) (xs : List Value) (hown : w.ownsRow base e size v n xs) : (Builtin.append_ #[t, t] ty #[v, .slice none 0 c]).run P w = .ok v w := by
 rcases hown.2 with ⟨rfl, rfl⟩ | ⟨g, cap, cur, rfl, _, _, hnc, _⟩
 ·simp [Builtin.append_, run_underlying ht, sizeOf, typeInfo, hi, Builtin.lenOf, Builtin.firstCells]
 ·simp [Builtin.append_, run_underlying ht, sizeOf, typeInfo, hi, Builtin.lenOf, Builtin.firstCells, hnc, storeCells]
theorem zCG {P : Program} {w : World} {ops : Array Oper} {rest : List Oper} {o : Oper} {a : Act} {Q : Exit → Act → World → Prop} (hgd : o.guard = none) (s x : Operand) (t : TypeId)
    (ho : o.op = .call { callee := .builtin .append, args := #[s, x], argTypes := #[t, t] })
    (base : Nat) (e : TypeId) (i : TypeInfo) (size : Nat) (ht : P.underlying t = some (.slice e)) (hi : P.info? e = some i) (c : Nat)
    (v : Value) (n : Nat) (xs : List Value) (hs : a.eval s = v) (hown : w.ownsRow base e size v n xs) (hx : a.eval x = .slice none 0 c)
    (h : wpList P ops Q rest (a.put o.dst v) w) : wpList P ops Q (o :: rest) a w := by
 refine wpList_plain hgd fun K hK => ?_
 have hrun := zGF (P := P) (w := w) base t o.type e i size ht hi c v n xs hown
 unfold Oper.wp
 simp [execOp, ho, resolve, invoke, builtin, hs, hx, hrun, Result.andThen]
 exact hK _ _ h
theorem cell_kp3 (w : World) (o o' o'' : Obj) {b k : Nat} {u : Value} (h : w.cell? ⟨b, k, none⟩ = some u) : (((w.alloc o).alloc o').alloc o'').cell? ⟨b, k, none⟩ = some u := by
 have hl := World.block_lt_of_cell? w _ h
 simp only at hl
 rw [World.cell?_alloc_past _ _ _ (by simp; omega), World.cell?_alloc_past _ _ _ (by simp; omega), World.cell?_alloc_past _ _ _ hl, h]
theorem zDz (w : World) : zAY zA5 w (w.alloc (.cells #[] 2)) [.slice (some ⟨w.heap.size, 0, none⟩) 0 0] [] := by
 refine ⟨⟨_, [], fun _ => False, rfl, World.ownsRow_lit (base := 0) (e := 2) (size := 1) w #[] 0 (Nat.zero_le _) (Nat.zero_le _) rfl, fun g hg => ?_, fun _ h => h.elim, rfl⟩, zAf w _⟩
 simp [Value.ownBlock] at hg
 subst hg
 exact ⟨⟨Nat.le_refl _, by simp⟩, fun h => h⟩
theorem zLJ (cap : Nat) (w : World) : Calls Tryz.prog 57 #[.slice none 0 cap] w fun e w' => ∃ v, e = .returned v ∧ zAY zA5 w w' [v] [] := by
 obtain ⟨i0, hi, hz0, hz1, hz2⟩ := info_parts Tryz.infoI
 have hown : (w.alloc (.cells #[] 2)).ownsRow w.heap.size 2 1 (.slice (some ⟨w.heap.size, 0, none⟩) 0 0) 0 [] := World.ownsRow_lit _ #[] 0 (Nat.le_refl _) (Nat.zero_le _) rfl
 go_enter Tryz.func57, Tryz.ntmps57
 go_wp2_with (at_builtin; refine zCG rfl _ _ 23 rfl w.heap.size 2 i0 1 Tryz.underlying23 hi cap _ _ _ rfl hown rfl ?_)
 go_ret
 exact ⟨_, rfl, zDz w⟩
theorem zDc (a : Option Addr) (xs : List Int) (cap : Nat) (w : World) (h : zBh zBC w a xs) (hm : xs.length ≤ 1048576) :
    Calls Tryz.prog 57 #[.slice a xs.length cap] w fun e w' => ∃ v, e = .returned v ∧ zAY zA5 w w' [v] xs := by
 cases a with
 | some ad => exact (zL1 ad xs cap w (zCw h) hm).mono fun e w' ⟨v, h1, h2⟩ => ⟨v, h1, zD8 h2 (zHS h)⟩
 | none =>
  rcases h with rfl | ⟨b, off, rows, ha, _⟩
  ·exact zLJ cap w
  ·cases ha
end Go.Proofs.YtoihjejenjcokaaGreatDoor
