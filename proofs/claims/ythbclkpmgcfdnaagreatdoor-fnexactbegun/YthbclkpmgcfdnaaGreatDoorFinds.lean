
/- Finds. -/
import Derived.Test.YthbclkpmgcfdnaaGreatDoorOkLink
import Derived.Test.YthbclkpmgcfdnaaGreatDoorTree
import Derived.Test.YthbclkpmgcfdnaaGreatDoorJChange8Own
/- Where a line is, or may go, of the program. Condition: a store that is right. -/
namespace Go.Proofs.YthbclkpmgcfdnaaGreatDoor
open Go.ChangeShapes Go.WideShapes Go.ChangeAt Go.RowKit Go.Shelf
set_option linter.unusedVariables false
/-- What the program answers for 'find' and 'roomFor': set, way, and whether. -/
def findP (c : CacheD) (line : Int) : Int × Int × Bool := if betw line 0 15 then (line % (c.1.length : Int), firstI (rowFor c line) line, firstI (rowFor c line) line != -1) else (0, 0, false)
def roomP (c : CacheD) (line : Int) : Int × Int × Bool := if (findP c line).2.2 then findP c line else (line % (c.1.length : Int), firstI (rowFor c line) (-1), firstI (rowFor c line) (-1) != -1)
theorem ok_row {c : CacheD} (h : OkC isL treeB c) (line : Int) : pow3 c.1.length ∧ c.1[setNo c line]? = some (rowFor c line) ∧ rowFor c line ≠ [] ∧ (rowFor c line).length ≤ 4 ∧ ((setNo c line : Nat) : Int) = line % (c.1.length : Int) ∧ setNo c line < c.1.length := by
  obtain ⟨h1, h2, m, hm, h3⟩ := h
  have hg := rowFor_get (line := line) h1
  have hl := (h3 _ _ hg).1
  refine ⟨h1, hg, fun e => ?_, ?_, setNo_cast h1, setNo_lt h1⟩
  · rw [e] at hl
    simp at hl
    have := pow3_pos hm
    omega
  · rcases hm with rfl | rfl | rfl <;> omega
theorem putTwo {w : World} {g : Nat} {x y a b : Value} {t : TypeId} (h : w.heap[g]? = some (.cells #[x, y] t (0, 0))) :
    ((w.setCell ⟨g, 0, none⟩ a).setCell ⟨g, 1, none⟩ b).heap[g]? = some (.cells #[a, b] t (0, 0)) :=
  heap_setCell_same _ g 1 _ t b (heap_setCell_same w g 0 _ t a h)

set_option maxHeartbeats 1000000 in
theorem implFind_any (a b : Option Addr) (c : CacheD) (cap cp : Nat) (line : Int) (w : World) (hok : OkC isL treeB c) (h1 : SlRd waysR w a c.1) :
    Calls Tryz.prog 130 #[.agg #[.slice a c.1.length cap, .slice b c.2.length cp], .int .i64 line] w fun e w' => e = .returned (.tuple #[.agg #[.int .i64 (findP c line).1, .int .i64 (findP c line).2.1], .bool (findP c line).2.2]) ∧ Below w.heap.size w w' := by
  obtain ⟨hp, hget, hne, hr4, hset, hsl⟩ := ok_row hok line
  obtain ⟨b0, o0, aj, cj, rfl, hcell, -, -, hrd⟩ := set_at h1 hget
  cases hb : betw line 0 15
  · have HF : Hid (findP c line = (0, 0, false)) := by unfold Hid findP; simp [hb]
    clear hcell hrd h1 hget
    go_enter Tryz.func130, Tryz.ntmps130
    go_wp2_with (go_at_call 76; refine (lineNumberOk_any _ _).mono ?_; rintro e w' ⟨rfl, rfl⟩; rw [hb])
    have Y := heap_at (w.alloc (.cells #[.slice (some ⟨b0, o0, none⟩) c.1.length cap, .slice b c.2.length cp] 27)) (.cells #[.int .i64 0, .int .i64 0] 143)
    rw [alloc_len] at Y
    obtain ⟨r0, r1⟩ := cells_two Y
    refine bodyPost_ret (v := .tuple #[.agg #[.int .i64 0, .int .i64 0], .bool false]) (by simp [results, Tryz.results130, go_sem]) rfl ⟨by rw [HF.out], below_step (box_below w _) (box_below _ _)⟩
  · have hl0 : 0 ≤ line := by simp [betw] at hb; omega
    have HF : Hid (findP c line = (((setNo c line : Nat) : Int), firstI (rowFor c line) line, firstI (rowFor c line) line != -1)) := by unfold Hid findP; rw [if_pos hb, hset]
    have HS : Hid (∀ W, Calls Tryz.prog 175 #[.agg #[.slice (some ⟨b0, o0, none⟩) c.1.length cap, .slice b c.2.length cp], .int .i64 line] W fun e w' => e = .returned (.int .i64 ((setNo c line : Nat) : Int)) ∧ Below W.heap.size W w') := fun W => by
      have := setOf_any (some ⟨b0, o0, none⟩) c.1.length cap (.slice b c.2.length cp) _ _ _ rfl line W hp hl0
      rwa [← hset] at this
    have HFW : Hid (∀ W, Below w.heap.size w W → Calls Tryz.prog 176 #[.slice aj (rowFor c line).length cj, .int .i64 line] W fun e w' => e = .returned (.int .i64 (firstI (rowFor c line) line)) ∧ Below W.heap.size W w') := fun W hbw =>
      firstWith_any aj _ cj line W (slrd_keep hrd fun k hk => hbw.block k hk) hne (by omega)
    have hsl' : ((setNo c line : Nat) : Int) < (c.1.length : Int) := by omega
    have HC : Hid (∀ W, Below w.heap.size w W → W.cell? ⟨b0, o0 + setNo c line, none⟩ = some (.slice aj (rowFor c line).length cj)) := fun W hbw => cell_keep hbw hcell (cell_lt hcell)
    clear hcell hrd h1 hget hne hr4 hset hok
    generalize setNo c line = sn at HF HS hsl hsl' HC
    generalize (rowFor c line).length = rn at HFW HC
    generalize firstI (rowFor c line) line = fi at HF HFW
    have X := heap_on (.cells #[.int .i64 0, .int .i64 0] 143) (heap_at w (.cells #[.slice (some ⟨b0, o0, none⟩) c.1.length cap, .slice b c.2.length cp] 27))
    have Y := heap_at (w.alloc (.cells #[.slice (some ⟨b0, o0, none⟩) c.1.length cap, .slice b c.2.length cp] 27)) (.cells #[.int .i64 0, .int .i64 0] 143)
    rw [alloc_len] at Y
    have B := below_step (box_below w (.cells #[.slice (some ⟨b0, o0, none⟩) c.1.length cap, .slice b c.2.length cp] 27)) (box_below _ (.cells #[.int .i64 0, .int .i64 0] 143))
    go_enter Tryz.func130, Tryz.ntmps130
    go_wp2_with (go_at_call 76; refine (lineNumberOk_any _ _).mono ?_; rintro e w' ⟨rfl, rfl⟩; rw [hb])
    generalize (w.alloc (.cells #[.slice (some ⟨b0, o0, none⟩) c.1.length cap, .slice b c.2.length cp] 27)).alloc (.cells #[.int .i64 0, .int .i64 0] 143) = W0 at X Y B ⊢
    refine (HS.out _).mono ?_
    rintro e w1 ⟨rfl, b1⟩
    replace B := below_step B b1
    replace X := row_keep b1 X
    replace Y := row_keep b1 Y
    obtain ⟨x0, x1⟩ := cells_two X
    have g0 := HC.out _ B
    clear b1
    go_wp2_with fail
    refine (HFW.out _ B).mono ?_
    rintro e w2 ⟨rfl, b1⟩
    replace B := below_step B b1
    replace Y := row_keep b1 Y
    obtain ⟨y0, y1⟩ := cells_two Y
    obtain ⟨f0, f1⟩ : w2.frozen? ⟨w.heap.size + 1, 0, none⟩ = false ∧ w2.frozen? ⟨w.heap.size + 1, 1, none⟩ = false := ⟨frozen_of_row w2 _ 0 _ _ Y, frozen_of_row w2 _ 1 _ _ Y⟩
    have HY : Hid _ := Y
    clear b1 g0 x0 x1 X Y HS HFW HC
    go_wp2
    have Z := putTwo (a := .int .i64 (sn : Int)) (b := .int .i64 fi) HY.out
    obtain ⟨r0, r1⟩ := cells_two Z
    refine bodyPost_ret (v := .tuple #[.agg #[.int .i64 (sn : Int), .int .i64 fi], .bool (fi != -1)]) (by simp [results, Tryz.results130, go_sem, r0, r1]) rfl ⟨by rw [HF.out], (B.setCell (p := ⟨w.heap.size + 1, 0, none⟩) (by simp) _).setCell (p := ⟨w.heap.size + 1, 1, none⟩) (by simp) _⟩

set_option maxHeartbeats 1000000 in
theorem implRoom_any (a b : Option Addr) (c : CacheD) (cap cp : Nat) (line : Int) (w : World) (hok : OkC isL treeB c) (h1 : SlRd waysR w a c.1) (hl0 : 0 ≤ line) :
    Calls Tryz.prog 163 #[.agg #[.slice a c.1.length cap, .slice b c.2.length cp], .int .i64 line] w fun e w' => e = .returned (.tuple #[.agg #[.int .i64 (roomP c line).1, .int .i64 (roomP c line).2.1], .bool (roomP c line).2.2]) ∧ Below w.heap.size w w' := by
  obtain ⟨hp, hget, hne, hr4, hset, hsl⟩ := ok_row hok line
  have HFD : Hid (∀ W, Below w.heap.size w W → Calls Tryz.prog 130 #[.agg #[.slice a c.1.length cap, .slice b c.2.length cp], .int .i64 line] W fun e w' => e = .returned (.tuple #[.agg #[.int .i64 (findP c line).1, .int .i64 (findP c line).2.1], .bool (findP c line).2.2]) ∧ Below W.heap.size W w') :=
    fun W hbw => implFind_any a b c cap cp line W hok (slrd_keep h1 fun k hk => hbw.block k hk)
  obtain ⟨b0, o0, aj, cj, rfl, hcell, -, -, hrd⟩ := set_at h1 hget
  have hsl' : ((setNo c line : Nat) : Int) < (c.1.length : Int) := by omega
  have HC : Hid (∀ W, Below w.heap.size w W → W.cell? ⟨b0, o0 + setNo c line, none⟩ = some (.slice aj (rowFor c line).length cj)) := fun W hbw => cell_keep hbw hcell (cell_lt hcell)
  have HS : Hid (∀ W, Calls Tryz.prog 175 #[.agg #[.slice (some ⟨b0, o0, none⟩) c.1.length cap, .slice b c.2.length cp], .int .i64 line] W fun e w' => e = .returned (.int .i64 ((setNo c line : Nat) : Int)) ∧ Below W.heap.size W w') := fun W => by
    have := setOf_any (some ⟨b0, o0, none⟩) c.1.length cap (.slice b c.2.length cp) _ _ _ rfl line W hp hl0
    rwa [← hset] at this
  have HFW : Hid (∀ W, Below w.heap.size w W → Calls Tryz.prog 176 #[.slice aj (rowFor c line).length cj, .int .i64 (-1)] W fun e w' => e = .returned (.int .i64 (firstI (rowFor c line) (-1))) ∧ Below W.heap.size W w') := fun W hbw =>
    firstWith_any aj _ cj (-1) W (slrd_keep hrd fun k hk => hbw.block k hk) hne (by omega)
  have X := heap_on (.cells #[.int .i64 0, .int .i64 0] 143) (heap_at w (.cells #[.slice (some ⟨b0, o0, none⟩) c.1.length cap, .slice b c.2.length cp] 27))
  have Y := heap_at (w.alloc (.cells #[.slice (some ⟨b0, o0, none⟩) c.1.length cap, .slice b c.2.length cp] 27)) (.cells #[.int .i64 0, .int .i64 0] 143)
  rw [alloc_len] at Y
  have B := below_step (box_below w (.cells #[.slice (some ⟨b0, o0, none⟩) c.1.length cap, .slice b c.2.length cp] 27)) (box_below _ (.cells #[.int .i64 0, .int .i64 0] 143))
  cases hq : (findP c line).2.2
  · have HP : Hid (roomP c line = (((setNo c line : Nat) : Int), firstI (rowFor c line) (-1), firstI (rowFor c line) (-1) != -1)) := by unfold Hid roomP; rw [hq, hset]; rfl
    rw [hq] at HFD
    clear hcell hrd h1 hget hne hr4 hset hok
    generalize (findP c line).1 = f1 at HFD
    generalize (findP c line).2.1 = f2 at HFD
    generalize setNo c line = sn at HP HS hsl hsl' HC
    generalize (rowFor c line).length = rn at HFW HC
    generalize firstI (rowFor c line) (-1) = fi at HP HFW
    go_enter Tryz.func163, Tryz.ntmps163
    go_wp2_with fail
    generalize (w.alloc (.cells #[.slice (some ⟨b0, o0, none⟩) c.1.length cap, .slice b c.2.length cp] 27)).alloc (.cells #[.int .i64 0, .int .i64 0] 143) = W0 at X Y B ⊢
    refine (HFD.out _ B).mono ?_
    rintro e w1 ⟨rfl, b1⟩
    replace B := below_step B b1
    replace X := row_keep b1 X
    replace Y := row_keep b1 Y
    have ba := box_below w1 (.cells #[.int .i64 f1, .int .i64 f2] 143)
    replace B := below_step B ba
    replace X := row_keep ba X
    replace Y := row_keep ba Y
    obtain ⟨x0, x1⟩ := cells_two X
    clear b1 ba hq HFD
    go_wp2_with fail
    generalize w1.alloc (.cells #[.int .i64 f1, .int .i64 f2] 143) = w2 at X Y B x0 x1 ⊢
    refine (HS.out _).mono ?_
    rintro e w3 ⟨rfl, b1⟩
    replace B := below_step B b1
    replace X := row_keep b1 X
    replace Y := row_keep b1 Y
    clear x0 x1 b1
    obtain ⟨x0, x1⟩ := cells_two X
    have g0 := HC.out _ B
    go_wp2_with fail
    refine (HFW.out _ B).mono ?_
    rintro e w4 ⟨rfl, b1⟩
    replace B := below_step B b1
    replace Y := row_keep b1 Y
    obtain ⟨y0, y1⟩ := cells_two Y
    obtain ⟨f0, f1'⟩ : w4.frozen? ⟨w.heap.size + 1, 0, none⟩ = false ∧ w4.frozen? ⟨w.heap.size + 1, 1, none⟩ = false := ⟨frozen_of_row w4 _ 0 _ _ Y, frozen_of_row w4 _ 1 _ _ Y⟩
    have HY : Hid _ := Y
    clear b1 g0 x0 x1 X Y HS HFW HC
    go_wp2
    have Z := putTwo (a := .int .i64 (sn : Int)) (b := .int .i64 fi) HY.out
    obtain ⟨r0, r1⟩ := cells_two Z
    refine bodyPost_ret (v := .tuple #[.agg #[.int .i64 (sn : Int), .int .i64 fi], .bool (fi != -1)]) (by simp [results, Tryz.results163, go_sem, r0, r1]) rfl ⟨by rw [HP.out], (B.setCell (p := ⟨w.heap.size + 1, 0, none⟩) (by simp) _).setCell (p := ⟨w.heap.size + 1, 1, none⟩) (by simp) _⟩
  · have HP : Hid (roomP c line = ((findP c line).1, (findP c line).2.1, true)) := by unfold Hid roomP; rw [hq, if_pos rfl, ← hq]
    rw [hq] at HFD
    clear hcell hrd h1 hget hne hr4 hset hok HS HFW HC hsl hsl'
    generalize (findP c line).1 = f1 at HFD HP
    generalize (findP c line).2.1 = f2 at HFD HP
    go_enter Tryz.func163, Tryz.ntmps163
    go_wp2_with fail
    generalize (w.alloc (.cells #[.slice (some ⟨b0, o0, none⟩) c.1.length cap, .slice b c.2.length cp] 27)).alloc (.cells #[.int .i64 0, .int .i64 0] 143) = W0 at X Y B ⊢
    refine (HFD.out _ B).mono ?_
    rintro e w1 ⟨rfl, b1⟩
    replace B := below_step B b1
    replace Y := row_keep b1 Y
    have l1 := (Array.getElem?_eq_some_iff.1 Y).1
    obtain ⟨y0, y1⟩ := cells_two Y
    obtain ⟨f0, f1'⟩ : w1.frozen? ⟨w.heap.size + 1, 0, none⟩ = false ∧ w1.frozen? ⟨w.heap.size + 1, 1, none⟩ = false := ⟨frozen_of_row w1 _ 0 _ _ Y, frozen_of_row w1 _ 1 _ _ Y⟩
    have HY : Hid _ := Y
    clear b1 X Y hq HFD
    go_wp2
    have Z := heap_on (.cells #[.int .i64 f1, .int .i64 f2] 143) (putTwo (a := .int .i64 f1) (b := .int .i64 f2) HY.out)
    obtain ⟨r0, r1⟩ := cells_two Z
    refine bodyPost_ret (v := .tuple #[.agg #[.int .i64 f1, .int .i64 f2], .bool true]) (by simp [results, Tryz.results163, go_sem, r0, r1]) rfl ⟨by rw [HP.out], ((B.setCell (p := ⟨w.heap.size + 1, 0, none⟩) (by simp) _).setCell (p := ⟨w.heap.size + 1, 1, none⟩) (by simp) _).alloc (by simp; omega) _⟩
end Go.Proofs.YthbclkpmgcfdnaaGreatDoor
/- What must go, of the program: against stores as plain lists. Conditions: lists that read as told, of lengths that a machine can hold. -/
namespace Go.Proofs.YthbclkpmgcfdnaaGreatDoor
open Go.ChangeShapes Go.WideShapes Go.ChangeAt Go.RowKit Go.Shelf
set_option linter.unusedVariables false
theorem idx_congr {p q : WayD → Bool} : ∀ {row : List WayD}, (∀ u ∈ row, p u = q u) → row.findIdx? p = row.findIdx? q
  | [], _ => rfl
  | u :: row, h => by
    simp only [List.findIdx?_cons, h u (by simp), idx_congr (row := row) fun x hx => h x (by simp [hx])]
def idxI (o : Option Nat) : Int := match o with
  | some i => (i : Int)
  | none => -1
theorem firstI_eq (row : List WayD) (line : Int) : firstI row line = idxI (row.findIdx? fun u => u.1 == line) := by
  unfold firstI idxI
  cases row.findIdx? fun u => u.1 == line <;> rfl
theorem idxI_neg (o : Option Nat) : (idxI o != -1) = o.isSome := by
  cases o with
  | none => rfl
  | some i =>
    have : ((i : Int) != -1) = true := by simp
    exact this
theorem at_first {c : CacheD} {line : Int} (h0 : 0 ≤ line) : firstI (rowFor c line) line = idxI (atC c line) := by
  rw [firstI_eq]
  unfold atC
  rw [if_neg (by omega)]
theorem room_first {c : CacheD} (h : OkC isL treeB c) (line : Int) : firstI (rowFor c line) (-1) = idxI (roomC c line) := by
  rw [firstI_eq]
  unfold roomC
  congr 1
  refine idx_congr fun u hu => ?_
  obtain ⟨h1, h2, m, hm, h3⟩ := h
  obtain ⟨i, hi⟩ := List.mem_iff_getElem?.1 hu
  rcases (h3 _ _ (rowFor_get (line := line) h1)).2.2.1 i u hi with hc | ⟨hf, _⟩
  · rw [hc, clear_eq hc]
    rfl
  · rw [full_not_clear hf]
    have := (full_line hf).1
    simp
    omega
theorem at_out {c : CacheD} (h : OkC isL treeB c) {line : Int} (hl : betw line 0 15 = false) : atC c line = none := by
  cases ha : atC c line with
  | none => rfl
  | some i =>
    obtain ⟨h0, u, hu, he⟩ := at_some ha
    obtain ⟨h1, h2, m, hm, h3⟩ := h
    rcases (h3 _ _ (rowFor_get (line := line) h1)).2.2.1 i u hu with hc | ⟨hf, _⟩
    · rw [clear_eq hc] at he
      simp [emptyW] at he
      omega
    · have := full_line hf
      simp [betw] at hl
      omega
theorem findP_eq {c : CacheD} (h : OkC isL treeB c) {line : Int} : findP c line = if betw line 0 15 then (((setNo c line : Nat) : Int), idxI (atC c line), (atC c line).isSome) else (0, 0, false) := by
  unfold findP
  split
  · rename_i hb
    have h0 : 0 ≤ line := by simp [betw] at hb; omega
    rw [at_first h0, idxI_neg, setNo_cast h.1]
  · rfl
theorem roomP_eq {c : CacheD} (h : OkC isL treeB c) {line : Int} (hb : betw line 0 15 = true) : roomP c line = (((setNo c line : Nat) : Int), idxI (putNo c line), (putNo c line).isSome) := by
  unfold roomP
  rw [findP_eq h, if_pos hb]
  unfold putNo
  cases ha : atC c line with
  | some i => rfl
  | none =>
    show (line % (c.1.length : Int), firstI (rowFor c line) (-1), firstI (rowFor c line) (-1) != -1) = _
    rw [room_first h, idxI_neg, setNo_cast h.1]
/-- The ways of a right store are as many in every set; its tree is right. -/
theorem ok_tree {c : CacheD} (h : OkC isL treeB c) (line : Int) : (rowFor c line).length = waysN c ∧ c.2[setNo c line]? = some (treeFor c line) ∧ treeB (treeFor c line) (waysN c) = true ∧ (c.1.getD 0 []).length = waysN c ∧ c.1[0]? = some (c.1.getD 0 []) ∧ 0 < c.1.length ∧ c.2.length = c.1.length := by
  obtain ⟨h1, h2, m, hm, h3⟩ := h
  have hpos := pow3_pos h1
  have e0 : c.1[0]? = some (c.1.getD 0 []) := by rw [List.getD_eq_getElem?_getD, List.getElem?_eq_getElem hpos]; rfl
  have hw : waysN c = m := (h3 0 _ e0).1
  obtain ⟨a1, a2, a3, a4⟩ := tree_get (line := line) h1 h2 h3
  rw [hw]
  exact ⟨a1, a2, a3, (h3 0 _ e0).1, e0, hpos, h2⟩
theorem go_in {t n : Int} (h : treeB t n = true) : 0 ≤ goI t n ∧ goI t n < n ∧ viI t n = goI t n := by
  refine ⟨?_, ?_, by unfold viI; rw [if_pos h]⟩
  all_goals
    simp only [treeB, decide_eq_true_eq] at h
    unfold goI
    rcases h with ⟨rfl, rfl⟩ | ⟨rfl, h1, h2⟩ | ⟨rfl, h1, h2⟩
    · simp
    · simp
      omega
    · have ht : t = 0 ∨ t = 1 ∨ t = 2 ∨ t = 3 ∨ t = 4 ∨ t = 5 ∨ t = 6 ∨ t = 7 := by omega
      rcases ht with rfl | rfl | rfl | rfl | rfl | rfl | rfl | rfl <;> decide
/-- What the store answers for 'Leaves'. -/
noncomputable def leavesI (c : CacheD) (line : Int) : Int := leavesC isL treeB goI c line
theorem leaves_no {c : CacheD} {line : Int} (h : (okB isL treeB c && betw line 0 15) = false) : leavesI c line = -1 := by
  unfold leavesI leavesC
  rw [h]
  rfl
theorem leaves_room {c : CacheD} {line : Int} {i : Nat} (hp : putNo c line = some i) : leavesI c line = -1 := by
  unfold leavesI leavesC
  rw [hp]
  split <;> rfl
theorem leaves_go {c : CacheD} {line : Int} (h : OkC isL treeB c) (hb : betw line 0 15 = true) (hp : putNo c line = none) {u : WayD} (hu : (rowFor c line)[(goI (treeFor c line) (waysN c)).toNat]? = some u) : leavesI c line = u.1 := by
  unfold leavesI leavesC
  rw [okB_iff.2 h, hb, hp, (ok_tree h line).1]
  simp only [Bool.and_self, if_true]
  rw [getD_of hu]

set_option maxHeartbeats 2000000 in
theorem implLeaves_any (a b : Option Addr) (c : CacheD) (cap cp : Nat) (line : Int) (w : World) (h1 : SlRd waysR w a c.1) (h2 : SlRd intR w b c.2) (m1 : c.1.length ≤ maxLen) (m2 : c.2.length ≤ maxLen) (m3 : ∀ row ∈ c.1, row.length ≤ maxLen) :
    Calls Tryz.prog 114 #[.agg #[.slice a c.1.length cap, .slice b c.2.length cp], .int .i64 line] w fun e w' => e = .returned (.int .i64 (leavesI c line)) ∧ Below w.heap.size w w' := by
  have X := heap_at w (.cells #[.slice a c.1.length cap, .slice b c.2.length cp] 27)
  have B := box_below w (.cells #[.slice a c.1.length cap, .slice b c.2.length cp] 27)
  have HOK : Hid (∀ W, Below w.heap.size w W → Calls Tryz.prog 60 #[.agg #[.slice a c.1.length cap, .slice b c.2.length cp]] W fun e w' => e = .returned (.bool (okB isL treeB c)) ∧ Below W.heap.size W w') := fun W hb =>
    implCacheOk_any a b c cap cp W (slrd_keep h1 fun k hk => hb.block k hk) (slrd_keep h2 fun k hk => hb.block k hk) m1 m2 m3
  cases hok : okB isL treeB c
  · have HL : Hid (leavesI c line = -1) := leaves_no (by rw [hok]; rfl)
    rw [hok] at HOK
    clear h1 h2 m1 m2 m3
    go_enter Tryz.func114, Tryz.ntmps114
    go_wp2_with fail
    refine (HOK.out _ B).mono ?_
    rintro e w1 ⟨rfl, b1⟩
    replace B := below_step B b1
    clear b1 X HOK
    go_wp2
    go_ret
    exact ⟨ret_int HL.out.symm, B⟩
  · have hokc := okB_iff.1 hok
    rw [hok] at HOK
    cases hb : betw line 0 15
    · have HL : Hid (leavesI c line = -1) := leaves_no (by rw [hb, Bool.and_false])
      clear h1 h2 m1 m2 m3 hokc
      go_enter Tryz.func114, Tryz.ntmps114
      go_wp2_with fail
      refine (HOK.out _ B).mono ?_
      rintro e w1 ⟨rfl, b1⟩
      replace B := below_step B b1
      clear b1 X HOK
      go_wp2_with (go_at_call 76; refine (lineNumberOk_any _ _).mono ?_; rintro e w' ⟨rfl, rfl⟩; rw [hb])
      go_ret
      exact ⟨ret_int HL.out.symm, B⟩
    · have hl0 : 0 ≤ line := by simp [betw] at hb; omega
      have HRM : Hid (∀ W, Below w.heap.size w W → Calls Tryz.prog 163 #[.agg #[.slice a c.1.length cap, .slice b c.2.length cp], .int .i64 line] W fun e w' => e = .returned (.tuple #[.agg #[.int .i64 ((setNo c line : Nat) : Int), .int .i64 (idxI (putNo c line))], .bool (putNo c line).isSome]) ∧ Below W.heap.size W w') := fun W hbw => by
        have := implRoom_any a b c cap cp line W hokc (slrd_keep h1 fun k hk => hbw.block k hk) hl0
        rwa [roomP_eq hokc hb] at this
      cases hp : putNo c line with
      | some i =>
        have HL : Hid (leavesI c line = -1) := leaves_room hp
        rw [hp] at HRM
        clear h1 h2 m1 m2 m3 hokc
        generalize idxI (some i) = f2 at HRM
        generalize setNo c line = f1 at HRM
        go_enter Tryz.func114, Tryz.ntmps114
        go_wp2_with fail
        refine (HOK.out _ B).mono ?_
        rintro e w1 ⟨rfl, b1⟩
        replace B := below_step B b1
        replace X := row_keep b1 X
        obtain ⟨x0, x1⟩ := cells_two X
        clear b1 HOK
        go_wp2_with (go_at_call 76; refine (lineNumberOk_any _ _).mono ?_; rintro e w' ⟨rfl, rfl⟩; rw [hb])
        refine (HRM.out _ B).mono ?_
        rintro e w2 ⟨rfl, b1⟩
        replace B := below_step B b1
        clear b1 HRM x0 x1 X
        go_wp2
        go_ret
        exact ⟨ret_int HL.out.symm, B.alloc B.size _⟩
      | none =>
        obtain ⟨t1, t2, t3, t4, t5, t6, t7⟩ := ok_tree hokc line
        obtain ⟨g1, g2, g3⟩ := go_in t3
        obtain ⟨g, hg⟩ : ∃ g : Nat, goI (treeFor c line) (waysN c) = (g : Int) := ⟨(goI (treeFor c line) (waysN c)).toNat, by omega⟩
        obtain ⟨u, hu⟩ : ∃ u, (rowFor c line)[g]? = some u := ⟨_, List.getElem?_eq_getElem (by omega)⟩
        have HL : Hid (leavesI c line = u.1) := leaves_go hokc hb hp (by rw [hg]; exact hu)
        have hsl := setNo_lt (line := line) hokc.1
        obtain ⟨b0, o0, am, cm, rfl, k1, -, -, -⟩ := set_at h1 t5
        obtain ⟨_, _, aj, cj, e1, k2, -, -, hrd⟩ := set_at h1 (rowFor_get (line := line) hokc.1)
        cases e1
        obtain ⟨bt, ot, rfl, k3⟩ := int_at h2 t2
        obtain ⟨bj, oj, cs, rfl, hrdu, hcell⟩ := slrd_at hrd hu
        obtain ⟨ad, cpw, rfl, -, -, -, -, -⟩ := way_rd hrdu
        have k4 := hcell 0 _ rfl
        rw [show oj + (g * wayR.size + 0) = oj + g * 3 from rfl] at k4
        have hgl : (g : Int) < ((rowFor c line).length : Int) := by omega
        have hsl1 : ((setNo c line : Nat) : Int) < (c.1.length : Int) := by omega
        have hsl2 : ((setNo c line : Nat) : Int) < (c.2.length : Int) := by omega
        have HV : Hid (∀ W, Calls Tryz.prog 164 #[.int .i64 (treeFor c line), .int .i64 (waysN c : Nat)] W fun e w' => e = .returned (.int .i64 (g : Int)) ∧ w' = W) := fun W => by
          have := implVictim_any (treeFor c line) (waysN c) W
          rwa [g3, hg] at this
        rw [t4] at k1
        have KC : Hid (∀ W, Below w.heap.size w W → W.cell? ⟨b0, o0, none⟩ = some (.slice am (waysN c) cm) ∧ W.cell? ⟨b0, o0 + setNo c line, none⟩ = some (.slice (some ⟨bj, oj, none⟩) (rowFor c line).length cj) ∧ W.cell? ⟨bt, ot + setNo c line, none⟩ = some (.int .i64 (treeFor c line)) ∧ W.cell? ⟨bj, oj + g * 3, none⟩ = some (.int .i64 u.1)) :=
          fun W hbw => ⟨cell_keep hbw k1 (cell_lt k1), cell_keep hbw k2 (cell_lt k2), cell_keep hbw k3 (cell_lt k3), cell_keep hbw k4 (cell_lt k4)⟩
        rw [hp] at HRM
        clear h1 h2 m1 m2 m3 hokc t1 t2 t3 t4 t5 t7 g1 g2 g3 hg hu k1 k2 k3 k4 hcell hrdu hrd
        generalize treeFor c line = tr at HV KC
        generalize waysN c = mm at HV KC
        generalize setNo c line = sn at HRM KC hsl hsl1 hsl2
        generalize (rowFor c line).length = rn at KC hgl
        generalize idxI none = f2 at HRM
        obtain ⟨ul, us, ud⟩ := u
        go_enter Tryz.func114, Tryz.ntmps114
        go_wp2_with fail
        refine (HOK.out _ B).mono ?_
        rintro e w1 ⟨rfl, b1⟩
        replace B := below_step B b1
        replace X := row_keep b1 X
        obtain ⟨x0, x1⟩ := cells_two X
        clear b1 HOK
        go_wp2_with (go_at_call 76; refine (lineNumberOk_any _ _).mono ?_; rintro e w' ⟨rfl, rfl⟩; rw [hb])
        refine (HRM.out _ B).mono ?_
        rintro e w4 ⟨rfl, b1⟩
        replace B := below_step B b1
        replace X := row_keep b1 X
        have Z := heap_at w4 (.cells #[.int .i64 (sn : Int), .int .i64 f2] 143)
        have bz := box_below w4 (.cells #[.int .i64 (sn : Int), .int .i64 f2] 143)
        replace B := below_step B bz
        replace X := row_keep bz X
        clear b1 bz HRM x0 x1 hp
        go_wp2_with fail
        generalize w4.alloc (.cells #[.int .i64 (sn : Int), .int .i64 f2] 143) = w5 at X Z B ⊢
        have n0 : ∀ n : Cls (fun wx => Below w5.heap.size w5 wx), n.w.cell? ⟨w.heap.size, 0, none⟩ = some (.slice (some ⟨b0, o0, none⟩) c.1.length cap) := fun n => (cells_two (row_keep n.h X)).1
        have n1 : ∀ n : Cls (fun wx => Below w5.heap.size w5 wx), n.w.cell? ⟨w.heap.size, 1, none⟩ = some (.slice (some ⟨bt, ot, none⟩) c.2.length cp) := fun n => (cells_two (row_keep n.h X)).2
        have n2 : ∀ n : Cls (fun wx => Below w5.heap.size w5 wx), n.w.cell? ⟨w4.heap.size, 0, none⟩ = some (.int .i64 (sn : Int)) := fun n => (cells_two (row_keep n.h Z)).1
        have q0 : Hid (∀ n : Cls (fun wx => Below w5.heap.size w5 wx), n.w.cell? ⟨b0, o0, none⟩ = some (.slice am mm cm)) := fun n => (KC.out _ (below_step B n.h)).1
        have q1 : ∀ n : Cls (fun wx => Below w5.heap.size w5 wx), n.w.cell? ⟨bt, ot + sn, none⟩ = some (.int .i64 tr) := fun n => (KC.out _ (below_step B n.h)).2.2.1
        refine region_class (fun wx => Below w5.heap.size w5 wx) (by kernel_rfl) (by kernel_rfl) ((Below.refl _ w5).drew) ?_
        intro hne
        repeat (quiet_step (first | (go_at_call 165; exact calls_class (ways_any b0 o0 c.1.length cap _ _ _ _ rfl am mm cm _ t6 (q0.out _)) (fun w' hc bb => below_step hc bb)) | (go_at_call 164; exact calls_class_same (HV.out _))))
        refine wpQuiet_nil ?_
        intro wx b2
        replace B := below_step B b2
        replace X := row_keep b2 X
        replace Z := row_keep b2 Z
        clear n0 n1 n2 q0 q1 hne b2
        obtain ⟨x0, x1⟩ := cells_two X
        obtain ⟨z0, z1⟩ := cells_two Z
        obtain ⟨p0, p1, p2, p3⟩ := KC.out _ B
        go_wp2
        go_ret
        exact ⟨ret_int HL.out.symm, B⟩
end Go.Proofs.YthbclkpmgcfdnaaGreatDoor
/- Where a line is, of the specification; what must go. Condition: a store that is right. -/
namespace Go.Proofs.YthbclkpmgcfdnaaGreatDoor
open Go.ChangeShapes Go.WideShapes Go.ChangeAt Go.RowKit Go.Shelf
set_option linter.unusedVariables false
theorem idx_first {p : WayD → Bool} {row : List WayD} {k : Nat} {u : WayD} (hu : row[k]? = some u) (hp : p u = true) (hno : ∀ j v, j < k → row[j]? = some v → p v = false) : row.findIdx? p = some k := by
  have hk := (List.getElem?_eq_some_iff.1 hu).1
  rw [List.findIdx?_eq_some_iff_getElem]
  refine ⟨hk, ?_, fun j hj => ?_⟩
  · rw [List.getElem?_eq_getElem hk] at hu
    cases hu
    exact hp
  · simpa using hno j _ hj (List.getElem?_eq_getElem (by omega))
theorem idx_never {p : WayD → Bool} {row : List WayD} (hno : ∀ (j : Nat) (v : WayD), row[j]? = some v → p v = false) : row.findIdx? p = none := by
  rw [List.findIdx?_eq_none_iff]
  intro u hu
  obtain ⟨j, hj⟩ := List.mem_iff_getElem?.1 hu
  simpa using hno j u hj

set_option maxHeartbeats 1000000 in
theorem specAt_any (a b : Option Addr) (c : CacheD) (cap cp : Nat) (line : Int) (w : World) (hok : OkC isL treeB c) (h1 : SlRd waysR w a c.1) :
    Calls Tryz.prog 67 #[.agg #[.slice a c.1.length cap, .slice b c.2.length cp], .int .i64 line] w fun e w' => e = .returned (.int .i64 (idxI (atC c line))) ∧ Below w.heap.size w w' := by
  have X := heap_at w (.cells #[.slice a c.1.length cap, .slice b c.2.length cp] 27)
  have B := box_below w (.cells #[.slice a c.1.length cap, .slice b c.2.length cp] 27)
  by_cases hneg : line < 0
  · have HR : Hid (idxI (atC c line) = -1) := by unfold Hid atC; rw [if_pos hneg]; rfl
    go_enter Tryz.func67, Tryz.ntmps67
    go_wp2
    go_ret
    exact ⟨ret_int HR.out.symm, B⟩
  · have hl0 : 0 ≤ line := by omega
    have HA : Hid (atC c line = (rowFor c line).findIdx? fun u => u.1 == line) := by unfold Hid atC; rw [if_neg hneg]
    obtain ⟨hp, hget, hne, hr4, hset, hsl⟩ := ok_row hok line
    obtain ⟨b0, o0, aj, cj, rfl, hcell, -, -, hrd⟩ := set_at h1 hget
    have hz : (c.1.length : Int) ≠ 0 := by omega
    have hsl' : ((setNo c line : Nat) : Int) < (c.1.length : Int) := by omega
    have hset' : line % (c.1.length : Int) = ((setNo c line : Nat) : Int) := hset.symm
    have g0 := cell_keep B hcell (cell_lt hcell)
    have HRD : Hid (SlRd wayR w aj (rowFor c line)) := hrd
    clear hcell hrd h1 hget hset hok hne
    obtain ⟨x0, x1⟩ := cells_two X
    generalize setNo c line = sn at hsl hsl' hset' g0
    generalize rowFor c line = row at hr4 g0 HRD HA
    go_enter Tryz.func67, Tryz.ntmps67
    go_wp2_with fail
    generalize w.alloc (.cells #[.slice (some ⟨b0, o0, none⟩) c.1.length cap, .slice b c.2.length cp] 27) = W0 at X B x0 x1 g0 ⊢
    go_quiet (fail)
    have B2 := bl_drewN B nq
    clear x0 x1 g0 X B
    go_wp2
    go_loop [6] (fun i => ∃ k : Nat, k ≤ row.length ∧ i = .int .i64 k ∧ ∀ j v, j < k → row[j]? = some v → (v.1 == line) = false) (fun i => row.length - (intOf i).toNat)
    case atStart => exact ⟨0, Nat.zero_le _, rfl, fun j v hj => by omega⟩
    case round =>
      obtain ⟨k, hk, rfl, hno⟩ := hrel
      by_cases hlt : k < row.length
      · have hlt' : (k : Int) < (row.length : Int) := by omega
        obtain ⟨u, hu⟩ : ∃ u, row[k]? = some u := ⟨_, List.getElem?_eq_getElem hlt⟩
        obtain ⟨bk, ok, cs, rfl, hrd, hcell⟩ := slrd_at (slrd_keep HRD.out fun k hk => B2.block k hk) hu
        obtain ⟨ad, cpw, rfl, -, -, -, -, -⟩ := way_rd hrd
        have y0 := hcell 0 _ rfl
        rw [show ok + (k * wayR.size + 0) = ok + k * 3 from rfl] at y0
        have HU : Hid (row[k]? = some u) := hu
        obtain ⟨l, st, d⟩ := u
        simp only at y0
        clear hcell hrd hu
        by_cases hl : l = line
        · have HRES : Hid (idxI (atC c line) = k) := by unfold Hid; rw [HA.out, idx_first HU.out (by simp [hl]) hno]; rfl
          subst hl
          go_wp2
          go_ret
          exact ⟨ret_int HRES.out.symm, B2⟩
        · have hl' : (l == line) = false := by simpa using hl
          go_wp2
          go_round
          case rel =>
            refine ⟨k + 1, by omega, by go_num, fun j v hj hv => ?_⟩
            by_cases he : j < k
            · exact hno j v he hv
            · have : j = k := by omega
              subst this
              rw [HU.out] at hv
              cases hv
              exact hl'
          case measure => simp [intOf]; omega
      · have HRES : Hid (idxI (atC c line) = -1) := by
          unfold Hid
          rw [HA.out, idx_never fun j v hv => hno j v (by have := (List.getElem?_eq_some_iff.1 hv).1; omega) hv]
          rfl
        have hlt' : ¬ (k : Int) < (row.length : Int) := by omega
        go_wp2
        go_ret
        exact ⟨ret_int HRES.out.symm, B2⟩

set_option maxHeartbeats 2000000 in
theorem specLeaves_in (a b : Option Addr) (c : CacheD) (cap cp : Nat) (line : Int) (w : World) (hok : OkC isL treeB c) (hb : betw line 0 15 = true) (h1 : SlRd waysR w a c.1) (h2 : SlRd intR w b c.2) :
    Calls Tryz.prog 125 #[.agg #[.slice a c.1.length cap, .slice b c.2.length cp], .int .i64 line] w fun e w' => e = .returned (.int .i64 (leavesI c line)) ∧ Below w.heap.size w w' := by
  have X := heap_at w (.cells #[.slice a c.1.length cap, .slice b c.2.length cp] 27)
  have B := box_below w (.cells #[.slice a c.1.length cap, .slice b c.2.length cp] 27)
  have hl0 : 0 ≤ line := by simp [betw] at hb; omega
  have HAT : Hid (∀ W, Below w.heap.size w W → Calls Tryz.prog 67 #[.agg #[.slice a c.1.length cap, .slice b c.2.length cp], .int .i64 line] W fun e w' => e = .returned (.int .i64 (idxI (atC c line))) ∧ Below W.heap.size W w') := fun W hbw => specAt_any a b c cap cp line W hok (slrd_keep h1 fun k hk => hbw.block k hk)
  cases hat : atC c line with
  | some i =>
    have HL : Hid (leavesI c line = -1) := leaves_room (i := i) (by unfold putNo; rw [hat])
    rw [hat] at HAT
    have hi : ¬ ((i : Int) < 0) := by omega
    clear h1 h2 hok
    go_enter Tryz.func125, Tryz.ntmps125
    go_wp2_with fail
    refine (HAT.out _ B).mono ?_
    rintro e w1 ⟨rfl, b1⟩
    replace B := below_step B b1
    clear b1 X HAT
    rw [show idxI (some i) = (i : Int) from rfl]
    go_wp2
    go_ret
    exact ⟨ret_int HL.out.symm, B⟩
  | none =>
    have HPN : Hid (putNo c line = roomC c line) := by unfold Hid putNo; rw [hat]
    rw [hat] at HAT
    obtain ⟨t1, t2, t3, t4, t5, t6, t7⟩ := ok_tree hok line
    obtain ⟨g1, g2, g3⟩ := go_in t3
    obtain ⟨g, hg⟩ : ∃ g : Nat, goI (treeFor c line) (waysN c) = (g : Int) := ⟨(goI (treeFor c line) (waysN c)).toNat, by omega⟩
    obtain ⟨u, hu⟩ : ∃ u, (rowFor c line)[g]? = some u := ⟨_, List.getElem?_eq_getElem (by omega)⟩
    have HLG : Hid (roomC c line = none → leavesI c line = u.1) := fun h => leaves_go hok hb (by rw [HPN.out]; exact h) (by rw [hg]; exact hu)
    have HLR : Hid (∀ i, roomC c line = some i → leavesI c line = -1) := fun i h => leaves_room (i := i) (by rw [HPN.out]; exact h)
    have hsl := setNo_lt (line := line) hok.1
    have hset : line % (c.1.length : Int) = ((setNo c line : Nat) : Int) := (setNo_cast hok.1).symm
    obtain ⟨b0, o0, aj, cj, rfl, k2, -, -, hrd⟩ := set_at h1 (rowFor_get (line := line) hok.1)
    obtain ⟨bt, ot, rfl, k3⟩ := int_at h2 t2
    have hsl1 : ((setNo c line : Nat) : Int) < (c.1.length : Int) := by omega
    have hsl2 : ((setNo c line : Nat) : Int) < (c.2.length : Int) := by omega
    have hgl : (g : Int) < ((rowFor c line).length : Int) := by omega
    have hrl : (rowFor c line).length ≤ 4 := (ok_row hok line).2.2.2.1
    have HV : Hid (∀ W, Calls Tryz.prog 173 #[.int .i64 (treeFor c line), .int .i64 ((rowFor c line).length : Nat)] W fun e w' => e = .returned (.int .i64 (g : Int)) ∧ w' = W) := fun W => by
      have := l5Victim_in (treeFor c line) (waysN c) W t3
      rw [hg] at this
      rw [t1]
      exact this
    have KC : Hid (∀ W, Below w.heap.size w W → W.cell? ⟨b0, o0 + setNo c line, none⟩ = some (.slice aj (rowFor c line).length cj) ∧ W.cell? ⟨bt, ot + setNo c line, none⟩ = some (.int .i64 (treeFor c line))) := fun W hbw => ⟨cell_keep hbw k2 (cell_lt k2), cell_keep hbw k3 (cell_lt k3)⟩
    have HRD : Hid (SlRd wayR w aj (rowFor c line)) := hrd
    have HRC : Hid (roomC c line = (rowFor c line).findIdx? clearB) := rfl
    have HU : Hid ((rowFor c line)[g]? = some u) := hu
    have hz : (c.1.length : Int) ≠ 0 := by omega
    have ht3 : Int.tmod line (c.1.length : Int) = ((setNo c line : Nat) : Int) := by rw [Int.tmod_eq_emod_of_nonneg hl0, hset]
    clear h1 h2 hok t1 t2 t3 t4 t5 t7 g1 g2 g3 hg hu k2 k3 hrd HPN
    generalize treeFor c line = tr at HV KC
    generalize setNo c line = sn at KC hsl hsl1 hsl2 hset ht3
    generalize rowFor c line = row at KC hgl HV HRD HRC HU hrl
    obtain ⟨ul, us, ud⟩ := u
    go_enter Tryz.func125, Tryz.ntmps125
    go_wp2_with fail
    refine (HAT.out _ B).mono ?_
    rintro e w1 ⟨rfl, b1⟩
    replace B := below_step B b1
    replace X := row_keep b1 X
    clear b1 HAT
    rw [show idxI none = (-1 : Int) from rfl]
    obtain ⟨x0, x1⟩ := cells_two X
    go_wp2
    go_loopw [6] (fun i wr => ∃ k : Nat, k ≤ row.length ∧ i = .int .i64 k ∧ (∀ j v, j < k → row[j]? = some v → clearB v = false) ∧ Below w.heap.size w wr ∧ wr.heap[w.heap.size]? = some (.cells #[.slice (some ⟨b0, o0, none⟩) c.1.length cap, .slice (some ⟨bt, ot, none⟩) c.2.length cp] 27 (0, 0))) (fun i _ => row.length - (intOf i).toNat)
    case atStart => exact ⟨0, Nat.zero_le _, rfl, fun j v hj => by omega, B, X⟩
    case round =>
      clear x0 x1 X B
      obtain ⟨k, hk, rfl, hno, B, X⟩ := hrel
      obtain ⟨x0, x1⟩ := cells_two X
      obtain ⟨q0, q1⟩ := KC.out _ B
      by_cases hlt : k < row.length
      · have hlt' : (k : Int) < (row.length : Int) := by omega
        obtain ⟨v, hv⟩ : ∃ v, row[k]? = some v := ⟨_, List.getElem?_eq_getElem hlt⟩
        obtain ⟨bk, ok, cs, rfl, hrd, hcell⟩ := slrd_at (slrd_keep HRD.out fun k hk => B.block k hk) hv
        obtain ⟨ad, cpw, rfl, -, -, hd1, hd2, -⟩ := way_rd hrd
        have y0 := hcell 0 _ rfl
        have y1 := hcell 1 _ rfl
        have y2 := hcell 2 _ rfl
        rw [show ok + (k * wayR.size + 0) = ok + k * 3 from rfl] at y0
        rw [show ok + (k * wayR.size + 1) = ok + k * 3 + 1 from rfl] at y1
        rw [show ok + (k * wayR.size + 2) = ok + k * 3 + 2 from rfl] at y2
        have HVV : Hid (row[k]? = some v) := hv
        obtain ⟨l, st, d⟩ := v
        simp only at y0 y1 y2 hd1
        have hd4 : d.length ≤ maxLen := Nat.le_trans hd1 hd2
        clear hcell hrd hv hd1 hd2
        have HE := l6Clear_any l st ad d.length cpw wr hd4
        rw [clr_eq (l, st, d)] at HE
        cases hcl : clearB (l, st, d)
        · rw [hcl] at HE
          go_wp2_with fail
          refine HE.mono ?_
          rintro e w2 ⟨rfl, b2⟩
          replace B := below_step B b2
          replace X := row_keep b2 X
          clear b2 HE x0 x1 y0 y1 y2 q0 q1
          go_wp2
          go_roundw
          case rel =>
            refine ⟨k + 1, by omega, by go_num, fun j v hj hv => ?_, B, X⟩
            by_cases he : j < k
            · exact hno j v he hv
            · have : j = k := by omega
              subst this
              rw [HVV.out] at hv
              cases hv
              exact hcl
          case measure => simp [intOf]; omega
        · have HRES : Hid (leavesI c line = -1) := HLR.out k (by rw [HRC.out]; exact idx_first HVV.out hcl hno)
          rw [hcl] at HE
          go_wp2_with fail
          refine HE.mono ?_
          rintro e w2 ⟨rfl, b2⟩
          replace B := below_step B b2
          clear b2 HE x0 x1 y0 y1 y2 q0 q1 X
          go_wp2
          go_ret
          exact ⟨ret_int HRES.out.symm, B⟩
      · have HRES : Hid (leavesI c line = ul) := HLG.out (by rw [HRC.out]; exact idx_never fun j v hv => hno j v (by have := (List.getElem?_eq_some_iff.1 hv).1; omega) hv)
        have hlt' : ¬ (k : Int) < (row.length : Int) := by omega
        obtain ⟨bk, ok, cs, rfl, hrd, hcell⟩ := slrd_at (slrd_keep HRD.out fun k hk => B.block k hk) HU.out
        obtain ⟨ad, cpw, rfl, -, -, -, -, -⟩ := way_rd hrd
        have y0 := hcell 0 _ rfl
        rw [show ok + (g * wayR.size + 0) = ok + g * 3 from rfl] at y0
        simp only at y0
        clear hcell hrd
        have n0 : ∀ n : Cls (fun wx => Below wr.heap.size wr wx), n.w.cell? ⟨w.heap.size, 0, none⟩ = some (.slice (some ⟨b0, o0, none⟩) c.1.length cap) := fun n => cell_keep n.h x0 (cell_lt x0)
        have n1 : ∀ n : Cls (fun wx => Below wr.heap.size wr wx), n.w.cell? ⟨w.heap.size, 1, none⟩ = some (.slice (some ⟨bt, ot, none⟩) c.2.length cp) := fun n => cell_keep n.h x1 (cell_lt x1)
        have n2 : ∀ n : Cls (fun wx => Below wr.heap.size wr wx), n.w.cell? ⟨b0, o0 + sn, none⟩ = some (.slice (some ⟨bk, ok, none⟩) row.length cj) := fun n => cell_keep n.h q0 (cell_lt q0)
        have n3 : ∀ n : Cls (fun wx => Below wr.heap.size wr wx), n.w.cell? ⟨bt, ot + sn, none⟩ = some (.int .i64 tr) := fun n => cell_keep n.h q1 (cell_lt q1)
        have n4 : ∀ n : Cls (fun wx => Below wr.heap.size wr wx), n.w.cell? ⟨bk, ok + g * 3, none⟩ = some (.int .i64 ul) := fun n => cell_keep n.h y0 (cell_lt y0)
        go_wp2_with fail
        clear x0 x1 q0 q1 y0
        refine region_class (fun wx => Below wr.heap.size wr wx) (by kernel_rfl) (by kernel_rfl) ((Below.refl _ wr).drew) ?_
        intro hne
        repeat (quiet_step ((go_at_call 173; exact calls_class_same (HV.out _))))
        refine wpQuiet_nil ?_
        intro wx b2
        replace B := below_step B b2
        clear n0 n1 n2 n3 n4 hne b2 X
        go_wp2
        go_ret
        exact ⟨ret_int HRES.out.symm, B⟩

end Go.Proofs.YthbclkpmgcfdnaaGreatDoor
