/- Where a line is, or may go, of the program. Condition: a store that is right. -/
import Derived.Test.YtmldilmiihafoaaOkLink
namespace Go.Proofs.Ytmldilmiihafoaa
open Go.ChangeShapes Go.WideShapes Go.ChangeAt Go.RowKit Go.Shelf
set_option linter.unusedVariables false

/-- What the program answers for 'find' and 'roomFor': set, way, and whether. -/
def findP (c : CacheD) (line : Int) : Int × Int × Bool := if betw line 0 15 then (line % (c.1.length : Int), firstI (rowFor c line) line, firstI (rowFor c line) line != -1) else (0, 0, false)
def roomP (c : CacheD) (line : Int) : Int × Int × Bool := if (findP c line).2.2 then findP c line else (line % (c.1.length : Int), firstI (rowFor c line) (-1), firstI (rowFor c line) (-1) != -1)

theorem ok_row {c : CacheD} (h : OkC isL treeB c) (line : Int) : pow3 c.1.length ∧ c.1[setNo c line]? = some (rowFor c line) ∧ rowFor c line ≠ [] ∧ (rowFor c line).length ≤ 4 ∧ ((setNo c line : Nat) : Int) = line % (c.1.length : Int) ∧ setNo c line < c.1.length := by
  obtain ⟨h1, h2, m, hm, h3⟩ := h
  have hg := rowFor_get (line := line) h1
  have hl := (h3 _ _ hg).1
  refine ⟨h1, hg, fun e => ?_, ?_, setNo_cast h1, setNo_lt h1⟩
  · rw [e] at hl
    simp at hl
    have := pow3_pos hm
    omega
  · rcases hm with rfl | rfl | rfl <;> omega

theorem firstI_at {row : List WayD} {line : Int} : firstI row line = -1 ∨ ∃ i : Nat, firstI row line = i ∧ i < row.length := by
  unfold firstI
  cases h : row.findIdx? fun u => u.1 == line with
  | none => exact .inl rfl
  | some i => exact .inr ⟨i, rfl, (List.findIdx?_eq_some_iff_getElem.1 h).1⟩

theorem putTwo {w : World} {g : Nat} {x y a b : Value} {t : TypeId} (h : w.heap[g]? = some (.cells #[x, y] t (0, 0))) :
    ((w.setCell ⟨g, 0, none⟩ a).setCell ⟨g, 1, none⟩ b).heap[g]? = some (.cells #[a, b] t (0, 0)) :=
  heap_setCell_same _ g 1 _ t b (heap_setCell_same w g 0 _ t a h)

set_option maxHeartbeats 1000000 in
theorem implFind_any (a b : Option Addr) (c : CacheD) (cap cp : Nat) (line : Int) (w : World) (hok : OkC isL treeB c) (h1 : SlRd waysR w a c.1) :
    Calls Try.prog 44 #[.agg #[.slice a c.1.length cap, .slice b c.2.length cp], .int .i64 line] w fun e w' => e = .returned (.tuple #[.agg #[.int .i64 (findP c line).1, .int .i64 (findP c line).2.1], .bool (findP c line).2.2]) ∧ Below w.heap.size w w' := by
  obtain ⟨hp, hget, hne, hr4, hset, hsl⟩ := ok_row hok line
  obtain ⟨b0, o0, aj, cj, rfl, hcell, -, -, hrd⟩ := set_at h1 hget
  cases hb : betw line 0 15
  · have HF : Hid (findP c line = (0, 0, false)) := by unfold Hid findP; simp [hb]
    clear hcell hrd h1 hget
    go_enter Try.func44, Try.ntmps44
    go_wp2_with (go_at_call 65; refine (lineNumberOk_any _ _).mono ?_; rintro e w' ⟨rfl, rfl⟩; rw [hb])
    have Y := heap_at (w.alloc (.cells #[.slice (some ⟨b0, o0, none⟩) c.1.length cap, .slice b c.2.length cp] 27)) (.cells #[.int .i64 0, .int .i64 0] 65)
    rw [alloc_len] at Y
    obtain ⟨r0, r1⟩ := cells_two Y
    refine bodyPost_ret (v := .tuple #[.agg #[.int .i64 0, .int .i64 0], .bool false]) (by simp [results, Try.results44, go_sem]) rfl ⟨by rw [HF.out], below_step (box_below w _) (box_below _ _)⟩
  · have hl0 : 0 ≤ line := by simp [betw] at hb; omega
    have HF : Hid (findP c line = (((setNo c line : Nat) : Int), firstI (rowFor c line) line, firstI (rowFor c line) line != -1)) := by unfold Hid findP; rw [if_pos hb, hset]
    have HS : Hid (∀ W, Calls Try.prog 88 #[.agg #[.slice (some ⟨b0, o0, none⟩) c.1.length cap, .slice b c.2.length cp], .int .i64 line] W fun e w' => e = .returned (.int .i64 ((setNo c line : Nat) : Int)) ∧ Below W.heap.size W w') := fun W => by
      have := setOf_any (some ⟨b0, o0, none⟩) c.1.length cap (.slice b c.2.length cp) _ _ _ rfl line W hp hl0
      rwa [← hset] at this
    have HFW : Hid (∀ W, Below w.heap.size w W → Calls Try.prog 89 #[.slice aj (rowFor c line).length cj, .int .i64 line] W fun e w' => e = .returned (.int .i64 (firstI (rowFor c line) line)) ∧ Below W.heap.size W w') := fun W hbw =>
      firstWith_any aj _ cj line W (slrd_keep hrd fun k hk => hbw.block k hk) hne (by omega)
    have hsl' : ((setNo c line : Nat) : Int) < (c.1.length : Int) := by omega
    have HC : Hid (∀ W, Below w.heap.size w W → W.cell? ⟨b0, o0 + setNo c line, none⟩ = some (.slice aj (rowFor c line).length cj)) := fun W hbw => cell_keep hbw hcell (cell_lt hcell)
    clear hcell hrd h1 hget hne hr4 hset hok
    generalize setNo c line = sn at HF HS hsl hsl' HC
    generalize (rowFor c line).length = rn at HFW HC
    generalize firstI (rowFor c line) line = fi at HF HFW
    have X := heap_on (.cells #[.int .i64 0, .int .i64 0] 65) (heap_at w (.cells #[.slice (some ⟨b0, o0, none⟩) c.1.length cap, .slice b c.2.length cp] 27))
    have Y := heap_at (w.alloc (.cells #[.slice (some ⟨b0, o0, none⟩) c.1.length cap, .slice b c.2.length cp] 27)) (.cells #[.int .i64 0, .int .i64 0] 65)
    rw [alloc_len] at Y
    have B := below_step (box_below w (.cells #[.slice (some ⟨b0, o0, none⟩) c.1.length cap, .slice b c.2.length cp] 27)) (box_below _ (.cells #[.int .i64 0, .int .i64 0] 65))
    go_enter Try.func44, Try.ntmps44
    go_wp2_with (go_at_call 65; refine (lineNumberOk_any _ _).mono ?_; rintro e w' ⟨rfl, rfl⟩; rw [hb])
    generalize (w.alloc (.cells #[.slice (some ⟨b0, o0, none⟩) c.1.length cap, .slice b c.2.length cp] 27)).alloc (.cells #[.int .i64 0, .int .i64 0] 65) = W0 at X Y B ⊢
    refine (HS.out _).mono ?_
    rintro e w1 ⟨rfl, b1⟩
    replace B := below_step B b1
    replace X := row_keep b1 X
    replace Y := row_keep b1 Y
    obtain ⟨x0, x1⟩ := cells_two X
    have g0 := HC.out _ B
    clear b1
    go_wp2_with fail
    refine (HFW.out _ B).mono ?_
    rintro e w2 ⟨rfl, b1⟩
    replace B := below_step B b1
    replace Y := row_keep b1 Y
    obtain ⟨y0, y1⟩ := cells_two Y
    obtain ⟨f0, f1⟩ : w2.frozen? ⟨w.heap.size + 1, 0, none⟩ = false ∧ w2.frozen? ⟨w.heap.size + 1, 1, none⟩ = false := ⟨frozen_of_row w2 _ 0 _ _ Y, frozen_of_row w2 _ 1 _ _ Y⟩
    have HY : Hid _ := Y
    clear b1 g0 x0 x1 X Y HS HFW HC
    go_wp2
    have Z := putTwo (a := .int .i64 (sn : Int)) (b := .int .i64 fi) HY.out
    obtain ⟨r0, r1⟩ := cells_two Z
    refine bodyPost_ret (v := .tuple #[.agg #[.int .i64 (sn : Int), .int .i64 fi], .bool (fi != -1)]) (by simp [results, Try.results44, go_sem, r0, r1]) rfl ⟨by rw [HF.out], (B.setCell (p := ⟨w.heap.size + 1, 0, none⟩) (by simp) _).setCell (p := ⟨w.heap.size + 1, 1, none⟩) (by simp) _⟩

set_option maxHeartbeats 1000000 in
theorem implRoom_any (a b : Option Addr) (c : CacheD) (cap cp : Nat) (line : Int) (w : World) (hok : OkC isL treeB c) (h1 : SlRd waysR w a c.1) (hl0 : 0 ≤ line) :
    Calls Try.prog 41 #[.agg #[.slice a c.1.length cap, .slice b c.2.length cp], .int .i64 line] w fun e w' => e = .returned (.tuple #[.agg #[.int .i64 (roomP c line).1, .int .i64 (roomP c line).2.1], .bool (roomP c line).2.2]) ∧ Below w.heap.size w w' := by
  obtain ⟨hp, hget, hne, hr4, hset, hsl⟩ := ok_row hok line
  have HFD : Hid (∀ W, Below w.heap.size w W → Calls Try.prog 44 #[.agg #[.slice a c.1.length cap, .slice b c.2.length cp], .int .i64 line] W fun e w' => e = .returned (.tuple #[.agg #[.int .i64 (findP c line).1, .int .i64 (findP c line).2.1], .bool (findP c line).2.2]) ∧ Below W.heap.size W w') :=
    fun W hbw => implFind_any a b c cap cp line W hok (slrd_keep h1 fun k hk => hbw.block k hk)
  obtain ⟨b0, o0, aj, cj, rfl, hcell, -, -, hrd⟩ := set_at h1 hget
  have hsl' : ((setNo c line : Nat) : Int) < (c.1.length : Int) := by omega
  have HC : Hid (∀ W, Below w.heap.size w W → W.cell? ⟨b0, o0 + setNo c line, none⟩ = some (.slice aj (rowFor c line).length cj)) := fun W hbw => cell_keep hbw hcell (cell_lt hcell)
  have HS : Hid (∀ W, Calls Try.prog 88 #[.agg #[.slice (some ⟨b0, o0, none⟩) c.1.length cap, .slice b c.2.length cp], .int .i64 line] W fun e w' => e = .returned (.int .i64 ((setNo c line : Nat) : Int)) ∧ Below W.heap.size W w') := fun W => by
    have := setOf_any (some ⟨b0, o0, none⟩) c.1.length cap (.slice b c.2.length cp) _ _ _ rfl line W hp hl0
    rwa [← hset] at this
  have HFW : Hid (∀ W, Below w.heap.size w W → Calls Try.prog 89 #[.slice aj (rowFor c line).length cj, .int .i64 (-1)] W fun e w' => e = .returned (.int .i64 (firstI (rowFor c line) (-1))) ∧ Below W.heap.size W w') := fun W hbw =>
    firstWith_any aj _ cj (-1) W (slrd_keep hrd fun k hk => hbw.block k hk) hne (by omega)
  have X := heap_on (.cells #[.int .i64 0, .int .i64 0] 65) (heap_at w (.cells #[.slice (some ⟨b0, o0, none⟩) c.1.length cap, .slice b c.2.length cp] 27))
  have Y := heap_at (w.alloc (.cells #[.slice (some ⟨b0, o0, none⟩) c.1.length cap, .slice b c.2.length cp] 27)) (.cells #[.int .i64 0, .int .i64 0] 65)
  rw [alloc_len] at Y
  have B := below_step (box_below w (.cells #[.slice (some ⟨b0, o0, none⟩) c.1.length cap, .slice b c.2.length cp] 27)) (box_below _ (.cells #[.int .i64 0, .int .i64 0] 65))
  cases hq : (findP c line).2.2
  · have HP : Hid (roomP c line = (((setNo c line : Nat) : Int), firstI (rowFor c line) (-1), firstI (rowFor c line) (-1) != -1)) := by unfold Hid roomP; rw [hq, hset]; rfl
    rw [hq] at HFD
    clear hcell hrd h1 hget hne hr4 hset hok
    generalize (findP c line).1 = f1 at HFD
    generalize (findP c line).2.1 = f2 at HFD
    generalize setNo c line = sn at HP HS hsl hsl' HC
    generalize (rowFor c line).length = rn at HFW HC
    generalize firstI (rowFor c line) (-1) = fi at HP HFW
    go_enter Try.func41, Try.ntmps41
    go_wp2_with fail
    generalize (w.alloc (.cells #[.slice (some ⟨b0, o0, none⟩) c.1.length cap, .slice b c.2.length cp] 27)).alloc (.cells #[.int .i64 0, .int .i64 0] 65) = W0 at X Y B ⊢
    refine (HFD.out _ B).mono ?_
    rintro e w1 ⟨rfl, b1⟩
    replace B := below_step B b1
    replace X := row_keep b1 X
    replace Y := row_keep b1 Y
    have ba := box_below w1 (.cells #[.int .i64 f1, .int .i64 f2] 65)
    replace B := below_step B ba
    replace X := row_keep ba X
    replace Y := row_keep ba Y
    obtain ⟨x0, x1⟩ := cells_two X
    clear b1 ba hq HFD
    go_wp2_with fail
    generalize w1.alloc (.cells #[.int .i64 f1, .int .i64 f2] 65) = w2 at X Y B x0 x1 ⊢
    refine (HS.out _).mono ?_
    rintro e w3 ⟨rfl, b1⟩
    replace B := below_step B b1
    replace X := row_keep b1 X
    replace Y := row_keep b1 Y
    clear x0 x1 b1
    obtain ⟨x0, x1⟩ := cells_two X
    have g0 := HC.out _ B
    go_wp2_with fail
    refine (HFW.out _ B).mono ?_
    rintro e w4 ⟨rfl, b1⟩
    replace B := below_step B b1
    replace Y := row_keep b1 Y
    obtain ⟨y0, y1⟩ := cells_two Y
    obtain ⟨f0, f1'⟩ : w4.frozen? ⟨w.heap.size + 1, 0, none⟩ = false ∧ w4.frozen? ⟨w.heap.size + 1, 1, none⟩ = false := ⟨frozen_of_row w4 _ 0 _ _ Y, frozen_of_row w4 _ 1 _ _ Y⟩
    have HY : Hid _ := Y
    clear b1 g0 x0 x1 X Y HS HFW HC
    go_wp2
    have Z := putTwo (a := .int .i64 (sn : Int)) (b := .int .i64 fi) HY.out
    obtain ⟨r0, r1⟩ := cells_two Z
    refine bodyPost_ret (v := .tuple #[.agg #[.int .i64 (sn : Int), .int .i64 fi], .bool (fi != -1)]) (by simp [results, Try.results41, go_sem, r0, r1]) rfl ⟨by rw [HP.out], (B.setCell (p := ⟨w.heap.size + 1, 0, none⟩) (by simp) _).setCell (p := ⟨w.heap.size + 1, 1, none⟩) (by simp) _⟩
  · have HP : Hid (roomP c line = ((findP c line).1, (findP c line).2.1, true)) := by unfold Hid roomP; rw [hq, if_pos rfl, ← hq]
    rw [hq] at HFD
    clear hcell hrd h1 hget hne hr4 hset hok HS HFW HC hsl hsl'
    generalize (findP c line).1 = f1 at HFD HP
    generalize (findP c line).2.1 = f2 at HFD HP
    go_enter Try.func41, Try.ntmps41
    go_wp2_with fail
    generalize (w.alloc (.cells #[.slice (some ⟨b0, o0, none⟩) c.1.length cap, .slice b c.2.length cp] 27)).alloc (.cells #[.int .i64 0, .int .i64 0] 65) = W0 at X Y B ⊢
    refine (HFD.out _ B).mono ?_
    rintro e w1 ⟨rfl, b1⟩
    replace B := below_step B b1
    replace Y := row_keep b1 Y
    have l1 := (Array.getElem?_eq_some_iff.1 Y).1
    obtain ⟨y0, y1⟩ := cells_two Y
    obtain ⟨f0, f1'⟩ : w1.frozen? ⟨w.heap.size + 1, 0, none⟩ = false ∧ w1.frozen? ⟨w.heap.size + 1, 1, none⟩ = false := ⟨frozen_of_row w1 _ 0 _ _ Y, frozen_of_row w1 _ 1 _ _ Y⟩
    have HY : Hid _ := Y
    clear b1 X Y hq HFD
    go_wp2
    have Z := heap_on (.cells #[.int .i64 f1, .int .i64 f2] 65) (putTwo (a := .int .i64 f1) (b := .int .i64 f2) HY.out)
    obtain ⟨r0, r1⟩ := cells_two Z
    refine bodyPost_ret (v := .tuple #[.agg #[.int .i64 f1, .int .i64 f2], .bool true]) (by simp [results, Try.results41, go_sem, r0, r1]) rfl ⟨by rw [HP.out], ((B.setCell (p := ⟨w.heap.size + 1, 0, none⟩) (by simp) _).setCell (p := ⟨w.heap.size + 1, 1, none⟩) (by simp) _).alloc (by simp; omega) _⟩

end Go.Proofs.Ytmldilmiihafoaa
