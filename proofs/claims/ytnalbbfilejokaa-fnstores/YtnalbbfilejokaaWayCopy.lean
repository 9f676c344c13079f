/- One way, copied; an empty one: of the program and of the specification. Conditions: lists of at most 2^20 numbers. -/
import Derived.Test.YtnalbbfilejokaaWays2
import Derived.Test.YtnalbbfilejokaaCacheFacts
namespace Go.Proofs.Ytnalbbfilejokaa
open Go.ChangeShapes Go.WideShapes Go.ChangeAt Go.RowKit
set_option linter.unusedVariables false

theorem run_append_zero {P : Program} {w : World} (base : Nat) (t ty e : TypeId) (i : TypeInfo) (size : Nat) (ht : P.underlying t = some (.slice e)) (hi : P.info? e = some i) (c : Nat)
    (v : Value) (n : Nat) (xs : List Value) (hown : w.ownsRow base e size v n xs) : (Builtin.append_ #[t, t] ty #[v, .slice none 0 c]).run P w = .ok v w := by
  rcases hown.2 with ⟨rfl, rfl⟩ | ⟨g, cap, cur, rfl, _, _, hnc, _⟩
  · simp [Builtin.append_, run_underlying ht, sizeOf, typeInfo, hi, Builtin.lenOf, Builtin.firstCells]
  · simp [Builtin.append_, run_underlying ht, sizeOf, typeInfo, hi, Builtin.lenOf, Builtin.firstCells, hnc, storeCells]

theorem wpList_append_zero {P : Program} {w : World} {ops : Array Oper} {rest : List Oper} {o : Oper} {a : Act} {Q : Exit → Act → World → Prop} (hgd : o.guard = none) (s x : Operand) (t : TypeId)
    (ho : o.op = .call { callee := .builtin .append, args := #[s, x], argTypes := #[t, t] })
    (base : Nat) (e : TypeId) (i : TypeInfo) (size : Nat) (ht : P.underlying t = some (.slice e)) (hi : P.info? e = some i) (c : Nat)
    (v : Value) (n : Nat) (xs : List Value) (hs : a.eval s = v) (hown : w.ownsRow base e size v n xs) (hx : a.eval x = .slice none 0 c)
    (h : wpList P ops Q rest (a.put o.dst v) w) : wpList P ops Q (o :: rest) a w := by
  refine wpList_plain hgd fun K hK => ?_
  have hrun := run_append_zero (P := P) (w := w) base t o.type e i size ht hi c v n xs hown
  unfold Oper.wp
  simp [execOp, ho, resolve, invoke, builtin, hs, hx, hrun, Result.andThen]
  exact hK _ _ h

theorem cell_kp3 (w : World) (o o' o'' : Obj) {b k : Nat} {u : Value} (h : w.cell? ⟨b, k, none⟩ = some u) : (((w.alloc o).alloc o').alloc o'').cell? ⟨b, k, none⟩ = some u := by
  have hl := World.block_lt_of_cell? w _ h
  simp only at hl
  rw [World.cell?_alloc_past _ _ _ (by simp; omega), World.cell?_alloc_past _ _ _ (by simp; omega), World.cell?_alloc_past _ _ _ hl, h]
theorem made_nothing (w : World) : MadeR intsR w (w.alloc (.cells #[] 2)) [.slice (some ⟨w.heap.size, 0, none⟩) 0 0] [] := by
  refine ⟨⟨_, [], fun _ => False, rfl, World.ownsRow_lit (base := 0) (e := 2) (size := 1) w #[] 0 (Nat.zero_le _) (Nat.zero_le _) rfl, fun g hg => ?_, fun _ h => h.elim, rfl⟩, box_below w _⟩
  simp [Value.ownBlock] at hg
  subst hg
  exact ⟨⟨Nat.le_refl _, by simp⟩, fun h => h⟩

set_option maxHeartbeats 1000000 in
theorem l1Copy_nil (cap : Nat) (w : World) : Calls Try.prog 92 #[.slice none 0 cap] w fun e w' => ∃ v, e = .returned v ∧ MadeR intsR w w' [v] [] := by
  obtain ⟨i0, hi, hz0, hz1, hz2⟩ := info_parts Try.infoI
  have hown : (w.alloc (.cells #[] 2)).ownsRow w.heap.size 2 1 (.slice (some ⟨w.heap.size, 0, none⟩) 0 0) 0 [] := World.ownsRow_lit _ #[] 0 (Nat.le_refl _) (Nat.zero_le _) rfl
  go_enter Try.func92, Try.ntmps92
  go_wp2_with (at_builtin; refine wpList_append_zero rfl _ _ 25 rfl w.heap.size 2 i0 1 Try.underlying25 hi cap _ _ _ rfl hown rfl ?_)
  go_ret
  exact ⟨_, rfl, made_nothing w⟩
theorem l1Copy_rep (a : Option Addr) (xs : List Int) (cap : Nat) (w : World) (h : SlRd intR w a xs) (hm : xs.length ≤ 1048576) :
    Calls Try.prog 92 #[.slice a xs.length cap] w fun e w' => ∃ v, e = .returned v ∧ MadeR intsR w w' [v] xs := by
  cases a with
  | some ad => exact (l1Copy_any ad xs cap w (reads_of h) hm).mono fun e w' ⟨v, h1, h2⟩ => ⟨v, h1, madeR_ints h2 (in64_of h)⟩
  | none =>
    rcases h with rfl | ⟨b, off, rows, ha, _⟩
    · exact l1Copy_nil cap w
    · cases ha

set_option maxHeartbeats 400000 in
theorem emptyWay_any (w : World) : Calls Try.prog 45 #[] w fun e w' => ∃ av cv, e = .returned (.agg #[.int .i64 (-1), .int .i64 0, .slice av 0 cv]) ∧ MadeR wayR w w' [.int .i64 (-1), .int .i64 0, .slice av 0 cv] emptyW := by
  have M := made_nothing (w.alloc (.cells #[.int .i64 (-1), .int .i64 0, .slice (some ⟨w.heap.size + 1, 0, none⟩) 0 0] 29))
  have X := heap_on (.cells #[] 2) (heap_at w (.cells #[.int .i64 (-1), .int .i64 0, .slice (some ⟨w.heap.size + 1, 0, none⟩) 0 0] 29))
  rw [alloc_len] at M
  obtain ⟨r0, r1, r2⟩ := cells_3 X
  go_enter Try.func45, Try.ntmps45
  go_wp2
  refine bodyPost_ret (v := .agg #[.int .i64 (-1), .int .i64 0, .slice (some ⟨w.heap.size + 1, 0, none⟩) 0 0]) (by simp [results, Try.results45, go_sem]) rfl ⟨_, _, rfl, own_way (by constructor <;> decide) (by constructor <;> decide) ?_, below_step (box_below w _) M.2⟩
  exact intsR.own_mono M.1 (rng_sub (by simp) (Nat.le_refl _))

theorem own_nothing (w : World) (S : Foot) : intsR.own w S [.slice none 0 0] [] := ⟨_, [], fun _ => False, rfl, World.ownsRow_nil _ _ _ _, fun g hg => by simp [Value.ownBlock] at hg, fun _ h => h.elim, rfl⟩
set_option maxHeartbeats 400000 in
theorem l6Empty_any (w : World) : Calls Try.prog 62 #[] w fun e w' => ∃ av cv, e = .returned (.agg #[.int .i64 (-1), .int .i64 0, .slice av 0 cv]) ∧ MadeR wayR w w' [.int .i64 (-1), .int .i64 0, .slice av 0 cv] emptyW := by
  go_enter Try.func62, Try.ntmps62
  go_wp2
  refine bodyPost_ret (v := .agg #[.int .i64 (-1), .int .i64 0, .slice none 0 0]) (by simp [results, Try.results62, go_sem]) rfl ⟨_, _, rfl, own_way (by constructor <;> decide) (by constructor <;> decide) (own_nothing _ _), box_below w _⟩

set_option maxHeartbeats 1000000 in
theorem wayCopied_any (l s : Int) (d : List Int) (a : Option Addr) (cap : Nat) (w : World) (i1 : In64 l) (i2 : In64 s) (h : SlRd intR w a d) (hm : d.length ≤ 1048576) :
    Calls Try.prog 48 #[.agg #[.int .i64 l, .int .i64 s, .slice a d.length cap]] w fun e w' => ∃ av cv, e = .returned (.agg #[.int .i64 l, .int .i64 s, .slice av d.length cv]) ∧ MadeR wayR w w' [.int .i64 l, .int .i64 s, .slice av d.length cv] (l, s, d) := by
  cases a with
  | some ad =>
    obtain ⟨i0, hi, hz0, hz1, hz2⟩ := info_parts Try.infoI
    have B0 := below_step (box_below w (.cells #[.int .i64 l, .int .i64 s, .slice (some ad) d.length cap] 29)) (box_below _ (.cells #[.int .i64 0, .int .i64 0, .slice none 0 0] 29))
    have X0 := heap_on (.cells #[.int .i64 0, .int .i64 0, .slice none 0 0] 29) (heap_at w (.cells #[.int .i64 l, .int .i64 s, .slice (some ad) d.length cap] 29))
    have X1 := heap_at (w.alloc (.cells #[.int .i64 l, .int .i64 s, .slice (some ad) d.length cap] 29)) (.cells #[.int .i64 0, .int .i64 0, .slice none 0 0] 29)
    rw [alloc_len] at X1
    have sz : ((w.alloc (.cells #[.int .i64 l, .int .i64 s, .slice (some ad) d.length cap] 29)).alloc (.cells #[.int .i64 0, .int .i64 0, .slice none 0 0] 29)).heap.size = w.heap.size + 1 + 1 := by simp
    have hown : (((w.alloc (.cells #[.int .i64 l, .int .i64 s, .slice (some ad) d.length cap] 29)).alloc (.cells #[.int .i64 0, .int .i64 0, .slice none 0 0] 29)).alloc (.cells #[] 2)).ownsRow ((w.alloc (.cells #[.int .i64 l, .int .i64 s, .slice (some ad) d.length cap] 29)).alloc (.cells #[.int .i64 0, .int .i64 0, .slice none 0 0] 29)).heap.size 2 1 (.slice (some ⟨((w.alloc (.cells #[.int .i64 l, .int .i64 s, .slice (some ad) d.length cap] 29)).alloc (.cells #[.int .i64 0, .int .i64 0, .slice none 0 0] 29)).heap.size, 0, none⟩) 0 0) 0 [] := World.ownsRow_lit _ #[] 0 (Nat.le_refl _) (Nat.zero_le _) rfl
    rw [sz] at hown
    have HI : Hid (In64 l ∧ In64 s) := ⟨i1, i2⟩
    have HS : Hid (Reads w (some ad) d ∧ ∀ x ∈ d, In64 x) := ⟨reads_of h, in64_of h⟩
    have HX : Hid _ := And.intro X0 X1
    clear i1 i2 X0 X1 h
    go_enter Try.func48, Try.ntmps48
    go_wp2_with (at_builtin; refine wpList_append_own _ rfl _ _ 25 rfl (w.heap.size + 1 + 1) 2 i0 (.int .i64 0) 1 8 Try.underlying25 hi hz0 hz1 hz2 rfl (by decide) _ _ _ rfl hown ad d.length cap (d.map (Value.int .i64)) rfl (by simp) ?c1 ?c2 ?c3 ?c4 ?c5 ?_)
    case c1 =>
      intro j u hj
      obtain ⟨hjl, rfl⟩ := List.getElem?_eq_some_iff.1 hj
      simp at hjl
      rcases HS.out.1 with rfl | ⟨b, off, ha, hc⟩
      · simp at hjl
      simp only [Option.some.injEq] at ha
      subst ha
      have g0 := hc j hjl
      have g1 := cell_kp3 w (.cells #[.int .i64 l, .int .i64 s, .slice (some ⟨b, off, none⟩) d.length cap] 29) (.cells #[.int .i64 0, .int .i64 0, .slice none 0 0] 29) (.cells #[] 2) g0
      rw [show (⟨b, off, none⟩ : Addr).add j = ⟨b, off + j, none⟩ from by simp [Addr.add], g1]
      simp [List.getD_eq_getElem?_getD, hjl]
    case c2 => intro u hu; simp at hu; obtain ⟨x, _, rfl⟩ := hu; rfl
    case c3 => unfold maxLen; omega
    case c4 => omega
    case c5 => simp
    · intro v' w1 hown' hgrow hnil
      have hv : v' ≠ .slice none 0 0 := hnil
      have hown'' : w1.ownsRow ((w.alloc (.cells #[.int .i64 l, .int .i64 s, .slice (some ad) d.length cap] 29)).alloc (.cells #[.int .i64 0, .int .i64 0, .slice none 0 0] 29)).heap.size 2 1 v' d.length (d.map (Value.int .i64)) := by rw [sz]; simpa using hown'
      have HO := madeR_ints (made_app (w := (w.alloc (.cells #[.int .i64 l, .int .i64 s, .slice (some ad) d.length cap] 29)).alloc (.cells #[.int .i64 0, .int .i64 0, .slice none 0 0] 29)) hown'' (by rw [sz]; exact hgrow) hv) HS.out.2
      obtain ⟨av, cv, rfl⟩ := slown_val HO.1
      obtain ⟨X0, X1⟩ := HX.out
      have B1 := below_step B0 HO.2
      replace X0 := row_keep HO.2 X0
      replace X1 := row_keep HO.2 X1
      obtain ⟨y0, y1, y2⟩ := cells_3 X0
      obtain ⟨f0, f1, f2⟩ := cells_froz X0
      obtain ⟨z0, z1, z2⟩ := cells_3 X1
      obtain ⟨g0, g1, g2⟩ := cells_froz X1
      have HOO : Hid (intsR.own w1 (rng ((w.alloc (.cells #[.int .i64 l, .int .i64 s, .slice (some ad) d.length cap] 29)).alloc (.cells #[.int .i64 0, .int .i64 0, .slice none 0 0] 29)).heap.size w1.heap.size) [.slice av d.length cv] d) := HO.1
      have HX2 : Hid _ := And.intro X0 X1
      clear hown' hgrow hnil hown hown'' HO X0 X1 HX hv
      go_wp2
      obtain ⟨X0, X1⟩ := HX2.out
      have Y1 := put3 (a := .int .i64 l) (b := .int .i64 s) (c := .slice av d.length cv) (heap_setC (g := w.heap.size) (o := 2) (v := .slice av d.length cv) X1 (by omega))
      obtain ⟨r0, r1, r2⟩ := cells_3 Y1
      refine bodyPost_ret (v := .agg #[.int .i64 l, .int .i64 s, .slice av d.length cv]) (by simp [results, Try.results48, go_sem, r0, r1, r2]) rfl ⟨av, cv, rfl, own_way HI.out.1 HI.out.2 ?_, ?_⟩
      · refine intsR.own_mono (own_setC (own_setC (own_setC (own_setC HOO.out (fun h => by have := h.1; omega)) (fun h => by have := h.1; omega)) (fun h => by have := h.1; omega)) (fun h => by have := h.1; omega)) ?_
        exact rng_sub (by omega) (by simp)
      · exact below_setC (below_setC (below_setC (below_setC B1 (by omega)) (by omega)) (by omega)) (by omega)
  | none =>
    obtain rfl : d = [] := by
      rcases h with h | ⟨b, off, rows, ha, _⟩
      · exact h
      · cases ha
    rw [show ([] : List Int).length = 0 from rfl]
    obtain ⟨i0, hi, hz0, hz1, hz2⟩ := info_parts Try.infoI
    have B0 := below_step (box_below w (.cells #[.int .i64 l, .int .i64 s, .slice none 0 cap] 29)) (box_below _ (.cells #[.int .i64 0, .int .i64 0, .slice none 0 0] 29))
    have X0 := heap_on (.cells #[.int .i64 0, .int .i64 0, .slice none 0 0] 29) (heap_at w (.cells #[.int .i64 l, .int .i64 s, .slice none 0 cap] 29))
    have X1 := heap_at (w.alloc (.cells #[.int .i64 l, .int .i64 s, .slice none 0 cap] 29)) (.cells #[.int .i64 0, .int .i64 0, .slice none 0 0] 29)
    rw [alloc_len] at X1
    have sz : ((w.alloc (.cells #[.int .i64 l, .int .i64 s, .slice none 0 cap] 29)).alloc (.cells #[.int .i64 0, .int .i64 0, .slice none 0 0] 29)).heap.size = w.heap.size + 1 + 1 := by simp
    have hown : (((w.alloc (.cells #[.int .i64 l, .int .i64 s, .slice none 0 cap] 29)).alloc (.cells #[.int .i64 0, .int .i64 0, .slice none 0 0] 29)).alloc (.cells #[] 2)).ownsRow ((w.alloc (.cells #[.int .i64 l, .int .i64 s, .slice none 0 cap] 29)).alloc (.cells #[.int .i64 0, .int .i64 0, .slice none 0 0] 29)).heap.size 2 1 (.slice (some ⟨((w.alloc (.cells #[.int .i64 l, .int .i64 s, .slice none 0 cap] 29)).alloc (.cells #[.int .i64 0, .int .i64 0, .slice none 0 0] 29)).heap.size, 0, none⟩) 0 0) 0 [] := World.ownsRow_lit _ #[] 0 (Nat.le_refl _) (Nat.zero_le _) rfl
    rw [sz] at hown
    have HI : Hid (In64 l ∧ In64 s) := ⟨i1, i2⟩
    have M := made_nothing ((w.alloc (.cells #[.int .i64 l, .int .i64 s, .slice none 0 cap] 29)).alloc (.cells #[.int .i64 0, .int .i64 0, .slice none 0 0] 29))
    rw [sz] at M
    have HM : Hid _ := M
    have HX : Hid _ := And.intro X0 X1
    clear i1 i2 M X0 X1
    go_enter Try.func48, Try.ntmps48
    go_wp2_with (at_builtin; refine wpList_append_zero rfl _ _ 25 rfl (w.heap.size + 1 + 1) 2 i0 1 Try.underlying25 hi cap _ _ _ rfl hown rfl ?_)
    have N := made_nothing ((w.alloc (.cells #[.int .i64 l, .int .i64 s, .slice (some ⟨w.heap.size + 1 + 1, 0, none⟩) 0 0] 29)).alloc (.cells #[.int .i64 l, .int .i64 s, .slice (some ⟨w.heap.size + 1 + 1, 0, none⟩) 0 0] 29))
    have sz2 : ((w.alloc (.cells #[.int .i64 l, .int .i64 s, .slice (some ⟨w.heap.size + 1 + 1, 0, none⟩) 0 0] 29)).alloc (.cells #[.int .i64 l, .int .i64 s, .slice (some ⟨w.heap.size + 1 + 1, 0, none⟩) 0 0] 29)).heap.size = w.heap.size + 1 + 1 := by simp
    rw [sz2] at N
    refine bodyPost_ret (v := .agg #[.int .i64 l, .int .i64 s, .slice (some ⟨w.heap.size + 1 + 1, 0, none⟩) 0 0]) (by simp [results, Try.results48, go_sem]) rfl ⟨_, _, rfl, own_way HI.out.1 HI.out.2 (intsR.own_mono N.1 (rng_sub (by rw [sz2]; omega) (Nat.le_refl _))), below_step (below_step (box_below w _) (box_below _ _)) N.2⟩

set_option maxHeartbeats 1000000 in
theorem l6CopyWay_any (l s : Int) (d : List Int) (a : Option Addr) (cap : Nat) (w : World) (i1 : In64 l) (i2 : In64 s) (h : SlRd intR w a d) (hm : d.length ≤ 1048576) :
    Calls Try.prog 63 #[.agg #[.int .i64 l, .int .i64 s, .slice a d.length cap]] w fun e w' => ∃ av cv, e = .returned (.agg #[.int .i64 l, .int .i64 s, .slice av d.length cv]) ∧ MadeR wayR w w' [.int .i64 l, .int .i64 s, .slice av d.length cv] (l, s, d) := by
  have B0 := below_step (box_below w (.cells #[.int .i64 l, .int .i64 s, .slice a d.length cap] 29)) (box_below _ (.cells #[.int .i64 0, .int .i64 0, .slice none 0 0] 29))
  have X0 := heap_on (.cells #[.int .i64 0, .int .i64 0, .slice none 0 0] 29) (heap_at w (.cells #[.int .i64 l, .int .i64 s, .slice a d.length cap] 29))
  have X1 := heap_at (w.alloc (.cells #[.int .i64 l, .int .i64 s, .slice a d.length cap] 29)) (.cells #[.int .i64 0, .int .i64 0, .slice none 0 0] 29)
  rw [alloc_len] at X1
  have sz : ((w.alloc (.cells #[.int .i64 l, .int .i64 s, .slice a d.length cap] 29)).alloc (.cells #[.int .i64 0, .int .i64 0, .slice none 0 0] 29)).heap.size = w.heap.size + 1 + 1 := by simp
  have HI : Hid (In64 l ∧ In64 s) := ⟨i1, i2⟩
  have HC := l1Copy_rep a d cap ((w.alloc (.cells #[.int .i64 l, .int .i64 s, .slice a d.length cap] 29)).alloc (.cells #[.int .i64 0, .int .i64 0, .slice none 0 0] 29)) (slrd_keep h fun k hk => B0.block k hk) hm
  clear i1 i2 h hm
  go_enter Try.func63, Try.ntmps63
  go_wp2_with fail
  refine HC.mono ?_
  rintro e w1 ⟨v, rfl, HO⟩
  obtain ⟨av, cv, rfl⟩ := slown_val HO.1
  have B1 := below_step B0 HO.2
  replace X0 := row_keep HO.2 X0
  replace X1 := row_keep HO.2 X1
  obtain ⟨y0, y1, y2⟩ := cells_3 X0
  obtain ⟨f0, f1, f2⟩ := cells_froz X0
  obtain ⟨z0, z1, z2⟩ := cells_3 X1
  obtain ⟨g0, g1, g2⟩ := cells_froz X1
  have HOO : Hid (intsR.own w1 (rng ((w.alloc (.cells #[.int .i64 l, .int .i64 s, .slice a d.length cap] 29)).alloc (.cells #[.int .i64 0, .int .i64 0, .slice none 0 0] 29)).heap.size w1.heap.size) [.slice av d.length cv] d) := HO.1
  have HX2 : Hid _ := And.intro X0 X1
  clear HO X0 X1 HC
  go_wp2
  obtain ⟨X0, X1⟩ := HX2.out
  have Y1 := put3 (a := .int .i64 l) (b := .int .i64 s) (c := .slice av d.length cv) (heap_setC (g := w.heap.size) (o := 2) (v := .slice av d.length cv) X1 (by omega))
  obtain ⟨r0, r1, r2⟩ := cells_3 Y1
  refine bodyPost_ret (v := .agg #[.int .i64 l, .int .i64 s, .slice av d.length cv]) (by simp [results, Try.results63, go_sem, r0, r1, r2]) rfl ⟨av, cv, rfl, own_way HI.out.1 HI.out.2 ?_, ?_⟩
  · refine intsR.own_mono (own_setC (own_setC (own_setC (own_setC HOO.out (fun h => by have := h.1; omega)) (fun h => by have := h.1; omega)) (fun h => by have := h.1; omega)) (fun h => by have := h.1; omega)) ?_
    exact rng_sub (by omega) (by simp)
  · exact below_setC (below_setC (below_setC (below_setC B1 (by omega)) (by omega)) (by omega)) (by omega)

end Go.Proofs.Ytnalbbfilejokaa
