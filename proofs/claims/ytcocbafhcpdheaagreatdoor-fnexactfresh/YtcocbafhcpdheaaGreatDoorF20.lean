import Derived.Test.YtcocbafhcpdheaaGreatDoorF00Box
import Derived.Test.YtcocbafhcpdheaaGreatDoorF19
import Derived.Deep.RegionHeld3
namespace Go.Proofs.YtcocbafhcpdheaaGreatDoor
set_option maxHeartbeats 2000000
open Go.ChangeShapes Go.WideShapes Go.ChangeAt Go.RowKit
set_option linter.unusedVariables false
theorem run_append_zero {P : Program} {w : World} (base : Nat) (t ty e : TypeId) (i : TypeInfo) (size : Nat) (ht : P.underlying t = some (.slice e)) (hi : P.info? e = some i) (c : Nat)
    (v : Value) (n : Nat) (xs : List Value) (hown : w.ownsRow base e size v n xs) : (Builtin.append_ #[t, t] ty #[v, .slice none 0 c]).run P w = .ok v w := by
 rcases hown.2 with ⟨rfl, rfl⟩ | ⟨g, cap, cur, rfl, _, _, hnc, _⟩
 ·simp [Builtin.append_, run_underlying ht, sizeOf, typeInfo, hi, Builtin.lenOf, Builtin.firstCells]
 ·simp [Builtin.append_, run_underlying ht, sizeOf, typeInfo, hi, Builtin.lenOf, Builtin.firstCells, hnc, storeCells]
theorem wpList_append_zero {P : Program} {w : World} {ops : Array Oper} {rest : List Oper} {o : Oper} {a : Act} {Q : Exit → Act → World → Prop} (hgd : o.guard = none) (s x : Operand) (t : TypeId)
    (ho : o.op = .call { callee := .builtin .append, args := #[s, x], argTypes := #[t, t] })
    (base : Nat) (e : TypeId) (i : TypeInfo) (size : Nat) (ht : P.underlying t = some (.slice e)) (hi : P.info? e = some i) (c : Nat)
    (v : Value) (n : Nat) (xs : List Value) (hs : a.eval s = v) (hown : w.ownsRow base e size v n xs) (hx : a.eval x = .slice none 0 c)
    (h : wpList P ops Q rest (a.put o.dst v) w) : wpList P ops Q (o :: rest) a w := by
 refine wpList_plain hgd fun K hK => ?_;have hrun := run_append_zero (P := P) (w := w) base t o.type e i size ht hi c v n xs hown;unfold Oper.wp;simp [execOp, ho, resolve, invoke, builtin, hs, hx, hrun, Result.andThen]
 exact hK _ _ h
theorem cell_kp3 (w : World) (o o' o'' : Obj) {b k : Nat} {u : Value} (h : w.cell? ⟨b, k, none⟩ = some u) : (((w.alloc o).alloc o').alloc o'').cell? ⟨b, k, none⟩ = some u := by
 have hl := World.block_lt_of_cell? w _ h;simp only at hl
 rw [World.cell?_alloc_past _ _ _ (by simp; omega), World.cell?_alloc_past _ _ _ (by simp; omega), World.cell?_alloc_past _ _ _ hl, h]
theorem made_nothing (w : World) : MadeR intsR w (w.alloc (.cells #[] 2)) [.slice (some ⟨w.heap.size, 0, none⟩) 0 0] [] := by
 refine ⟨⟨_, [], fun _ => False, rfl, World.ownsRow_lit (base := 0) (e := 2) (size := 1) w #[] 0 (Nat.zero_le _) (Nat.zero_le _) rfl, fun g hg => ?_, fun _ h => h.elim, rfl⟩, box_below w _⟩;simp [Value.ownBlock] at hg
 subst hg;exact ⟨⟨Nat.le_refl _, by simp⟩, fun h => h⟩
theorem l1Copy_nil (cap : Nat) (w : World) : Calls Tryz.prog 100 #[.slice none 0 cap] w fun e w' => ∃ v, e = .returned v ∧ MadeR intsR w w' [v] [] := by
 obtain ⟨i0, hi, hz0, hz1, hz2⟩ := info_parts Tryz.infoI;have hown : (w.alloc (.cells #[] 2)).ownsRow w.heap.size 2 1 (.slice (some ⟨w.heap.size, 0, none⟩) 0 0) 0 [] := World.ownsRow_lit _ #[] 0 (Nat.le_refl _) (Nat.zero_le _) rfl;go_enter Tryz.func100, Tryz.ntmps100;go_wp2_with (at_builtin; refine wpList_append_zero rfl _ _ 37 rfl w.heap.size 2 i0 1 Tryz.underlying37 hi cap _ _ _ rfl hown rfl ?_)
 go_ret
 exact ⟨_, rfl, made_nothing w⟩
theorem l1Copy_rep (a : Option Addr) (xs : List Int) (cap : Nat) (w : World) (h : SlRd intR w a xs) (hm : xs.length ≤ 1048576) :
    Calls Tryz.prog 100 #[.slice a xs.length cap] w fun e w' => ∃ v, e = .returned v ∧ MadeR intsR w w' [v] xs := by
 cases a with
 | some ad => exact (l1Copy_any ad xs cap w (reads_of h) hm).mono fun e w' ⟨v, h1, h2⟩ => ⟨v, h1, madeR_ints h2 (in64_of h)⟩
 | none =>
  rcases h with rfl | ⟨b, off, rows, ha, _⟩
  ·exact l1Copy_nil cap w
  ·cases ha
theorem emptyWay_any (w : World) : Calls Tryz.prog 195 #[] w fun e w' => ∃ av cv, e = .returned (.agg #[.int .i64 (-1), .int .i64 0, .slice av 0 cv]) ∧ MadeR wayR w w' [.int .i64 (-1), .int .i64 0, .slice av 0 cv] emptyW := by
 have M := made_nothing (w.alloc (.cells #[.int .i64 (-1), .int .i64 0, .slice (some ⟨w.heap.size + 1, 0, none⟩) 0 0] 88));have X := heap_on (.cells #[] 2) (heap_at w (.cells #[.int .i64 (-1), .int .i64 0, .slice (some ⟨w.heap.size + 1, 0, none⟩) 0 0] 88));rw [alloc_len] at M;obtain ⟨r0, r1, r2⟩ := cells_3 X;go_enter Tryz.func195, Tryz.ntmps195;go_wp2;refine bodyPost_ret (v := .agg #[.int .i64 (-1), .int .i64 0, .slice (some ⟨w.heap.size + 1, 0, none⟩) 0 0]) (by simp [results, Tryz.results195, go_sem]) rfl ⟨_, _, rfl, own_way (by constructor <;> decide) (by constructor <;> decide) ?_, below_step (box_below w _) M.2⟩;exact intsR.own_mono M.1 (rng_sub (by simp) (Nat.le_refl _))
theorem own_nothing (w : World) (S : Foot) : intsR.own w S [.slice none 0 0] [] := ⟨_, [], fun _ => False, rfl, World.ownsRow_nil _ _ _ _, fun g hg => by simp [Value.ownBlock] at hg, fun _ h => h.elim, rfl⟩
theorem l6Empty_any (w : World) : Calls Tryz.prog 156 #[] w fun e w' => ∃ av cv, e = .returned (.agg #[.int .i64 (-1), .int .i64 0, .slice av 0 cv]) ∧ MadeR wayR w w' [.int .i64 (-1), .int .i64 0, .slice av 0 cv] emptyW := by
 go_enter Tryz.func156, Tryz.ntmps156;go_wp2;refine bodyPost_ret (v := .agg #[.int .i64 (-1), .int .i64 0, .slice none 0 0]) (by simp [results, Tryz.results156, go_sem]) rfl ⟨_, _, rfl, own_way (by constructor <;> decide) (by constructor <;> decide) (own_nothing _ _), box_below w _⟩
theorem wayCopied_any (l s : Int) (d : List Int) (a : Option Addr) (cap : Nat) (w : World) (i1 : In64 l) (i2 : In64 s) (h : SlRd intR w a d) (hm : d.length ≤ 1048576) :
    Calls Tryz.prog 197 #[.agg #[.int .i64 l, .int .i64 s, .slice a d.length cap]] w fun e w' => ∃ av cv, e = .returned (.agg #[.int .i64 l, .int .i64 s, .slice av d.length cv]) ∧ MadeR wayR w w' [.int .i64 l, .int .i64 s, .slice av d.length cv] (l, s, d) := by
 cases a with
 | some ad =>
  obtain ⟨i0, hi, hz0, hz1, hz2⟩ := info_parts Tryz.infoI;have B0 := below_step (box_below w (.cells #[.int .i64 l, .int .i64 s, .slice (some ad) d.length cap] 88)) (box_below _ (.cells #[.int .i64 0, .int .i64 0, .slice none 0 0] 88));have X0 := heap_on (.cells #[.int .i64 0, .int .i64 0, .slice none 0 0] 88) (heap_at w (.cells #[.int .i64 l, .int .i64 s, .slice (some ad) d.length cap] 88));have X1 := heap_at (w.alloc (.cells #[.int .i64 l, .int .i64 s, .slice (some ad) d.length cap] 88)) (.cells #[.int .i64 0, .int .i64 0, .slice none 0 0] 88);rw [alloc_len] at X1;have sz : ((w.alloc (.cells #[.int .i64 l, .int .i64 s, .slice (some ad) d.length cap] 88)).alloc (.cells #[.int .i64 0, .int .i64 0, .slice none 0 0] 88)).heap.size = w.heap.size + 1 + 1 := by simp
  have hown : (((w.alloc (.cells #[.int .i64 l, .int .i64 s, .slice (some ad) d.length cap] 88)).alloc (.cells #[.int .i64 0, .int .i64 0, .slice none 0 0] 88)).alloc (.cells #[] 2)).ownsRow ((w.alloc (.cells #[.int .i64 l, .int .i64 s, .slice (some ad) d.length cap] 88)).alloc (.cells #[.int .i64 0, .int .i64 0, .slice none 0 0] 88)).heap.size 2 1 (.slice (some ⟨((w.alloc (.cells #[.int .i64 l, .int .i64 s, .slice (some ad) d.length cap] 88)).alloc (.cells #[.int .i64 0, .int .i64 0, .slice none 0 0] 88)).heap.size, 0, none⟩) 0 0) 0 [] := World.ownsRow_lit _ #[] 0 (Nat.le_refl _) (Nat.zero_le _) rfl;rw [sz] at hown;have HI : Hid (In64 l ∧ In64 s) := ⟨i1, i2⟩;have HS : Hid (Reads w (some ad) d ∧ ∀ x ∈ d, In64 x) := ⟨reads_of h, in64_of h⟩;have HX : Hid _ := And.intro X0 X1;clear i1 i2 X0 X1 h;go_enter Tryz.func197, Tryz.ntmps197;go_wp2_with (at_builtin; refine wpList_append_own _ rfl _ _ 37 rfl (w.heap.size + 1 + 1) 2 i0 (.int .i64 0) 1 8 Tryz.underlying37 hi hz0 hz1 hz2 rfl (by decide) _ _ _ rfl hown ad d.length cap (d.map (Value.int .i64)) rfl (by simp) ?c1 ?c2 ?c3 ?c4 ?c5 ?_)
  case c1 =>
   intro j u hj;obtain ⟨hjl, rfl⟩ := List.getElem?_eq_some_iff.1 hj;simp at hjl
   rcases HS.out.1 with rfl | ⟨b, off, ha, hc⟩
   ·simp at hjl
   simp only [Option.some.injEq] at ha;subst ha;have g0 := hc j hjl;have g1 := cell_kp3 w (.cells #[.int .i64 l, .int .i64 s, .slice (some ⟨b, off, none⟩) d.length cap] 88) (.cells #[.int .i64 0, .int .i64 0, .slice none 0 0] 88) (.cells #[] 2) g0;rw [show (⟨b, off, none⟩ : Addr).add j = ⟨b, off + j, none⟩ from by simp [Addr.add], g1];simp [List.getD_eq_getElem?_getD, hjl]
  case c2 => intro u hu; simp at hu; obtain ⟨x, _, rfl⟩ := hu; rfl
  case c3 => unfold maxLen; omega
  case c4 => omega
  case c5 => simp
  ·intro v' w1 hown' hgrow hnil;have hv : v' ≠ .slice none 0 0 := hnil;have hown'' : w1.ownsRow ((w.alloc (.cells #[.int .i64 l, .int .i64 s, .slice (some ad) d.length cap] 88)).alloc (.cells #[.int .i64 0, .int .i64 0, .slice none 0 0] 88)).heap.size 2 1 v' d.length (d.map (Value.int .i64)) := by rw [sz]; simpa using hown'
   have HO := madeR_ints (made_app (w := (w.alloc (.cells #[.int .i64 l, .int .i64 s, .slice (some ad) d.length cap] 88)).alloc (.cells #[.int .i64 0, .int .i64 0, .slice none 0 0] 88)) hown'' (by rw [sz]; exact hgrow) hv) HS.out.2;obtain ⟨av, cv, rfl⟩ := slown_val HO.1;obtain ⟨X0, X1⟩ := HX.out;have B1 := below_step B0 HO.2;replace X0 := row_keep HO.2 X0;replace X1 := row_keep HO.2 X1;obtain ⟨y0, y1, y2⟩ := cells_3 X0;obtain ⟨f0, f1, f2⟩ := cells_froz X0;obtain ⟨z0, z1, z2⟩ := cells_3 X1;obtain ⟨g0, g1, g2⟩ := cells_froz X1;have HOO : Hid (intsR.own w1 (rng ((w.alloc (.cells #[.int .i64 l, .int .i64 s, .slice (some ad) d.length cap] 88)).alloc (.cells #[.int .i64 0, .int .i64 0, .slice none 0 0] 88)).heap.size w1.heap.size) [.slice av d.length cv] d) := HO.1;have HX2 : Hid _ := And.intro X0 X1;clear hown' hgrow hnil hown hown'' HO X0 X1 HX hv;go_wp2;obtain ⟨X0, X1⟩ := HX2.out;have Y1 := put3 (a := .int .i64 l) (b := .int .i64 s) (c := .slice av d.length cv) (heap_setC (g := w.heap.size) (o := 2) (v := .slice av d.length cv) X1 (by omega));obtain ⟨r0, r1, r2⟩ := cells_3 Y1;refine bodyPost_ret (v := .agg #[.int .i64 l, .int .i64 s, .slice av d.length cv]) (by simp [results, Tryz.results197, go_sem, r0, r1, r2]) rfl ⟨av, cv, rfl, own_way HI.out.1 HI.out.2 ?_, ?_⟩
   ·refine intsR.own_mono (own_setC (own_setC (own_setC (own_setC HOO.out (fun h => by have := h.1; omega)) (fun h => by have := h.1; omega)) (fun h => by have := h.1; omega)) (fun h => by have := h.1; omega)) ?_;exact rng_sub (by omega) (by simp)
   ·exact below_setC (below_setC (below_setC (below_setC B1 (by omega)) (by omega)) (by omega)) (by omega)
 | none =>
  obtain rfl : d = [] := by
   rcases h with h | ⟨b, off, rows, ha, _⟩
   ·exact h
   ·cases ha
  rw [show ([] : List Int).length = 0 from rfl];obtain ⟨i0, hi, hz0, hz1, hz2⟩ := info_parts Tryz.infoI;have B0 := below_step (box_below w (.cells #[.int .i64 l, .int .i64 s, .slice none 0 cap] 88)) (box_below _ (.cells #[.int .i64 0, .int .i64 0, .slice none 0 0] 88));have X0 := heap_on (.cells #[.int .i64 0, .int .i64 0, .slice none 0 0] 88) (heap_at w (.cells #[.int .i64 l, .int .i64 s, .slice none 0 cap] 88));have X1 := heap_at (w.alloc (.cells #[.int .i64 l, .int .i64 s, .slice none 0 cap] 88)) (.cells #[.int .i64 0, .int .i64 0, .slice none 0 0] 88);rw [alloc_len] at X1;have sz : ((w.alloc (.cells #[.int .i64 l, .int .i64 s, .slice none 0 cap] 88)).alloc (.cells #[.int .i64 0, .int .i64 0, .slice none 0 0] 88)).heap.size = w.heap.size + 1 + 1 := by simp
  have hown : (((w.alloc (.cells #[.int .i64 l, .int .i64 s, .slice none 0 cap] 88)).alloc (.cells #[.int .i64 0, .int .i64 0, .slice none 0 0] 88)).alloc (.cells #[] 2)).ownsRow ((w.alloc (.cells #[.int .i64 l, .int .i64 s, .slice none 0 cap] 88)).alloc (.cells #[.int .i64 0, .int .i64 0, .slice none 0 0] 88)).heap.size 2 1 (.slice (some ⟨((w.alloc (.cells #[.int .i64 l, .int .i64 s, .slice none 0 cap] 88)).alloc (.cells #[.int .i64 0, .int .i64 0, .slice none 0 0] 88)).heap.size, 0, none⟩) 0 0) 0 [] := World.ownsRow_lit _ #[] 0 (Nat.le_refl _) (Nat.zero_le _) rfl;rw [sz] at hown;have HI : Hid (In64 l ∧ In64 s) := ⟨i1, i2⟩;have M := made_nothing ((w.alloc (.cells #[.int .i64 l, .int .i64 s, .slice none 0 cap] 88)).alloc (.cells #[.int .i64 0, .int .i64 0, .slice none 0 0] 88));rw [sz] at M;have HM : Hid _ := M;have HX : Hid _ := And.intro X0 X1;clear i1 i2 M X0 X1;go_enter Tryz.func197, Tryz.ntmps197;go_wp2_with (at_builtin; refine wpList_append_zero rfl _ _ 37 rfl (w.heap.size + 1 + 1) 2 i0 1 Tryz.underlying37 hi cap _ _ _ rfl hown rfl ?_)
  have N := made_nothing ((w.alloc (.cells #[.int .i64 l, .int .i64 s, .slice (some ⟨w.heap.size + 1 + 1, 0, none⟩) 0 0] 88)).alloc (.cells #[.int .i64 l, .int .i64 s, .slice (some ⟨w.heap.size + 1 + 1, 0, none⟩) 0 0] 88));have sz2 : ((w.alloc (.cells #[.int .i64 l, .int .i64 s, .slice (some ⟨w.heap.size + 1 + 1, 0, none⟩) 0 0] 88)).alloc (.cells #[.int .i64 l, .int .i64 s, .slice (some ⟨w.heap.size + 1 + 1, 0, none⟩) 0 0] 88)).heap.size = w.heap.size + 1 + 1 := by simp
  rw [sz2] at N;refine bodyPost_ret (v := .agg #[.int .i64 l, .int .i64 s, .slice (some ⟨w.heap.size + 1 + 1, 0, none⟩) 0 0]) (by simp [results, Tryz.results197, go_sem]) rfl ⟨_, _, rfl, own_way HI.out.1 HI.out.2 (intsR.own_mono N.1 (rng_sub (by rw [sz2]; omega) (Nat.le_refl _))), below_step (below_step (box_below w _) (box_below _ _)) N.2⟩
section
variable {α : Type}
end
section
variable {α : Type}
end
open Go.ChangeShapes Go.WideShapes Go.ChangeAt Go.RowKit Go.Shelf
noncomputable def findI (c : CacheD) (line : Int) : WayD × Int := findC isL treeB c line
theorem find_bad {c : CacheD} {line : Int} (h : okB isL treeB c = false) : findI c line = (emptyW, -1) := by
 unfold findI findC;rw [h];rfl
theorem isL_len {d : List Int} (h : isL d = true) : d.length = 2 := by
 rcases isL_cases d with h' | ⟨x, y, rfl, _, _⟩
 ·rw [h] at h';cases h'
 ·rfl
theorem ok_len {c : CacheD} (h : OkC isL treeB c) {s j : Nat} {row : List WayD} {u : WayD} (hr : c.1[s]? = some row) (hu : row[j]? = some u) : u.2.2.length ≤ 2 := by
 obtain ⟨h1, h2, m, hm, h3⟩ := h;rcases (h3 s row hr).2.2.1 j u hu with hc | ⟨hf, _⟩
 ·rw [clear_eq hc];simp [emptyW]
 ·rw [full_eq] at hf;simp only [Bool.and_eq_true] at hf;rw [isL_len hf.2.2];exact Nat.le_refl _
theorem wayown_setC {w1 : World} {lo hi g o : Nat} {v : Value} {cs : List Value} {u : WayD} (h : wayR.own w1 (rng lo hi) cs u) (hg : g < lo ∨ hi ≤ g) : wayR.own (w1.setCell ⟨g, o, none⟩ v) (rng lo hi) cs u :=
 own_setC h (fun h' => by have := h'.1; have := h'.2; omega)
theorem made_on {w w1 w2 : World} {cs : List Value} {u : WayD} (h : MadeR wayR w w1 cs u) (hb : Below w1.heap.size w1 w2) : MadeR wayR w w2 cs u :=
 ⟨wayR.own_mono (own_next h.1 hb) (rng_sub (Nat.le_refl _) hb.size), below_step h.2 hb⟩
theorem cs1 {w : World} {g b o k : Nat} {u v : Value} (hne : ¬ (b = g)) (h : w.cell? ⟨b, k, none⟩ = some u) : (w.setCell ⟨g, o, none⟩ v).cell? ⟨b, k, none⟩ = some u :=
 (World.cell?_of_block (w := w) (a := ⟨b, k, none⟩) (heap_setCell_other w ⟨g, o, none⟩ b v hne)).trans h
theorem cs3 {w : World} {g b k : Nat} {u x y z : Value} (hne : ¬ (b = g)) (h : w.cell? ⟨b, k, none⟩ = some u) : (((w.setCell ⟨g, 0, none⟩ x).setCell ⟨g, 1, none⟩ y).setCell ⟨g, 2, none⟩ z).cell? ⟨b, k, none⟩ = some u := cs1 hne (cs1 hne (cs1 hne h))
theorem fin_own {w1 : World} {lo hi g : Nat} {cs : List Value} {u : WayD} {x y z : Value} (h : wayR.own w1 (rng lo hi) cs u) (hg : g < lo) : wayR.own (((w1.setCell ⟨g, 0, none⟩ x).setCell ⟨g, 1, none⟩ y).setCell ⟨g, 2, none⟩ z) (rng lo hi) cs u :=
 wayown_setC (wayown_setC (wayown_setC h (.inl hg)) (.inl hg)) (.inl hg)
theorem fin_made {w w0 w1 : World} {g : Nat} {cs : List Value} {u : WayD} {x y z : Value} (hb : Below w.heap.size w w0) (h : MadeR wayR w0 w1 cs u) (hg : g < w0.heap.size) (hw : w.heap.size ≤ g) : MadeR wayR w (((w1.setCell ⟨g, 0, none⟩ x).setCell ⟨g, 1, none⟩ y).setCell ⟨g, 2, none⟩ z) cs u :=
 ⟨wayR.own_mono (fin_own h.1 hg) (rng_sub hb.size (by simp)), below_setC (below_setC (below_setC (below_step hb h.2) hw) hw) hw⟩
theorem implFindW_any (a b : Option Addr) (c : CacheD) (cap cp : Nat) (line : Int) (w : World) (h1 : SlRd waysR w a c.1) (h2 : SlRd intR w b c.2) (m1 : c.1.length ≤ maxLen) (m2 : c.2.length ≤ maxLen) (m3 : ∀ row ∈ c.1, row.length ≤ maxLen) :
    Calls Tryz.prog 132 #[.agg #[.slice a c.1.length cap, .slice b c.2.length cp], .int .i64 line] w fun e w' => ∃ av cv, e = .returned (.tuple #[.agg #[.int .i64 (findI c line).1.1, .int .i64 (findI c line).1.2.1, .slice av (findI c line).1.2.2.length cv], .int .i64 (findI c line).2]) ∧
     MadeR wayR w w' [.int .i64 (findI c line).1.1, .int .i64 (findI c line).1.2.1, .slice av (findI c line).1.2.2.length cv] (findI c line).1 := by
 have HOK : Hid (∀ W, Below w.heap.size w W → Calls Tryz.prog 194 #[.agg #[.slice a c.1.length cap, .slice b c.2.length cp]] W fun e w' => e = .returned (.bool (okB isL treeB c)) ∧ Below W.heap.size W w') := fun W hb =>
  implCacheOk_any a b c cap cp W (slrd_keep h1 fun k hk => hb.block k hk) (slrd_keep h2 fun k hk => hb.block k hk) m1 m2 m3
 cases hok : okB isL treeB c
 ·rw [hok] at HOK;rw [find_bad hok];show Calls Tryz.prog 132 _ w fun e w' => ∃ av cv, e = .returned (.tuple #[.agg #[.int .i64 (-1), .int .i64 0, .slice av 0 cv], .int .i64 (-1)]) ∧ MadeR wayR w w' [.int .i64 (-1), .int .i64 0, .slice av 0 cv] emptyW
  clear h1 h2 m1 m2 m3;have X := heap_on (.cells #[.int .i64 0, .int .i64 0, .slice none 0 0] 88) (heap_at w (.cells #[.slice a c.1.length cap, .slice b c.2.length cp] 92));have Y := heap_at (w.alloc (.cells #[.slice a c.1.length cap, .slice b c.2.length cp] 92)) (.cells #[.int .i64 0, .int .i64 0, .slice none 0 0] 88);rw [alloc_len] at Y;have B := below_step (box_below w (.cells #[.slice a c.1.length cap, .slice b c.2.length cp] 92)) (box_below _ (.cells #[.int .i64 0, .int .i64 0, .slice none 0 0] 88));go_enter Tryz.func132, Tryz.ntmps132;go_wp2_with fail
  generalize (w.alloc (.cells #[.slice a c.1.length cap, .slice b c.2.length cp] 92)).alloc (.cells #[.int .i64 0, .int .i64 0, .slice none 0 0] 88) = W0 at X Y B ⊢;refine (HOK.out _ B).mono ?_;rintro e w1 ⟨rfl, b1⟩;replace B := below_step B b1;replace Y := row_keep b1 Y;clear b1 X HOK;go_wp2_with fail
  have ly := (ltH Y);refine (emptyWay_any _).mono ?_;rintro e w9 ⟨av, cv, rfl, mm⟩;replace Y := row_keep mm.2 Y;obtain ⟨y0, y1, y2⟩ := cells_3 Y;obtain ⟨f0, f1, f2⟩ := cells_froz Y;have HM : Hid _ := And.intro Y mm;clear Y mm;go_wp2;obtain ⟨Y, mm⟩ := HM.out;obtain ⟨r0, r1, r2⟩ := cells_3 (put3 (a := .int .i64 (-1)) (b := .int .i64 0) (c := .slice av 0 cv) Y);refine bodyPost_ret (v := .tuple #[.agg #[.int .i64 (-1), .int .i64 0, .slice av 0 cv], .int .i64 (-1)]) (by simp [results, Tryz.results132, go_sem, r0, r1, r2]) rfl ⟨av, cv, rfl, fin_made B mm ly (by omega)⟩
 ·have hokc := okB_iff.1 hok;rw [hok] at HOK;have HFD : Hid (∀ W, Below w.heap.size w W → Calls Tryz.prog 196 #[.agg #[.slice a c.1.length cap, .slice b c.2.length cp], .int .i64 line] W fun e w' => e = .returned (.tuple #[.agg #[.int .i64 (findP c line).1, .int .i64 (findP c line).2.1], .bool (findP c line).2.2]) ∧ Below W.heap.size W w') :=
   fun W hbw => implFind_any a b c cap cp line W hokc (slrd_keep h1 fun k hk => hbw.block k hk)
  cases hat : atC c line with
  | none =>
   have HFI : Hid (findI c line = (emptyW, -1)) := find_none hat;have hq : (findP c line).2.2 = false := by rw [findP_eq hokc, hat]; split <;> rfl
   rw [hq] at HFD;rw [HFI.out];show Calls Tryz.prog 132 _ w fun e w' => ∃ av cv, e = .returned (.tuple #[.agg #[.int .i64 (-1), .int .i64 0, .slice av 0 cv], .int .i64 (-1)]) ∧ MadeR wayR w w' [.int .i64 (-1), .int .i64 0, .slice av 0 cv] emptyW
   clear h1 h2 m1 m2 m3 hokc hq;generalize (findP c line).1 = f1 at HFD;generalize (findP c line).2.1 = f2 at HFD;have X := heap_on (.cells #[.int .i64 0, .int .i64 0, .slice none 0 0] 88) (heap_at w (.cells #[.slice a c.1.length cap, .slice b c.2.length cp] 92));have Y := heap_at (w.alloc (.cells #[.slice a c.1.length cap, .slice b c.2.length cp] 92)) (.cells #[.int .i64 0, .int .i64 0, .slice none 0 0] 88);rw [alloc_len] at Y;have B := below_step (box_below w (.cells #[.slice a c.1.length cap, .slice b c.2.length cp] 92)) (box_below _ (.cells #[.int .i64 0, .int .i64 0, .slice none 0 0] 88));go_enter Tryz.func132, Tryz.ntmps132;go_wp2_with fail
   generalize (w.alloc (.cells #[.slice a c.1.length cap, .slice b c.2.length cp] 92)).alloc (.cells #[.int .i64 0, .int .i64 0, .slice none 0 0] 88) = W0 at X Y B ⊢;refine (HOK.out _ B).mono ?_;rintro e w1 ⟨rfl, b1⟩;replace B := below_step B b1;replace X := row_keep b1 X;replace Y := row_keep b1 Y;obtain ⟨x0, x1⟩ := cells_two X;clear b1 HOK;go_wp2_with fail
   refine (HFD.out _ B).mono ?_;rintro e w2 ⟨rfl, b1⟩;have bz := box_below w2 (.cells #[.int .i64 f1, .int .i64 f2] 217);replace B := below_step (below_step B b1) bz;replace Y := row_keep bz (row_keep b1 Y);clear b1 bz x0 x1 X HFD;go_wp2_with fail
   generalize w2.alloc (.cells #[.int .i64 f1, .int .i64 f2] 217) = w3 at Y B ⊢;have ly := (ltH Y);refine (emptyWay_any _).mono ?_;rintro e w9 ⟨av, cv, rfl, mm⟩;replace Y := row_keep mm.2 Y;obtain ⟨y0, y1, y2⟩ := cells_3 Y;obtain ⟨f0, f1, f2⟩ := cells_froz Y;have HM : Hid _ := And.intro Y mm;clear Y mm;go_wp2;obtain ⟨Y, mm⟩ := HM.out;obtain ⟨r0, r1, r2⟩ := cells_3 (put3 (a := .int .i64 (-1)) (b := .int .i64 0) (c := .slice av 0 cv) Y);refine bodyPost_ret (v := .tuple #[.agg #[.int .i64 (-1), .int .i64 0, .slice av 0 cv], .int .i64 (-1)]) (by simp [results, Tryz.results132, go_sem, r0, r1, r2]) rfl ⟨av, cv, rfl, fin_made B mm ly (by omega)⟩
  | some fi =>
   obtain ⟨hl0, u, hu, hul⟩ := at_some hat;have hb : betw line 0 15 = true := by
    cases hbb : betw line 0 15
    ·rw [at_out hokc hbb] at hat;cases hat
    ·rfl
   have HFI : Hid (findI c line = (u, (fi : Int))) := find_some hokc hat hu;have hq : findP c line = (((setNo c line : Nat) : Int), (fi : Int), true) := by rw [findP_eq hokc, if_pos hb, hat]; rfl
   rw [hq] at HFD;rw [HFI.out];obtain ⟨hp, hget, hne, hr4, hset, hsl⟩ := ok_row hokc line;have hln := ok_len hokc hget hu;obtain ⟨b0, o0, aj, cj, rfl, k2, -, -, hrd⟩ := set_at h1 hget;have hfl := (List.getElem?_eq_some_iff.1 hu).1;obtain ⟨bj, oj, cs, rfl, hrdu, hcell⟩ := slrd_at hrd hu;obtain ⟨ad, cpw, rfl, i1, i2, -, -, hd3⟩ := way_rd hrdu;have k4 := hcell 0 _ rfl;have k5 := hcell 1 _ rfl;have k6 := hcell 2 _ rfl;rw [show oj + (fi * wayR.size + 0) = oj + fi * 3 from rfl] at k4;rw [show oj + (fi * wayR.size + 1) = oj + fi * 3 + 1 from rfl] at k5;rw [show oj + (fi * wayR.size + 2) = oj + fi * 3 + 2 from rfl] at k6;have hgl : (fi : Int) < ((rowFor c line).length : Int) := by omega
   have hsl1 : ((setNo c line : Nat) : Int) < (c.1.length : Int) := by omega
   have HI : Hid (In64 u.1 ∧ In64 u.2.1) := ⟨i1, i2⟩;have HD : Hid (∀ W, Below w.heap.size w W → SlRd intR W ad u.2.2) := fun W hbw => slrd_keep hd3 fun k hk => hbw.block k hk;have HLN : Hid (u.2.2.length ≤ 1048576) := by unfold Hid; omega
   have KC : Hid (∀ W, Below w.heap.size w W → W.cell? ⟨b0, o0 + setNo c line, none⟩ = some (.slice (some ⟨bj, oj, none⟩) (rowFor c line).length cj) ∧ W.cell? ⟨bj, oj + fi * 3, none⟩ = some (.int .i64 u.1) ∧ W.cell? ⟨bj, oj + fi * 3 + 1, none⟩ = some (.int .i64 u.2.1) ∧ W.cell? ⟨bj, oj + fi * 3 + 2, none⟩ = some (.slice ad u.2.2.length cpw)) :=
    fun W hbw => ⟨cell_keep hbw k2 (cell_lt k2), cell_keep hbw k4 (cell_lt k4), cell_keep hbw k5 (cell_lt k5), cell_keep hbw k6 (cell_lt k6)⟩
   have lb0 := cell_lt k2;have lbj := cell_lt k4;clear h1 h2 m1 m2 m3 hokc hget hne hr4 hset hu hul hrd hrdu hcell i1 i2 hd3 k2 k4 k5 k6 hq hln hp;generalize setNo c line = sn at HFD KC hsl hsl1;generalize (rowFor c line).length = rn at KC hgl hfl;obtain ⟨ul, us, ud⟩ := u;simp only at HI HD HLN KC
   have X := heap_on (.cells #[.int .i64 0, .int .i64 0, .slice none 0 0] 88) (heap_at w (.cells #[.slice (some ⟨b0, o0, none⟩) c.1.length cap, .slice b c.2.length cp] 92));have Y := heap_at (w.alloc (.cells #[.slice (some ⟨b0, o0, none⟩) c.1.length cap, .slice b c.2.length cp] 92)) (.cells #[.int .i64 0, .int .i64 0, .slice none 0 0] 88);rw [alloc_len] at Y;have B := below_step (box_below w (.cells #[.slice (some ⟨b0, o0, none⟩) c.1.length cap, .slice b c.2.length cp] 92)) (box_below _ (.cells #[.int .i64 0, .int .i64 0, .slice none 0 0] 88));go_enter Tryz.func132, Tryz.ntmps132;go_wp2_with fail
   generalize (w.alloc (.cells #[.slice (some ⟨b0, o0, none⟩) c.1.length cap, .slice b c.2.length cp] 92)).alloc (.cells #[.int .i64 0, .int .i64 0, .slice none 0 0] 88) = W0 at X Y B ⊢;refine (HOK.out _ B).mono ?_;rintro e w1 ⟨rfl, b1⟩;replace B := below_step B b1;replace X := row_keep b1 X;replace Y := row_keep b1 Y;obtain ⟨x0, x1⟩ := cells_two X;clear b1 HOK;go_wp2_with fail
   refine (HFD.out _ B).mono ?_;rintro e w4 ⟨rfl, b1⟩;have HLT : Hid (w.heap.size + 1 < w4.heap.size) := (Array.getElem?_eq_some_iff.1 (row_keep b1 Y)).1;have bz := box_below w4 (.cells #[.int .i64 (sn : Int), .int .i64 (fi : Int)] 217);have Z := heap_at w4 (.cells #[.int .i64 (sn : Int), .int .i64 (fi : Int)] 217);replace B := below_step (below_step B b1) bz;replace X := row_keep bz (row_keep b1 X);replace Y := row_keep bz (row_keep b1 Y);clear b1 bz x0 x1 HFD;go_wp2_with fail
   generalize w4.alloc (.cells #[.int .i64 (sn : Int), .int .i64 (fi : Int)] 217) = w5 at X Y Z B ⊢;have ly := (ltH Y);obtain ⟨x0, x1⟩ := cells_two X;obtain ⟨z0, z1⟩ := cells_two Z;obtain ⟨p0, p1, p2, p3⟩ := KC.out _ B;have HX : Hid _ := And.intro X (And.intro Y Z);have ne1 : ¬ (w4.heap.size = w.heap.size + 1) := by have := HLT.out; omega
   have ne2 : ¬ (b0 = w.heap.size + 1) := by omega
   have ne3 : ¬ (bj = w.heap.size + 1) := by omega
   clear X Y Z;go_region_held3 (fun wx => wx.cell? ⟨w.heap.size, 0, none⟩ = some (.slice (some ⟨b0, o0, none⟩) c.1.length cap) ∧ wx.cell? ⟨w4.heap.size, 0, none⟩ = some (.int .i64 (sn : Int)) ∧ wx.cell? ⟨w4.heap.size, 1, none⟩ = some (.int .i64 (fi : Int)) ∧ wx.cell? ⟨b0, o0 + sn, none⟩ = some (.slice (some ⟨bj, oj, none⟩) rn cj) ∧ wx.cell? ⟨bj, oj + fi * 3, none⟩ = some (.int .i64 ul) ∧ wx.cell? ⟨bj, oj + fi * 3 + 1, none⟩ = some (.int .i64 us) ∧ wx.cell? ⟨bj, oj + fi * 3 + 2, none⟩ = some (.slice ad ud.length cpw)) (first | (go_keep; done) | (exact ⟨cs3 (by omega) x0', cs3 ne1 z0', cs3 ne1 z1', cs3 ne2 p0', cs3 ne3 p1', cs3 ne3 p2', cs3 ne3 p3'⟩)) (first | (go_at_call 197; refine (wayCopied_any ul us ud ad cpw _ HI.out.1 HI.out.2 (HD.out _ B.drew) HLN.out).mono ?_; rintro e w9 ⟨av, cv, rfl, mm⟩; have BB := below_step B.drew mm.2; obtain ⟨X, Y, Z⟩ := HX.out; replace X := row_keep (w := w5.drew) mm.2 X; replace Y := row_keep (w := w5.drew) mm.2 Y; replace Z := row_keep (w := w5.drew) mm.2 Z; obtain ⟨x0', x1'⟩ := cells_two X; obtain ⟨z0', z1'⟩ := cells_two Z; obtain ⟨p0', p1', p2', p3'⟩ := KC.out _ BB; obtain ⟨y0', y1', y2'⟩ := cells_3 Y; obtain ⟨f0', f1', f2'⟩ := cells_froz Y))
   all_goals
    go_wp2;obtain ⟨r0, r1, r2⟩ := cells_3 (put3 (a := .int .i64 ul) (b := .int .i64 us) (c := .slice av ud.length cv) Y);refine bodyPost_ret (v := .tuple #[.agg #[.int .i64 ul, .int .i64 us, .slice av ud.length cv], .int .i64 (fi : Int)]) (by simp [results, Tryz.results132, go_sem, r0, r1, r2]) rfl ⟨av, cv, rfl, fin_made B.drew mm (by exact ly) (by omega)⟩
theorem l6Way_in (b : Option Addr) (c : CacheD) (cap cp b0 o0 bj oj cj fi cpw : Nat) (ad : Option Addr) (line : Int) (ul us : Int) (ud : List Int) (w : World) (hokc : OkC isL treeB c) (h1 : SlRd waysR w (some ⟨b0, o0, none⟩) c.1) (hat : atC c line = some fi)
    (k2 : w.cell? ⟨b0, o0 + setNo c line, none⟩ = some (.slice (some ⟨bj, oj, none⟩) (rowFor c line).length cj)) (k4 : w.cell? ⟨bj, oj + fi * 3, none⟩ = some (.int .i64 ul)) (k5 : w.cell? ⟨bj, oj + fi * 3 + 1, none⟩ = some (.int .i64 us)) (k6 : w.cell? ⟨bj, oj + fi * 3 + 2, none⟩ = some (.slice ad ud.length cpw)) :
    Calls Tryz.prog 103 #[.agg #[.slice (some ⟨b0, o0, none⟩) c.1.length cap, .slice b c.2.length cp], .int .i64 line] w fun e w' => e = .returned (.agg #[.int .i64 ul, .int .i64 us, .slice ad ud.length cpw]) ∧ Below w.heap.size w w' := by
 obtain ⟨hl0, u, hu, hul⟩ := at_some hat;have HAT : Hid (∀ W, Below w.heap.size w W → Calls Tryz.prog 150 #[.agg #[.slice (some ⟨b0, o0, none⟩) c.1.length cap, .slice b c.2.length cp], .int .i64 line] W fun e w' => e = .returned (.int .i64 (fi : Int)) ∧ Below W.heap.size W w') := fun W hbw => by
  have := specAt_any (some ⟨b0, o0, none⟩) b c cap cp line W hokc (slrd_keep h1 fun k hk => hbw.block k hk);rwa [hat] at this
 obtain ⟨hp, hget, hne, hr4, hset, hsl⟩ := ok_row hokc line;have hfl := (List.getElem?_eq_some_iff.1 hu).1;have hgl : (fi : Int) < ((rowFor c line).length : Int) := by omega
 have hsl1 : ((setNo c line : Nat) : Int) < (c.1.length : Int) := by omega
 have hset' : line % (c.1.length : Int) = ((setNo c line : Nat) : Int) := hset.symm;have hz : (c.1.length : Int) ≠ 0 := by omega
 have hz2 : ((c.1.length : Int) == 0) = false := beq_false_of_ne hz;have hz3 : ¬ (c.1.length = 0) := by omega
 have hz4 : ¬ (c.1 = []) := fun e => by rw [e] at hz3; exact hz3 rfl
 have ht3 : Int.tmod line (c.1.length : Int) = ((setNo c line : Nat) : Int) := by rw [Int.tmod_eq_emod_of_nonneg hl0, hset']
 have hfi0 : ¬ ((fi : Int) < 0) := by omega
 have KC : Hid (∀ W, Below w.heap.size w W → W.cell? ⟨b0, o0 + setNo c line, none⟩ = some (.slice (some ⟨bj, oj, none⟩) (rowFor c line).length cj) ∧ W.cell? ⟨bj, oj + fi * 3, none⟩ = some (.int .i64 ul) ∧ W.cell? ⟨bj, oj + fi * 3 + 1, none⟩ = some (.int .i64 us) ∧ W.cell? ⟨bj, oj + fi * 3 + 2, none⟩ = some (.slice ad ud.length cpw)) :=
  fun W hbw => ⟨cell_keep hbw k2 (cell_lt k2), cell_keep hbw k4 (cell_lt k4), cell_keep hbw k5 (cell_lt k5), cell_keep hbw k6 (cell_lt k6)⟩
 have lb0 := cell_lt k2;have lbj := cell_lt k4;clear h1 hokc hget hne hr4 hset hu hul k2 k4 k5 k6 hp hat;generalize setNo c line = sn at KC hsl hsl1 hset' ht3;generalize (rowFor c line).length = rn at KC hgl hfl;have X := heap_on (.cells #[.int .i64 0, .int .i64 0, .slice none 0 0] 88) (heap_at w (.cells #[.slice (some ⟨b0, o0, none⟩) c.1.length cap, .slice b c.2.length cp] 92));have Y := heap_at (w.alloc (.cells #[.slice (some ⟨b0, o0, none⟩) c.1.length cap, .slice b c.2.length cp] 92)) (.cells #[.int .i64 0, .int .i64 0, .slice none 0 0] 88);rw [alloc_len] at Y;have B := below_step (box_below w (.cells #[.slice (some ⟨b0, o0, none⟩) c.1.length cap, .slice b c.2.length cp] 92)) (box_below _ (.cells #[.int .i64 0, .int .i64 0, .slice none 0 0] 88));go_enter Tryz.func103, Tryz.ntmps103;go_wp2_with fail
 generalize (w.alloc (.cells #[.slice (some ⟨b0, o0, none⟩) c.1.length cap, .slice b c.2.length cp] 92)).alloc (.cells #[.int .i64 0, .int .i64 0, .slice none 0 0] 88) = W0 at X Y B ⊢;refine (HAT.out _ B).mono ?_;rintro e w5 ⟨rfl, b1⟩;replace B := below_step B b1;replace X := row_keep b1 X;replace Y := row_keep b1 Y;clear b1 HAT;obtain ⟨x0, x1⟩ := cells_two X;obtain ⟨y0, y1, y2⟩ := cells_3 Y;obtain ⟨f0, f1, f2⟩ := cells_froz Y;obtain ⟨p0, p1, p2, p3⟩ := KC.out _ B;have ne0 : ¬ (w.heap.size = w.heap.size + 1) := by omega
 have ne2 : ¬ (b0 = w.heap.size + 1) := by omega
 have ne3 : ¬ (bj = w.heap.size + 1) := by omega
 have HY : Hid _ := Y;clear X Y;go_wp2_with fail
 go_region_held3 (fun wx => wx.cell? ⟨w.heap.size, 0, none⟩ = some (.slice (some ⟨b0, o0, none⟩) c.1.length cap) ∧ wx.cell? ⟨b0, o0 + sn, none⟩ = some (.slice (some ⟨bj, oj, none⟩) rn cj) ∧ wx.cell? ⟨bj, oj + fi * 3, none⟩ = some (.int .i64 ul) ∧ wx.cell? ⟨bj, oj + fi * 3 + 1, none⟩ = some (.int .i64 us) ∧ wx.cell? ⟨bj, oj + fi * 3 + 2, none⟩ = some (.slice ad ud.length cpw)) (first | (go_keep; done) | (exact ⟨cs3 ne0 x0, cs3 ne2 p0, cs3 ne3 p1, cs3 ne3 p2, cs3 ne3 p3⟩)) (fail)
 all_goals
  go_wp2;obtain ⟨r0, r1, r2⟩ := cells_3 (put3 (w := w5) (a := .int .i64 ul) (b := .int .i64 us) (c := .slice ad ud.length cpw) HY.out);refine bodyPost_ret (v := .agg #[.int .i64 ul, .int .i64 us, .slice ad ud.length cpw]) (by simp [results, Tryz.results103, go_sem, r0, r1, r2]) rfl ⟨rfl, (below_setC (below_setC (below_setC B (by omega)) (by omega)) (by omega)).drew⟩
end Go.Proofs.YtcocbafhcpdheaaGreatDoor
