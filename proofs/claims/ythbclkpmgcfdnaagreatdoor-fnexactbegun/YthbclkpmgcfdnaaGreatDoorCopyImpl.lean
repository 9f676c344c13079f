
/- CopyImpl. -/
import Derived.Test.YthbclkpmgcfdnaaGreatDoorJPuts2CopyFacts
import Derived.Test.YthbclkpmgcfdnaaGreatDoorJWayCopy3CloneOps
import Derived.Test.YthbclkpmgcfdnaaGreatDoorNewImpl
import Derived.Test.YthbclkpmgcfdnaaGreatDoorWaysOk
/- The program's copy of a store. Conditions: a right shape, lists that read as told, of lengths that a machine can hold. -/
namespace Go.Proofs.YthbclkpmgcfdnaaGreatDoor
open Go.ChangeShapes Go.WideShapes Go.ChangeAt Go.RowKit Go.Shelf
set_option linter.unusedVariables false
attribute [local go_sem] Oper.semAt_some
section
variable {W0 wx : World} {b0 o0 o1 : Nat} {u v : Value}
theorem sc_alloc (hD : b0 < W0.heap.size) (h : wx.cell? ⟨b0, o0, none⟩ = some u ∧ wx.cell? ⟨b0, o1, none⟩ = some v ∧ Below W0.heap.size W0 wx) (o : Obj) : (wx.alloc o).cell? ⟨b0, o0, none⟩ = some u ∧ (wx.alloc o).cell? ⟨b0, o1, none⟩ = some v ∧ Below W0.heap.size W0 (wx.alloc o) :=
  ⟨cell_keep (box_below wx o) h.1 (cell_lt h.1), cell_keep (box_below wx o) h.2.1 (cell_lt h.2.1), below_step h.2.2 (box_below wx o)⟩
theorem sc_drew (h : wx.cell? ⟨b0, o0, none⟩ = some u ∧ wx.cell? ⟨b0, o1, none⟩ = some v ∧ Below W0.heap.size W0 wx) : wx.drew.cell? ⟨b0, o0, none⟩ = some u ∧ wx.drew.cell? ⟨b0, o1, none⟩ = some v ∧ Below W0.heap.size W0 wx.drew := ⟨h.1, h.2.1, h.2.2.drew⟩
theorem sc_set {g o : Nat} {z : Value} (hD : b0 < W0.heap.size) (hg : W0.heap.size ≤ g) (h : wx.cell? ⟨b0, o0, none⟩ = some u ∧ wx.cell? ⟨b0, o1, none⟩ = some v ∧ Below W0.heap.size W0 wx) : (wx.setCell ⟨g, o, none⟩ z).cell? ⟨b0, o0, none⟩ = some u ∧ (wx.setCell ⟨g, o, none⟩ z).cell? ⟨b0, o1, none⟩ = some v ∧ Below W0.heap.size W0 (wx.setCell ⟨g, o, none⟩ z) :=
  ⟨cs1 (by omega) h.1, cs1 (by omega) h.2.1, below_setC h.2.2 hg⟩
theorem sc_made {w9 : World} (h : wx.cell? ⟨b0, o0, none⟩ = some u ∧ wx.cell? ⟨b0, o1, none⟩ = some v ∧ Below W0.heap.size W0 wx) (hb : Below wx.heap.size wx w9) : w9.cell? ⟨b0, o0, none⟩ = some u ∧ w9.cell? ⟨b0, o1, none⟩ = some v ∧ Below W0.heap.size W0 w9 := ⟨cell_keep hb h.1 (cell_lt h.1), cell_keep hb h.2.1 (cell_lt h.2.1), below_step h.2.2 hb⟩
end
theorem cf_keep {W w9 : World} {b o : Nat} {u : Value} (hb : Below W.heap.size W w9) (h : W.cell? ⟨b, o, none⟩ = some u) (hf : W.frozen? ⟨b, o, none⟩ = false) : w9.cell? ⟨b, o, none⟩ = some u ∧ w9.frozen? ⟨b, o, none⟩ = false ∧ b < w9.heap.size :=
  ⟨cell_keep hb h (cell_lt h), (World.frozen?_of_block (w := W) (a := ⟨b, o, none⟩) (hb.block b (cell_lt h))).trans hf, Nat.lt_of_lt_of_le (cell_lt h) hb.size⟩
def madeAt (k : Nat) (cs : List (List WayD)) : List (List WayD) := cs.mapIdx fun i row => if i < k then List.replicate row.length zeroW else []
theorem madeAt_0 (cs : List (List WayD)) : madeAt 0 cs = List.replicate cs.length [] := by
  apply List.ext_getElem?
  intro i
  rw [madeAt, List.getElem?_mapIdx, List.getElem?_replicate]
  by_cases h : i < cs.length
  · simp [h]
  · simp [h]
theorem madeAt_get {k : Nat} {cs : List (List WayD)} (h : k < cs.length) : (madeAt k cs)[k]? = some [] := by
  rw [madeAt, List.getElem?_mapIdx, List.getElem?_eq_getElem h]
  simp
theorem madeAt_put {k : Nat} {cs : List (List WayD)} {row : List WayD} (h : cs[k]? = some row) : (madeAt k cs).set k (List.replicate row.length zeroW) = madeAt (k + 1) cs := by
  have hl := (List.getElem?_eq_some_iff.1 h).1
  apply List.ext_getElem?
  intro i
  by_cases hi : k = i
  · subst hi
    rw [List.getElem?_set_self (by simpa [madeAt] using hl), madeAt, List.getElem?_mapIdx, h]
    simp
  · rw [List.getElem?_set_ne hi, madeAt, madeAt, List.getElem?_mapIdx, List.getElem?_mapIdx]
    cases cs[i]? with
    | none => rfl
    | some r =>
      simp only [Option.map_some, Option.some.injEq]
      by_cases h1 : i < k
      · rw [if_pos h1, if_pos (by omega)]
      · rw [if_neg h1, if_neg (by omega)]
theorem madeAt_all (m : Nat) (cs : List (List WayD)) : madeAt cs.length cs = copyAt m 0 cs := by
  rw [copyAt_zero]
  apply List.ext_getElem?
  intro i
  rw [madeAt, List.getElem?_mapIdx, List.getElem?_map]
  cases h : cs[i]? with
  | none => rfl
  | some row => simp [(List.getElem?_eq_some_iff.1 h).1]
theorem heap_at' {W : World} {o : Obj} {k : Nat} (e : W.heap.size = k) : (W.alloc o).heap[k]? = some o := e ▸ heap_at W o
theorem copy_start {w W0 W' : World} {pa cb n : Nat} {Tf : Foot} {box : Obj} {v : Value} {ts : List Int} (hm : n ≤ maxLen) (hB : Below w.heap.size w W0) (hX : W0.heap[w.heap.size]? = some box) (hY : W0.heap[w.heap.size + 1]? = some (.cells #[.slice none 0 0, .slice none 0 0] 27 (0, 0))) (B : Below W0.heap.size W0 W')
    (h1 : W'.heap[pa]? = some (.cells (madeCells #[.slice none 0 0] n) 107 (0, 0))) (h2 : intsR.own W' Tf [v] ts) (h3 : W'.heap[cb]? = some (.cells #[.slice (some ⟨pa, 0, none⟩) n n, v] 27 (0, 0))) : CopyI w W'.heap.size pa cb n Tf box v ts (List.replicate n []) W' :=
  ⟨nils_at h1 ⟨.inl rfl, (Array.getElem?_eq_some_iff.1 h1).1⟩ hm, h3, row_keep B hY, row_keep B hX, h2, below_step hB B, Nat.le_refl _⟩
theorem own_grown9 {α : Type} {R : Rep α} {X Y : World} {row : Option Nat} {S : Foot} {cs : List Value} {x : α} (h : R.own X S cs x) (hg : X.grownBy Y row) (hr : ∀ r, row = some r → ∃ o : Obj, X.heap[r]? = some o ∧ o.isCells = false) : R.own Y S cs x :=
  R.own_mono (R.own_keep (R.own_tight h) (fun k hk hl => hg.block k hl (fun e => by
    obtain ⟨_, cur, t, _, hh⟩ := hk
    obtain ⟨o, ho, hc⟩ := hr k e.symm
    rw [hh] at ho
    cases ho
    cases hc))) (fun k hk => hk.1)
/- What holds between two rounds: the store as far as it is copied, the list of its sets as it was, the box of the iterator. -/
def CopyR (w : World) (t pa cb n G : Nat) (Tf : Foot) (bc pc : Array Value) (v : Value) (ts : List Int) (xss : List (List WayD)) (W : World) : Prop :=
  CopyI w t pa cb n Tf (.cells bc 27 (0, 0)) v ts xss W ∧ W.heap[pa]? = some (.cells pc 107 (0, 0)) ∧ W.heap[G]? = some (.cells bc 27 (0, 0))
theorem copyR_own {w : World} {t pa cb n G B : Nat} {Tf : Foot} {bc pc : Array Value} {v : Value} {ts : List Int} {f : Nat → List (List WayD)} (hB : w.heap.size ≤ B) : OwnFrom B (fun k W => CopyR w t pa cb n G Tf bc pc v ts (f k) W) := by
  rintro k X Y row ⟨⟨h1, h2, h3, h4, h5, h6, h7⟩, h8, h9⟩ hg hr
  have hr' : ∀ r, row = some r → ∃ o : Obj, X.heap[r]? = some o ∧ o.isCells = false := fun r e => (hr r e).2
  have hs := hg.size
  exact ⟨⟨setsR.own_mono (own_grown9 h1 hg hr') (fun k hk => ⟨hk.1, by have := hk.2; omega⟩), own_heap (β := Unit) _ _ _ _ () X Y row h2 hg hr, own_heap (β := Unit) _ _ _ _ () X Y row h3 hg hr, own_heap (β := Unit) _ _ _ _ () X Y row h4 hg hr, own_grown9 h5 hg hr', ownFrom_below (β := Unit) (Nat.le_refl _) hB () X Y row h6 hg hr, by omega⟩, own_heap (β := Unit) _ _ _ _ () X Y row h8 hg hr, own_heap (β := Unit) _ _ _ _ () X Y row h9 hg hr⟩
theorem copyR_below {w W W' : World} {t pa cb n G : Nat} {Tf : Foot} {bc pc : Array Value} {v : Value} {ts : List Int} {xss : List (List WayD)} (h : CopyR w t pa cb n G Tf bc pc v ts xss W) (hb : Below W.heap.size W W') : CopyR w t pa cb n G Tf bc pc v ts xss W' :=
  ⟨copy_next h.1 hb, row_keep hb h.2.1, row_keep hb h.2.2⟩
theorem copyR_start {w wr W0 : World} {t pa cb n : Nat} {Tf : Foot} {bc : Array Value} {v : Value} {ts : List Int} {xss : List (List WayD)} (h : CopyI w t pa cb n Tf (.cells bc 27 (0, 0)) v ts xss wr) (hn : n = xss.length) (hne : ∀ row ∈ xss, row ≠ []) (h0 : 0 < n) (hb : Below wr.heap.size wr W0) (hG : W0.heap[wr.heap.size]? = some (.cells bc 27 (0, 0))) :
    ∃ pc, CopyR w t pa cb n wr.heap.size Tf bc pc v ts xss W0 ∧ ∀ (s g2 k cp : Nat), s < n → pc[s]? = some (.slice (some ⟨g2, 0, none⟩) k cp) → g2 < wr.heap.size := by
  obtain ⟨g, cap, cur, Sj, T, c', hv, hSg, hg, -⟩ := slown_focus h.1 (List.getElem?_eq_getElem (show 0 < xss.length by omega))
  simp only [Value.slice.injEq, Option.some.injEq, Addr.mk.injEq, and_true] at hv
  obtain ⟨rfl, -⟩ := hv
  refine ⟨cur, ⟨copy_next h hb, row_keep hb hg, hG⟩, fun s g2 k cp hs hc => ?_⟩
  have hsl : s < xss.length := by omega
  have hr : 0 < (xss[s]).length := List.length_pos_iff.2 (hne _ (List.getElem_mem hsl))
  obtain ⟨g', cap', g2', cap2', e1, hcell, -, -, -, -, hl, -⟩ := own_put_at h.1 (List.getElem?_eq_getElem hsl) (List.getElem?_eq_getElem hr)
  simp only [Value.slice.injEq, Option.some.injEq, Addr.mk.injEq, and_true] at e1
  obtain ⟨rfl, -⟩ := e1
  rw [cell_of_row wr pa s _ _ (0, 0) hg, hc] at hcell
  simp only [Option.some.injEq, Value.slice.injEq, Addr.mk.injEq, and_true] at hcell
  rw [hcell.1]
  exact hl
theorem copyR_step {w W W' : World} {t pa cb n G s r : Nat} {Tf : Foot} {bc pc : Array Value} {v : Value} {ts : List Int} {xss yss : List (List WayD)} (L : Lies w.heap.size t pa cb Tf) (h : CopyR w t pa cb n G Tf bc pc v ts xss W) (hrow : ∀ (s g2 k cp : Nat), s < n → pc[s]? = some (.slice (some ⟨g2, 0, none⟩) k cp) → g2 < G) (hs : s < n)
    (ho : setsR.own W' (fun k => Old W (Rooms t pa W) k ∨ (W.heap.size ≤ k ∧ k < W'.heap.size)) [.slice (some ⟨pa, 0, none⟩) n n] yss)
    (hx : ∃ g cap g2 cap2, (.slice (some ⟨pa, 0, none⟩) n n : Value) = .slice (some ⟨g, 0, none⟩) xss.length cap ∧ W.cell? ⟨g, s, none⟩ = some (.slice (some ⟨g2, 0, none⟩) r cap2) ∧ g ≠ g2 ∧ Old W (Rooms t pa W) g2 ∧ Chg (fun k => k = g2) W W') :
    CopyR w t pa cb n G Tf bc pc v ts yss W' ∧ ∃ g2, g2 < G ∧ Chg (fun k => k = g2) W W' := by
  obtain ⟨h1, h2, h3⟩ := h
  obtain ⟨g, cap, g2, cap2, e1, hcell, hne, hS, hc⟩ := hx
  simp only [Value.slice.injEq, Option.some.injEq, Addr.mk.injEq, and_true] at e1
  obtain ⟨rfl, -⟩ := e1
  rw [cell_of_row W pa s _ _ (0, 0) h2] at hcell
  have hl := hrow s g2 r cap2 hs hcell
  exact ⟨⟨copy_put L h1 ho (hc.mono fun k hk => by have e : k = g2 := hk; rw [e]; exact hS), (hc.block pa (Array.getElem?_eq_some_iff.1 h2).1 (fun e => hne e)).trans h2, (hc.block G (Array.getElem?_eq_some_iff.1 h3).1 (fun e => by have e' : G = g2 := e; omega)).trans h3⟩, g2, hl, hc⟩

set_option maxRecDepth 8000 in
set_option maxHeartbeats 8000000 in
theorem implCopied_any (a b : Option Addr) (c : CacheD) (cap cp m : Nat) (w : World) (h1 : SlRd waysR w a c.1) (h2 : SlRd intR w b c.2) (hp : c.1.length = 1 ∨ c.1.length = 2 ∨ c.1.length = 4) (hm : m = 1 ∨ m = 2 ∨ m = 4) (hrow : ∀ row ∈ c.1, row.length = m) (hl : c.2.length ≤ 1048576) (hd : ∀ row ∈ c.1, ∀ u ∈ row, u.2.2.length ≤ 1048576) :
    Calls Tryz.prog 105 #[.agg #[.slice a c.1.length cap, .slice b c.2.length cp]] w fun e w' => ∃ av cv bv dv, e = .returned (.agg #[.slice av c.1.length cv, .slice bv c.2.length dv]) ∧ MadeR cacheR w w' [.slice av c.1.length cv, .slice bv c.2.length dv] c := by
  have hm0 : 0 < m := by omega
  have hn4 : c.1.length ≤ 4 := by omega
  have H1 : Hid (∀ W, Below w.heap.size w W → SlRd waysR W a c.1) := fun W hb => slrd_keep h1 fun k hk => hb.block k hk
  have H2 : Hid (∀ W, Below w.heap.size w W → SlRd intR W b c.2) := fun W hb => slrd_keep h2 fun k hk => hb.block k hk
  have HP : Hid _ := And.intro hp (And.intro hm (And.intro hrow hd))
  clear h1 h2 hp hm hrow hd
  refine (callsIn_wide (n := 0)).1 ?_
  refine callsIn_of_wp_marks Tryz.func105 rfl trivial ?_ rfl
  refine wpIn_wide.2 ?_
  simp only [Tryz.ntmps105, List.size_toArray, List.length_cons, List.length_nil, Nat.reduceAdd, Nat.reduceSub, Array.replicate_succ, Array.replicate_zero, List.push_toArray, List.append_toArray, List.nil_append, List.cons_append]
  go_wp2_with fail
  have B0 := below_step (box_below w (.cells #[.slice a c.1.length cap, .slice b c.2.length cp] 27)) (box_below _ (.cells #[.slice none 0 0, .slice none 0 0] 27))
  have X0 := heap_on (.cells #[.slice none 0 0, .slice none 0 0] 27) (heap_at w (.cells #[.slice a c.1.length cap, .slice b c.2.length cp] 27))
  have Y0 := heap_at (w.alloc (.cells #[.slice a c.1.length cap, .slice b c.2.length cp] 27)) (.cells #[.slice none 0 0, .slice none 0 0] 27)
  have e2 : ((w.alloc (.cells #[.slice a c.1.length cap, .slice b c.2.length cp] 27)).alloc (.cells #[.slice none 0 0, .slice none 0 0] 27)).heap.size = w.heap.size + 1 + 1 := by simp
  rw [alloc_len] at Y0
  generalize (w.alloc (.cells #[.slice a c.1.length cap, .slice b c.2.length cp] 27)).alloc (.cells #[.slice none 0 0, .slice none 0 0] 27) = W0 at B0 X0 Y0 e2 ⊢
  have hmk := Go.run_make_row' (P := Tryz.prog) 24 107 (.slice none 0 0) 24 Tryz.underlying24 Tryz.infoWayS rfl .i64 .i64 c.1.length (by omega) (by omega)
  obtain ⟨x0, x1⟩ := cells_two X0
  have x2 := (Array.getElem?_eq_some_iff.1 X0).1
  have HB : Hid _ := And.intro B0 (And.intro X0 Y0)
  clear B0 X0 Y0
  have q0 : W0.cell? ⟨w.heap.size, 0, none⟩ = some (.slice a c.1.length cap) ∧ W0.cell? ⟨w.heap.size, 1, none⟩ = some (.slice b c.2.length cp) ∧ Below W0.heap.size W0 W0 := ⟨x0, x1, Below.refl _ _⟩
  have Q0 : Hid _ := q0
  clear q0
  go_cut [3] from 8 to 15 (fun p wx => ∃ t pa cb bv dv Tf, Lies w.heap.size t pa cb Tf ∧ p = .pointer (some ⟨cb, 0, none⟩) ∧ CopyI w t pa cb c.1.length Tf (.cells #[.slice a c.1.length cap, .slice b c.2.length cp] 27) (.slice bv c.2.length dv) c.2 (List.replicate c.1.length []) wx)
  case first =>
   have hmx : c.1.length ≤ maxLen := by unfold maxLen; omega
   go_region_held3 (fun wx => wx.cell? ⟨w.heap.size, 0, none⟩ = some (.slice a c.1.length cap) ∧ wx.cell? ⟨w.heap.size, 1, none⟩ = some (.slice b c.2.length cp) ∧ Below W0.heap.size W0 wx) (repeat' first | exact Q0.out | exact Q9.out | assumption | refine sc_drew ?_ | refine sc_alloc x2 ?_ _ | refine sc_set x2 (by omega) ?_) (first | (go_at_call 107; refine (clone_rep b c.2 cp _ (H2.out _ (below_step HB.out.1 (And.right (And.right (by assumption))))) hl).mono ?_; rintro e w9 ⟨bv, dv, rfl, mm⟩; have HM : Hid _ := mm; have Q9 : Hid (w9.cell? ⟨w.heap.size, 0, none⟩ = some (.slice a c.1.length cap) ∧ w9.cell? ⟨w.heap.size, 1, none⟩ = some (.slice b c.2.length cp) ∧ Below W0.heap.size W0 w9) := sc_made (by assumption) mm.2; (first | (have y00 : w9.cell? ⟨w.heap.size + 1 + 1, 0, none⟩ = some (.slice none 0 0) ∧ w9.frozen? ⟨w.heap.size + 1 + 1, 0, none⟩ = false ∧ w.heap.size + 1 + 1 < w9.heap.size := ?hy; case hy => (refine cf_keep mm.2 ?_ ?_ <;> go_simp <;> done)) | skip); (first | (have y01 : w9.cell? ⟨w.heap.size + 1 + 1, 1, none⟩ = some (.slice none 0 0) ∧ w9.frozen? ⟨w.heap.size + 1 + 1, 1, none⟩ = false ∧ w.heap.size + 1 + 1 < w9.heap.size := ?hy; case hy => (refine cf_keep mm.2 ?_ ?_ <;> go_simp <;> done)) | skip); (first | (have y10 : w9.cell? ⟨w.heap.size + 1 + 1 + 1, 0, none⟩ = some (.slice none 0 0) ∧ w9.frozen? ⟨w.heap.size + 1 + 1 + 1, 0, none⟩ = false ∧ w.heap.size + 1 + 1 + 1 < w9.heap.size := ?hy; case hy => (refine cf_keep mm.2 ?_ ?_ <;> go_simp <;> done)) | skip); (first | (have y11 : w9.cell? ⟨w.heap.size + 1 + 1 + 1, 1, none⟩ = some (.slice none 0 0) ∧ w9.frozen? ⟨w.heap.size + 1 + 1 + 1, 1, none⟩ = false ∧ w.heap.size + 1 + 1 + 1 < w9.heap.size := ?hy; case hy => (refine cf_keep mm.2 ?_ ?_ <;> go_simp <;> done)) | skip); clear mm))
   all_goals go_wp2_with fail
   all_goals go_meet
   all_goals have hS := And.right (And.right (by assumption : _ ∧ _ ∧ Below W0.heap.size W0 _))
   · have P := row_keep HM.out.2 (heap_at W0 (.cells (madeCells #[.slice none 0 0] c.1.length) 107))
     have z := HM.out.2.size
     have zz : W0.heap.size + 1 ≤ w9.heap.size := by simpa using z
     rw [e2] at P
     exact ⟨_, w.heap.size + 1 + 1, w9.heap.size, bv, dv, _, ⟨by omega, by simp <;> omega, by omega, by simp, by omega, fun k hk => ⟨by have := hk.1; simp at this; omega, by have := hk.2; simp <;> omega⟩, fun hk => by have := hk.1; simp at this; omega, fun hk => by have := hk.2; omega⟩, rfl, copy_start hmx HB.out.1 HB.out.2.1 HB.out.2.2 hS (heap_on _ P) (own_box _ HM.out.1) (heap_at _ _)⟩
   · have P := row_keep HM.out.2 (heap_on (.cells #[.slice none 0 0, .slice none 0 0] 27) (heap_at W0 (.cells (madeCells #[.slice none 0 0] c.1.length) 107)))
     have C := row_keep HM.out.2 (heap_at' (W := W0.alloc (.cells (madeCells #[.slice none 0 0] c.1.length) 107)) (o := (.cells #[.slice none 0 0, .slice none 0 0] 27)) (k := W0.heap.size + 1) (by simp))
     have z := HM.out.2.size
     have zz : W0.heap.size + 1 + 1 ≤ w9.heap.size := by simpa using z
     clear z
     rw [e2] at P C zz
     exact ⟨_, w.heap.size + 1 + 1, w.heap.size + 1 + 1 + 1, bv, dv, _, ⟨by omega, by simp <;> omega, by omega, by simp <;> omega, by omega, fun k hk => ⟨by have := hk.1; simp at this; omega, by have := hk.2; simp <;> omega⟩, fun hk => by have := hk.1; have := hk.2; simp at * <;> omega, fun hk => by have := hk.1; have := hk.2; simp at * <;> omega⟩, rfl, copy_start hmx HB.out.1 HB.out.2.1 HB.out.2.2 hS (heap_setC (heap_setC P (by omega)) (by omega)) (own_setC (own_setC HM.out.1 (fun hk => by have := hk.1; simp at this; omega)) (fun hk => by have := hk.1; simp at this; omega)) (put2 C)⟩
   · have z := HM.out.2.size
     have zz : W0.heap.size ≤ w9.heap.size := by simpa using z
     clear z
     rw [e2] at zz
     exact ⟨_, w9.heap.size, w9.heap.size + 1, bv, dv, _, ⟨by omega, by simp <;> omega, by omega, by simp <;> omega, by omega, fun k hk => ⟨by have := hk.1; simp at this; omega, by have := hk.2; simp <;> omega⟩, fun hk => by have := hk.1; have := hk.2; simp at * <;> omega, fun hk => by have := hk.1; have := hk.2; simp at * <;> omega⟩, rfl, copy_start hmx HB.out.1 HB.out.2.1 HB.out.2.2 hS (heap_on _ (heap_at _ _)) (own_box _ (own_box _ HM.out.1)) (heap_at' (by simp))⟩
   · have z := HM.out.2.size
     have zz : W0.heap.size ≤ w9.heap.size := by simpa using z
     clear z
     rw [e2] at zz
     exact ⟨_, w9.heap.size + 1, w9.heap.size, bv, dv, _, ⟨by omega, by simp <;> omega, by omega, by simp <;> omega, by omega, fun k hk => ⟨by have := hk.1; simp at this; omega, by have := hk.2; simp <;> omega⟩, fun hk => by have := hk.1; have := hk.2; simp at * <;> omega, fun hk => by have := hk.1; have := hk.2; simp at * <;> omega⟩, rfl, copy_start hmx HB.out.1 HB.out.2.1 HB.out.2.2 hS (heap_at' (by simp)) (own_box _ (own_box _ HM.out.1)) (heap_on _ (heap_at _ _))⟩
   · have C := row_keep HM.out.2 (heap_on (.cells (madeCells #[.slice none 0 0] c.1.length) 107) (heap_at W0 (.cells #[.slice none 0 0, .slice none 0 0] 27)))
     have P := row_keep HM.out.2 (heap_at' (W := W0.alloc (.cells #[.slice none 0 0, .slice none 0 0] 27)) (o := (.cells (madeCells #[.slice none 0 0] c.1.length) 107)) (k := W0.heap.size + 1) (by simp))
     have z := HM.out.2.size
     have zz : W0.heap.size + 1 + 1 ≤ w9.heap.size := by simpa using z
     clear z
     rw [e2] at P C zz
     exact ⟨_, w.heap.size + 1 + 1 + 1, w.heap.size + 1 + 1, bv, dv, _, ⟨by omega, by simp <;> omega, by omega, by simp <;> omega, by omega, fun k hk => ⟨by have := hk.1; simp at this; omega, by have := hk.2; simp <;> omega⟩, fun hk => by have := hk.1; have := hk.2; simp at * <;> omega, fun hk => by have := hk.1; have := hk.2; simp at * <;> omega⟩, rfl, copy_start hmx HB.out.1 HB.out.2.1 HB.out.2.2 hS (heap_setC (heap_setC P (by omega)) (by omega)) (own_setC (own_setC HM.out.1 (fun hk => by have := hk.1; simp at this; omega)) (fun hk => by have := hk.1; simp at this; omega)) (put2 C)⟩
   · have C := row_keep HM.out.2 (heap_at W0 (.cells #[.slice none 0 0, .slice none 0 0] 27))
     have z := HM.out.2.size
     have zz : W0.heap.size + 1 ≤ w9.heap.size := by simpa using z
     clear z
     rw [e2] at C zz
     exact ⟨_, w9.heap.size, w.heap.size + 1 + 1, bv, dv, _, ⟨by omega, by simp <;> omega, by omega, by simp <;> omega, by omega, fun k hk => ⟨by have := hk.1; simp at this; omega, by have := hk.2; simp <;> omega⟩, fun hk => by have := hk.1; have := hk.2; simp at * <;> omega, fun hk => by have := hk.1; have := hk.2; simp at * <;> omega⟩, rfl, copy_start hmx HB.out.1 HB.out.2.1 HB.out.2.2 hS (heap_at' (by simp)) (own_box _ (own_setC (own_setC HM.out.1 (fun hk => by have := hk.1; simp at this; omega)) (fun hk => by have := hk.1; simp at this; omega))) (heap_on _ (put2 C))⟩
  case rest =>
    obtain ⟨t, pa, cb, bv, dv, Tf, L, rfl, I⟩ := hcut
    clear HB x0 x1 x2 e2 hmk Q0
    obtain ⟨y0, y1⟩ := cells_two I.2.2.2.1
    rw [← madeAt_0] at I
    have HI : Hid _ := I
    clear I
    go_wp2
    go_loopw [19] (fun q wr => ∃ k : Nat, k ≤ c.1.length ∧ q = .int .i64 k ∧ CopyI w t pa cb c.1.length Tf (.cells #[.slice a c.1.length cap, .slice b c.2.length cp] 27) (.slice bv c.2.length dv) c.2 (madeAt k c.1) wr) (fun q _ => c.1.length - (intOf q).toNat)
    case atStart => exact ⟨0, Nat.zero_le _, rfl, HI.out⟩
    case round =>
      clear HI y0 y1
      obtain ⟨k, hk, rfl, I⟩ := hrel
      by_cases hlt : k < c.1.length
      · have hlt' : (k : Int) < (c.1.length : Int) := by omega
        obtain ⟨row, hrw⟩ : ∃ row, c.1[k]? = some row := ⟨_, List.getElem?_eq_getElem hlt⟩
        obtain ⟨b0, o0, aj, cj, rfl, k2, -, -, -⟩ := set_at (H1.out _ I.2.2.2.2.2.1) hrw
        have hrm : row.length ≤ 4 := by have := HP.out.2.2.1 row (List.mem_of_getElem? hrw); have := HP.out.2.1; omega
        obtain ⟨⟨u0, cu0⟩, fz, pl, NI⟩ := copy_row2 L I (madeAt_get hlt) (r := row.length) (by unfold maxLen; omega)
        rw [madeAt_put hrw] at NI
        have HNI : Hid _ := NI
        have cu1 : wr.cell? ⟨pa, k, none⟩ = some u0 := cu0
        have fz1 : wr.frozen? ⟨pa, k, none⟩ = false := fz
        have pl1 : pa < wr.heap.size := pl
        obtain ⟨p0, p1⟩ := cells_two I.2.1
        have p2 := (Array.getElem?_eq_some_iff.1 I.2.1).1
        have hmk3 := run_make_wide (P := Tryz.prog) 107 30 (.agg #[.int .i64 0, .int .i64 0, .slice none 0 0]) 3 40 Tryz.underlying107 Tryz.infoWay row.length (by omega) (by omega)
        have hne := Ne.symm L.ne
        clear I NI cu0 fz pl hrw
        go_wp2
        go_region_held3 (fun wx => wx.cell? ⟨cb, 0, none⟩ = some (.slice (some ⟨pa, 0, none⟩) c.1.length c.1.length)) (first | (go_keep; done) | (exact cell_keep (box_below (wr.setCell ⟨pa, k, none⟩ (.slice (some ⟨wr.heap.size, 0, none⟩) row.length row.length)) _).drew (cs1 hne p0) (by simpa using p2))) (fail)
        all_goals
          go_wp2
          go_roundw
          case rel => exact ⟨k + 1, by omega, by go_num, copy_next HNI.out (below_drewN (Below.refl _ _) 1)⟩
          case measure => simp [intOf]; omega
      · have hkn : k = c.1.length := by omega
        subst hkn
        rw [madeAt_all m] at I
        obtain ⟨y0, y1⟩ := cells_two I.2.2.2.1
        have y2 := (Array.getElem?_eq_some_iff.1 I.2.2.2.1).1
        have HI : Hid _ := I
        clear I
        go_wp2_with fail
        refine (everyWay_any _ _ _ _ _ _ _ _ rfl rfl _).mono ?_
        rintro e w' ⟨rfl, rfl⟩
        have hzl : (copyAt m 0 c.1).length = c.1.length := copyAt_len m 0 c.1
        have hne0 : ∀ row ∈ copyAt m 0 c.1, row ≠ [] := fun row hr e => by
          rw [copyAt_zero] at hr
          obtain ⟨r0, hr0, rfl⟩ := List.mem_map.1 hr
          have := HP.out.2.2.1 r0 hr0
          have e2 := congrArg List.length e
          simp at e2
          rw [e2] at this
          simp at this
          omega
        obtain ⟨pc, R0, hpc⟩ := copyR_start HI.out hzl.symm hne0 (by have := HP.out.1; omega) (box_below wr (.cells #[.slice a c.1.length cap, .slice b c.2.length cp] 27)) (heap_at wr _)
        have e4 : (wr.alloc (.cells #[.slice a c.1.length cap, .slice b c.2.length cp] 27)).heap.size = wr.heap.size + 1 := by simp
        have hts := HI.out.2.2.2.2.2.2
        have hws := HI.out.2.2.2.2.2.1.size
        clear HI y0 y1 y2
        generalize wr.alloc (.cells #[.slice a c.1.length cap, .slice b c.2.length cp] 27) = W0 at R0 e4 ⊢
        generalize wr.heap.size = G at R0 e4 hpc hts hws ⊢
        obtain ⟨b0, off0, cc, rfl, hat, hcc⟩ := setsAt_of (H1.out w (Below.refl _ _)) (fun e => by have := HP.out.1; rw [e] at this; simp at this) hm0 HP.out.2.2.1
        have HG : Hid (∀ k, k < c.1.length * m → ((cc (k / m)).way (k % m)).line = (wayK c m k).1 ∧ ((cc (k / m)).way (k % m)).state = (wayK c m k).2.1 ∧ ((cc (k / m)).way (k % m)).len = (wayK c m k).2.2.length ∧ SlRd intR w ((cc (k / m)).way (k % m)).addr (wayK c m k).2.2 ∧ In64 (wayK c m k).1 ∧ In64 (wayK c m k).2.1 ∧ (wayK c m k).2.2.length ≤ 1048576 ∧ ∃ row, c.1[k / m]? = some row ∧ row[k % m]? = some (wayK c m k)) := fun k hk => by
          obtain ⟨row, e1, e2⟩ := wayK_get hm0 HP.out.2.2.1 hk
          obtain ⟨q1, q2, q3, q4, q5, q6⟩ := hcc _ _ row _ e1 e2
          obtain ⟨_, _, aj, cj, -, -, -, -, hrd⟩ := set_at (H1.out w (Below.refl _ _)) e1
          obtain ⟨bj, oj, cs, -, hrdu, -⟩ := slrd_at hrd e2
          obtain ⟨ad, cpw, -, i1, i2, -⟩ := way_rd hrdu
          exact ⟨q1, q2, q3, q6, i1, i2, HP.out.2.2.2 row (List.mem_of_getElem? e1) _ (List.mem_of_getElem? e2), row, e1, e2⟩
        have HA : Hid _ := hat
        clear hcc hat
        go_wp2_with fail
        refine wpIn_wide.1 (range_iter (N := c.1.length * m) (lb := #[.pointer (some ⟨G, 0, none⟩)]) (gf := 186) rfl (enters_of Tryz.func186 (by kernel_rfl) rfl)
          (everyWay1_iter G b0 off0 c.1.length m cap cc (by have := HP.out.1; omega) (by have := HP.out.2.1; omega) (by have := HP.out.1; omega) hm0) (fun _ => rfl)
          (fun k W => CopyR w t pa cb c.1.length G Tf #[.slice (some ⟨b0, off0, none⟩) c.1.length cap, .slice b c.2.length cp] pc (.slice bv c.2.length dv) c.2 (copyAt m k c.1) W)
          (fun x k W => False)
          (copyR_own (by omega)) (fun x => ownFrom_pure _ _) ?hR R0
          (fun k a' W => ∃ B4 B5, W0.heap.size < B4 ∧ W0.heap.size < B5 ∧ W.heap[B4]? = some (.cells #[.int .i64 (k / m : Nat), .int .i64 (k % m : Nat)] 143 (0, 0)) ∧ W.heap[B5]? = some (.cells #[.int .i64 ((cc (k / m)).way (k % m)).line, .int .i64 ((cc (k / m)).way (k % m)).state, .slice ((cc (k / m)).way (k % m)).addr ((cc (k / m)).way (k % m)).len ((cc (k / m)).way (k % m)).cap] 30 (0, 0)) ∧ CopyR w t pa cb c.1.length G Tf #[.slice (some ⟨b0, off0, none⟩) c.1.length cap, .slice b c.2.length cp] pc (.slice bv c.2.length dv) c.2 (copyAt m k c.1) W ∧
            a' = { tmps := #[.agg #[.slice (some ⟨b0, off0, none⟩) c.1.length cap, .slice b c.2.length cp], .pointer (some ⟨w.heap.size, 0, none⟩), .pointer (some ⟨w.heap.size + 1, 0, none⟩), .pointer (some ⟨cb, 0, none⟩), u4, u5, .pointer (some ⟨B4, 0, none⟩), .pointer (some ⟨B5, 0, none⟩), u8, u9, u10, u11, u12, u13, u14, u15, .pointer (some ⟨w.heap.size, 0, none⟩), .slice (some ⟨b0, off0, none⟩) c.1.length cap, .int .i64 c.1.length, .int .i64 c.1.length, .bool false, u21, u22, u23, u24, u25, u26, u27, u28, u29, u30, u31, .agg #[.slice (some ⟨b0, off0, none⟩) c.1.length cap, .slice b c.2.length cp], .func (.func 186) #[] #[.pointer (some ⟨G, 0, none⟩)], .agg #[.int .i64 (k / m : Nat), .int .i64 (k % m : Nat)], ((cc (k / m)).way (k % m)).agg, undef, undef, undef, undef, undef], defers := [] })
          ?hA ?hassign ?hbody ?hdone ?hstop)
        case hR =>
          rintro k W ⟨g0, g1, g2⟩
          exact ⟨by rw [cell_of_row W _ 0 _ _ (0, 0) g2]; rfl, setsAt_below HA.out g0.2.2.2.2.2.1 hm0⟩
        case hA =>
          rintro k a' ⟨⟩ X Y row' ⟨B4, B5, l4, l5, g4, g5, g0, rfl⟩ hg hr
          exact ⟨B4, B5, l4, l5, own_heap (β := Unit) _ _ _ _ () X Y row' g4 hg hr, own_heap (β := Unit) _ _ _ _ () X Y row' g5 hg hr, copyR_own (f := fun k => copyAt m k c.1) (B := W0.heap.size) (by omega) k X Y row' g0 hg hr, rfl⟩
        case hassign =>
          rintro k W K hk g0 hlt hK
          gi_wp2
          have z1 := box_below W (.cells #[.int .i64 (k / m : Nat), .int .i64 (k % m : Nat)] 143)
          have z2 := box_below (W.alloc (.cells #[.int .i64 (k / m : Nat), .int .i64 (k % m : Nat)] 143)) (.cells #[.int .i64 ((cc (k / m)).way (k % m)).line, .int .i64 ((cc (k / m)).way (k % m)).state, .slice ((cc (k / m)).way (k % m)).addr ((cc (k / m)).way (k % m)).len ((cc (k / m)).way (k % m)).cap] 30)
          have z3 := heap_at (W.alloc (.cells #[.int .i64 (k / m : Nat), .int .i64 (k % m : Nat)] 143)) (.cells #[.int .i64 ((cc (k / m)).way (k % m)).line, .int .i64 ((cc (k / m)).way (k % m)).state, .slice ((cc (k / m)).way (k % m)).addr ((cc (k / m)).way (k % m)).len ((cc (k / m)).way (k % m)).cap] 30)
          rw [alloc_len] at z3
          exact hK _ _ (Kept.below (below_step z1 z2)) ⟨W.heap.size, W.heap.size + 1, by omega, by omega, heap_on _ (heap_at _ _), z3, copyR_below (copyR_below g0 z1) z2, rfl⟩
        case hbody =>
          rintro k a' V hk ⟨B4, B5, l4, l5, g4, g5, g0, rfl⟩ hlt hD hL
          obtain ⟨q1, q2, q3, q5, i1, i2, hdl, row, e1, e2⟩ := HG.out k hk
          rw [q1, q2, q3] at g5
          have hag : ((cc (k / m)).way (k % m)).agg = .agg #[.int .i64 (wayK c m k).1, .int .i64 (wayK c m k).2.1, .slice ((cc (k / m)).way (k % m)).addr (wayK c m k).2.2.length ((cc (k / m)).way (k % m)).cap] := by rw [WCells.agg, q1, q2, q3]
          rw [hag]
          clear hag q1 q2 q3
          generalize ((cc (k / m)).way (k % m)).addr = ad at g5 q5 ⊢
          generalize ((cc (k / m)).way (k % m)).cap = cpw at g5 ⊢
          have hkm : k / m * m + k % m = k := Nat.div_add_mod' k m
          have stp := copyAt_step (m := m) (s := k / m) (j := k % m) HP.out.2.2.1 e1 e2
          rw [hkm] at stp
          have hj : (row.mapIdx fun j u => if k / m * m + j < k then u else zeroW)[k % m]? = some (if k / m * m + k % m < k then wayK c m k else zeroW) := by rw [List.getElem?_mapIdx, e2]; rfl
          have hcall := implPut_row (Rooms t pa V) _ (.slice bv c.2.length dv) (copyAt m k c.1) (k / m) (k % m) _ _ (wayK c m k).1 (wayK c m k).2.1 (wayK c m k).2.2 ad cpw V g0.1.1 (copyAt_get e1) hj (by rw [copyAt_len]; omega) (by have := HP.out.2.2.1 row (List.mem_of_getElem? e1); have := HP.out.2.1; simp; omega) i1 i2 (slrd_keep q5 fun k hk => g0.1.2.2.2.2.2.1.block k hk) hdl
          have hks : k / m < c.1.length := (List.getElem?_eq_some_iff.1 e1).1
          obtain ⟨x0, x1, x2⟩ := cells_three g5
          obtain ⟨y0, y1⟩ := cells_two g4
          obtain ⟨z0, z1⟩ := cells_two g0.1.2.1
          have HC : Hid _ := hcall
          have HX : Hid _ := And.intro stp g0
          clear hcall stp g0 g4 g5 hj e2 i1 i2 q5 hD hL
          gi_wp2
          refine ⟨trivial, rfl, (CallsIn.inRound _ (callsIn_wide.2 HC.out)).mono ?_⟩
          rintro e V1 ⟨rfl, ho, hx⟩
          gi_wp2
          obtain ⟨R1, g2, hl2, hc⟩ := copyR_step L HX.out.2 hpc hks ho hx
          refine ⟨Kept.chg hc (fun j e => by have e' : j = g2 := e; omega), ?_⟩
          have hst := HX.out.1
          show CopyR w t pa cb c.1.length G Tf _ pc _ c.2 (copyAt m (k + 1) c.1) V1
          rw [← hst]
          exact R1
        case hdone =>
          rintro W ⟨g0, g1, g2⟩ hK
          rw [copyAt_all HP.out.2.2.1] at g0
          obtain ⟨o1, o2, o3, o4, o5, o6, o7⟩ := g0
          obtain ⟨p0, p1⟩ := cells_two o2
          obtain ⟨r0, r1⟩ := cells_two o3
          obtain ⟨f0, f1⟩ := cells_froz2 o3
          have HO : Hid _ := And.intro o1 (And.intro o3 (And.intro o5 (And.intro o6 hK)))
          clear o1 o2 o3 o4 o5 o6 g1 g2 hK R0 hpc HG HA H1 H2
          go_wp2
          obtain ⟨o1, o3, o5, o6, hK⟩ := HO.out
          obtain ⟨L1, L2, L3, L4, L5, L6, L7, L8⟩ := L
          have hK' : ((W.setCell ⟨w.heap.size + 1, 0, none⟩ (.slice (some ⟨pa, 0, none⟩) c.1.length c.1.length)).setCell ⟨w.heap.size + 1, 1, none⟩ (.slice bv c.2.length dv)).heap[W0.heap.size]? = some (.deferred (some [])) := (heap_setCell_other _ ⟨w.heap.size + 1, 1, none⟩ _ _ (by simp; omega)).trans ((heap_setCell_other W ⟨w.heap.size + 1, 0, none⟩ _ _ (by simp; omega)).trans hK)
          refine ⟨by simp, .inl ⟨_, _, rfl, run_takeDeferred hK', ?_⟩⟩
          have g9 := (World.putObj_heap_other (o := .deferred none) (show w.heap.size + 1 ≠ W0.heap.size by omega)).trans (put2 (a := .slice (some ⟨pa, 0, none⟩) c.1.length c.1.length) (b := .slice bv c.2.length dv) o3)
          obtain ⟨c0, c1⟩ := cell_two g9
          have hgr := grownBy_putObj' ((W.setCell ⟨w.heap.size + 1, 0, none⟩ (.slice (some ⟨pa, 0, none⟩) c.1.length c.1.length)).setCell ⟨w.heap.size + 1, 1, none⟩ (.slice bv c.2.length dv)) W0.heap.size (.deferred none)
          have hr9 : ∀ r, some W0.heap.size = some r → ∃ o : Obj, ((W.setCell ⟨w.heap.size + 1, 0, none⟩ (.slice (some ⟨pa, 0, none⟩) c.1.length c.1.length)).setCell ⟨w.heap.size + 1, 1, none⟩ (.slice bv c.2.length dv)).heap[r]? = some o ∧ o.isCells = false := fun r e => by
            cases e
            exact ⟨_, hK', rfl⟩
          have nr : ¬ Rooms t pa W (w.heap.size + 1) := fun h => by
            rcases h.1 with h | h <;> omega
          have nt : ¬ Tf (w.heap.size + 1) := fun h => by
            have := (L6 _ h).1
            omega
          refine ⟨.agg #[.slice (some ⟨pa, 0, none⟩) c.1.length c.1.length, .slice bv c.2.length dv], ?_, _, _, _, _, rfl, own_cache (own_grown9 (own_setC (own_setC o1 nr) nr) hgr hr9) (own_grown9 (own_setC (own_setC o5 nt) nt) hgr hr9) (fun k hk => ?_) (fun k hk => ?_) (fun k hk ht => ?_), ?_⟩
          · simp [results, Tryz.results105, go_sem, c0, c1]
          · refine ⟨?_, by have := hk.2; simpa using this⟩
            rcases hk.1 with h | h <;> omega
          · have := L6 k hk
            exact ⟨by have := this.1; omega, by have := this.2; simp; omega⟩
          · rcases hk.1 with h | h
            · exact L7 (h ▸ ht)
            · have := (L6 k ht).2
              omega
          · exact (below_setC (below_setC o6 (by omega)) (by omega)).trans ((Below.refl _ _).grown hgr (by have := (Array.getElem?_eq_some_iff.1 hK').1; omega) (fun k e => by cases e; omega))
        case hstop =>
          rintro x k W hk h
          exact h.elim
end Go.Proofs.YthbclkpmgcfdnaaGreatDoor
