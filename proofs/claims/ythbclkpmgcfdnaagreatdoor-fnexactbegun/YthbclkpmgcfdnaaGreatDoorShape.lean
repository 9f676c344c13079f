
/- Shape. -/
import Derived.Test.YthbclkpmgcfdnaaGreatDoorStore
import Derived.Test.YthbclkpmgcfdnaaGreatDoorJChange8Own
import Derived.Deep.DeepCutAuto
import Derived.BigRegion
/- The contract of a store's shape, of the program: how many sets, ways and trees. Conditions: lists that read as told, of lengths that a machine can hold. -/
namespace Go.Proofs.YthbclkpmgcfdnaaGreatDoor
open Go.ChangeShapes Go.WideShapes Go.ChangeAt Go.RowKit Go.Shelf
set_option linter.unusedVariables false
def waysN (c : CacheD) : Nat := (c.1.getD 0 []).length
def RowFit (c : CacheD) (i : Nat) : Prop := ∀ row t, c.1[i]? = some row → c.2[i]? = some t → row.length = waysN c ∧ treeB t (waysN c) = true
def Shape (c : CacheD) : Prop := powB c.1.length = true ∧ c.2.length = c.1.length ∧ ∀ i, i < c.1.length → RowFit c i
open Classical in
noncomputable def shapeB (c : CacheD) : Bool := decide (Shape c)
theorem shape_yes {c : CacheD} (h : Shape c) : shapeB c = true := by simp [shapeB, h]
theorem shape_no {c : CacheD} (h : ¬ Shape c) : shapeB c = false := by simp [shapeB, h]
theorem cells_two {w : World} {g : Nat} {x y : Value} {t : TypeId} (h : w.heap[g]? = some (.cells #[x, y] t (0, 0))) :
    w.cell? ⟨g, 0, none⟩ = some x ∧ w.cell? ⟨g, 1, none⟩ = some y := cell_two h
theorem cells_three {w : World} {g : Nat} {x y z : Value} {t : TypeId} (h : w.heap[g]? = some (.cells #[x, y, z] t (0, 0))) :
    w.cell? ⟨g, 0, none⟩ = some x ∧ w.cell? ⟨g, 1, none⟩ = some y ∧ w.cell? ⟨g, 2, none⟩ = some z :=
  ⟨by rw [cell_of_row w g 0 _ t (0, 0) h]; rfl, by rw [cell_of_row w g 1 _ t (0, 0) h]; rfl, by rw [cell_of_row w g 2 _ t (0, 0) h]; rfl⟩
/-- One set's slice, in its place. -/
theorem set_at {w : World} {a : Option Addr} {xs : List (List WayD)} {j : Nat} {row : List WayD} (h : SlRd waysR w a xs) (hx : xs[j]? = some row) :
    ∃ b off aj cj, a = some ⟨b, off, none⟩ ∧ w.cell? ⟨b, off + j, none⟩ = some (.slice aj row.length cj) ∧ row.length ≤ cj ∧ cj ≤ maxLen ∧ SlRd wayR w aj row := by
  obtain ⟨b, off, c, rfl, ⟨aj, cj, rfl, h1, h2, h3⟩, hcell⟩ := slrd_at h hx
  have g1 := hcell 0 _ rfl
  rw [show j * waysR.size + 0 = j from Nat.mul_one j] at g1
  exact ⟨b, off, aj, cj, rfl, g1, h1, h2, h3⟩
theorem int_at {w : World} {a : Option Addr} {xs : List Int} {j : Nat} {x : Int} (h : SlRd intR w a xs) (hx : xs[j]? = some x) :
    ∃ b off, a = some ⟨b, off, none⟩ ∧ w.cell? ⟨b, off + j, none⟩ = some (.int .i64 x) := by
  obtain ⟨b, off, c, rfl, ⟨rfl, _⟩, hcell⟩ := slrd_at h hx
  have g1 := hcell 0 _ rfl
  rw [show j * intR.size + 0 = j from Nat.mul_one j] at g1
  exact ⟨b, off, rfl, g1⟩

set_option maxHeartbeats 2000000 in
theorem shapeOk_any (a b : Option Addr) (c : CacheD) (cap cp : Nat) (w : World) (h1 : SlRd waysR w a c.1) (h2 : SlRd intR w b c.2) (m1 : c.1.length ≤ maxLen) (m2 : c.2.length ≤ maxLen) (m3 : ∀ row ∈ c.1, row.length ≤ maxLen) :
    Calls Tryz.prog 127 #[.agg #[.slice a c.1.length cap, .slice b c.2.length cp]] w fun e w' => e = .returned (.bool (shapeB c)) ∧ Below w.heap.size w w' := by
  have m1' : c.1.length ≤ 9223372036854775807 := m1
  have m2' : c.2.length ≤ 9223372036854775807 := m2
  have HB : Hid _ := box_below w
  cases hp : powB c.1.length
  · have H : Hid (shapeB c = false) := shape_no fun h => by rw [h.1] at hp; cases hp
    clear h1 h2 m1 m2 m3
    go_enter Tryz.func127, Tryz.ntmps127
    go_wp2_with (go_at_call 118; refine (sizeOk_any _ _).mono ?_; rintro e w' ⟨rfl, rfl⟩; rw [hp])
    go_ret
    exact ⟨ret_bool H.out.symm, HB.out _⟩
  by_cases hl : c.2.length = c.1.length
  · rw [hl]
    have HP : Hid (powB c.1.length = true) := hp
    have HM : Hid (∀ row ∈ c.1, row.length ≤ maxLen) := m3
    have hpos : 0 < c.1.length := by simp [powB] at hp; omega
    have hx0 : c.1[0]? = some (c.1.getD 0 []) := by rw [List.getD_eq_getElem?_getD, List.getElem?_eq_getElem hpos]; rfl
    have hm0 : (c.1.getD 0 []).length ≤ maxLen := m3 _ (List.mem_of_getElem? hx0)
    obtain ⟨bs, os, a0, c0, rfl, g0, -, -, -⟩ := set_at h1 hx0
    have X0 := heap_at w (.cells #[.slice (some ⟨bs, os, none⟩) c.1.length cap, .slice b c.1.length cp] 27)
    have B0 := box_below w (.cells #[.slice (some ⟨bs, os, none⟩) c.1.length cap, .slice b c.1.length cp] 27)
    have H1 : Hid _ := h1
    have H2 : Hid _ := h2
    have hlen : Hid (c.2.length = c.1.length) := hl
    have hw0 : Hid ((c.1.getD 0 []).length = waysN c) := rfl
    have G0 : Hid (w.cell? ⟨bs, os + 0, none⟩ = some (.slice a0 (c.1.getD 0 []).length c0)) := g0
    clear h1 h2 m1 m2 m3 hx0 hl g0
    generalize (c.1.getD 0 []).length = m at hm0 hw0 G0
    go_enter Tryz.func127, Tryz.ntmps127
    go_wp2_with (go_at_call 118; refine (sizeOk_any _ _).mono ?_; rintro e w' ⟨rfl, rfl⟩; rw [hp])
    generalize w.alloc (.cells #[.slice (some ⟨bs, os, none⟩) c.1.length cap, .slice b c.1.length cp] 27) = W0 at X0 B0 ⊢
    go_loopw [22] (fun i wr => ∃ k : Nat, k ≤ c.1.length ∧ i = .int .i64 k ∧ (∀ j, j < k → RowFit c j) ∧ Below w.heap.size w wr ∧ wr.heap[w.heap.size]? = some (.cells #[.slice (some ⟨bs, os, none⟩) c.1.length cap, .slice b c.1.length cp] 27 (0, 0))) (fun i _ => c.1.length - (intOf i).toNat)
    case atStart => exact ⟨0, Nat.zero_le _, rfl, fun j hj => by omega, B0, X0⟩
    case round =>
      clear B0 X0
      obtain ⟨k, hk, rfl, hfit, BB, X⟩ := hrel
      by_cases hlt : k < c.1.length
      · have hlt' : (k : Int) < (c.1.length : Int) := by omega
        obtain ⟨row, hrow⟩ : ∃ row, c.1[k]? = some row := ⟨_, List.getElem?_eq_getElem hlt⟩
        obtain ⟨t, ht⟩ : ∃ t, c.2[k]? = some t := ⟨_, List.getElem?_eq_getElem (by have := hlen.out; omega)⟩
        obtain ⟨_, _, ak, ck, e1, gk, -, -, -⟩ := set_at H1.out hrow
        cases e1
        obtain ⟨bt, ot, rfl, gt⟩ := int_at H2.out ht
        have hmk : row.length ≤ maxLen := HM.out _ (List.mem_of_getElem? hrow)
        have l1 := cell_lt gk
        have l2 := cell_lt gt
        have KW : Hid (∀ w', Below w.heap.size w w' → w'.cell? ⟨bs, os, none⟩ = some (.slice a0 m c0) ∧ w'.cell? ⟨bs, os + k, none⟩ = some (.slice ak row.length ck) ∧ w'.cell? ⟨bt, ot + k, none⟩ = some (.int .i64 t)) :=
          fun w' hb => ⟨cell_keep hb G0.out l1, cell_keep hb gk l1, cell_keep hb gt l2⟩
        have HR : Hid (∀ r' t', c.1[k]? = some r' → c.2[k]? = some t' → r' = row ∧ t' = t) := fun r' t' h h' => by rw [hrow] at h; rw [ht] at h'; cases h; cases h'; exact ⟨rfl, rfl⟩
        have HF : Hid (¬ RowFit c k → shapeB c = false) := fun h => shape_no fun s => h (s.2.2 k hlt)
        have HN : Hid (RowFit c k → row.length = m ∧ treeB t m = true) := fun h => by have := h row t hrow ht; rwa [← hw0.out] at this
        have HY : Hid (row.length = m → treeB t m = true → RowFit c k) := fun e1 e2 r' t' h h' => by obtain ⟨rfl, rfl⟩ := HR.out r' t' h h'; rw [← hw0.out]; exact ⟨e1, e2⟩
        have hmk' : row.length ≤ 9223372036854775807 := hmk
        have hm' : m ≤ 9223372036854775807 := hm0
        clear gk gt hrow ht hmk hm0 G0
        have n0 : ∀ n : Cls (fun wx => Below w.heap.size w wx ∧ wx.heap[w.heap.size]? = some (.cells #[.slice (some ⟨bs, os, none⟩) c.1.length cap, .slice (some ⟨bt, ot, none⟩) c.1.length cp] 27 (0, 0))), n.w.cell? ⟨w.heap.size, 0, none⟩ = some (.slice (some ⟨bs, os, none⟩) c.1.length cap) := fun n => (cells_two n.h.2).1
        have n1 : ∀ n : Cls (fun wx => Below w.heap.size w wx ∧ wx.heap[w.heap.size]? = some (.cells #[.slice (some ⟨bs, os, none⟩) c.1.length cap, .slice (some ⟨bt, ot, none⟩) c.1.length cp] 27 (0, 0))), n.w.cell? ⟨w.heap.size, 1, none⟩ = some (.slice (some ⟨bt, ot, none⟩) c.1.length cp) := fun n => (cells_two n.h.2).2
        have g0 : ∀ n : Cls (fun wx => Below w.heap.size w wx ∧ wx.heap[w.heap.size]? = some (.cells #[.slice (some ⟨bs, os, none⟩) c.1.length cap, .slice (some ⟨bt, ot, none⟩) c.1.length cp] 27 (0, 0))), n.w.cell? ⟨bs, os, none⟩ = some (.slice a0 m c0) := fun n => (KW.out _ n.h.1).1
        have gt : ∀ n : Cls (fun wx => Below w.heap.size w wx ∧ wx.heap[w.heap.size]? = some (.cells #[.slice (some ⟨bs, os, none⟩) c.1.length cap, .slice (some ⟨bt, ot, none⟩) c.1.length cp] 27 (0, 0))), n.w.cell? ⟨bt, ot + k, none⟩ = some (.int .i64 t) := fun n => (KW.out _ n.h.1).2.2
        obtain ⟨-, gk, -⟩ := KW.out _ BB
        by_cases hm : row.length = m
        · have hm2 : ((row.length : Int) == (m : Int)) = true := by simp [hm]
          cases htr : treeB t m
          · have htree : Hid (∀ w, Calls Tryz.prog 174 #[.int .i64 t, .int .i64 m] w fun e w' => e = .returned (.bool false) ∧ w' = w) := fun w => by have := implTreeOk_any t m w; rwa [htr] at this
            go_wp2_with fail
            refine region_class (fun wx => Below w.heap.size w wx ∧ wx.heap[w.heap.size]? = some (.cells #[.slice (some ⟨bs, os, none⟩) c.1.length cap, .slice (some ⟨bt, ot, none⟩) c.1.length cp] 27 (0, 0))) (by kernel_rfl) (by kernel_rfl) ⟨BB.drew, X⟩ ?_
            intro hne
            repeat (quiet_step (first | (go_at_call 165; exact calls_class (ways_any bs os c.1.length cap _ _ _ _ rfl a0 m c0 _ hpos (g0 _)) (fun w' hc bb => ⟨below_step hc.1 bb, row_keep bb hc.2⟩)) | (go_at_call 174; exact calls_class_same (htree.out _))))
            refine wpQuiet_nil ?_
            rintro wx ⟨b20, X20⟩
            clear n0 n1 g0 gt gk BB X hne
            go_wp2
            go_ret
            exact ⟨ret_bool (HF.out fun h => by have := (HN.out h).2; rw [htr] at this; cases this).symm, b20⟩
          · have htree : Hid (∀ w, Calls Tryz.prog 174 #[.int .i64 t, .int .i64 m] w fun e w' => e = .returned (.bool true) ∧ w' = w) := fun w => by have := implTreeOk_any t m w; rwa [htr] at this
            go_wp2_with fail
            refine region_class (fun wx => Below w.heap.size w wx ∧ wx.heap[w.heap.size]? = some (.cells #[.slice (some ⟨bs, os, none⟩) c.1.length cap, .slice (some ⟨bt, ot, none⟩) c.1.length cp] 27 (0, 0))) (by kernel_rfl) (by kernel_rfl) ⟨BB.drew, X⟩ ?_
            intro hne
            repeat (quiet_step (first | (go_at_call 165; exact calls_class (ways_any bs os c.1.length cap _ _ _ _ rfl a0 m c0 _ hpos (g0 _)) (fun w' hc bb => ⟨below_step hc.1 bb, row_keep bb hc.2⟩)) | (go_at_call 174; exact calls_class_same (htree.out _))))
            refine wpQuiet_nil ?_
            rintro wx ⟨b20, X20⟩
            clear n0 n1 g0 gt gk BB X hne
            go_wp2
            go_roundw
            case rel =>
              refine ⟨k + 1, by omega, by go_num, fun j hj => ?_, b20, X20⟩
              by_cases he : j < k
              · exact hfit j he
              · have : j = k := by omega
                subst this
                exact HY.out hm htr
            case measure => simp [intOf]; omega
        · have hm3 : ((row.length : Int) != (m : Int)) = true := by simp; omega
          go_wp2_with fail
          refine region_class (fun wx => Below w.heap.size w wx ∧ wx.heap[w.heap.size]? = some (.cells #[.slice (some ⟨bs, os, none⟩) c.1.length cap, .slice (some ⟨bt, ot, none⟩) c.1.length cp] 27 (0, 0))) (by kernel_rfl) (by kernel_rfl) ⟨BB.drew, X⟩ ?_
          intro hne
          iterate 5 (quiet_step ((go_at_call 165; exact calls_class (ways_any bs os c.1.length cap _ _ _ _ rfl a0 m c0 _ hpos (g0 _)) (fun w' hc bb => ⟨below_step hc.1 bb, row_keep bb hc.2⟩))))
          clear hm3
          refine wpQuiet_step (fun K hK => ?_)
          go_simp
          refine hid_act K _ ?_
          intro A hA
          refine hK A ?_
          clear hK K
          have ht0 : A.tmps[32]? = some (.bool true) := by rw [hA]; rfl
          refine wpQuiet_skip (b := false) (d := 32) ht0 rfl rfl rfl (by decide) ?_
          intro A0 e0 ht1
          clear ht0
          refine wpQuiet_skip (b := false) (d := 32) ht1 rfl rfl rfl (by decide) ?_
          intro A1 e1 ht2
          clear ht1
          refine wpQuiet_skip (b := false) (d := 32) ht2 rfl rfl rfl (by decide) ?_
          intro A2 e2 ht3
          clear ht2
          refine wpQuiet_skip (b := false) (d := 32) ht3 rfl rfl rfl (by decide) ?_
          intro A3 e3 ht4
          clear ht3
          refine wpQuiet_skip (b := false) (d := 32) ht4 rfl rfl rfl (by decide) ?_
          intro A4 e4 ht5
          clear ht4
          refine wpQuiet_skip (b := false) (d := 32) ht5 rfl rfl rfl (by decide) ?_
          intro A5 e5 ht6
          clear ht5
          refine wpQuiet_skip (b := false) (d := 32) ht6 rfl rfl rfl (by decide) ?_
          intro A6 e6 ht7
          clear ht6
          refine wpQuiet_skip (b := false) (d := 32) ht7 rfl rfl rfl (by decide) ?_
          intro A7 e7 ht8
          clear ht7
          refine wpQuiet_skip (b := false) (d := 32) ht8 rfl rfl rfl (by decide) ?_
          intro A8 e8 ht9
          clear ht8
          subst e8 e7 e6 e5 e4 e3 e2 e1 e0
          subst hA
          refine wpQuiet_step (fun K hK => ?_)
          go_simp
          refine hK _ ?_
          clear hK K
          refine wpQuiet_nil ?_
          rintro wx ⟨b20, X20⟩
          clear n0 n1 g0 gt gk BB X hne
          go_wp2
          go_ret
          exact ⟨ret_bool (HF.out fun h => hm (HN.out h).1).symm, b20⟩
      · have hkl : k = c.1.length := by omega
        have H : Hid (shapeB c = true) := shape_yes ⟨HP.out, hlen.out, by rw [← hkl]; exact hfit⟩
        subst hkl
        go_wp2
        go_ret
        exact ⟨ret_bool H.out.symm, BB⟩
  · have H : Hid (shapeB c = false) := shape_no fun h => hl h.2.1
    have hl' : ((c.2.length : Int) == (c.1.length : Int)) = false := by simp; omega
    clear h1 h2 m1 m2 m3
    go_enter Tryz.func127, Tryz.ntmps127
    go_wp2_with (go_at_call 118; refine (sizeOk_any _ _).mono ?_; rintro e w' ⟨rfl, rfl⟩; rw [hp])
    go_ret
    exact ⟨ret_bool H.out.symm, HB.out _⟩
end Go.Proofs.YthbclkpmgcfdnaaGreatDoor
