
/- One core forgotten, of an entry of the book, by the program and by its specification; a new entry. Conditions: lists of at most 2^20 numbers that read as told. -/
import Derived.Test.YtcnnojfkpkmdmaaForgets
import Derived.Test.YtcnnojfkpkmdmaaEntCopied
import Derived.Test.YtcnnojfkpkmdmaaEntOk
import Derived.Deep.RegionHeld3
import Derived.BigRegion
namespace Go.Proofs.Ytcnnojfkpkmdmaa
open Go.ChangeShapes Go.WideShapes Go.ChangeAt Go.RowKit
set_option linter.unusedVariables false

def zeroE : EntryD := (0, 0, false, 0, 0, 0, 0, [])
def newE : EntryD := (-1, 0, false, 0, 0, 0, 0, [])
def forD (u : EntryD) (c : Int) : EntryD := if entB u then (fgO u.1 c, fgS u.2.1 c, u.2.2.1, u.2.2.2.1, u.2.2.2.2.1, u.2.2.2.2.2.1, u.2.2.2.2.2.2.1, u.2.2.2.2.2.2.2) else zeroE
theorem who_bd {o s : Int} (h : whoB o s = true) : -1 ≤ o ∧ o ≤ 3 ∧ 0 ≤ s ∧ s ≤ 15 := by
  simp [whoB, betw] at h
  omega
theorem fgS_in : ∀ s : Fin 16, ∀ c : Fin 8, 0 ≤ fgS (s.val : Int) (c.val : Int) ∧ fgS (s.val : Int) (c.val : Int) ≤ s.val := by decide +kernel
theorem fgS_out {s c : Int} (h : itemB c = false) : fgS s c = s := by
  unfold fgS inB
  rw [h]
  simp
theorem fgS_le {s c : Int} (h0 : 0 ≤ s) (h1 : s ≤ 15) : 0 ≤ fgS s c ∧ fgS s c ≤ s := by
  cases hc : itemB c
  · rw [fgS_out hc]; omega
  · obtain ⟨h2, h3⟩ := itemB_bd hc
    have := fgS_in ⟨s.toNat, by omega⟩ ⟨c.toNat, by omega⟩
    simpa [Int.toNat_of_nonneg h0, Int.toNat_of_nonneg h2] using this
theorem fg_who {o s : Int} (c : Int) (h : whoB o s = true) : whoB (fgO o c) (fgS s c) = true := by
  have hb := who_bd h
  have hs := fgS_le (c := c) hb.2.2.1 hb.2.2.2
  have ha := who_alone h
  have ho : fgO o c = -1 ∨ fgO o c = o := by unfold fgO; split <;> simp
  simp only [whoB, betw, Bool.and_eq_true, decide_eq_true_eq, Bool.not_eq_true', Bool.and_eq_false_iff, decide_eq_false_iff_not, Bool.not_eq_false']
  by_cases h0 : 0 ≤ o
  · have := ha h0
    omega
  · omega
theorem fg_small {o s : Int} (c : Int) (h : whoB o s = true) : In64 (fgO o c) ∧ In64 (fgS s c) := by
  have hb := who_bd (fg_who c h)
  exact ⟨⟨by omega, by omega⟩, ⟨by omega, by omega⟩⟩
theorem fgS_without : ∀ s : Fin 16, ∀ c : Fin 4, withoutI (s.val : Int) (c.val : Int) = fgS (s.val : Int) (c.val : Int) := by decide +kernel
theorem fgS_far : ∀ s : Fin 16, ∀ c : Fin 8, 4 ≤ c.val → fgS (s.val : Int) (c.val : Int) = s.val := by decide +kernel
theorem fg_in {o s c : Int} (h : whoB o s = true) (hc : betw c 0 3 = true) : (fgO o c = if o = c then -1 else o) ∧ withoutI s c = fgS s c := by
  have hb := who_bd h
  simp [betw] at hc
  constructor
  · unfold fgO ownB
    by_cases e : o = c
    · rw [if_pos e, if_pos (by simp [betw, e]; omega)]
    · rw [if_neg e, if_neg (by simp; intro _ e2; exact e e2.symm)]
  · have := fgS_without ⟨s.toNat, by omega⟩ ⟨c.toNat, by omega⟩
    simpa [Int.toNat_of_nonneg hb.2.2.1, Int.toNat_of_nonneg hc.1] using this
theorem fg_out {o s c : Int} (h : whoB o s = true) (hc : betw c 0 3 = false) : fgO o c = o ∧ fgS s c = s := by
  have hb := who_bd h
  refine ⟨by unfold fgO ownB; rw [hc]; rfl, ?_⟩
  cases h8 : itemB c
  · exact fgS_out h8
  · obtain ⟨h2, h3⟩ := itemB_bd h8
    simp [betw] at hc
    have := fgS_far ⟨s.toNat, by omega⟩ ⟨c.toNat, by omega⟩ (by simp; omega)
    simpa [Int.toNat_of_nonneg hb.2.2.1, Int.toNat_of_nonneg h2] using this
theorem own_zero (w : World) (S : Foot) : intsR.own w S [.slice none 0 0] [] := ⟨_, [], fun _ => False, rfl, World.ownsRow_nil _ _ _ _, fun g hg => by simp [Value.ownBlock] at hg, fun _ h => h.elim, rfl⟩
theorem ret_ent {w w4 : World} {S : Foot} {g : Nat} {f0 f1 f3 f4 f5 f6 : Int} {f2 : Bool} {v : Value} {d : List Int} (i0 : In64 f0) (i1 : In64 f1) (i3 : In64 f3) (i4 : In64 f4) (i5 : In64 f5) (i6 : In64 f6) (N : intsR.own w4 S [v] d) (a1 : ∀ k, S k → w.heap.size ≤ k ∧ k < w4.heap.size ∧ k ≠ g) (hg : w.heap.size ≤ g) (B : Below w.heap.size w w4) :
    MadeR entR w ((((((((w4.setCell ⟨g, 0, none⟩ (.int .i64 f0)).setCell ⟨g, 1, none⟩ (.int .i64 f1)).setCell ⟨g, 2, none⟩ (.bool f2)).setCell ⟨g, 3, none⟩ (.int .i64 f3)).setCell ⟨g, 4, none⟩ (.int .i64 f4)).setCell ⟨g, 5, none⟩ (.int .i64 f5)).setCell ⟨g, 6, none⟩ (.int .i64 f6)).setCell ⟨g, 7, none⟩ v) [.int .i64 f0, .int .i64 f1, .bool f2, .int .i64 f3, .int .i64 f4, .int .i64 f5, .int .i64 f6, v] (f0, f1, f2, f3, f4, f5, f6, d) :=
  ⟨own_ent i0 i1 i3 i4 i5 i6 (intsR.own_mono (own_setC (own_setC (own_setC (own_setC (own_setC (own_setC (own_setC (own_setC (N) (fun h => (a1 _ h).2.2 rfl)) (fun h => (a1 _ h).2.2 rfl)) (fun h => (a1 _ h).2.2 rfl)) (fun h => (a1 _ h).2.2 rfl)) (fun h => (a1 _ h).2.2 rfl)) (fun h => (a1 _ h).2.2 rfl)) (fun h => (a1 _ h).2.2 rfl)) (fun h => (a1 _ h).2.2 rfl)) (fun k hk => ⟨(a1 k hk).1, by have := (a1 k hk).2.1; simp; omega⟩)), below_setC (below_setC (below_setC (below_setC (below_setC (below_setC (below_setC (below_setC (B) hg) hg) hg) hg) hg) hg) hg) hg⟩
theorem i64_0 : In64 0 := by constructor <;> decide
theorem i64_m : In64 (-1) := by constructor <;> decide
theorem made_zero {w w4 : World} {g : Nat} (hg : w.heap.size ≤ g) (B : Below w.heap.size w w4) :
    MadeR entR w ((((((((w4.setCell ⟨g, 0, none⟩ (.int .i64 0)).setCell ⟨g, 1, none⟩ (.int .i64 0)).setCell ⟨g, 2, none⟩ (.bool false)).setCell ⟨g, 3, none⟩ (.int .i64 0)).setCell ⟨g, 4, none⟩ (.int .i64 0)).setCell ⟨g, 5, none⟩ (.int .i64 0)).setCell ⟨g, 6, none⟩ (.int .i64 0)).setCell ⟨g, 7, none⟩ (.slice none 0 0)) [.int .i64 0, .int .i64 0, .bool false, .int .i64 0, .int .i64 0, .int .i64 0, .int .i64 0, .slice none 0 0] zeroE :=
  ret_ent (S := fun _ => False) i64_0 i64_0 i64_0 i64_0 i64_0 i64_0 (own_zero _ _) (fun _ h => h.elim) hg B


theorem implNewEntry_any (w : World) : Calls Try.prog 35 #[] w fun e w' => e = .returned (.agg #[.int .i64 (-1), .int .i64 0, .bool false, .int .i64 0, .int .i64 0, .int .i64 0, .int .i64 0, .slice none 0 0]) ∧ Below w.heap.size w w' := by
  have HB : Hid _ := box_below w
  go_enter Try.func35, Try.ntmps35
  go_wp2
  refine bodyPost_ret (v := .agg #[.int .i64 (-1), .int .i64 0, .bool false, .int .i64 0, .int .i64 0, .int .i64 0, .int .i64 0, .slice none 0 0]) (by simp [results, Try.results35, go_sem]) rfl ⟨rfl, HB.out _⟩
theorem specNewEntry_any (w : World) : Calls Try.prog 32 #[] w fun e w' => e = .returned (.agg #[.int .i64 (-1), .int .i64 0, .bool false, .int .i64 0, .int .i64 0, .int .i64 0, .int .i64 0, .slice none 0 0]) ∧ Below w.heap.size w w' := by
  have HB : Hid _ := box_below w
  go_enter Try.func32, Try.ntmps32
  go_wp2
  refine bodyPost_ret (v := .agg #[.int .i64 (-1), .int .i64 0, .bool false, .int .i64 0, .int .i64 0, .int .i64 0, .int .i64 0, .slice none 0 0]) (by simp [results, Try.results32, go_sem]) rfl ⟨rfl, HB.out _⟩
end Go.Proofs.Ytcnnojfkpkmdmaa
