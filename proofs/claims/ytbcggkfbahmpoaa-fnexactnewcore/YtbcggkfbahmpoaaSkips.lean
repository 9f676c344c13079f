
/- Operations that a guard passes over, n at once, in a class of worlds. No program here. -/
import Derived.Test.YtbcggkfbahmpoaaJOwn5OpensBaseClassesBits
import Derived.Test.YtbcggkfbahmpoaaSpread
namespace Go.Proofs.Ytbcggkfbahmpoaa
open Go.ChangeShapes Go.WideShapes Go.ChangeAt Go.RowKit
set_option linter.unusedVariables false
def skipped (j : Nat) (b : Bool) (d : Tmp) (l : List Oper) : Bool := l.all fun o => (match o.guard with | some (i, c) => i == j && c == b | none => false) && (match o.dst with | some t => t != d | none => true)
def putAll (l : List Oper) (a : Act) : Act := l.foldl (fun a o => a.put o.dst undef) a
theorem wpQuiet_skips {P : Program} {ops : Array Oper} {C : World → Prop} {Q : Act → Prop} {j : Nat} {b : Bool} {og : Oper} {d : Tmp} (ho : ops[j]? = some og) (hd : og.dst = some d) : ∀ (n : Nat) (l : List Oper) (a : Act), a.tmps[d]? = some (.bool (!b)) → skipped j b d (l.take n) = true →
    wpQuiet P ops C Q (l.drop n) (putAll (l.take n) a) → wpQuiet P ops C Q l a := by
  intro n
  induction n with
  | zero => intro l a ht hs h; exact h
  | succ n ih =>
    intro l a ht hs h
    cases l with
    | nil => exact h
    | cons o l =>
      simp only [List.take_succ_cons, skipped, List.all_cons, Bool.and_eq_true] at hs
      obtain ⟨⟨h1, h2⟩, h3⟩ := hs
      have hg : o.guard = some (j, b) := by
        cases hq : o.guard with
        | none => rw [hq] at h1; cases h1
        | some x =>
          obtain ⟨i, c⟩ := x
          rw [hq] at h1
          simp at h1
          rw [h1.1, h1.2]
      have hne : o.dst ≠ some d := by
        intro e
        rw [e] at h2
        simp at h2
      refine wpQuiet_skip ht hg ho hd hne ?_
      intro a' e ht'
      refine ih l a' ht' h3 ?_
      rw [e]
      exact h
theorem kp_drew {w : World} {a : Addr} {v : Value} (h : w.cell? a = some v) : w.drew.cell? a = some v := h
theorem kp_alloc {w : World} {a : Addr} {v : Value} {o : Obj} (h : w.cell? a = some v) : (w.alloc o).cell? a = some v := (World.cell?_alloc_lt _ _ _ (World.block_lt_of_cell? w a h)).trans h
theorem sp_new2 {V w : World} {e : TypeId} {size b : Nat} (hb : Below V.heap.size V w) (o : Obj) (h : b = w.heap.size + 1) : SP V ((w.alloc o).alloc (.cells #[] e)) e size (.slice (some ⟨b, 0, none⟩) 0 0) 0 [] := by
  have := sp_new (e := e) (size := size) (hb.alloc hb.size o)
  rw [show (w.alloc o).heap.size = b from by rw [h]; simp] at this
  exact this
theorem news2 {w : World} {cs : List Value} {t : TypeId} {b : Nat} (o : Obj) (h : b = w.heap.size + 1) : ∀ j u, cs[j]? = some u → ((w.alloc o).alloc (.cells cs.toArray t)).cell? ((⟨b, 0, none⟩ : Addr).add j) = some u := by
  have := cells_news (w.alloc o) cs t
  rw [show (w.alloc o).heap.size = b from by rw [h]; simp] at this
  exact this
end Go.Proofs.Ytbcggkfbahmpoaa
