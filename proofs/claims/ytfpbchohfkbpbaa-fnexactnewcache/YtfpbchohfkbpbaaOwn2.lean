/- Slices of whatever is laid in cells: what they read as, and what a call owns of them alone. No program here. -/
import Derived.Test.YtfpbchohfkbpbaaOwn
namespace Go.Proofs.Ytfpbchohfkbpbaa
open Go.ChangeShapes Go.WideShapes Go.ChangeAt Go.RowKit
set_option linter.unusedVariables false

section
variable {α β : Type}

theorem row_block {w : World} {base size n g : Nat} {e : TypeId} {v : Value} {xs : List Value} (h : w.ownsRow base e size v n xs) (hg : v.ownBlock = some g) : ∃ cur, w.heap[g]? = some (.cells cur e (0, 0)) := by
  rcases h.2 with ⟨rfl, _⟩ | ⟨g', cap, cur, rfl, _, hh, _⟩
  · simp [Value.ownBlock] at hg
  · simp [Value.ownBlock] at hg
    subst hg
    exact ⟨cur, hh⟩
theorem orow_keep {w w' : World} {base size n : Nat} {e : TypeId} {v : Value} {xs : List Value} (h : w.ownsRow base e size v n xs) (hk : ∀ g, v.ownBlock = some g → w'.heap[g]? = w.heap[g]?) : w'.ownsRow base e size v n xs := by
  refine ⟨h.1, ?_⟩
  rcases h.2 with h' | ⟨g, cap, cur, rfl, hb, hh, rest⟩
  · exact .inl h'
  · exact .inr ⟨g, cap, cur, rfl, hb, by rw [hk g rfl]; exact hh, rest⟩
theorem row_base {w : World} {base base' size n : Nat} {e : TypeId} {v : Value} {xs : List Value} (h : w.ownsRow base e size v n xs) (hb : ∀ g, v.ownBlock = some g → base' ≤ g) : w.ownsRow base' e size v n xs := by
  refine ⟨h.1, ?_⟩
  rcases h.2 with h' | ⟨g, cap, cur, rfl, _, rest⟩
  · exact .inl h'
  · exact .inr ⟨g, cap, cur, rfl, hb g rfl, rest⟩

def SlRd (R : Rep α) (w : World) (a : Option Addr) (xs : List α) : Prop :=
  xs = [] ∨ ∃ b off rows, a = some ⟨b, off, none⟩ ∧ lrd R w rows xs ∧ ∀ j u, rows[j]? = some u → w.cell? ⟨b, off + j, none⟩ = some u

def slR (e : TypeId) (R : Rep α) : Rep (List α) where
  size := 1
  tys := e :: R.tys
  rd w cs xs := ∃ a cap, cs = [.slice a xs.length cap] ∧ xs.length ≤ cap ∧ cap ≤ maxLen ∧ SlRd R w a xs
  own w S cs xs := ∃ v rows S', cs = [v] ∧ w.ownsRow 0 e R.size v xs.length rows ∧ (∀ g, v.ownBlock = some g → S g ∧ ¬ S' g) ∧ Sub S' S ∧ lown R w S' rows xs
  rd_len := by
    rintro w cs xs ⟨a, cap, rfl, _⟩
    rfl
  rd_keep := by
    rintro w w' cs xs ⟨a, cap, rfl, h1, h2, h3⟩ hk
    refine ⟨a, cap, rfl, h1, h2, ?_⟩
    rcases h3 with h3 | ⟨b, off, rows, rfl, h4, h5⟩
    · exact .inl h3
    · refine .inr ⟨b, off, rows, rfl, lrd_keep h4 hk, fun j u hu => ?_⟩
      have := h5 j u hu
      have hl := World.block_lt_of_cell? w ⟨b, off + j, none⟩ this
      rw [World.cell?_of_block (w := w) (hk b hl)]
      exact this
  own_rd := by
    rintro w S cs xs ⟨v, rows, S', rfl, hr, _, _, hl⟩
    rcases hr.2 with ⟨rfl, h0⟩ | ⟨g, cap, cur, rfl, hb, hh, hc, hm, hs, ht⟩
    · have : xs = [] := List.eq_nil_of_length_eq_zero h0
      subst this
      exact ⟨none, 0, rfl, Nat.le_refl _, Nat.zero_le _, .inl rfl⟩
    · refine ⟨_, cap, rfl, hc, hm, .inr ⟨g, 0, rows, rfl, lown_rd hl, fun j u hu => ?_⟩⟩
      have hj : j < rows.length := (List.getElem?_eq_some_iff.1 hu).1
      rw [Nat.zero_add, World.ownsRow.cellAt hr j (by have := hr.1; omega)]
      exact hu
  own_mono := by
    rintro w S T cs xs ⟨v, rows, S', rfl, hr, hg, hs, hl⟩ hst
    exact ⟨v, rows, S', rfl, hr, fun g h => ⟨hst g (hg g h).1, (hg g h).2⟩, hs.trans hst, hl⟩
  own_keep := by
    rintro w w' S cs xs ⟨v, rows, S', rfl, hr, hg, hs, hl⟩ hk
    refine ⟨v, rows, S', rfl, orow_keep hr fun g h => ?_, hg, hs, lown_keep hl (hk.sub hs)⟩
    obtain ⟨cur, hh⟩ := row_block hr h
    exact hk g (hg g h).1 (Array.getElem?_eq_some_iff.1 hh).1
  own_tight := by
    rintro w S cs xs ⟨v, rows, S', rfl, hr, hg, hs, hl⟩
    refine ⟨v, rows, _, rfl, hr, fun g h => ?_, ?_, lown_tight hl⟩
    · obtain ⟨cur, hh⟩ := row_block hr h
      exact ⟨⟨(hg g h).1, cur, e, by simp, hh⟩, fun h' => (hg g h).2 h'.1⟩
    · rintro k ⟨hk, cur, t, ht, hh⟩
      exact ⟨hs k hk, cur, t, List.mem_cons_of_mem _ ht, hh⟩

/- One element of a slice that reads: its cells. -/
theorem slrd_at {R : Rep α} {w : World} {a : Option Addr} {xs : List α} {j : Nat} {x : α} (h : SlRd R w a xs) (hx : xs[j]? = some x) :
    ∃ b off c, a = some ⟨b, off, none⟩ ∧ R.rd w c x ∧ ∀ i u, c[i]? = some u → w.cell? ⟨b, off + (j * R.size + i), none⟩ = some u := by
  rcases h with rfl | ⟨b, off, rows, rfl, h4, h5⟩
  · simp at hx
  · refine ⟨b, off, _, rfl, lrd_at h4 hx, fun i u hu => ?_⟩
    refine h5 (j * R.size + i) u ?_
    rw [List.getElem?_take] at hu
    split at hu
    · rw [List.getElem?_drop] at hu
      exact hu
    · cases hu

theorem slrd_keep {R : Rep α} {w w' : World} {a : Option Addr} {xs : List α} (h : SlRd R w a xs) (hk : ∀ k, k < w.heap.size → w'.heap[k]? = w.heap[k]?) : SlRd R w' a xs := by
  rcases h with h3 | ⟨b, off, rows, rfl, h4, h5⟩
  · exact .inl h3
  · refine .inr ⟨b, off, rows, rfl, lrd_keep h4 hk, fun j u hu => ?_⟩
    have := h5 j u hu
    have hl := World.block_lt_of_cell? w ⟨b, off + j, none⟩ this
    rw [World.cell?_of_block (w := w) (hk b hl)]
    exact this

/- One element of a slice that is owned: it by itself, and what becomes of the slice when its cells and its own memory turn. -/
theorem slown_focus {e : TypeId} {R : Rep α} {w : World} {S : Foot} {v : Value} {xs : List α} {j : Nat} {x : α} (h : (slR e R).own w S [v] xs) (hx : xs[j]? = some x) :
    ∃ g cap cur Sj T c, v = .slice (some ⟨g, 0, none⟩) xs.length cap ∧ S g ∧ w.heap[g]? = some (.cells cur e (0, 0)) ∧ (∀ i, i < R.size → cur[j * R.size + i]? = c[i]?) ∧ c.length = R.size ∧ R.own w Sj c x ∧
      Sub Sj S ∧ Sub T S ∧ Dis Sj T ∧ ¬ Sj g ∧ ¬ T g ∧
      ∀ w' cur' c' x' U V, w'.heap[g]? = some (.cells cur' e (0, 0)) → cur'.size = cur.size → (∀ i, ¬ (j * R.size ≤ i ∧ i < j * R.size + R.size) → cur'[i]? = cur[i]?) → (∀ i, i < R.size → cur'[j * R.size + i]? = c'[i]?) →
        Keeps T w w' → R.own w' U c' x' → Dis U T → ¬ U g → V g → Sub U V → Sub T V → (slR e R).own w' V [v] (xs.set j x') := by
  obtain ⟨v', rows, S', hv, hr, hg, hs, hl⟩ := h
  simp only [List.cons.injEq, and_true] at hv
  subst hv
  have hj : j < xs.length := (List.getElem?_eq_some_iff.1 hx).1
  obtain ⟨Sj, T, o, b1, b2, b3, b4⟩ := lown_focus hl hx
  have hrl := lown_len hl
  rcases hr.2 with ⟨rfl, h0⟩ | ⟨g, cap, cur, rfl, hb, hh, hc, hm, hsz, ht⟩
  · omega
  have hgg := hg g rfl
  have hlt : j * R.size + R.size ≤ xs.length * R.size := by
    have : (j + 1) * R.size ≤ xs.length * R.size := Nat.mul_le_mul_right _ hj
    rw [Nat.add_one_mul] at this
    exact this
  have hcl : xs.length * R.size ≤ cap * R.size := Nat.mul_le_mul_right _ hc
  have hrow : ∀ i, i < xs.length * R.size → cur[i]? = rows[i]? := by
    intro i hi
    rw [← ht, List.getElem?_take, if_pos hi, Array.getElem?_toList]
  refine ⟨g, cap, cur, Sj, T, _, rfl, hgg.1, hh, ?_, ?_, o, b1.trans hs, b2.trans hs, b3, fun h => hgg.2 (b1 g h), fun h => hgg.2 (b2 g h), ?_⟩
  · intro i hi
    rw [List.getElem?_take, if_pos hi, List.getElem?_drop, hrow _ (by omega)]
  · exact R.rd_len (R.own_rd o)
  · intro w' cur' c' x' U V hh' hsz' hout hin hkT hoU hd hug hvg hUV hTV
    have hcl' : c'.length = R.size := R.rd_len (R.own_rd hoU)
    refine ⟨_, rows.take (j * R.size) ++ (c' ++ rows.drop (j * R.size + R.size)), (fun k => U k ∨ T k), rfl, ⟨?_, .inr ⟨g, cap, cur', by rw [List.length_set], Nat.zero_le _, hh', by rw [List.length_set]; exact hc, hm, by omega, ?_⟩⟩, ?_, ?_, ?_⟩
    · simp only [List.length_append, List.length_take, List.length_drop, List.length_set, hcl']
      omega
    · rw [List.length_set]
      apply List.ext_getElem?
      intro i
      rw [List.getElem?_take]
      by_cases hi : i < xs.length * R.size
      · rw [if_pos hi, Array.getElem?_toList]
        by_cases h1 : i < j * R.size
        · rw [List.getElem?_append_left (by simp; omega), List.getElem?_take, if_pos h1, hout i (by omega), hrow i hi]
        · rw [List.getElem?_append_right (by simp; omega)]
          have e1 : (rows.take (j * R.size)).length = j * R.size := by simp; omega
          rw [e1]
          by_cases h2 : i < j * R.size + R.size
          · rw [List.getElem?_append_left (by omega), ← hin (i - j * R.size) (by omega), show j * R.size + (i - j * R.size) = i by omega]
          · rw [List.getElem?_append_right (by omega), List.getElem?_drop, hcl', show j * R.size + R.size + (i - j * R.size - R.size) = i by omega, hout i (by omega), hrow i hi]
      · rw [if_neg hi, List.getElem?_eq_none]
        simp only [List.length_append, List.length_take, List.length_drop, hcl']
        omega
    · rintro g' hg'
      simp [Value.ownBlock] at hg'
      subst hg'
      refine ⟨hvg, ?_⟩
      rintro (h | h)
      · exact hug h
      · exact hgg.2 (b2 _ h)
    · rintro k (h | h)
      · exact hUV k h
      · exact hTV k h
    · exact b4 w' c' x' U _ hkT hoU hd (fun k h => .inl h) (fun k h => .inr h)

end
end Go.Proofs.Ytfpbchohfkbpbaa
