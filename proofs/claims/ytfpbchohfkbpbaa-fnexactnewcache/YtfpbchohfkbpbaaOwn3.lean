/- An argument of any type made of numbers, truths, structs and slices, as it reads. No program here. -/
import Derived.Test.YtfpbchohfkbpbaaOwn2
import Derived.ChangeArms
namespace Go.Proofs.Ytfpbchohfkbpbaa
open Go.ChangeShapes Go.WideShapes Go.ChangeAt Go.RowKit
set_option linter.unusedVariables false

section
variable {α β : Type}

def Opens (P : Program) (t : TypeId) (R : Rep α) : Prop :=
  ∀ (H : Type) (enc : TypeId × Value → H) (w : World) (base : Nat) (spare : Nat → Bool) (held : Bool) (fuel : Nat) (cs : List Value) (x : DataW H × List MemPlace), DataW.trod enc P w base spare held fuel t cs = some x → ∃ a, R.rd w cs a

def OpensF (P : Program) (off : Nat) (fs : List Field) (R : Rep α) : Prop :=
  ∀ (H : Type) (enc : TypeId × Value → H) (w : World) (base : Nat) (spare : Nat → Bool) (held : Bool) (n : Nat) (cs : List Value), cs.length = off + R.size →
    (∀ f ∈ fs, ∃ x, DataW.trod enc P w base spare held n f.type ((cs.drop f.offset).take (P.cellsOf f.type)) = some x) → ∃ a, R.rd w (cs.drop off) a

theorem opens_int {P : Program} {t : TypeId} (ht : P.underlying t = some (.int .i64)) : Opens P t intR := by
  intro H enc w base spare held fuel cs x h
  obtain ⟨n, rfl, _, hw⟩ := DataW.trod_int ht h
  refine ⟨n, rfl, ?_⟩
  simp only [Lit.wf, Bool.and_eq_true, decide_eq_true_eq] at hw
  exact hw

theorem opens_bool {P : Program} {t : TypeId} (ht : P.underlying t = some .bool) : Opens P t boolR := by
  intro H enc w base spare held fuel cs x h
  obtain ⟨b, rfl, _⟩ := DataW.trod_bool ht h
  exact ⟨b, rfl⟩

theorem opensF_one {P : Program} {off : Nat} {f : Field} {R : Rep α} (hf : f.offset = off) (hc : P.cellsOf f.type = R.size) (h : Opens P f.type R) : OpensF P off [f] R := by
  intro H enc w base spare held n cs hl hx
  obtain ⟨x, hx⟩ := hx f (by simp)
  rw [hf, hc, List.take_of_length_le (by simp; omega)] at hx
  exact h H enc w base spare held n _ x hx

theorem opensF_cons {P : Program} {off : Nat} {f : Field} {fs : List Field} {R : Rep α} {Q : Rep β} (hf : f.offset = off) (hc : P.cellsOf f.type = R.size) (h : Opens P f.type R) (hr : OpensF P (off + R.size) fs Q) : OpensF P off (f :: fs) (prodR R Q) := by
  intro H enc w base spare held n cs hl hx
  have hl' : cs.length = off + (R.size + Q.size) := hl
  obtain ⟨x, h1⟩ := hx f (by simp)
  rw [hf, hc] at h1
  obtain ⟨a, ha⟩ := h H enc w base spare held n _ x h1
  obtain ⟨b, hb⟩ := hr H enc w base spare held n cs (by omega) (fun g hg => hx g (by simp [hg]))
  refine ⟨(a, b), _, _, ?_, ha, hb⟩
  rw [← List.drop_drop, List.take_append_drop]

theorem opens_struct {P : Program} {t : TypeId} {fs : Array Field} {R : Rep α} (ht : P.underlying t = some (.struct fs)) (hc : P.cellsOf t = R.size) (h : OpensF P 0 fs.toList R) : Opens P t R := by
  intro H enc w base spare held fuel cs x hx
  obtain ⟨xs, n, _, _, hl, hxs, hf⟩ := DataW.trod_struct ht hx
  have := h H enc w base spare held n cs (by omega) (fun f hf' => by
    obtain ⟨i, hi, rfl⟩ := List.getElem_of_mem hf'
    have hi' : i < fs.size := by simpa using hi
    refine ⟨xs[i]'(by omega), ?_⟩
    rw [hf i _ (by simp [hi']), List.getElem?_eq_getElem (by omega)])
  simpa using this

theorem lrd_from {R : Rep α} {w : World} {b off : Nat} : ∀ (n k : Nat), (∀ i, k ≤ i → i < k + n → ∃ c x, R.rd w c x ∧ ∀ r u, c[r]? = some u → w.cell? ⟨b, off + (i * R.size + r), none⟩ = some u) →
    ∃ (rows : List Value) (xs : List α), xs.length = n ∧ lrd R w rows xs ∧ ∀ j u, rows[j]? = some u → w.cell? ⟨b, off + (k * R.size + j), none⟩ = some u
  | 0, k, _ => ⟨[], [], rfl, rfl, by simp⟩
  | n + 1, k, h => by
    obtain ⟨c, x, h1, h2⟩ := h k (Nat.le_refl _) (by omega)
    obtain ⟨rows, xs, e1, e2, e3⟩ := lrd_from n (k + 1) (fun i h3 h4 => h i (by omega) (by omega))
    have hl := R.rd_len h1
    refine ⟨c ++ rows, x :: xs, by simp [e1], ⟨c, rows, rfl, h1, e2⟩, fun j u hu => ?_⟩
    by_cases hj : j < R.size
    · rw [List.getElem?_append_left (by omega)] at hu
      exact h2 j u hu
    · rw [List.getElem?_append_right (by omega)] at hu
      have := e3 _ u hu
      rw [hl, Nat.add_one_mul, show k * R.size + R.size + (j - R.size) = k * R.size + j by omega] at this
      exact this

theorem add_add (a : Addr) (m r : Nat) : (a.add m).add r = a.add (m + r) := by
  unfold Addr.add
  by_cases hm : m = 0
  · subst hm
    simp
  · by_cases hr : r = 0
    · subst hr
      simp
    · simp [hm, hr, Nat.add_assoc]

theorem opens_slice {P : Program} {t e e' : TypeId} {R : Rep α} (ht : P.underlying t = some (.slice e)) (hc : P.cellsOf e = R.size) (hpos : 0 < R.size) (h : Opens P e R) : Opens P t (slR e' R) := by
  intro H enc w base spare held fuel cs x hx
  rcases DataW.trod_slice ht hx with ⟨rfl, _⟩ | ⟨a, len, cap, elems, rest, n, _, rfl, _, hb, hl, hm, hel, hcell, _⟩
  · exact ⟨[], none, 0, rfl, Nat.le_refl _, Nat.zero_le _, .inl rfl⟩
  by_cases h0 : len = 0
  · subst h0
    exact ⟨[], some a, cap, rfl, Nat.zero_le _, hm, .inl rfl⟩
  have each : ∀ i, i < len → ∃ c y, R.rd w c y ∧ ∀ r u, c[r]? = some u → w.cell? (a.add (i * R.size + r)) = some u := by
    intro i hi
    have h1 := hcell i hi
    rw [List.getElem?_eq_getElem (by omega), Option.bind_eq_some_iff] at h1
    obtain ⟨c, h2, h3⟩ := h1
    obtain ⟨y, hy⟩ := h H enc w base spare held n c _ h3
    refine ⟨c, y, hy, fun r u hu => ?_⟩
    unfold World.cells? at h2
    split at h2
    · have hr : r < P.cellsOf e := by
        have := mapM_some_length h2
        have h4 := (List.getElem?_eq_some_iff.1 hu).1
        simp at this
        omega
      have := mapM_some_get h2 r r (by simp [hr])
      rw [hu, hc, add_add] at this
      exact this
    · cases h2
  have hspot : a.spot = none := by
    obtain ⟨c, y, hy, hcc⟩ := each 0 (by omega)
    have hl0 := R.rd_len hy
    obtain ⟨u, hu⟩ : ∃ u, c[0]? = some u := ⟨_, List.getElem?_eq_getElem (by omega)⟩
    have := World.cell?_spot (hcc 0 u hu)
    simpa [Addr.add] using this
  obtain ⟨b, off, spot⟩ := a
  simp at hspot
  subst hspot
  obtain ⟨rows, xs, e1, e2, e3⟩ := lrd_from (R := R) (w := w) (b := b) (off := off) len 0 (fun i _ hi => by
    obtain ⟨c, y, hy, hcc⟩ := each i (by omega)
    exact ⟨c, y, hy, fun r u hu => by have := hcc r u hu; rwa [Go.WideShapes.add_plain] at this⟩)
  refine ⟨xs, some ⟨b, off, none⟩, cap, by rw [e1], by omega, hm, .inr ⟨b, off, rows, rfl, e2, fun j u hu => ?_⟩⟩
  simpa using e3 j u hu

/- An argument: a struct comes as its cells in one row. -/
theorem open_rep {H : Type} {enc : TypeId × Value → H} {P : Program} {w : World} {base : Nat} {spare : Nat → Bool} {held : Bool} {t : TypeId} {v : Value} {d : DataW H} {p : List MemPlace} {R : Rep α} (ho : Opens P t R)
    (h : DataW.Trod enc P w base spare held t v d p) : ∃ a, R.rd w v.cells.toList a := by
  obtain ⟨fuel, hf⟩ := h
  exact ho H enc w base spare held fuel _ _ hf

theorem open_struct {H : Type} {enc : TypeId × Value → H} {P : Program} {w : World} {base b0 : Nat} {spare : Nat → Bool} {held : Bool} {r : Reach} {t : TypeId} {fs : Array Field} {v : Value} {d : DataW H} {p : List MemPlace} {R : Rep α}
    (hs : P.underlying t = some (.struct fs)) (ho : Opens P t R) (hv : Value.okWide P w r b0 t v) (h : DataW.Trod enc P w base spare held t v d p) : ∃ cs a, v = .agg cs ∧ R.rd w cs.toList a := by
  obtain ⟨a, ha⟩ := open_rep ho h
  unfold Value.okWide at hv
  rw [hs] at hv
  obtain ⟨cs, rfl, _⟩ := hv
  exact ⟨cs, a, rfl, by simpa [Value.cells] using ha⟩

/- The Lean type of what a Rep tells of. -/
abbrev RepOf {α : Type} (R : Rep α) : Type := α
end
end Go.Proofs.Ytfpbchohfkbpbaa
