import Derived.Test.YtmldilmiihafoaaJNumsCopiesOwn5Own6
import Derived.Test.YtmldilmiihafoaaJOwnOwn2ListsOwn4
import Derived.ChangeArms
/- What is more to be said of slices that a call owns. No program here. -/
namespace Go.Proofs.Ytmldilmiihafoaa
open Go.ChangeShapes Go.WideShapes Go.ChangeAt Go.RowKit
set_option linter.unusedVariables false

section
variable {α β : Type}
theorem fill_below {e : TypeId} {R : Rep α} {w0 w : World} {n : Nat} {xs : List α} (h : Fill e R w0 w n xs) : Below w0.heap.size w0 w := by
  obtain ⟨_, _, _, _, hb, _⟩ := h
  exact hb
theorem slown_form {e : TypeId} {R : Rep α} {w : World} {S : Foot} {v : Value} {xs : List α} (h : (slR e R).own w S [v] xs) : (v = .slice none 0 0 ∧ xs = []) ∨ ∃ g cap, v = .slice (some ⟨g, 0, none⟩) xs.length cap ∧ S g := by
  obtain ⟨v', rows, S', hv, hr, hg, hs, hl⟩ := h
  simp only [List.cons.injEq, and_true] at hv
  subst hv
  rcases hr.2 with ⟨rfl, h0⟩ | ⟨g, cap, cur, rfl, rest⟩
  · exact .inl ⟨rfl, List.eq_nil_of_length_eq_zero h0⟩
  · exact .inr ⟨g, cap, rfl, (hg g rfl).1⟩
theorem slown_val {e : TypeId} {R : Rep α} {w : World} {S : Foot} {v : Value} {xs : List α} (h : (slR e R).own w S [v] xs) : ∃ a c, v = .slice a xs.length c := by
  rcases slown_form h with ⟨rfl, rfl⟩ | ⟨g, cap, rfl, _⟩
  · exact ⟨none, 0, rfl⟩
  · exact ⟨_, _, rfl⟩
end
end Go.Proofs.Ytmldilmiihafoaa

/- An argument of any type made of numbers, truths, structs and slices, as it reads. No program here. -/
namespace Go.Proofs.Ytmldilmiihafoaa
open Go.ChangeShapes Go.WideShapes Go.ChangeAt Go.RowKit
set_option linter.unusedVariables false

section
variable {α β : Type}

def Opens (P : Program) (t : TypeId) (R : Rep α) : Prop :=
  ∀ (H : Type) (enc : TypeId × Value → H) (w : World) (base : Nat) (spare : Nat → Bool) (held : Bool) (fuel : Nat) (cs : List Value) (x : DataW H × List MemPlace), DataW.trod enc P w base spare held fuel t cs = some x → ∃ a, R.rd w cs a

def OpensF (P : Program) (off : Nat) (fs : List Field) (R : Rep α) : Prop :=
  ∀ (H : Type) (enc : TypeId × Value → H) (w : World) (base : Nat) (spare : Nat → Bool) (held : Bool) (n : Nat) (cs : List Value), cs.length = off + R.size →
    (∀ f ∈ fs, ∃ x, DataW.trod enc P w base spare held n f.type ((cs.drop f.offset).take (P.cellsOf f.type)) = some x) → ∃ a, R.rd w (cs.drop off) a

theorem opens_int {P : Program} {t : TypeId} (ht : P.underlying t = some (.int .i64)) : Opens P t intR := by
  intro H enc w base spare held fuel cs x h
  obtain ⟨n, rfl, _, hw⟩ := DataW.trod_int ht h
  refine ⟨n, rfl, ?_⟩
  simp only [Lit.wf, Bool.and_eq_true, decide_eq_true_eq] at hw
  exact hw

theorem opens_bool {P : Program} {t : TypeId} (ht : P.underlying t = some .bool) : Opens P t boolR := by
  intro H enc w base spare held fuel cs x h
  obtain ⟨b, rfl, _⟩ := DataW.trod_bool ht h
  exact ⟨b, rfl⟩

theorem opensF_one {P : Program} {off : Nat} {f : Field} {R : Rep α} (hf : f.offset = off) (hc : P.cellsOf f.type = R.size) (h : Opens P f.type R) : OpensF P off [f] R := by
  intro H enc w base spare held n cs hl hx
  obtain ⟨x, hx⟩ := hx f (by simp)
  rw [hf, hc, List.take_of_length_le (by simp; omega)] at hx
  exact h H enc w base spare held n _ x hx

theorem opensF_cons {P : Program} {off : Nat} {f : Field} {fs : List Field} {R : Rep α} {Q : Rep β} (hf : f.offset = off) (hc : P.cellsOf f.type = R.size) (h : Opens P f.type R) (hr : OpensF P (off + R.size) fs Q) : OpensF P off (f :: fs) (prodR R Q) := by
  intro H enc w base spare held n cs hl hx
  have hl' : cs.length = off + (R.size + Q.size) := hl
  obtain ⟨x, h1⟩ := hx f (by simp)
  rw [hf, hc] at h1
  obtain ⟨a, ha⟩ := h H enc w base spare held n _ x h1
  obtain ⟨b, hb⟩ := hr H enc w base spare held n cs (by omega) (fun g hg => hx g (by simp [hg]))
  refine ⟨(a, b), _, _, ?_, ha, hb⟩
  rw [← List.drop_drop, List.take_append_drop]

theorem opens_struct {P : Program} {t : TypeId} {fs : Array Field} {R : Rep α} (ht : P.underlying t = some (.struct fs)) (hc : P.cellsOf t = R.size) (h : OpensF P 0 fs.toList R) : Opens P t R := by
  intro H enc w base spare held fuel cs x hx
  obtain ⟨xs, n, _, _, hl, hxs, hf⟩ := DataW.trod_struct ht hx
  have := h H enc w base spare held n cs (by omega) (fun f hf' => by
    obtain ⟨i, hi, rfl⟩ := List.getElem_of_mem hf'
    have hi' : i < fs.size := by simpa using hi
    refine ⟨xs[i]'(by omega), ?_⟩
    rw [hf i _ (by simp [hi']), List.getElem?_eq_getElem (by omega)])
  simpa using this

theorem lrd_from {R : Rep α} {w : World} {b off : Nat} : ∀ (n k : Nat), (∀ i, k ≤ i → i < k + n → ∃ c x, R.rd w c x ∧ ∀ r u, c[r]? = some u → w.cell? ⟨b, off + (i * R.size + r), none⟩ = some u) →
    ∃ (rows : List Value) (xs : List α), xs.length = n ∧ lrd R w rows xs ∧ ∀ j u, rows[j]? = some u → w.cell? ⟨b, off + (k * R.size + j), none⟩ = some u
  | 0, k, _ => ⟨[], [], rfl, rfl, by simp⟩
  | n + 1, k, h => by
    obtain ⟨c, x, h1, h2⟩ := h k (Nat.le_refl _) (by omega)
    obtain ⟨rows, xs, e1, e2, e3⟩ := lrd_from n (k + 1) (fun i h3 h4 => h i (by omega) (by omega))
    have hl := R.rd_len h1
    refine ⟨c ++ rows, x :: xs, by simp [e1], ⟨c, rows, rfl, h1, e2⟩, fun j u hu => ?_⟩
    by_cases hj : j < R.size
    · rw [List.getElem?_append_left (by omega)] at hu
      exact h2 j u hu
    · rw [List.getElem?_append_right (by omega)] at hu
      have := e3 _ u hu
      rw [hl, Nat.add_one_mul, show k * R.size + R.size + (j - R.size) = k * R.size + j by omega] at this
      exact this

theorem add_add (a : Addr) (m r : Nat) : (a.add m).add r = a.add (m + r) := by
  unfold Addr.add
  by_cases hm : m = 0
  · subst hm
    simp
  · by_cases hr : r = 0
    · subst hr
      simp
    · simp [hm, hr, Nat.add_assoc]

theorem opens_slice {P : Program} {t e e' : TypeId} {R : Rep α} (ht : P.underlying t = some (.slice e)) (hc : P.cellsOf e = R.size) (hpos : 0 < R.size) (h : Opens P e R) : Opens P t (slR e' R) := by
  intro H enc w base spare held fuel cs x hx
  rcases DataW.trod_slice ht hx with ⟨rfl, _⟩ | ⟨a, len, cap, elems, rest, n, _, rfl, _, hb, hl, hm, hel, hcell, _⟩
  · exact ⟨[], none, 0, rfl, Nat.le_refl _, Nat.zero_le _, .inl rfl⟩
  by_cases h0 : len = 0
  · subst h0
    exact ⟨[], some a, cap, rfl, Nat.zero_le _, hm, .inl rfl⟩
  have each : ∀ i, i < len → ∃ c y, R.rd w c y ∧ ∀ r u, c[r]? = some u → w.cell? (a.add (i * R.size + r)) = some u := by
    intro i hi
    have h1 := hcell i hi
    rw [List.getElem?_eq_getElem (by omega), Option.bind_eq_some_iff] at h1
    obtain ⟨c, h2, h3⟩ := h1
    obtain ⟨y, hy⟩ := h H enc w base spare held n c _ h3
    refine ⟨c, y, hy, fun r u hu => ?_⟩
    unfold World.cells? at h2
    split at h2
    · have hr : r < P.cellsOf e := by
        have := mapM_some_length h2
        have h4 := (List.getElem?_eq_some_iff.1 hu).1
        simp at this
        omega
      have := mapM_some_get h2 r r (by simp [hr])
      rw [hu, hc, add_add] at this
      exact this
    · cases h2
  have hspot : a.spot = none := by
    obtain ⟨c, y, hy, hcc⟩ := each 0 (by omega)
    have hl0 := R.rd_len hy
    obtain ⟨u, hu⟩ : ∃ u, c[0]? = some u := ⟨_, List.getElem?_eq_getElem (by omega)⟩
    have := World.cell?_spot (hcc 0 u hu)
    simpa [Addr.add] using this
  obtain ⟨b, off, spot⟩ := a
  simp at hspot
  subst hspot
  obtain ⟨rows, xs, e1, e2, e3⟩ := lrd_from (R := R) (w := w) (b := b) (off := off) len 0 (fun i _ hi => by
    obtain ⟨c, y, hy, hcc⟩ := each i (by omega)
    exact ⟨c, y, hy, fun r u hu => by have := hcc r u hu; rwa [Go.WideShapes.add_plain] at this⟩)
  refine ⟨xs, some ⟨b, off, none⟩, cap, by rw [e1], by omega, hm, .inr ⟨b, off, rows, rfl, e2, fun j u hu => ?_⟩⟩
  simpa using e3 j u hu

/- An argument: a struct comes as its cells in one row. -/
theorem open_rep {H : Type} {enc : TypeId × Value → H} {P : Program} {w : World} {base : Nat} {spare : Nat → Bool} {held : Bool} {t : TypeId} {v : Value} {d : DataW H} {p : List MemPlace} {R : Rep α} (ho : Opens P t R)
    (h : DataW.Trod enc P w base spare held t v d p) : ∃ a, R.rd w v.cells.toList a := by
  obtain ⟨fuel, hf⟩ := h
  exact ho H enc w base spare held fuel _ _ hf

theorem open_struct {H : Type} {enc : TypeId × Value → H} {P : Program} {w : World} {base b0 : Nat} {spare : Nat → Bool} {held : Bool} {r : Reach} {t : TypeId} {fs : Array Field} {v : Value} {d : DataW H} {p : List MemPlace} {R : Rep α}
    (hs : P.underlying t = some (.struct fs)) (ho : Opens P t R) (hv : Value.okWide P w r b0 t v) (h : DataW.Trod enc P w base spare held t v d p) : ∃ cs a, v = .agg cs ∧ R.rd w cs.toList a := by
  obtain ⟨a, ha⟩ := open_rep ho h
  unfold Value.okWide at hv
  rw [hs] at hv
  obtain ⟨cs, rfl, _⟩ := hv
  exact ⟨cs, a, rfl, by simpa [Value.cells] using ha⟩

/- The Lean type of what a Rep tells of. -/
abbrev RepOf {α : Type} (R : Rep α) : Type := α
end
end Go.Proofs.Ytmldilmiihafoaa

/- The types of this program as they read: numbers, lists, lists of lists; and how the older words for lists of lists go with the one form. No condition. -/
namespace Go.Proofs.Ytmldilmiihafoaa
open Go.ChangeShapes Go.WideShapes Go.ChangeAt Go.RowKit
set_option linter.unusedVariables false

theorem opens_i64 : Opens Try.prog 2 intR := opens_int Try.underlying2
theorem opens_ints : Opens Try.prog 25 intsR := opens_slice Try.underlying25 (by kernel_rfl) Nat.zero_lt_one opens_i64


end Go.Proofs.Ytmldilmiihafoaa

/- Ways (a number, a state, a list) as they lie in memory; the contracts of the laws' own helpers over one Way. Conditions: lengths that a machine can hold. -/

namespace Go.Proofs.Ytmldilmiihafoaa
open Go.ChangeShapes Go.WideShapes Go.ChangeAt Go.RowKit
set_option linter.unusedVariables false

abbrev wayR : Rep (Int × Int × List Int) := prodR intR (prodR intR intsR)
abbrev wayM : Mk (Int × Int × List Int) := prodM intM (prodM intM intsM)
abbrev waysR : Rep (List (Int × Int × List Int)) := slR 29 wayR
abbrev waysM : Mk (List (Int × Int × List Int)) := slM wayM
abbrev setsR : Rep (List (List (Int × Int × List Int))) := slR 73 waysR
abbrev setsM : Mk (List (List (Int × Int × List Int))) := slM waysM
abbrev cacheR : Rep (List (List (Int × Int × List Int)) × List Int) := prodR setsR intsR
abbrev cacheM : Mk (List (List (Int × Int × List Int)) × List Int) := prodM setsM intsM

theorem opens_way : Opens Try.prog 49 wayR :=
  opens_struct Try.underlying49 (by kernel_rfl) (opensF_cons rfl (by kernel_rfl) opens_i64 (opensF_cons rfl (by kernel_rfl) opens_i64 (opensF_one rfl (by kernel_rfl) opens_ints)))
theorem opens_ways : Opens Try.prog 107 waysR := opens_slice Try.underlying107 (by kernel_rfl) (by decide) opens_way
theorem opens_sets : Opens Try.prog 46 setsR := opens_slice Try.underlying46 (by kernel_rfl) (by decide) opens_ways
theorem opens_cache : Opens Try.prog 48 cacheR :=
  opens_struct Try.underlying48 (by kernel_rfl) (opensF_cons rfl (by kernel_rfl) opens_sets (opensF_one rfl (by kernel_rfl) opens_ints))

theorem way_rd {w : World} {cs : List Value} {u : Int × Int × List Int} (h : wayR.rd w cs u) :
    ∃ a cap, cs = [.int .i64 u.1, .int .i64 u.2.1, .slice a u.2.2.length cap] ∧ In64 u.1 ∧ In64 u.2.1 ∧ u.2.2.length ≤ cap ∧ cap ≤ maxLen ∧ SlRd intR w a u.2.2 := by
  obtain ⟨c1, c2, rfl, ⟨rfl, i1⟩, c3, c4, rfl, ⟨rfl, i2⟩, a, cap, rfl, h1, h2, h3⟩ := h
  exact ⟨a, cap, rfl, i1, i2, h1, h2, h3⟩
theorem rd_way {w : World} {l s : Int} {d : List Int} {a : Option Addr} {cap : Nat} (i1 : In64 l) (i2 : In64 s) (h1 : d.length ≤ cap) (h2 : cap ≤ maxLen) (h3 : SlRd intR w a d) :
    wayR.rd w [.int .i64 l, .int .i64 s, .slice a d.length cap] (l, s, d) := ⟨[_], [_, _], rfl, ⟨rfl, i1⟩, [_], [_], rfl, ⟨rfl, i2⟩, a, cap, rfl, h1, h2, h3⟩
theorem cache_rd {w : World} {cs : List Value} {c : List (List (Int × Int × List Int)) × List Int} (h : cacheR.rd w cs c) :
    ∃ a cap b cp, cs = [.slice a c.1.length cap, .slice b c.2.length cp] ∧ c.1.length ≤ cap ∧ cap ≤ maxLen ∧ c.2.length ≤ cp ∧ cp ≤ maxLen ∧ SlRd waysR w a c.1 ∧ SlRd intR w b c.2 := by
  obtain ⟨c1, c2, rfl, ⟨a, cap, rfl, h1, h2, h3⟩, b, cp, rfl, k1, k2, k3⟩ := h
  exact ⟨a, cap, b, cp, rfl, h1, h2, k1, k2, h3, k3⟩
theorem rd_cache {w : World} {c : List (List (Int × Int × List Int)) × List Int} {a b : Option Addr} {cap cp : Nat} (h1 : c.1.length ≤ cap) (h2 : cap ≤ maxLen) (k1 : c.2.length ≤ cp) (k2 : cp ≤ maxLen) (h3 : SlRd waysR w a c.1) (k3 : SlRd intR w b c.2) :
    cacheR.rd w [.slice a c.1.length cap, .slice b c.2.length cp] c := ⟨[_], [_], rfl, ⟨a, cap, rfl, h1, h2, h3⟩, b, cp, rfl, k1, k2, k3⟩

theorem way_own {w : World} {S : Foot} {cs : List Value} {u : Int × Int × List Int} (h : wayR.own w S cs u) :
    ∃ v, cs = [.int .i64 u.1, .int .i64 u.2.1, v] ∧ In64 u.1 ∧ In64 u.2.1 ∧ intsR.own w S [v] u.2.2 := by
  obtain ⟨c1, c2, S1, S2, rfl, ⟨rfl, i1⟩, ⟨c3, c4, S3, S4, rfl, ⟨rfl, i2⟩, h3, a3, a4, d2⟩, a1, a2, d⟩ := h
  have hl := intsR.rd_len (intsR.own_rd h3)
  obtain ⟨v, rfl⟩ : ∃ v, c4 = [v] := List.length_eq_one_iff.1 hl
  exact ⟨v, rfl, i1, i2, intsR.own_mono h3 (a4.trans a2)⟩
theorem own_way {w : World} {S : Foot} {l s : Int} {d : List Int} {v : Value} (i1 : In64 l) (i2 : In64 s) (h : intsR.own w S [v] d) : wayR.own w S [.int .i64 l, .int .i64 s, v] (l, s, d) :=
  ⟨[_], [_, _], fun _ => False, S, rfl, ⟨rfl, i1⟩, ⟨[_], [_], fun _ => False, S, rfl, ⟨rfl, i2⟩, h, fun _ h => h.elim, Sub.refl _, fun _ h _ => h⟩, fun _ h => h.elim, Sub.refl _, fun _ h _ => h⟩

theorem box_below (w : World) (o : Obj) : Below w.heap.size w (w.alloc o) := (Below.refl _ w).alloc (Nat.le_refl _) o

set_option maxHeartbeats 400000 in
theorem szWay_rep (l s : Int) (d : List Int) (a : Option Addr) (cap : Nat) (left : Int) (w : World) (h0 : 0 ≤ left) (h1 : left ≤ 1048576) (hm : d.length ≤ maxLen) :
    Calls Try.prog 28 #[.agg #[.int .i64 l, .int .i64 s, .slice a d.length cap], .int .i64 left] w fun e w' => e = .returned (.int .i64 (szI (wayM.bk (l, s, d)) left)) ∧ Below w.heap.size w w' := by
  have hb : wayM.bk (l, s, d) = intsM.bk d := by show 0 + (0 + intsM.bk d) = _; omega
  rw [hb]
  by_cases hl : (intsM.bk d : Int) ≤ left
  · have HS : Hid (szI (intsM.bk d) left = _) := szI_yes hl
    have hl' : ¬ (left - (intsM.bk d : Int) < 0) := by omega
    go_enter Try.func28, Try.ntmps28
    go_wp2_with (go_at_call 71; refine (szInt64S_rep _ d _ _ _ h0 h1 hm).mono ?_; rintro e w' ⟨rfl, rfl⟩; rw [HS.out])
    go_ret
    exact ⟨ret_int HS.out.symm, box_below w _⟩
  · have HS : Hid (szI (intsM.bk d) left = _) := szI_no hl
    go_enter Try.func28, Try.ntmps28
    go_wp2_with (go_at_call 71; refine (szInt64S_rep _ d _ _ _ h0 h1 hm).mono ?_; rintro e w' ⟨rfl, rfl⟩; rw [HS.out])
    go_ret
    exact ⟨ret_int HS.out.symm, box_below w _⟩

end Go.Proofs.Ytmldilmiihafoaa
