
/- Lists of lists of numbers: what they read as, and those that a call made for itself (an outer row, inner rows in blocks of their own): how both are carried on. No program here. -/
import Derived.Test.YtcnnojfkpkmdmaaCopies
namespace Go.Proofs.Ytcnnojfkpkmdmaa
open Go.ChangeShapes Go.WideShapes Go.ChangeAt Go.RowKit

structure Rw where
  g : Nat
  cap : Nat
  xs : List Int
def Rw.v (r : Rw) : Value := .slice (some ⟨r.g, 0, none⟩) r.xs.length r.cap

def ReadsM (w : World) (a : Option Addr) (xss : List (List Int)) : Prop :=
  xss = [] ∨ ∃ b off, a = some ⟨b, off, none⟩ ∧ ∀ j xs, xss[j]? = some xs → ∃ aj cj, w.cell? ⟨b, off + j, none⟩ = some (.slice aj xs.length cj) ∧ Reads w aj xs

def Inn (lo hi : Nat) (w : World) (rs : List Rw) : Prop :=
  (∀ (i : Nat) (r : Rw), rs[i]? = some r → OwnI lo w r.g r.cap r.xs ∧ r.g < hi) ∧ ∀ (i j : Nat) (r s : Rw), rs[i]? = some r → rs[j]? = some s → r.g = s.g → i = j

def Out (lo : Nat) (w : World) (G cap n : Nat) (vs : List Value) : Prop := w.ownsRow lo 38 1 (.slice (some ⟨G, 0, none⟩) n cap) n vs

def OwnM (lo hi : Nat) (w : World) (G cap : Nat) (xss : List (List Int)) : Prop :=
  ∃ rs : List Rw, rs.map Rw.xs = xss ∧ Out lo w G cap xss.length (rs.map Rw.v) ∧ G < hi ∧ Inn lo hi w rs

def MadeM (w w' : World) (v : Value) (xss : List (List Int)) : Prop :=
  ∃ G cap, v = .slice (some ⟨G, 0, none⟩) xss.length cap ∧ w.heap.size ≤ G ∧ G < w'.heap.size ∧ OwnM w.heap.size w'.heap.size w' G cap xss ∧ Below w.heap.size w w'

/-- Only blocks from lo on and below hi may have turned. -/
structure Inside (lo hi : Nat) (w w' : World) : Prop where
  os : w'.os = w.os
  tape : w'.tape = w.tape
  output : w'.output = w.output
  size : w.heap.size ≤ w'.heap.size
  block : ∀ k, k < w.heap.size → (k < lo ∨ hi ≤ k) → w'.heap[k]? = w.heap[k]?

theorem Inside.refl (lo hi : Nat) (w : World) : Inside lo hi w w := ⟨rfl, rfl, rfl, Nat.le_refl _, fun _ _ _ => rfl⟩
theorem Inside.trans {lo hi : Nat} {a b c : World} (h : Inside lo hi a b) (k : Inside lo hi b c) : Inside lo hi a c :=
  ⟨k.os.trans h.os, k.tape.trans h.tape, k.output.trans h.output, Nat.le_trans h.size k.size, fun j hj hr => (k.block j (Nat.lt_of_lt_of_le hj h.size) hr).trans (h.block j hj hr)⟩
theorem inside_grown {lo hi g : Nat} {w w' : World} (h : w.grownBy w' (some g)) (h1 : lo ≤ g) (h2 : g < hi) : Inside lo hi w w' :=
  ⟨h.os, h.tape, h.output, h.size, fun k hk hr => h.block k hk (fun e => by cases e; omega)⟩
theorem inside_below {B lo hi : Nat} {a w w' : World} (hb : Below B a w) (h : Inside lo hi w w') (h1 : B ≤ lo) (h2 : B ≤ w.heap.size) : Below B a w' :=
  hb.trans ⟨h.os, h.tape, h.output, h.size, fun k hk => h.block k (by omega) (.inl (by omega))⟩

theorem own_block {w w' : World} {base e size g n cap : Nat} {xs : List Value} (h : w.ownsRow base e size (.slice (some ⟨g, 0, none⟩) n cap) n xs) (hb : w'.heap[g]? = w.heap[g]?) :
    w'.ownsRow base e size (.slice (some ⟨g, 0, none⟩) n cap) n xs := by
  refine ⟨h.1, ?_⟩
  rcases h.2 with ⟨h', _⟩ | ⟨g', cap', cur, h', hb', hgg, rest⟩
  · simp at h'
  · simp only [Value.slice.injEq, Option.some.injEq, Addr.mk.injEq, and_true, true_and] at h'
    obtain ⟨rfl, rfl⟩ := h'
    exact .inr ⟨g, cap, cur, rfl, hb', by rw [hb]; exact hgg, rest⟩
theorem own_mono {w : World} {B B' e size n : Nat} {v : Value} {xs : List Value} (h : w.ownsRow B e size v n xs) (hb : B' ≤ B) : w.ownsRow B' e size v n xs := by
  refine ⟨h.1, ?_⟩
  rcases h.2 with h' | ⟨g', cap', cur, h', hb', rest⟩
  · exact .inl h'
  · exact .inr ⟨g', cap', cur, h', Nat.le_trans hb hb', rest⟩
theorem own_type {w : World} {B g n cap e : Nat} {xs : List Value} (h : w.ownsRow B e 1 (.slice (some ⟨g, 0, none⟩) n cap) n xs) : ∃ cur, w.heap[g]? = some (.cells cur e (0, 0)) := by
  rcases h.2 with ⟨h', _⟩ | ⟨g', cap', cur, h', hb', hgg, rest⟩
  · simp at h'
  · simp only [Value.slice.injEq, Option.some.injEq, Addr.mk.injEq, and_true, true_and] at h'
    obtain ⟨rfl, rfl⟩ := h'
    exact ⟨_, hgg⟩
theorem out_ne {lo lo' G cap n g c : Nat} {w : World} {vs : List Value} {zs : List Int} (h : Out lo w G cap n vs) (k : OwnI lo' w g c zs) : g ≠ G := by
  rintro rfl
  obtain ⟨c1, h1⟩ := own_type h
  obtain ⟨c2, h2⟩ := own_type k
  rw [h1] at h2
  simp at h2

theorem inn_nil (lo hi : Nat) (w : World) : Inn lo hi w [] := ⟨by simp, by simp⟩
theorem inn_block {lo hi : Nat} {w w' : World} {rs : List Rw} (h : Inn lo hi w rs) (hb : ∀ (i : Nat) (r : Rw), rs[i]? = some r → w'.heap[r.g]? = w.heap[r.g]?) : Inn lo hi w' rs :=
  ⟨fun i r hr => ⟨own_block (h.1 i r hr).1 (hb i r hr), (h.1 i r hr).2⟩, h.2⟩
theorem inn_below {lo hi D : Nat} {w w' : World} {rs : List Rw} (h : Inn lo hi w rs) (hb : Below D w w') (hD : hi ≤ D) : Inn lo hi w' rs :=
  inn_block h fun i r hr => hb.block _ (Nat.lt_of_lt_of_le (h.1 i r hr).2 hD)
theorem inn_grown {lo hi x : Nat} {w w' : World} {rs : List Rw} (h : Inn lo hi w rs) (hb : w.grownBy w' (some x)) (hx : ∀ (i : Nat) (r : Rw), rs[i]? = some r → r.g ≠ x) : Inn lo hi w' rs :=
  inn_block h fun i r hr => hb.block _ (h.1 i r hr |>.1 |> owni_lt).2 (fun e => hx i r hr (by simpa using e))
theorem inn_mono {lo hi hi' : Nat} {w : World} {rs : List Rw} (h : Inn lo hi w rs) (hh : hi ≤ hi') : Inn lo hi' w rs :=
  ⟨fun i r hr => ⟨(h.1 i r hr).1, Nat.lt_of_lt_of_le (h.1 i r hr).2 hh⟩, h.2⟩
theorem inn_out {lo hi lo' G cap n : Nat} {w w' : World} {rs : List Rw} {vs : List Value} (h : Inn lo hi w rs) (ho : Out lo' w G cap n vs) (hb : w.grownBy w' (some G)) : Inn lo hi w' rs :=
  inn_grown h hb fun i r hr => out_ne ho (h.1 i r hr).1
theorem inn_push {lo hi hi' g cap : Nat} {w : World} {rs : List Rw} {xs : List Int} (h : Inn lo hi w rs) (o : OwnI lo w g cap xs) (hg : hi ≤ g) (hg2 : g < hi') : Inn lo hi' w (rs ++ [⟨g, cap, xs⟩]) := by
  refine ⟨fun i r hr => ?_, fun i j r s hr hs e => ?_⟩
  · by_cases hi' : i < rs.length
    · rw [List.getElem?_append_left hi'] at hr
      have := h.1 i r hr
      exact ⟨this.1, by omega⟩
    · rw [List.getElem?_append_right (by omega)] at hr
      by_cases h0 : i - rs.length = 0
      · rw [h0] at hr; simp at hr; subst hr; exact ⟨o, hg2⟩
      · rw [List.getElem?_eq_none (by simp; omega)] at hr; cases hr
  · have key : ∀ (i : Nat) (r : Rw), (rs ++ [(⟨g, cap, xs⟩ : Rw)])[i]? = some r → (rs[i]? = some r ∧ i < rs.length) ∨ (i = rs.length ∧ r = ⟨g, cap, xs⟩) := by
      intro i r hr
      by_cases hi' : i < rs.length
      · rw [List.getElem?_append_left hi'] at hr
        exact .inl ⟨hr, hi'⟩
      · rw [List.getElem?_append_right (by omega)] at hr
        by_cases h0 : i - rs.length = 0
        · rw [h0] at hr; simp at hr; exact .inr ⟨by omega, hr.symm⟩
        · rw [List.getElem?_eq_none (by simp; omega)] at hr; cases hr
    rcases key i r hr with ⟨a1, a2⟩ | ⟨a1, rfl⟩ <;> rcases key j s hs with ⟨b1, b2⟩ | ⟨b1, rfl⟩
    · exact h.2 i j r s a1 b1 e
    · have := (h.1 i r a1).2; simp at e; omega
    · have := (h.1 j s b1).2; simp at e; omega
    · omega

theorem ownM_below {lo hi D G cap : Nat} {w w' : World} {xss : List (List Int)} (h : OwnM lo hi w G cap xss) (hb : Below D w w') (hD : hi ≤ D) : OwnM lo hi w' G cap xss := by
  obtain ⟨rs, h1, h2, h3, h4⟩ := h
  exact ⟨rs, h1, own_block h2 (hb.block _ (by omega)), h3, inn_below h4 hb hD⟩
theorem ownM_drewN {lo hi G cap k : Nat} {w : World} {xss : List (List Int)} (h : OwnM lo hi w G cap xss) : OwnM lo hi (w.drewN k) G cap xss := h
theorem ownM_lt {lo hi G cap : Nat} {w : World} {xss : List (List Int)} (h : OwnM lo hi w G cap xss) : lo ≤ G ∧ G < w.heap.size ∧ G < hi := by
  obtain ⟨rs, h1, h2, h3, h4⟩ := h
  exact ⟨(own_lt h2).1, (own_lt h2).2, h3⟩
theorem ownM_inside {lo hi l h' G cap : Nat} {w w' : World} {xss : List (List Int)} (h : OwnM lo hi w G cap xss) (hb : Inside l h' w w') (hd : hi ≤ l ∨ h' ≤ lo) : OwnM lo hi w' G cap xss := by
  obtain ⟨rs, h1, h2, h3, h4⟩ := h
  have := own_lt h2
  refine ⟨rs, h1, own_block h2 (hb.block _ this.2 (by omega)), h3, inn_block h4 fun i r hr => ?_⟩
  have a := h4.1 i r hr
  have b := owni_lt a.1
  exact hb.block _ b.2 (by omega)
theorem owni_inside {lo l h' g cap : Nat} {w w' : World} {zs : List Int} (h : OwnI lo w g cap zs) (hb : Inside l h' w w') (hd : g < l ∨ h' ≤ g) : OwnI lo w' g cap zs :=
  own_block h (hb.block _ (owni_lt h).2 hd)
theorem ownM_grown {lo hi g G cap : Nat} {w w' : World} {xss : List (List Int)} (h : OwnM lo hi w G cap xss) (hb : w.grownBy w' (some g)) (hd : g < lo ∨ hi ≤ g) : OwnM lo hi w' G cap xss :=
  ownM_inside (l := g) (h' := g + 1) h (inside_grown hb (Nat.le_refl _) (Nat.lt_succ_self _)) (by omega)
theorem readsM_own {lo hi G cap : Nat} {w : World} {xss : List (List Int)} (h : OwnM lo hi w G cap xss) : ReadsM w (some ⟨G, 0, none⟩) xss := by
  obtain ⟨rs, rfl, h2, h3, h4⟩ := h
  refine .inr ⟨G, 0, rfl, fun j xs hx => ?_⟩
  rw [List.getElem?_map] at hx
  obtain ⟨r, hr, rfl⟩ := Option.map_eq_some_iff.1 hx
  have hj : j < rs.length := (List.getElem?_eq_some_iff.1 hr).1
  refine ⟨some ⟨r.g, 0, none⟩, r.cap, ?_, reads_owni (h4.1 j r hr).1⟩
  rw [Nat.zero_add, World.ownsRow.cellAt h2 j (by simpa using hj), List.getElem?_map, hr]
  rfl
theorem readsM_below {w w' : World} {a : Option Addr} {xss : List (List Int)} (h : ReadsM w a xss) (hb : Below w.heap.size w w') : ReadsM w' a xss := by
  rcases h with h | ⟨b, off, ha, hc⟩
  · exact .inl h
  · refine .inr ⟨b, off, ha, fun j xs hx => ?_⟩
    obtain ⟨aj, cj, h1, h2⟩ := hc j xs hx
    exact ⟨aj, cj, (hb.cell (World.block_lt_of_cell? w ⟨b, off + j, none⟩ h1)).trans h1, reads_below h2 hb⟩
theorem readsM_at {w : World} {a : Option Addr} {xss : List (List Int)} (h : ReadsM w a xss) {j : Nat} {xs : List Int} (hx : xss[j]? = some xs) :
    ∃ b off aj cj, a = some ⟨b, off, none⟩ ∧ w.cell? ⟨b, off + j, none⟩ = some (.slice aj xs.length cj) ∧ Reads w aj xs := by
  rcases h with rfl | ⟨b, off, ha, hc⟩
  · simp at hx
  · obtain ⟨aj, cj, h1, h2⟩ := hc j xs hx
    exact ⟨b, off, aj, cj, ha, h1, h2⟩
theorem madeM_step {w w1 w2 : World} {v : Value} {xss : List (List Int)} (h : Below w.heap.size w w1) (h2 : MadeM w1 w2 v xss) : MadeM w w2 v xss := by
  obtain ⟨G, cap, rfl, h3, h4, ⟨rs, e1, e2, e3, e4⟩, h6⟩ := h2
  have hs := h.size
  exact ⟨G, cap, rfl, Nat.le_trans h.size h3, h4, ⟨rs, e1, own_mono e2 hs, e3, ⟨fun i r hr => ⟨own_mono (e4.1 i r hr).1 hs, (e4.1 i r hr).2⟩, e4.2⟩⟩, below_step h h6⟩
theorem madeM_none (w : World) (k : Nat) (h : k = w.heap.size) : MadeM w (w.alloc (.cells #[] 38)) (.slice (some ⟨k, 0, none⟩) 0 0) [] := by
  subst h
  refine ⟨_, _, rfl, Nat.le_refl _, by simp, ⟨[], rfl, World.ownsRow_lit (base := w.heap.size) (e := 38) (size := 1) w #[] 0 (Nat.le_refl _) (Nat.zero_le _) rfl, by simp, inn_nil _ _ _⟩, (Below.refl _ _).alloc (Nat.le_refl _) _⟩

def tot (xss : List (List Int)) : Nat := (xss.map List.length).sum
theorem tot_step {xss : List (List Int)} {j : Nat} {xs : List Int} (h : xss[j]? = some xs) : tot (xss.take (j + 1)) = tot (xss.take j) + xs.length := by
  simp [tot, List.take_add_one, h]
theorem tot_take (xss : List (List Int)) (j : Nat) : tot (xss.take j) ≤ tot xss := by
  have : tot xss = tot (xss.take j) + tot (xss.drop j) := by
    conv => lhs; rw [← List.take_append_drop j xss]
    unfold tot
    rw [List.map_append, List.sum_append]
  omega
theorem tot_get {xss : List (List Int)} {j : Nat} {xs : List Int} (h : xss[j]? = some xs) : xs.length ≤ tot xss := by
  have h1 := tot_step h
  have h2 := tot_take xss (j + 1)
  omega
theorem get_of_lt {α : Type} {l : List α} {j : Nat} (h : j < l.length) : ∃ x, l[j]? = some x := ⟨_, List.getElem?_eq_getElem h⟩

def markM (k : Int) (xss : List (List Int)) : List (List Int) := xss.mapIdx fun i xs => seqs (k + tot (xss.take i)) xs.length
theorem markM_len (k : Int) (xss : List (List Int)) : (markM k xss).length = xss.length := by simp [markM]
theorem markM_get {k : Int} {xss : List (List Int)} {j : Nat} {xs : List Int} (h : xss[j]? = some xs) : (markM k xss)[j]? = some (seqs (k + tot (xss.take j)) xs.length) := by
  simp [markM, h]

def mrk (k : Int) (rs : List Rw) (n : Nat) : List Rw := rs.mapIdx fun i r => if i < n then ⟨r.g, r.cap, seqs (k + tot ((rs.map Rw.xs).take i)) r.xs.length⟩ else r
theorem mrk_zero (k : Int) (rs : List Rw) : mrk k rs 0 = rs := by
  apply List.ext_getElem?
  intro i
  simp [mrk]
theorem mrk_all (k : Int) (rs : List Rw) : (mrk k rs rs.length).map Rw.xs = markM k (rs.map Rw.xs) := by
  apply List.ext_getElem?
  intro i
  simp only [mrk, markM, List.getElem?_map, List.getElem?_mapIdx, Option.map_map]
  cases hr : rs[i]? with
  | none => rfl
  | some r =>
    have hj : i < rs.length := (List.getElem?_eq_some_iff.1 hr).1
    simp [hj]
theorem mrk_v (k : Int) (rs : List Rw) (n : Nat) : (mrk k rs n).map Rw.v = rs.map Rw.v := by
  apply List.ext_getElem?
  intro i
  simp only [mrk, List.getElem?_map, List.getElem?_mapIdx, Option.map_map]
  cases hr : rs[i]? with
  | none => rfl
  | some r =>
    simp only [Option.map_some, Function.comp]
    split
    · simp [Rw.v, seqs_len]
    · rfl
theorem mrk_at {k : Int} {rs : List Rw} {n : Nat} {r : Rw} (h : rs[n]? = some r) : (mrk k rs n)[n]? = some r := by simp [mrk, h]
theorem inn_mrk {lo hi : Nat} {w w' : World} {k : Int} {rs : List Rw} {n : Nat} {r : Rw} (h : Inn lo hi w (mrk k rs n)) (hr : rs[n]? = some r) (hg : w.grownBy w' (some r.g))
    (o : OwnI lo w' r.g r.cap (seqs (k + tot ((rs.map Rw.xs).take n)) r.xs.length)) : Inn lo hi w' (mrk k rs (n + 1)) := by
  have hn := mrk_at (k := k) hr
  have key : ∀ (i : Nat) (s : Rw), (mrk k rs (n + 1))[i]? = some s → ∃ s0, (mrk k rs n)[i]? = some s0 ∧ s0.g = s.g ∧ s0.cap = s.cap ∧ (i ≠ n → s0 = s) ∧ (i = n → s.xs = seqs (k + tot ((rs.map Rw.xs).take n)) r.xs.length) := by
    intro i s hs
    simp only [mrk, List.getElem?_mapIdx] at hs ⊢
    obtain ⟨t, ht, rfl⟩ := Option.map_eq_some_iff.1 hs
    refine ⟨_, by rw [ht]; rfl, ?_, ?_, ?_, ?_⟩
    · split <;> split <;> first | rfl | (exfalso; omega)
    · split <;> split <;> first | rfl | (exfalso; omega)
    · intro hne; split <;> split <;> first | rfl | (exfalso; omega)
    · rintro rfl
      rw [ht] at hr
      simp only [Option.some.injEq] at hr
      subst hr
      rw [if_pos (by omega)]
  refine ⟨fun i s hs => ?_, fun i j s t hs ht e => ?_⟩
  · obtain ⟨s0, h0, e1, e2, e3, e4⟩ := key i s hs
    by_cases hi' : i = n
    · subst hi'
      rw [hn] at h0
      simp only [Option.some.injEq] at h0
      subst h0
      have := h.1 i _ hn
      rw [← e1, ← e2, e4 rfl]
      exact ⟨o, this.2⟩
    · have hh := h.1 i s0 h0
      have hx := e3 hi'
      subst hx
      refine ⟨owni_grown hh.1 hg (fun e => hi' (h.2 i n s0 r h0 hn e)), hh.2⟩
  · obtain ⟨s0, h0, e1, _⟩ := key i s hs
    obtain ⟨t0, k0, f1, _⟩ := key j t ht
    exact h.2 i j s0 t0 h0 k0 (by rw [e1, f1, e])

end Go.Proofs.Ytcnnojfkpkmdmaa
