/- The iterator over all ways of a store: set by set. Condition: sets that are there, all of one length. -/
import Derived.Test.YtmldilmiihafoaaFirsts
namespace Go.Proofs.Ytmldilmiihafoaa
open Go.ChangeShapes Go.WideShapes Go.ChangeAt Go.RowKit Go.Shelf
set_option linter.unusedVariables false
attribute [local go_sem] Oper.semAt_some

/-- A store's sets in memory, by their cells: s sets of m ways. -/
structure SCells where
  b : Nat
  off : Nat
  cap : Nat
  way : Nat → WCells
def SetsAt (W : World) (b0 off0 s m : Nat) (c : Nat → SCells) : Prop :=
  ∀ i, i < s → W.cell? ⟨b0, off0 + i, none⟩ = some (.slice (some ⟨(c i).b, (c i).off, none⟩) m (c i).cap) ∧ RowAt W (c i).b (c i).off m (c i).way

theorem setsAt_keep {W W' : World} {b0 off0 s m : Nat} {c : Nat → SCells} (h : SetsAt W b0 off0 s m c) (h0 : W'.heap[b0]? = W.heap[b0]?) (h1 : ∀ i, i < s → W'.heap[(c i).b]? = W.heap[(c i).b]?) : SetsAt W' b0 off0 s m c := fun i hi => by
  obtain ⟨a1, a2⟩ := h i hi
  refine ⟨(World.cell?_of_block (w := W) (a := ⟨b0, _, none⟩) h0).trans a1, fun k hk => ?_⟩
  obtain ⟨q0, q1, q2⟩ := a2 k hk
  have := h1 i hi
  exact ⟨(World.cell?_of_block (w := W) (a := ⟨(c i).b, _, none⟩) this).trans q0, (World.cell?_of_block (w := W) (a := ⟨(c i).b, _, none⟩) this).trans q1, (World.cell?_of_block (w := W) (a := ⟨(c i).b, _, none⟩) this).trans q2⟩

theorem own_blk {β : Type} {B k : Nat} {o : Obj} (h : k < B) : OwnFrom B (fun (_ : β) W => W.heap[k]? = some o) := fun s X Y row hs hg hr =>
  (hg.block k (Array.getElem?_eq_some_iff.1 hs).1 fun e => by have := (hr k e.symm).1; omega).trans hs

abbrev mark (D : Nat) : Deferred := { target := .collected D, args := #[] }

/-- A function with marks among its deferred calls leaves: each block is shut. -/
theorem leaves_marks {fn : Func} {tmps : Array Value} {R : Ending → World → Prop} (H : World → Prop) : ∀ (Ds : List Nat) (w : World), Ds.Nodup → (∀ D ∈ Ds, w.heap[D]? = some (.deferred (some []))) →
    (∀ D ∈ Ds, ∀ w, H w → w.heap[D]? = some (.deferred (some [])) → H (w.putObj D (.deferred none))) → H w → (∀ w, H w → LeavesInM Fence.wide 0 Try.prog fn tmps R [] .returning w) → LeavesInM Fence.wide 0 Try.prog fn tmps R (Ds.map mark) .returning w
  | [], w, _, _, _, hw, hend => hend w hw
  | D :: Ds, w, hn, hd, hH, hw, hend => by
    refine ⟨by simp, .inl ⟨D, _, rfl, run_takeDeferred (hd D (by simp)), ?_⟩⟩
    obtain ⟨n1, n2⟩ := List.nodup_cons.1 hn
    refine leaves_marks H Ds _ n2 (fun E hE => ?_) (fun E hE => hH E (by simp [hE])) (hH D (by simp) w hw (hd D (by simp))) hend
    rw [World.putObj_heap_other (fun e => n1 (by rw [← e]; exact hE))]
    exact hd E (by simp [hE])

set_option maxHeartbeats 4000000 in
theorem everyWay1_iter (Bc b0 off0 s m cap0 : Nat) (c : Nat → SCells) (hs : s ≤ 4) (hm : m ≤ 4) (hs0 : 0 < s) (hm0 : 0 < m) :
    Iter Try.prog 104 #[.pointer (some ⟨Bc, 0, none⟩)] (fun k => #[.agg #[.int .i64 (k / m : Nat), .int .i64 (k % m : Nat)], ((c (k / m)).way (k % m)).agg]) (s * m)
      (fun W => W.cell? ⟨Bc, 0, none⟩ = some (.slice (some ⟨b0, off0, none⟩) s cap0) ∧ SetsAt W b0 off0 s m c) := by
  intro l J Jx W hJ hJx hR hY h0
  obtain ⟨r0, _⟩ := hR 0 W h0
  have r1 := World.block_lt_of_cell? W _ r0
  simp only at r1
  have by0 := heap_at W (.cells #[.func (.yield l) #[] #[]] 111)
  refine callsIn_of_wp_marks Try.func104 rfl trivial ?_ rfl
  simp only [Try.ntmps104, List.size_toArray, List.length_cons, List.length_nil, Nat.reduceAdd, Nat.reduceSub, Array.replicate_succ, Array.replicate_zero, List.push_toArray, List.append_toArray, List.nil_append, List.cons_append]
  gi_wp2
  have j0 : J 0 (W.alloc (.cells #[.func (.yield l) #[] #[]] 111)) := hJ.alloc _ h0
  have sz0 : W.heap.size < (W.alloc (.cells #[.func (.yield l) #[] #[]] 111)).heap.size := by simp
  generalize W.alloc (.cells #[.func (.yield l) #[] #[]] 111) = W1 at by0 j0 sz0 ⊢
  refine wpIn_loop (fun a wr => ∃ (i : Nat) (Ds : List Nat) (u3 u4 u5 u6 u7 u11 u12 u13 u14 u15 u16 u17 u18 u19 u20 u21 u22 u23 u24 u25 u26 : Value), i ≤ s ∧ Ds.Nodup ∧ (∀ D ∈ Ds, W.heap.size ≤ D ∧ wr.heap[D]? = some (.deferred (some []))) ∧ J (i * m) wr ∧ wr.heap[W.heap.size]? = some (.cells #[.func (.yield l) #[] #[]] 111 (0, 0)) ∧
      a = { tmps := #[.func (.yield l) #[] #[], .pointer (some ⟨Bc, 0, none⟩), .pointer (some ⟨W.heap.size, 0, none⟩), u3, u4, u5, u6, u7, .slice (some ⟨b0, off0, none⟩) s cap0, .int .i64 s, .int .i64 i, u11, u12, u13, u14, u15, u16, u17, u18, u19, u20, u21, u22, u23, u24, u25, u26], defers := Ds.map mark })
    (fun a _ => s - (intOf (a.tmps.getD 10 undef)).toNat) ⟨0, [], _, _, _, _, _, _, _, _, _, _, _, _, _, _, _, _, _, _, _, _, _, Nat.zero_le _, List.nodup_nil, by simp, by simpa using j0, by0, rfl⟩ ?_
  clear by0 j0 sz0 r0 h0
  rintro a wr ⟨i, Ds, u3, u4, u5, u6, u7, u11, u12, u13, u14, u15, u16, u17, u18, u19, u20, u21, u22, u23, u24, u25, u26, hi, hnd, hDs, hj, hby, rfl⟩
  by_cases hlt : i < s
  · have hlt' : (i : Int) < (s : Int) := by omega
    obtain ⟨q0, q1⟩ := hR _ wr hj
    obtain ⟨q2, q3⟩ := q1 i hlt
    have q4 := World.block_lt_of_cell? wr _ q2
    simp only at q4
    clear q1
    have HJ : Hid _ := hj
    clear hj
    gi_wp2
    refine ⟨trivial, rfl, (callsIn_wide.2 (waysOf_any _ _ _ _ rfl _)).mono ?_⟩
    rintro e w' ⟨rfl, rfl⟩
    gi_wp2
    have f0 := heap_at wr (.cells #[.int .i64 i] 3)
    have f1 := heap_at (wr.alloc (.cells #[.int .i64 i] 3)) (.cells #[.slice (some ⟨(c i).b, (c i).off, none⟩) m (c i).cap] 73)
    rw [World.size_alloc] at f1
    have f0' := heap_on (.cells #[.slice (some ⟨(c i).b, (c i).off, none⟩) m (c i).cap] 73) f0
    have hby' := heap_on (.cells #[.slice (some ⟨(c i).b, (c i).off, none⟩) m (c i).cap] 73) (heap_on (.cells #[.int .i64 i] 3) hby)
    have hDs' : ∀ D ∈ Ds, W.heap.size ≤ D ∧ D < wr.heap.size ∧ ((wr.alloc (.cells #[.int .i64 i] 3)).alloc (.cells #[.slice (some ⟨(c i).b, (c i).off, none⟩) m (c i).cap] 73)).heap[D]? = some (.deferred (some [])) := fun D hD => ⟨(hDs D hD).1, (Array.getElem?_eq_some_iff.1 (hDs D hD).2).1, heap_on _ (heap_on _ (hDs D hD).2)⟩
    have hj' : J (i * m) ((wr.alloc (.cells #[.int .i64 i] 3)).alloc (.cells #[.slice (some ⟨(c i).b, (c i).off, none⟩) m (c i).cap] 73)) := hJ.alloc _ (hJ.alloc _ HJ.out)
    have sz : ((wr.alloc (.cells #[.int .i64 i] 3)).alloc (.cells #[.slice (some ⟨(c i).b, (c i).off, none⟩) m (c i).cap] 73)).heap.size = wr.heap.size + 1 + 1 := by simp
    have hwr : W.heap.size < wr.heap.size := (Array.getElem?_eq_some_iff.1 hby).1
    generalize (wr.alloc (.cells #[.int .i64 i] 3)).alloc (.cells #[.slice (some ⟨(c i).b, (c i).off, none⟩) m (c i).cap] 73) = W2 at f0' f1 hby' hDs' hj' sz ⊢
    clear f0 hby hDs HJ q0 q2 q3 q4
    have NO : ∀ (V : World) (D : Nat), (∀ E ∈ Ds, W.heap.size ≤ E ∧ E < wr.heap.size ∧ V.heap[E]? = some (.deferred (some []))) → W2.heap.size ≤ D → V.heap[D]? = some (.deferred (some [])) → (D :: Ds).Nodup ∧ ∀ E ∈ D :: Ds, W.heap.size ≤ E ∧ V.heap[E]? = some (.deferred (some [])) := by
      intro V D h1 h2 h3
      refine ⟨List.nodup_cons.2 ⟨fun h => by have := (h1 D h).2.1; omega, hnd⟩, fun E hE => ?_⟩
      rcases List.mem_cons.1 hE with rfl | hE
      · exact ⟨by omega, h3⟩
      · exact ⟨(h1 E hE).1, (h1 E hE).2.2⟩
    have HNO : Hid _ := NO
    clear NO hnd
    refine range_iter (N := m) (lb := #[.pointer (some ⟨wr.heap.size + 1, 0, none⟩)]) (gf := 113) rfl (enters_of Try.func113 (by kernel_rfl) rfl)
      (waysOf1_iter (wr.heap.size + 1) (c i).b (c i).off m (c i).cap (c i).way (by omega)) (fun _ => rfl)
      (fun j V => J (i * m + j) V ∧ V.heap[W.heap.size]? = some (.cells #[.func (.yield l) #[] #[]] 111 (0, 0)) ∧ V.heap[wr.heap.size]? = some (.cells #[.int .i64 i] 3 (0, 0)) ∧ V.heap[wr.heap.size + 1]? = some (.cells #[.slice (some ⟨(c i).b, (c i).off, none⟩) m (c i).cap] 73 (0, 0)) ∧ ∀ D ∈ Ds, W.heap.size ≤ D ∧ D < wr.heap.size ∧ V.heap[D]? = some (.deferred (some [])))
      (fun x j V => x = .ret ∧ Jx (i * m + j) V ∧ ∀ D ∈ Ds, W.heap.size ≤ D ∧ D < wr.heap.size ∧ V.heap[D]? = some (.deferred (some [])))
      ?hI ?hIx ?hR ?h0
      (fun j a' V => ∃ B, W2.heap.size < B ∧ V.heap[B]? = some (.cells #[.int .i64 ((c i).way j).line, .int .i64 ((c i).way j).state, .slice ((c i).way j).addr ((c i).way j).len ((c i).way j).cap] 29 (0, 0)) ∧ J (i * m + j) V ∧ V.heap[W.heap.size]? = some (.cells #[.func (.yield l) #[] #[]] 111 (0, 0)) ∧ V.heap[wr.heap.size]? = some (.cells #[.int .i64 i] 3 (0, 0)) ∧ V.heap[wr.heap.size + 1]? = some (.cells #[.slice (some ⟨(c i).b, (c i).off, none⟩) m (c i).cap] 73 (0, 0)) ∧ (∀ D ∈ Ds, W.heap.size ≤ D ∧ D < wr.heap.size ∧ V.heap[D]? = some (.deferred (some []))) ∧
        a' = { tmps := #[.func (.yield l) #[] #[], .pointer (some ⟨Bc, 0, none⟩), .pointer (some ⟨W.heap.size, 0, none⟩), .pointer (some ⟨wr.heap.size, 0, none⟩), .slice (some ⟨(c i).b, (c i).off, none⟩) m (c i).cap, .int .i64 j, .pointer (some ⟨B, 0, none⟩), u7, .slice (some ⟨b0, off0, none⟩) s cap0, .int .i64 s, .int .i64 i, .bool true, .int .i64 i, .pointer (some ⟨b0, off0 + i, none⟩), .slice (some ⟨(c i).b, (c i).off, none⟩) m (c i).cap, .slice (some ⟨(c i).b, (c i).off, none⟩) m (c i).cap, .func (.func 113) #[] #[.pointer (some ⟨wr.heap.size + 1, 0, none⟩)], .int .i64 j, ((c i).way j).agg, u19, u20, u21, u22, u23, u24, u25, u26], defers := [] })
      ?hA ?hassign ?hbody ?hdone ?hstop
    case hI =>
      rintro j X Y row ⟨g1, g2, g3, g4, g5⟩ hg hr
      exact ⟨own_later hJ (by omega) _ X Y row g1 hg hr, own_heap (β := Unit) _ _ _ _ () X Y row g2 hg hr, own_heap (β := Unit) _ _ _ _ () X Y row g3 hg hr, own_heap (β := Unit) _ _ _ _ () X Y row g4 hg hr,
        fun D hD => ⟨(g5 D hD).1, (g5 D hD).2.1, own_blk (β := Unit) (by have := (g5 D hD).2.1; omega) () X Y row (g5 D hD).2.2 hg hr⟩⟩
    case hIx =>
      rintro x j X Y row ⟨g0, g1, g5⟩ hg hr
      exact ⟨g0, own_later hJx (by omega) _ X Y row g1 hg hr, fun D hD => ⟨(g5 D hD).1, (g5 D hD).2.1, own_blk (β := Unit) (by have := (g5 D hD).2.1; omega) () X Y row (g5 D hD).2.2 hg hr⟩⟩
    case hR =>
      rintro j V ⟨g1, _, _, g4, _⟩
      exact ⟨by rw [cell_of_row V _ 0 _ _ (0, 0) g4]; rfl, ((hR _ V g1).2 i hlt).2⟩
    case h0 => exact ⟨hj', hby', f0', f1, hDs'⟩
    case hA =>
      rintro j a' ⟨⟩ X Y row ⟨B, g0, g6, g1, g2, g3, g4, g5, rfl⟩ hg hr
      exact ⟨B, g0, own_heap (β := Unit) _ _ _ _ () X Y row g6 hg hr, own_later hJ (by omega) _ X Y row g1 hg hr, own_heap (β := Unit) _ _ _ _ () X Y row g2 hg hr, own_heap (β := Unit) _ _ _ _ () X Y row g3 hg hr, own_heap (β := Unit) _ _ _ _ () X Y row g4 hg hr,
        fun D hD => ⟨(g5 D hD).1, (g5 D hD).2.1, own_blk (β := Unit) (by have := (g5 D hD).2.1; omega) () X Y row (g5 D hD).2.2 hg hr⟩, rfl⟩
    case hassign =>
      rintro j V K hjm ⟨g1, g2, g3, g4, g5⟩ hv hK
      gi_wp2
      exact hK _ _ (Kept.alloc _ _ _) ⟨V.heap.size, by omega, heap_at _ _, hJ.alloc _ g1, heap_on _ g2, heap_on _ g3, heap_on _ g4, fun D hD => ⟨(g5 D hD).1, (g5 D hD).2.1, heap_on _ (g5 D hD).2.2⟩, rfl⟩
    case hbody =>
      rintro j a' V hjm ⟨B, g0, g6, g1, g2, g3, g4, g5, rfl⟩ hv _ _
      have y0 : V.cell? ⟨W.heap.size, 0, none⟩ = some (.func (.yield l) #[] #[]) := by rw [cell_of_row V _ 0 _ _ (0, 0) g2]; rfl
      have y1 : V.cell? ⟨wr.heap.size, 0, none⟩ = some (.int .i64 i) := by rw [cell_of_row V _ 0 _ _ (0, 0) g3]; rfl
      have y2 : V.cell? ⟨B, 0, none⟩ = some (.int .i64 ((c i).way j).line) := by rw [cell_of_row V _ 0 _ _ (0, 0) g6]; rfl
      have y3 : V.cell? ⟨B, 1, none⟩ = some (.int .i64 ((c i).way j).state) := by rw [cell_of_row V _ 1 _ _ (0, 0) g6]; rfl
      have y4 : V.cell? ⟨B, 2, none⟩ = some (.slice ((c i).way j).addr ((c i).way j).len ((c i).way j).cap) := by rw [cell_of_row V _ 2 _ _ (0, 0) g6]; rfl
      have d1 : (i * m + j) / m = i := by rw [Nat.mul_comm, Nat.mul_add_div hm0, Nat.div_eq_of_lt hjm, Nat.add_zero]
      have d2 : (i * m + j) % m = j := by rw [Nat.mul_comm, Nat.mul_add_mod, Nat.mod_eq_of_lt hjm]
      have d3 : i * m + j < s * m := by
        have : (i + 1) * m ≤ s * m := Nat.mul_le_mul_right _ hlt
        rw [Nat.add_one_mul] at this
        omega
      obtain ⟨fn, tmps, assign, body, hy, hrd⟩ := hY (i * m + j) V d3 g1
      rw [d1, d2] at hy
      clear d1 d2
      have bw : W.heap.size < V.heap.size := (Array.getElem?_eq_some_iff.1 g2).1
      have HG : Hid _ := And.intro g2 (And.intro g3 (And.intro g4 g5))
      clear g1 g2 g3 g4 g5 g6 d3
      gi_wp2
      refine ⟨rfl, hrd.mono ?_⟩
      rintro e W3 ⟨hkk, ⟨rfl, hj3⟩ | ⟨rfl, hx3⟩⟩
      · gi_wp2
        obtain ⟨g2, g3, g4, g5⟩ := HG.out
        refine ⟨hkk.mono (by omega), hj3, (hkk.2 _ (Nat.le_refl _) bw).trans g2, (hkk.2 _ (by omega) (by omega)).trans g3, (hkk.2 _ (by omega) (by omega)).trans g4, fun D hD => ⟨(g5 D hD).1, (g5 D hD).2.1, (hkk.2 _ (g5 D hD).1 (by have := (g5 D hD).2.1; omega)).trans (g5 D hD).2.2⟩⟩
      · gi_wp2
        obtain ⟨g2, g3, g4, g5⟩ := HG.out
        refine ⟨hkk.mono (by omega), rfl, hx3, fun D hD => ⟨(g5 D hD).1, (g5 D hD).2.1, (hkk.2 _ (g5 D hD).1 (by have := (g5 D hD).2.1; omega)).trans (g5 D hD).2.2⟩⟩
    case hdone =>
      rintro V ⟨g1, g2, g3, g4, g5⟩ hK
      obtain ⟨n1, n2⟩ := HNO.out V _ g5 (Nat.le_refl _) hK
      gi_wp2
      refine ⟨⟨i + 1, W2.heap.size :: Ds, _, _, _, _, _, _, _, _, _, _, _, _, _, _, _, _, _, _, _, _, _, hlt, n1, n2, by rw [Nat.add_one_mul]; exact g1, g2, rfl⟩, ?_⟩
      simp [intOf]
      omega
    case hstop =>
      rintro x j V hjm ⟨rfl, g1, g5⟩ hK
      obtain ⟨n1, n2⟩ := HNO.out V _ g5 (Nat.le_refl _) hK
      have d3 : i * m + j < s * m := by
        have : (i + 1) * m ≤ s * m := Nat.mul_le_mul_right _ hlt
        rw [Nat.add_one_mul] at this
        omega
      gi_wp2
      refine leaves_marks (fun V => Jx (i * m + j) V) (W2.heap.size :: Ds) V n1 (fun D hD => (n2 D hD).2) (fun D hD V' h hd => hJx.putObj _ h (n2 D hD).1 hd rfl) g1 ?_
      intro V' h'
      exact ⟨_, results_none rfl _ _ _, ⟨_, rfl⟩, .inr ⟨_, d3, h'⟩⟩
  · have his : i = s := by omega
    subst his
    gi_wp2
    refine leaves_marks (fun V => J (i * m) V) Ds wr hnd (fun D hD => (hDs D hD).2) (fun D hD V' h hd => hJ.putObj _ h (hDs D hD).1 hd rfl) hj ?_
    intro V' h'
    exact ⟨_, results_none rfl _ _ _, ⟨_, rfl⟩, .inl h'⟩
end Go.Proofs.Ytmldilmiihafoaa
