
/- The contracts of the copies of a list of numbers, of the laws and of the specification: a new slice that holds the same numbers; nothing that was there is changed. Conditions: at most 2^20 numbers. -/
import Derived.Test.YteblffhbennpnaaGreatDoorNums
import Derived.Test.YteblffhbennpnaaGreatDoorLists
import Derived.Deep.OwnRows
namespace Go.Proofs.YteblffhbennpnaaGreatDoor
open Go.ChangeShapes Go.WideShapes Go.ChangeAt Go.RowKit

theorem Tryz.infoI : (Tryz.prog.info? 2).map (fun i => (i.zero, i.size, i.bytes)) = some (some (.int .i64 0), 1, 8) := by kernel_rfl

def OwnI (B : Nat) (w : World) (g cap : Nat) (zs : List Int) : Prop :=
  w.ownsRow B 2 1 (.slice (some ⟨g, 0, none⟩) zs.length cap) zs.length (zs.map (Value.int .i64))

def Made (w w' : World) (v : Value) (zs : List Int) : Prop :=
  ∃ g cap, v = .slice (some ⟨g, 0, none⟩) zs.length cap ∧ w.heap.size ≤ g ∧ g < w'.heap.size ∧ OwnI w.heap.size w' g cap zs ∧ Below w.heap.size w w'

theorem reads_owni {B g cap : Nat} {w : World} {zs : List Int} (h : OwnI B w g cap zs) : Reads w (some ⟨g, 0, none⟩) zs := reads_own h

theorem reads_below {w w' : World} {a : Option Addr} {xs : List Int} (h : Reads w a xs) (hb : Below w.heap.size w w') : Reads w' a xs := by
  rcases h with h | ⟨b, off, ha, hc⟩
  · exact .inl h
  · exact .inr ⟨b, off, ha, fun j hj => (hb.cell (World.block_lt_of_cell? w ⟨b, off + j, none⟩ (hc j hj))).trans (hc j hj)⟩

theorem reads_row {w : World} {x : Addr} {zs : List Int} {len : Nat} (hl : len ≤ zs.length) (hc : ∀ i, i < zs.length → w.cell? (x.add i) = some (.int .i64 (zs.getD i 0))) :
    ∃ xs : List Int, xs.length = len ∧ Reads w (some x) xs := by
  refine ⟨zs.take len, by simp; omega, ?_⟩
  by_cases h0 : len = 0
  · exact .inl (by simp [h0])
  · obtain ⟨b, off, rfl, hcell⟩ := ints_at hc (by omega)
    refine .inr ⟨b, off, rfl, fun j hj => ?_⟩
    simp at hj
    rw [hcell j (by omega)]
    simp [List.getD_eq_getElem?_getD, show j < len by omega]

theorem owni_below {B g cap D : Nat} {w w' : World} {zs : List Int} (h : OwnI B w g cap zs) (hb : Below D w w') (hg : g < D) : OwnI B w' g cap zs := own_below h hb hg
theorem owni_grown {B g cap r : Nat} {w w' : World} {zs : List Int} (h : OwnI B w g cap zs) (hb : w.grownBy w' (some r)) (hg : g ≠ r) : OwnI B w' g cap zs := own_grown h hb hg
theorem owni_drewN {B g cap k : Nat} {w : World} {zs : List Int} (h : OwnI B w g cap zs) : OwnI B (w.drewN k) g cap zs := h
theorem owni_lt {B g cap : Nat} {w : World} {zs : List Int} (h : OwnI B w g cap zs) : B ≤ g ∧ g < w.heap.size := h.lt g rfl
theorem owni_lit (w : World) (cs : Array Value) (zs : List Int) (h : cs.toList = zs.map (Value.int .i64)) (hm : zs.length ≤ maxLen) : OwnI w.heap.size (w.alloc (.cells cs 2)) w.heap.size zs.length zs := by
  have hs : cs.size = zs.length := by rw [← Array.length_toList, h]; simp
  have := World.ownsRow_lit (base := w.heap.size) (e := 2) (size := 1) w cs zs.length (Nat.le_refl _) hm (by simpa using hs)
  rw [h] at this
  exact this
theorem made_lit (w : World) (cs : Array Value) (zs : List Int) (h : cs.toList = zs.map (Value.int .i64)) (hm : zs.length ≤ maxLen) : Made w (w.alloc (.cells cs 2)) (.slice (some ⟨w.heap.size, 0, none⟩) zs.length zs.length) zs :=
  ⟨_, _, rfl, Nat.le_refl _, by simp, owni_lit w cs zs h hm, (Below.refl _ _).alloc (Nat.le_refl _) _⟩
theorem made_step {w w1 w2 : World} {v : Value} {zs : List Int} (h : Below w.heap.size w w1) (h2 : Made w1 w2 v zs) : Made w w2 v zs := by
  obtain ⟨g, cap, rfl, h3, h4, h5, h6⟩ := h2
  refine ⟨g, cap, rfl, Nat.le_trans h.size h3, h4, ?_, below_step h h6⟩
  refine ⟨h5.1, ?_⟩
  rcases h5.2 with h' | ⟨g', cap', cur, h', hb, rest⟩
  · exact .inl h'
  · exact .inr ⟨g', cap', cur, h', Nat.le_trans h.size hb, rest⟩

theorem take_step (j : Nat) (xs : List Int) (ys : List Value) (h : j < xs.length) (h2 : j < ys.length) :
    ((xs.take j).map (Value.int .i64) ++ ys.drop j).set j (.int .i64 xs[j]) = (xs.take (j + 1)).map (Value.int .i64) ++ ys.drop (j + 1) := by
  have hl : ((xs.take j).map (Value.int .i64)).length = j := by simp; omega
  rw [List.set_append_right _ _ (by omega), hl, Nat.sub_self, List.drop_eq_getElem_cons h2, List.take_add_one, List.getElem?_eq_getElem h]
  simp only [List.set_cons_zero, List.map_append, List.map_cons, List.map_nil, List.append_assoc, List.cons_append, List.nil_append, Option.toList_some]


theorem made_app {w w1 : World} {v' : Value} {o : Obj} {xs : List Int} (h : w1.ownsRow w.heap.size 2 1 v' xs.length (xs.map (Value.int .i64)))
    (hg : (w.alloc o).grownBy w1 (Value.slice (some ⟨w.heap.size, 0, none⟩) 0 0).ownBlock) (hv : v' ≠ .slice none 0 0) : Made w w1 v' xs := by
  rcases h.2 with ⟨rfl, _⟩ | ⟨g, cap, cur, rfl, hb, hh, rest⟩
  · exact absurd rfl hv
  refine ⟨g, cap, rfl, hb, (Array.getElem?_eq_some_iff.1 hh).1, h, ((Below.refl _ _).alloc (Nat.le_refl _) _).grown hg (by simp) ?_⟩
  intro k hk
  simp [Value.ownBlock] at hk
  omega

theorem app_next {w0 w w1 : World} {g cap m : Nat} {zs ys : List Int} {v' : Value} {o : Obj} (hb : Below w0.heap.size w0 w) (ho : OwnI w0.heap.size w g cap zs) (hm : (zs ++ ys).length = m)
    (h : w1.ownsRow w0.heap.size 2 1 v' (zs.length + ys.length) (zs.map (Value.int .i64) ++ ys.map (Value.int .i64))) (hg : (w.alloc o).grownBy w1 (some g)) (hv : v' ≠ .slice none 0 0) :
    ∃ g' cap', v' = .slice (some ⟨g', 0, none⟩) m cap' ∧ OwnI w0.heap.size w1 g' cap' (zs ++ ys) ∧ Below w0.heap.size w0 w1 := by
  have hl := owni_lt ho
  rcases h.2 with ⟨rfl, _⟩ | ⟨g', cap', cur, rfl, hgb, hh, rest⟩
  · exact absurd rfl hv
  refine ⟨g', cap', by rw [← hm]; simp, ?_, (hb.alloc hb.size o).grown hg (by simp; have := hb.size; omega) (fun k hk => by cases hk; exact hl.1)⟩
  unfold OwnI
  rw [List.map_append, List.length_append]
  exact h

theorem app_last {w0 w w1 : World} {g cap : Nat} {zs ys : List Int} {v' : Value} (hb : Below w0.heap.size w0 w) (ho : OwnI w0.heap.size w g cap zs)
    (h : w1.ownsRow w0.heap.size 2 1 v' (zs.length + ys.length) (zs.map (Value.int .i64) ++ ys.map (Value.int .i64))) (hg : w.grownBy w1 (some g)) (hv : v' ≠ .slice none 0 0) : Made w0 w1 v' (zs ++ ys) := by
  have hl := owni_lt ho
  rcases h.2 with ⟨rfl, _⟩ | ⟨g', cap', cur, rfl, hgb, hh, rest⟩
  · exact absurd rfl hv
  refine ⟨g', cap', by simp, hgb, (Array.getElem?_eq_some_iff.1 hh).1, ?_, hb.grown hg hb.size (fun k hk => by cases hk; exact hl.1)⟩
  unfold OwnI
  rw [List.map_append, List.length_append]
  exact h


end Go.Proofs.YteblffhbennpnaaGreatDoor
