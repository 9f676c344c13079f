
/- The contracts of the copies of a list of numbers, of the laws and of the specification: a new slice that holds the same numbers; nothing that was there is changed. Conditions: at most 2^20 numbers. -/
import Derived.Test.YtpfgggjcaogkkaaNums
import Derived.Test.YtpfgggjcaogkkaaLists
import Derived.Deep.OwnRows
namespace Go.Proofs.Ytpfgggjcaogkkaa
open Go.ChangeShapes Go.WideShapes Go.ChangeAt Go.RowKit

theorem Try.infoI : (Try.prog.info? 2).map (fun i => (i.zero, i.size, i.bytes)) = some (some (.int .i64 0), 1, 8) := by kernel_rfl

def OwnI (B : Nat) (w : World) (g cap : Nat) (zs : List Int) : Prop :=
  w.ownsRow B 2 1 (.slice (some ⟨g, 0, none⟩) zs.length cap) zs.length (zs.map (Value.int .i64))

def Made (w w' : World) (v : Value) (zs : List Int) : Prop :=
  ∃ g cap, v = .slice (some ⟨g, 0, none⟩) zs.length cap ∧ w.heap.size ≤ g ∧ g < w'.heap.size ∧ OwnI w.heap.size w' g cap zs ∧ Below w.heap.size w w'

theorem reads_owni {B g cap : Nat} {w : World} {zs : List Int} (h : OwnI B w g cap zs) : Reads w (some ⟨g, 0, none⟩) zs := reads_own h

theorem reads_below {w w' : World} {a : Option Addr} {xs : List Int} (h : Reads w a xs) (hb : Below w.heap.size w w') : Reads w' a xs := by
  rcases h with h | ⟨b, off, ha, hc⟩
  · exact .inl h
  · exact .inr ⟨b, off, ha, fun j hj => (hb.cell (World.block_lt_of_cell? w ⟨b, off + j, none⟩ (hc j hj))).trans (hc j hj)⟩

theorem reads_row {w : World} {x : Addr} {zs : List Int} {len : Nat} (hl : len ≤ zs.length) (hc : ∀ i, i < zs.length → w.cell? (x.add i) = some (.int .i64 (zs.getD i 0))) :
    ∃ xs : List Int, xs.length = len ∧ Reads w (some x) xs := by
  refine ⟨zs.take len, by simp; omega, ?_⟩
  by_cases h0 : len = 0
  · exact .inl (by simp [h0])
  · obtain ⟨b, off, rfl, hcell⟩ := ints_at hc (by omega)
    refine .inr ⟨b, off, rfl, fun j hj => ?_⟩
    simp at hj
    rw [hcell j (by omega)]
    simp [List.getD_eq_getElem?_getD, show j < len by omega]

theorem owni_below {B g cap D : Nat} {w w' : World} {zs : List Int} (h : OwnI B w g cap zs) (hb : Below D w w') (hg : g < D) : OwnI B w' g cap zs := own_below h hb hg
theorem owni_grown {B g cap r : Nat} {w w' : World} {zs : List Int} (h : OwnI B w g cap zs) (hb : w.grownBy w' (some r)) (hg : g ≠ r) : OwnI B w' g cap zs := own_grown h hb hg
theorem owni_drewN {B g cap k : Nat} {w : World} {zs : List Int} (h : OwnI B w g cap zs) : OwnI B (w.drewN k) g cap zs := h
theorem owni_lt {B g cap : Nat} {w : World} {zs : List Int} (h : OwnI B w g cap zs) : B ≤ g ∧ g < w.heap.size := h.lt g rfl
theorem owni_lit (w : World) (cs : Array Value) (zs : List Int) (h : cs.toList = zs.map (Value.int .i64)) (hm : zs.length ≤ maxLen) : OwnI w.heap.size (w.alloc (.cells cs 2)) w.heap.size zs.length zs := by
  have hs : cs.size = zs.length := by rw [← Array.length_toList, h]; simp
  have := World.ownsRow_lit (base := w.heap.size) (e := 2) (size := 1) w cs zs.length (Nat.le_refl _) hm (by simpa using hs)
  rw [h] at this
  exact this
theorem made_lit (w : World) (cs : Array Value) (zs : List Int) (h : cs.toList = zs.map (Value.int .i64)) (hm : zs.length ≤ maxLen) : Made w (w.alloc (.cells cs 2)) (.slice (some ⟨w.heap.size, 0, none⟩) zs.length zs.length) zs :=
  ⟨_, _, rfl, Nat.le_refl _, by simp, owni_lit w cs zs h hm, (Below.refl _ _).alloc (Nat.le_refl _) _⟩
theorem made_step {w w1 w2 : World} {v : Value} {zs : List Int} (h : Below w.heap.size w w1) (h2 : Made w1 w2 v zs) : Made w w2 v zs := by
  obtain ⟨g, cap, rfl, h3, h4, h5, h6⟩ := h2
  refine ⟨g, cap, rfl, Nat.le_trans h.size h3, h4, ?_, below_step h h6⟩
  refine ⟨h5.1, ?_⟩
  rcases h5.2 with h' | ⟨g', cap', cur, h', hb, rest⟩
  · exact .inl h'
  · exact .inr ⟨g', cap', cur, h', Nat.le_trans h.size hb, rest⟩

theorem take_step (j : Nat) (xs : List Int) (ys : List Value) (h : j < xs.length) (h2 : j < ys.length) :
    ((xs.take j).map (Value.int .i64) ++ ys.drop j).set j (.int .i64 xs[j]) = (xs.take (j + 1)).map (Value.int .i64) ++ ys.drop (j + 1) := by
  have hl : ((xs.take j).map (Value.int .i64)).length = j := by simp; omega
  rw [List.set_append_right _ _ (by omega), hl, Nat.sub_self, List.drop_eq_getElem_cons h2, List.take_add_one, List.getElem?_eq_getElem h]
  simp only [List.set_cons_zero, List.map_append, List.map_cons, List.map_nil, List.append_assoc, List.cons_append, List.nil_append, Option.toList_some]

set_option maxHeartbeats 1000000 in
theorem toInts_any (a : Option Addr) (xs : List Int) (cap : Nat) (w : World) (h : Reads w a xs) (hm : xs.length ≤ 1048576) :
    Calls Try.prog 20 #[.slice a xs.length cap] w fun e w' => ∃ v, e = .returned v ∧ Made w w' v xs := by
  obtain ⟨i0, hi, hz0, hz1, hz2⟩ := info_parts Try.infoI
  have hmk := Go.run_make_row' (P := Try.prog) 33 2 (.int .i64 0) 8 Try.underlying33 Try.infoI rfl .i64 .i64 xs.length (by omega) (by omega)
  go_enter Try.func20, Try.ntmps20
  go_wp2
  go_loopw [4] (fun i wr => ∃ k : Nat, k ≤ xs.length ∧ i = .int .i64 k ∧ wr.ownsRow w.heap.size 2 1 (.slice (some ⟨w.heap.size, 0, none⟩) xs.length xs.length) xs.length ((xs.take k).map (Value.int .i64) ++ (madeCells #[.int .i64 0] xs.length).toList.drop k) ∧ Below w.heap.size w wr)
    (fun i _ => xs.length - (intOf i).toNat)
  case atStart => exact ⟨0, Nat.zero_le _, rfl, by simpa using World.ownsRow_lit (base := w.heap.size) (e := 2) (size := 1) w (madeCells #[.int .i64 0] xs.length) xs.length (Nat.le_refl _) (by unfold maxLen; omega) (by simp [size_madeCells]), (Below.refl _ _).alloc (Nat.le_refl _) _⟩
  case round =>
    obtain ⟨k, hk, rfl, hr, hb⟩ := hrel
    by_cases hlt : k < xs.length
    · rcases h with rfl | ⟨b, off, rfl, hc⟩
      · simp at hlt
      have hlt' : (k : Int) < (xs.length : Int) := by omega
      have g0 := hc k hlt
      have g1 := (hb.cell (World.block_lt_of_cell? w ⟨b, off + k, none⟩ g0)).trans g0
      have hfz := hr.frozenAt k
      obtain ⟨v0, hv0⟩ : ∃ v0, wr.cell? ⟨w.heap.size, k, none⟩ = some v0 := by
        rw [hr.cellAt k (by omega)]
        exact ⟨_, List.getElem?_eq_getElem (by have := hr.1; omega)⟩
      have R := hr.stored k (.int .i64 xs[k])
      rw [take_step k xs _ hlt (by simp [size_madeCells]; omega)] at R
      have HR : Hid _ := R
      clear R hc
      go_wp2
      go_roundw
      case rel => exact ⟨k + 1, by omega, by go_num, HR.out.1, hb.grown HR.out.2 hb.size (by intro j hj; cases hj; exact Nat.le_refl _)⟩
      case measure => simp [intOf]; omega
    · have hkl : k = xs.length := by omega
      subst hkl
      go_wp2
      go_ret
      refine ⟨_, rfl, w.heap.size, xs.length, rfl, Nat.le_refl _, (hr.lt _ rfl).2, ?_, hb⟩
      rw [List.take_length, List.drop_of_length_le (by simp [size_madeCells]), List.append_nil] at hr
      exact hr

theorem made_app {w w1 : World} {v' : Value} {o : Obj} {xs : List Int} (h : w1.ownsRow w.heap.size 2 1 v' xs.length (xs.map (Value.int .i64)))
    (hg : (w.alloc o).grownBy w1 (Value.slice (some ⟨w.heap.size, 0, none⟩) 0 0).ownBlock) (hv : v' ≠ .slice none 0 0) : Made w w1 v' xs := by
  rcases h.2 with ⟨rfl, _⟩ | ⟨g, cap, cur, rfl, hb, hh, rest⟩
  · exact absurd rfl hv
  refine ⟨g, cap, rfl, hb, (Array.getElem?_eq_some_iff.1 hh).1, h, ((Below.refl _ _).alloc (Nat.le_refl _) _).grown hg (by simp) ?_⟩
  intro k hk
  simp [Value.ownBlock] at hk
  omega

theorem app_next {w0 w w1 : World} {g cap m : Nat} {zs ys : List Int} {v' : Value} {o : Obj} (hb : Below w0.heap.size w0 w) (ho : OwnI w0.heap.size w g cap zs) (hm : (zs ++ ys).length = m)
    (h : w1.ownsRow w0.heap.size 2 1 v' (zs.length + ys.length) (zs.map (Value.int .i64) ++ ys.map (Value.int .i64))) (hg : (w.alloc o).grownBy w1 (some g)) (hv : v' ≠ .slice none 0 0) :
    ∃ g' cap', v' = .slice (some ⟨g', 0, none⟩) m cap' ∧ OwnI w0.heap.size w1 g' cap' (zs ++ ys) ∧ Below w0.heap.size w0 w1 := by
  have hl := owni_lt ho
  rcases h.2 with ⟨rfl, _⟩ | ⟨g', cap', cur, rfl, hgb, hh, rest⟩
  · exact absurd rfl hv
  refine ⟨g', cap', by rw [← hm]; simp, ?_, (hb.alloc hb.size o).grown hg (by simp; have := hb.size; omega) (fun k hk => by cases hk; exact hl.1)⟩
  unfold OwnI
  rw [List.map_append, List.length_append]
  exact h

theorem app_last {w0 w w1 : World} {g cap : Nat} {zs ys : List Int} {v' : Value} (hb : Below w0.heap.size w0 w) (ho : OwnI w0.heap.size w g cap zs)
    (h : w1.ownsRow w0.heap.size 2 1 v' (zs.length + ys.length) (zs.map (Value.int .i64) ++ ys.map (Value.int .i64))) (hg : w.grownBy w1 (some g)) (hv : v' ≠ .slice none 0 0) : Made w0 w1 v' (zs ++ ys) := by
  have hl := owni_lt ho
  rcases h.2 with ⟨rfl, _⟩ | ⟨g', cap', cur, rfl, hgb, hh, rest⟩
  · exact absurd rfl hv
  refine ⟨g', cap', by simp, hgb, (Array.getElem?_eq_some_iff.1 hh).1, ?_, hb.grown hg hb.size (fun k hk => by cases hk; exact hl.1)⟩
  unfold OwnI
  rw [List.map_append, List.length_append]
  exact h

set_option maxHeartbeats 1000000 in
theorem l1Copy_any (a : Addr) (xs : List Int) (cap : Nat) (w : World) (h : Reads w (some a) xs) (hm : xs.length ≤ 1048576) :
    Calls Try.prog 12 #[.slice (some a) xs.length cap] w fun e w' => ∃ v, e = .returned v ∧ Made w w' v xs := by
  obtain ⟨i0, hi, hz0, hz1, hz2⟩ := info_parts Try.infoI
  have hown : (w.alloc (.cells #[] 2)).ownsRow w.heap.size 2 1 (.slice (some ⟨w.heap.size, 0, none⟩) 0 0) 0 [] := World.ownsRow_lit _ #[] 0 (Nat.le_refl _) (Nat.zero_le _) rfl
  go_enter Try.func12, Try.ntmps12
  go_wp2_with (at_builtin; refine wpList_append_own _ rfl _ _ 33 rfl w.heap.size 2 i0 (.int .i64 0) 1 8 Try.underlying33 hi hz0 hz1 hz2 rfl (by decide) _ _ _ rfl hown a xs.length cap (xs.map (Value.int .i64)) rfl (by simp) ?c1 ?c2 ?c3 ?c4 ?c5 ?_)
  case c1 =>
    intro j u hj
    obtain ⟨hjl, rfl⟩ := List.getElem?_eq_some_iff.1 hj
    simp at hjl
    rcases h with rfl | ⟨b, off, ha, hc⟩
    · simp at hjl
    simp only [Option.some.injEq] at ha
    subst ha
    have g0 := hc j hjl
    rw [show (⟨b, off, none⟩ : Addr).add j = ⟨b, off + j, none⟩ from by simp [Addr.add], World.cell?_alloc_past _ _ _ (World.block_lt_of_cell? w _ g0), g0]
    simp [List.getD_eq_getElem?_getD, hjl]
  case c2 => intro u hu; simp at hu; obtain ⟨x, _, rfl⟩ := hu; rfl
  case c3 => unfold maxLen; omega
  case c4 => omega
  case c5 => simp
  · intro v' w1 hown' hgrow hnil
    have hv : v' ≠ .slice none 0 0 := hnil
    have HO : Hid (Made w w1 v' xs) := made_app hown' hgrow hv
    clear hown' hgrow hnil hown
    go_wp2
    go_ret
    exact ⟨_, rfl, HO.out⟩

end Go.Proofs.Ytpfgggjcaogkkaa
