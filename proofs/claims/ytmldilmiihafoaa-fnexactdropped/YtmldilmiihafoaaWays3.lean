/- The contracts of the laws' own helpers over ways, sets and stores: a copy. Conditions: lengths that a machine can hold. -/
import Derived.Test.YtmldilmiihafoaaJBitsLinesClassesWays2
import Derived.Test.YtmldilmiihafoaaFirsts
namespace Go.Proofs.Ytmldilmiihafoaa
open Go.ChangeShapes Go.WideShapes Go.ChangeAt Go.RowKit
set_option linter.unusedVariables false

theorem cells_3 {w : World} {g : Nat} {x y z : Value} {t : TypeId} (h : w.heap[g]? = some (.cells #[x, y, z] t (0, 0))) :
    w.cell? ⟨g, 0, none⟩ = some x ∧ w.cell? ⟨g, 1, none⟩ = some y ∧ w.cell? ⟨g, 2, none⟩ = some z :=
  ⟨by rw [cell_of_row w g 0 _ t (0, 0) h]; rfl, by rw [cell_of_row w g 1 _ t (0, 0) h]; rfl, by rw [cell_of_row w g 2 _ t (0, 0) h]; rfl⟩
theorem own_setC {α : Type} {R : Rep α} {w : World} {S : Foot} {cs : List Value} {x : α} {g o : Nat} {v : Value} (h : R.own w S cs x) (hg : ¬ S g) : R.own (w.setCell ⟨g, o, none⟩ v) S cs x :=
  R.own_keep h fun k hk _ => heap_setCell_other w ⟨g, o, none⟩ k v (fun e => hg (by have e' : k = g := e; rw [← e']; exact hk))
theorem below_setC {w w' : World} {B g o : Nat} {v : Value} (h : Below B w w') (hg : B ≤ g) : Below B w (w'.setCell ⟨g, o, none⟩ v) := h.setCell (p := ⟨g, o, none⟩) hg v
theorem cells_froz {w : World} {g : Nat} {cs : Array Value} {t : TypeId} (h : w.heap[g]? = some (.cells cs t (0, 0))) : w.frozen? ⟨g, 0, none⟩ = false ∧ w.frozen? ⟨g, 1, none⟩ = false ∧ w.frozen? ⟨g, 2, none⟩ = false :=
  ⟨frozen_of_row w g 0 _ t h, frozen_of_row w g 1 _ t h, frozen_of_row w g 2 _ t h⟩

theorem put3 {w : World} {g : Nat} {x y z a b c : Value} {t : TypeId} (h : w.heap[g]? = some (.cells #[x, y, z] t (0, 0))) :
    (((w.setCell ⟨g, 0, none⟩ a).setCell ⟨g, 1, none⟩ b).setCell ⟨g, 2, none⟩ c).heap[g]? = some (.cells #[a, b, c] t (0, 0)) := by
  have h1 := heap_setCell_same w g 0 _ t a h
  have h2 := heap_setCell_same _ g 1 _ t b h1
  exact heap_setCell_same _ g 2 _ t c h2
theorem put2 {w : World} {g : Nat} {x y a b : Value} {t : TypeId} (h : w.heap[g]? = some (.cells #[x, y] t (0, 0))) :
    ((w.setCell ⟨g, 0, none⟩ a).setCell ⟨g, 1, none⟩ b).heap[g]? = some (.cells #[a, b] t (0, 0)) := by
  have h1 := heap_setCell_same w g 0 _ t a h
  exact heap_setCell_same _ g 1 _ t b h1
theorem heap_setC {w : World} {g k o : Nat} {v : Value} {x : Obj} (h : w.heap[k]? = some x) (hne : k ≠ g) : (w.setCell ⟨g, o, none⟩ v).heap[k]? = some x := (heap_setCell_other w ⟨g, o, none⟩ k v hne).trans h

set_option maxHeartbeats 1000000 in
theorem toWay_rep (l s : Int) (d : List Int) (a : Option Addr) (cap : Nat) (w : World) (i1 : In64 l) (i2 : In64 s) (h : SlRd intR w a d) (hm : intsM.bk d ≤ 1048576) :
    Calls Try.prog 30 #[.agg #[.int .i64 l, .int .i64 s, .slice a d.length cap]] w fun e w' => ∃ av cv, e = .returned (.agg #[.int .i64 l, .int .i64 s, .slice av d.length cv]) ∧ MadeR wayR w w' [.int .i64 l, .int .i64 s, .slice av d.length cv] (l, s, d) := by
  have H : Hid (∀ W, Below w.heap.size w W → SlRd intR W a d) := fun W hb => slrd_keep h fun k hk => hb.block k hk
  clear h
  go_enter Try.func30, Try.ntmps30
  go_wp2_with fail
  have B0 : Below w.heap.size w (((w.alloc (.cells #[.int .i64 l, .int .i64 s, .slice a d.length cap] 49)).alloc (.cells #[.int .i64 0, .int .i64 0, .slice none 0 0] 29)).alloc (.cells #[.int .i64 l, .int .i64 s, .slice none 0 0] 29)) := (((Below.refl _ w).alloc (Nat.le_refl _) _).alloc (by simp) _).alloc (by simp; omega) _
  have X1 := heap_on (.cells #[.int .i64 l, .int .i64 s, .slice none 0 0] 29) (heap_at (w.alloc (.cells #[.int .i64 l, .int .i64 s, .slice a d.length cap] 49)) (.cells #[.int .i64 0, .int .i64 0, .slice none 0 0] 29))
  have X2 := heap_at ((w.alloc (.cells #[.int .i64 l, .int .i64 s, .slice a d.length cap] 49)).alloc (.cells #[.int .i64 0, .int .i64 0, .slice none 0 0] 29)) (.cells #[.int .i64 l, .int .i64 s, .slice none 0 0] 29)
  have e3 : (((w.alloc (.cells #[.int .i64 l, .int .i64 s, .slice a d.length cap] 49)).alloc (.cells #[.int .i64 0, .int .i64 0, .slice none 0 0] 29)).alloc (.cells #[.int .i64 l, .int .i64 s, .slice none 0 0] 29)).heap.size = w.heap.size + 1 + 1 + 1 := by simp
  rw [alloc_len] at X1
  rw [alloc_len, alloc_len] at X2
  generalize ((w.alloc (.cells #[.int .i64 l, .int .i64 s, .slice a d.length cap] 49)).alloc (.cells #[.int .i64 0, .int .i64 0, .slice none 0 0] 29)).alloc (.cells #[.int .i64 l, .int .i64 s, .slice none 0 0] 29) = W0 at B0 X1 X2 e3 ⊢
  refine (toInt64S_rep _ d _ _ (H.out _ B0) hm).mono ?_
  rintro e w1 ⟨v, rfl, mm⟩
  obtain ⟨av, cv, rfl⟩ := slown_val mm.1
  have hm2 := mm.2
  have hown := mm.1
  have B1 := below_step B0 hm2
  replace X1 := row_keep hm2 X1
  replace X2 := row_keep hm2 X2
  obtain ⟨y0, y1, y2⟩ := cells_3 X2
  obtain ⟨f0, f1, f2⟩ := cells_froz X2
  obtain ⟨z0, z1, z2⟩ := cells_3 X1
  obtain ⟨g0, g1, g2⟩ := cells_froz X1
  have HX : Hid _ := And.intro X1 X2
  have HO : Hid _ := hown
  clear X1 X2 hown mm H
  go_wp2
  obtain ⟨X1, X2⟩ := HX.out
  have Y1 := put3 (a := .int .i64 l) (b := .int .i64 s) (c := .slice av d.length cv) (heap_setC (g := w.heap.size + 1 + 1) (o := 2) (v := .slice av d.length cv) X1 (by omega))
  obtain ⟨r0, r1, r2⟩ := cells_3 Y1
  refine bodyPost_ret (v := .agg #[.int .i64 l, .int .i64 s, .slice av d.length cv]) (by simp [results, Try.results30, go_sem, r0, r1, r2]) rfl ⟨av, cv, rfl, own_way i1 i2 ?_, ?_⟩
  · refine intsR.own_mono (own_setC (own_setC (own_setC (own_setC HO.out (fun h => by have := h.1; omega)) (fun h => by have := h.1; omega)) (fun h => by have := h.1; omega)) (fun h => by have := h.1; omega)) ?_
    exact rng_sub (by omega) (by simp)
  · exact below_setC (below_setC (below_setC (below_setC B1 (by omega)) (by omega)) (by omega)) (by omega)

theorem run_make_wide {P : Program} (t e : TypeId) (z : Value) (size bytes : Nat) (ht : P.underlying t = some (.slice e)) (hinfo : (P.info? e).map (fun i => (i.zero, i.size, i.bytes)) = some (some z, size, bytes))
    (n : Nat) (hbytes : bytes * n ≤ 281474976710656) (h63 : n ≤ 9223372036854775807) (w : World) :
    (Instr.makeSlice t (.int .i64 (n : Int)) (.int .i64 (n : Int))).run P w = .ok (.slice (some ⟨w.heap.size, 0, none⟩) n n) (w.alloc (.cells (madeCells z.cells (n * size)) e)) := by
  obtain ⟨i, hi, hzz⟩ := Option.map_eq_some_iff.1 hinfo
  simp only [Prod.mk.injEq] at hzz
  obtain ⟨hz, hs, hb⟩ := hzz
  have h2 : (i.bytes : Int) * (n : Int) ≤ 281474976710656 := by rw [hb, ← Int.natCast_mul]; omega
  have := run_make (P := P) w t e i z ht hi hz .i64 .i64 (n : Int) (n : Int) (by omega) (Int.le_refl _) h2 (by omega)
  simpa [hs] using this

theorem sumbk_ge {α : Type} (M : Mk α) (xs : List α) {x : α} {k : Nat} (hx : xs[k]? = some x) : M.bk x ≤ sumbk M xs := by
  have := sumbk_get (M := M) hx
  omega

theorem Try.infoWay : (Try.prog.info? 29).map (fun i => (i.zero, i.size, i.bytes)) = some (some (.agg #[.int .i64 0, .int .i64 0, .slice none 0 0]), 3, 40) := by kernel_rfl

set_option maxHeartbeats 1000000 in
theorem toWayS_rep (a : Option Addr) (xs : List (Int × Int × List Int)) (cap : Nat) (w : World) (h : SlRd wayR w a xs) (hm : waysM.bk xs ≤ 1048576) :
    Calls Try.prog 100 #[.slice a xs.length cap] w fun e w' => ∃ v, e = .returned v ∧ MadeR waysR w w' [v] xs := by
  have hbk : waysM.bk xs = xs.length + sumbk wayM xs := rfl
  have hln : xs.length ≤ 1048576 := by omega
  have HB : Hid (sumbk wayM xs ≤ 1048576) := by unfold Hid; omega
  have H0 : Hid (SlRd wayR w a xs) := h
  clear hbk hm h
  have hmk := run_make_wide (P := Try.prog) 73 29 (.agg #[.int .i64 0, .int .i64 0, .slice none 0 0]) 3 40 Try.underlying73 Try.infoWay xs.length (by omega) (by omega)
  go_enter Try.func100, Try.ntmps100
  go_wp2
  go_loopw [4] (fun i wr => ∃ k : Nat, k ≤ xs.length ∧ i = .int .i64 k ∧ Fill 29 wayR w wr xs.length (xs.take k)) (fun i _ => xs.length - (intOf i).toNat)
  case atStart => exact ⟨0, Nat.zero_le _, rfl, by simpa using fillR_start (e := 29) (R := wayR) (w0 := w) (n := xs.length) (cs := madeCells #[.int .i64 0, .int .i64 0, .slice none 0 0] (xs.length * 3)) (by unfold maxLen; omega) (by rw [size_madeCells]; rfl)⟩
  case round =>
    obtain ⟨k, hk, rfl, hF⟩ := hrel
    by_cases hlt : k < xs.length
    · have hlt' : (k : Int) < (xs.length : Int) := by omega
      obtain ⟨x, hx⟩ : ∃ x, xs[k]? = some x := ⟨_, List.getElem?_eq_getElem hlt⟩
      obtain ⟨b, off, cs, rfl, hrdx, hcell⟩ := slrd_at (slrd_next H0.out (fill_below hF)) hx
      obtain ⟨ad, cpw, rfl, i1, i2, hd1, hd2, hd3⟩ := way_rd hrdx
      have x0 := hcell 0 _ rfl
      have x1 := hcell 1 _ rfl
      have x2 := hcell 2 _ rfl
      rw [show off + (k * wayR.size + 0) = off + k * 3 from rfl] at x0
      rw [show off + (k * wayR.size + 1) = off + k * 3 + 1 from rfl] at x1
      rw [show off + (k * wayR.size + 2) = off + k * 3 + 2 from rfl] at x2
      have HX : Hid (intsM.bk x.2.2 ≤ 1048576) := by unfold Hid; have := sumbk_ge wayM xs hx; rw [bk_way] at this; have := HB.out; omega
      have HR : Hid (SlRd intR wr ad x.2.2) := hd3
      have HI : Hid (In64 x.1 ∧ In64 x.2.1) := ⟨i1, i2⟩
      have FS : Hid (∀ w1 c, MadeR wayR wr w1 c x → _) := fun w1 c hm => fillR_step (w1 := w1) (c := c) hF (by simp; omega) hlt hm
      have HP : Hid (xs.take k ++ [x] = xs.take (k + 1)) := by unfold Hid; rw [List.take_add_one, hx]; rfl
      clear hx hrdx hcell hmk hF hd1 hd2 hd3 i1 i2
      go_wp2_with fail
      refine (toWay_rep x.1 x.2.1 x.2.2 _ _ _ HI.out.1 HI.out.2 HR.out HX.out).mono ?_
      rintro e w1 ⟨av, cv, rfl, mm⟩
      obtain ⟨q1, q2, F1⟩ := FS.out _ _ mm
      obtain ⟨v0, hv0⟩ := q1 0 (by decide)
      obtain ⟨v1, hv1⟩ := q1 1 (by decide)
      obtain ⟨v2, hv2⟩ := q1 2 (by decide)
      have z0 := q2 (k * 3)
      have z1 := q2 (k * 3 + 1)
      have z2 := q2 (k * 3 + 2)
      rw [show k * wayR.size + 0 = k * 3 from rfl] at hv0
      rw [show k * wayR.size + 1 = k * 3 + 1 from rfl] at hv1
      rw [show k * wayR.size + 2 = k * 3 + 2 from rfl] at hv2
      rw [HP.out] at F1
      have HF : Hid _ := F1
      clear F1 mm q1 q2 FS x0 x1 x2
      go_wp2
      go_roundw
      case rel => exact ⟨k + 1, by omega, by go_num, HF.out⟩
      case measure => simp [intOf]; omega
    · have hkl : k = xs.length := by omega
      subst hkl
      rw [List.take_length] at hF
      have FE := fillR_end hF rfl
      clear hF
      go_wp2
      go_ret
      exact ⟨_, rfl, FE⟩

end Go.Proofs.Ytmldilmiihafoaa
