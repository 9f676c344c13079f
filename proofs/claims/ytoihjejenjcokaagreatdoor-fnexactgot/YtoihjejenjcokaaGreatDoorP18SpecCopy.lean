import Derived.Test.YtoihjejenjcokaaGreatDoorP00Box
import Derived.Test.YtoihjejenjcokaaGreatDoorP15AppAny
import Derived.Test.YtoihjejenjcokaaGreatDoorP14WayCopy
import Derived.Deep.DeepCutAuto
import Derived.Test.YtoihjejenjcokaaGreatDoorP17CopyImpl
import Derived.Test.YtoihjejenjcokaaGreatDoorP12Finds
import Derived.Test.YtoihjejenjcokaaGreatDoorP03OpensBase
namespace Go.Proofs.YtoihjejenjcokaaGreatDoor
set_option maxHeartbeats 4000000
set_option maxRecDepth 8000
open Go.ChangeShapes Go.WideShapes Go.ChangeAt Go.RowKit
set_option linter.unusedVariables false
theorem zLU (a b : Option Addr) (c : zAu) (cap cp : Nat) (w : World) (h1 : zBh zBl w a c.1) (h2 : zBh zBC w b c.2) (m1 : c.1.length ≤ 1048576) (m2 : c.2.length ≤ 1048576) (m3 : ∀ row ∈ c.1, row.length ≤ 1048576 ∧ ∀ u ∈ row, u.2.2.length ≤ 1048576) :
    Calls Tryz.prog 55 #[.agg #[.slice a c.1.length cap, .slice b c.2.length cp]] w fun e w' => ∃ av cv bv dv, e = .returned (.agg #[.slice av c.1.length cv, .slice bv c.2.length dv]) ∧ zAY zAB w w' [.slice av c.1.length cv, .slice bv c.2.length dv] c := by
 have H1 : Hid (∀ W, Below w.heap.size w W → zBh zBl W a c.1) := fun W hb => zA7 h1 fun k hk => hb.block k hk
 have H2 : Hid (∀ W, Below w.heap.size w W → zBh zBC W b c.2) := fun W hb => zA7 h2 fun k hk => hb.block k hk
 have M3 : Hid _ := m3
 clear h1 h2 m3
 go_enter Tryz.func55, Tryz.ntmps55
 go_wp2_with fail
 have B0 := zAb (zAf w (.cells #[.slice a c.1.length cap, .slice b c.2.length cp] 37)) (zAf _ (.cells #[.slice none 0 0, .slice none 0 0] 37))
 have X0 := zAK (.cells #[.slice none 0 0, .slice none 0 0] 37) (zAy w (.cells #[.slice a c.1.length cap, .slice b c.2.length cp] 37))
 have Y0 := zAy (w.alloc (.cells #[.slice a c.1.length cap, .slice b c.2.length cp] 37)) (.cells #[.slice none 0 0, .slice none 0 0] 37)
 have e2 : ((w.alloc (.cells #[.slice a c.1.length cap, .slice b c.2.length cp] 37)).alloc (.cells #[.slice none 0 0, .slice none 0 0] 37)).heap.size = w.heap.size + 2 := by simp
 rw [zAp] at Y0
 generalize (w.alloc (.cells #[.slice a c.1.length cap, .slice b c.2.length cp] 37)).alloc (.cells #[.slice none 0 0, .slice none 0 0] 37) = W0 at B0 X0 Y0 e2 ⊢
 refine (zDc b c.2 cp _ (H2.out _ B0) m2).mono ?_
 rintro e w1 ⟨v, rfl, mm⟩
 obtain ⟨bv, dv, rfl⟩ := zBD mm.1
 clear H2
 have t2 := mm.2.size
 have B1 := zAb (zAb B0 mm.2) (zAf w1 (.cells #[.slice none 0 0, .slice bv c.2.length dv] 37))
 have X1 := zAK (.cells #[.slice none 0 0, .slice bv c.2.length dv] 37) (zAa mm.2 X0)
 have Y1 := zAK (.cells #[.slice none 0 0, .slice bv c.2.length dv] 37) (zAa mm.2 Y0)
 have C1 := zAy w1 (.cells #[.slice none 0 0, .slice bv c.2.length dv] 37)
 have T1 := zBQ (.cells #[.slice none 0 0, .slice bv c.2.length dv] 37) mm.1
 rw [e2] at T1
 have e3 : (w1.alloc (.cells #[.slice none 0 0, .slice bv c.2.length dv] 37)).heap.size = w1.heap.size + 1 := by simp
 have HC : Hid _ := And.intro B1 (And.intro X1 (And.intro Y1 (And.intro C1 T1)))
 obtain ⟨g0, g1⟩ := zBc (zAa mm.2 X0)
 clear B0 X0 Y0 mm B1 X1 Y1 C1 T1
 go_wp2
 clear g0 g1
 obtain ⟨B1, X1, Y1, C1, T1⟩ := HC.out
 clear HC
 generalize w1.alloc (.cells #[.slice none 0 0, .slice bv c.2.length dv] 37) = W1 at B1 X1 Y1 C1 T1 e3 ⊢
 go_loopw [4] (fun q wr => ∃ k : Nat, k ≤ c.1.length ∧ q = .int .i64 k ∧ ∃ av cv, zBu.own wr (rng (w1.heap.size + 1) wr.heap.size) [.slice av k cv] (c.1.take k) ∧ wr.heap[w1.heap.size]? = some (.cells #[.slice av k cv, .slice bv c.2.length dv] 37 (0, 0)) ∧ wr.heap[w.heap.size + 1]? = some (.cells #[.slice none 0 0, .slice none 0 0] 37) ∧ wr.heap[w.heap.size]? = some (.cells #[.slice a c.1.length cap, .slice b c.2.length cp] 37) ∧ zA5.own wr (rng (w.heap.size + 2) w1.heap.size) [.slice bv c.2.length dv] c.2 ∧ Below w.heap.size w wr ∧ w1.heap.size + 1 ≤ wr.heap.size)
  (fun q _ => c.1.length - (intOf q).toNat)
 case atStart => exact ⟨0, Nat.zero_le _, rfl, none, 0, ⟨_, [], fun _ => False, rfl, World.ownsRow_nil _ _ _ _, fun g hg => by simp [Value.ownBlock] at hg, fun _ h => h.elim, rfl⟩, C1, Y1, X1, T1, B1, by omega⟩
 case round =>
  clear B1 X1 Y1 C1 T1 e3
  obtain ⟨wo, rfl⟩ : ∃ wo, wo = wr := ⟨_, rfl⟩
  obtain ⟨k, hk, rfl, av, cv, O, C, R, X, T, B, Lz⟩ := hrel
  by_cases hlt : k < c.1.length
  ·have hlt' : (k : Int) < (c.1.length : Int) := by omega
   have htk : (c.1.take k).length = k := by rw [List.length_take]; omega
   obtain ⟨row, hrow⟩ : ∃ row, c.1[k]? = some row := ⟨_, List.getElem?_eq_getElem hlt⟩
   obtain ⟨b0, o0, aj, cj, rfl, k2, -, -, hrd⟩ := zDj (H1.out _ B) hrow
   obtain ⟨hrl, hul⟩ := M3.out row (List.mem_of_getElem? hrow)
   have HRD : Hid (∀ W, Below wo.heap.size wo W → zBh zAS W aj row) := fun W hb => zAG hrd hb
   have HT : Hid (c.1.take k ++ [row] = c.1.take (k + 1)) := by unfold Hid; rw [List.take_add_one, hrow]; rfl
   have HUL : Hid _ := hul
   obtain ⟨p0, p1⟩ := zBc X
   have p2 := (Array.getElem?_eq_some_iff.1 X).1
   have HF : Hid _ := And.intro O (And.intro C (And.intro R (And.intro X (And.intro T B))))
   have HK2 : Hid (∀ W, Below wo.heap.size wo W → W.cell? ⟨b0, o0 + k, none⟩ = some (.slice aj row.length cj) ∧ W.cell? ⟨w.heap.size, 0, none⟩ = some (.slice (some ⟨b0, o0, none⟩) c.1.length cap)) := fun W hb => ⟨zAd hb k2 (zAi k2), (zBc (zAa hb X)).1⟩
   have MN := zM7 (e := 39) (R := zAS) wo
   clear O C R X T B hrd hul hrow
   go_wp2
   clear k2 p0 p1 p2
   go_loopw [5, 6] (fun r i wi => ∃ j : Nat, j ≤ row.length ∧ i = .int .i64 j ∧ ∃ au cu, r = .slice au j cu ∧ zAY zBl wo wi [.slice au j cu] (row.take j)) (fun _ i _ => row.length - (intOf i).toNat)
   case atStart => exact ⟨0, Nat.zero_le _, rfl, _, _, rfl, MN⟩
   case round =>
    clear MN
    obtain ⟨j, hj, rfl, au, cu, rfl, M⟩ := hrel
    obtain ⟨k2, p0⟩ := HK2.out _ M.2
    by_cases hlt2 : j < row.length
    ·have hlt2' : (j : Int) < (row.length : Int) := by omega
     have htj : (row.take j).length = j := by rw [List.length_take]; omega
     obtain ⟨u, hu⟩ : ∃ u, row[j]? = some u := ⟨_, List.getElem?_eq_getElem hlt2⟩
     obtain ⟨bj, oj, cs, rfl, hrdu, hcell⟩ := zBG (HRD.out _ M.2) hu
     obtain ⟨ad, cpw, rfl, i1, i2, -, -, hd3⟩ := zAL hrdu
     have k4 := hcell 0 _ rfl
     have k5 := hcell 1 _ rfl
     have k6 := hcell 2 _ rfl
     rw [show oj + (j * zAS.size + 0) = oj + j * 3 from rfl] at k4
     rw [show oj + (j * zAS.size + 1) = oj + j * 3 + 1 from rfl] at k5
     rw [show oj + (j * zAS.size + 2) = oj + j * 3 + 2 from rfl] at k6
     have HT2 : Hid (row.take j ++ [u] = row.take (j + 1)) := by unfold Hid; rw [List.take_add_one, hu]; rfl
     have HLN : Hid (u.2.2.length ≤ 1048576) := HUL.out u (List.mem_of_getElem? hu)
     have HD : Hid (zBk u.1 ∧ zBk u.2.1 ∧ zBh zBC wr ad u.2.2) := ⟨i1, i2, hd3⟩
     clear hu hrdu hcell i1 i2 hd3
     obtain ⟨ul, us, ud⟩ := u
     simp only at k4 k5 k6 HLN HD
     obtain ⟨i0, hi, hz0, hz1, hz2⟩ := info_parts Tryz.infoWay
     have HM0 : Hid _ := M
     clear M
     go_wp2_with fail
     refine (zDT ul us ud ad cpw _ HD.out.1 HD.out.2.1 HD.out.2.2 HLN.out).mono ?_
     rintro e w9 ⟨ae, ce, rfl, mm⟩
     have M := HM0.out
     clear HM0 k2 p0 k4 k5 k6
     obtain ⟨rows0, hr0, hrl0⟩ := zIJ M.1
     rw [htj] at hr0
     have hrA : (w9.alloc (.cells #[.int .i64 ul, .int .i64 us, .slice ae ud.length ce] 39)).ownsRow wo.heap.size 39 3 (.slice au j cu) j rows0 := zEg hr0 fun g hg => by
      obtain ⟨cur, hh⟩ := zDg hr0 hg
      have hl := (Array.getElem?_eq_some_iff.1 hh).1
      rw [Below.heap_alloc _ _ _ (Nat.lt_of_lt_of_le hl mm.2.size), mm.2.block _ hl]
     have hbs : wo.heap.size ≤ (w9.alloc (.cells #[.int .i64 ul, .int .i64 us, .slice ae ud.length ce] 39)).heap.size := by have := M.2.size; have := mm.2.size; simp; omega
     have HM : Hid _ := And.intro M (And.intro mm hr0)
     clear M mm hr0 hrl0
     go_wp2_with (at_builtin; refine wpList_append_own _ rfl _ _ 115 rfl wo.heap.size 39 i0 (.agg #[.int .i64 0, .int .i64 0, .slice none 0 0]) 3 40 Tryz.underlying115 hi hz0 hz1 hz2 rfl (by decide) _ _ _ rfl hrA ⟨w9.heap.size, 0, none⟩ 1 1 [.int .i64 ul, .int .i64 us, .slice ae ud.length ce] rfl rfl ?c1 ?c2 ?c3 ?c4 ?c5 ?_)
     case c1 => exact zLM w9 _ _ _ _
     case c2 => intro u hu; simp at hu; rcases hu with rfl | rfl | rfl <;> rfl
     case c3 => unfold maxLen; omega
     case c4 => omega
     case c5 => exact hbs
     intro v' w2 hown' hgrow hnil
     obtain ⟨g', cap', rfl⟩ := zF9 hown'
     obtain ⟨M, mm, hr0⟩ := HM.out
     have NM := app_made (e := 39) (R := zAS) (by decide) M mm (by rw [htj]; exact hr0) (by rw [htj]; exact hown') hgrow
     rw [HT2.out] at NM
     have HNM : Hid _ := NM
     clear M mm hr0 NM hown' hgrow hnil hrA HM hbs
     go_wp2
     go_roundw
     case rel => exact ⟨j + 1, by omega, by go_num, _, _, rfl, HNM.out⟩
     case measure => simp [intOf]; omega
    ·have hjm : j = row.length := by omega
     subst hjm
     rw [List.take_length] at M
     obtain ⟨O, C, R, X, T, B⟩ := HF.out
     have lb := M.2
     obtain ⟨i0, hi, hz0, hz1, hz2⟩ := info_parts Tryz.infoWayS
     obtain ⟨rows0, hr0, hrl0⟩ := zIJ O
     rw [htk] at hr0
     have hr00 := zDr (base' := 0) hr0 (fun _ _ => Nat.zero_le _)
     have hrA : (wr.alloc (.cells #[.slice au row.length cu] 115)).ownsRow 0 115 1 (.slice av k cv) k rows0 := zEg hr00 fun g hg => by
      obtain ⟨cur, hh⟩ := zDg hr0 hg
      have hl := (Array.getElem?_eq_some_iff.1 hh).1
      rw [Below.heap_alloc _ _ _ (Nat.lt_of_lt_of_le hl lb.size), lb.block _ hl]
     obtain ⟨x0, x1⟩ := zBc (zAa lb C)
     have x2 := (Array.getElem?_eq_some_iff.1 (zAa lb C)).1
     have HH : Hid _ := And.intro M (And.intro O (And.intro C (And.intro R (And.intro X (And.intro T (And.intro B hr00))))))
     clear M O C R X T B hr0 hr00 hrl0 HF lb
     go_wp2_with (at_builtin; refine wpList_append_own_at _ rfl _ _ 35 rfl 0 115 i0 (.slice none 0 0) 1 24 Tryz.underlying35 hi hz0 hz1 hz2 rfl (by decide) _ _ _ rfl hrA ⟨wr.heap.size, 0, none⟩ 1 1 [.slice au row.length cu] rfl rfl ?c1 ?c2 ?c3 ?c4 ?c5 ?_)
     case c1 => exact zLN wr _ _
     case c2 => intro u hu; simp at hu; rw [hu]; rfl
     case c3 => unfold maxLen; omega
     case c4 => omega
     case c5 => exact Nat.zero_le _
     intro v' w2 hown' hgrow hnil hblk
     obtain ⟨g', cap', rfl⟩ := zF9 hown'
     obtain ⟨M, O, C, R, X, T, B, hr00⟩ := HH.out
     obtain ⟨NO, NC⟩ := zKV (e := 115) (R := zBl) (by decide) O M (fun rows hr' => by rw [zES hr' (by rw [htk]; exact hr00), htk]; exact hown') hgrow (hblk.imp id fun h => ⟨_, h, by have := M.2.size; omega⟩)
     rw [HT.out] at NO
     have z0 := NC.size
     have nS : ∀ x, x < w1.heap.size + 1 → ¬ Old wo (rng (w1.heap.size + 1) wo.heap.size) x := fun x hx h => by have := h.1.1; omega
     have C2 := (NC.block _ (by omega) (nS w1.heap.size (by omega))).trans C
     have R2 := (NC.block _ (by omega) (nS (w.heap.size + 1) (by omega))).trans R
     have X2 := (NC.block _ (by omega) (nS w.heap.size (by omega))).trans X
     have T2 := zAO T NC (fun x h1 h2 => nS x (by have := h1.2; omega) h2)
     have B2 := NC.below B (fun x h => by have := h.1.1; omega) (by omega)
     have N2 : zBu.own w2 (rng (w1.heap.size + 1) w2.heap.size) [.slice (some ⟨g', 0, none⟩) (k + 1) cap'] (c.1.take (k + 1)) := zBu.own_mono (zBM NO) fun x hx => ⟨by rcases hx.1 with h | h; exact h.1.1; omega, hx.2⟩
     obtain ⟨f0, f1⟩ := zBW C2
     obtain ⟨y0, y1⟩ := zBc C2
     have y2 := (Array.getElem?_eq_some_iff.1 C2).1
     have HK : Hid _ := And.intro N2 (And.intro C2 (And.intro R2 (And.intro X2 (And.intro T2 B2))))
     clear M O C R X T B hr00 hrA HH hown' hgrow hnil hblk NO NC nS N2 C2 R2 X2 T2 B2 x0 x1 x2 k2 p0
     go_wp2
     go_roundw
     case rel =>
      obtain ⟨N2, C2, R2, X2, T2, B2⟩ := HK.out
      refine ⟨k + 1, by omega, by go_num, _, _, ?_, heap_setCell_same _ _ 0 _ _ _ C2, zAP R2 (by omega), zAP X2 (by omega), zAl T2 (fun h => by have := h.2; omega), zAq B2 (by omega), by simp; omega⟩
      have := zAl (g := w1.heap.size) (o := 0) (v := .slice (some ⟨g', 0, none⟩) (k + 1) cap') N2 (fun h => by have := h.1; omega)
      simpa using this
     case measure => simp [intOf]; omega
  ·have hkn : k = c.1.length := by omega
   subst hkn
   rw [List.take_length] at O
   obtain ⟨y0, y1⟩ := zBc C
   obtain ⟨x0, x1⟩ := zBc X
   obtain ⟨f0, f1⟩ := zBW R
   obtain ⟨p0, p1⟩ := zBc R
   have HK : Hid _ := And.intro O (And.intro R (And.intro T B))
   clear O C R X T B
   go_wp2
   obtain ⟨O, R, T, B⟩ := HK.out
   have V1 := put2 (a := .slice av c.1.length cv) (b := .slice bv c.2.length dv) R
   obtain ⟨r0, r1⟩ := zBc V1
   refine bodyPost_ret (v := .agg #[.slice av c.1.length cv, .slice bv c.2.length dv]) (by simp [results, Tryz.results55, go_sem, r0, r1]) rfl ⟨av, cv, bv, dv, rfl, zCd (S1 := rng (w1.heap.size + 1) wo.heap.size) (S2 := rng (w.heap.size + 2) w1.heap.size) ?_ ?_ (zCb (by omega) (by simp)) (zCb (by omega) (by simp; omega)) (zC1 (.inr (by omega))), ?_⟩
   ·exact zAl (zAl O (fun h => by have := h.1; omega)) (fun h => by have := h.1; omega)
   ·exact zAl (zAl T (fun h => by have := h.1; omega)) (fun h => by have := h.1; omega)
   ·exact zAq (zAq B (by omega)) (by omega)
theorem zIu {w : World} {S : zAX} {u : Value} {cs : List (List zAU)} (h : zBu.own w S [u] cs) : ∃ a cap, u = .slice a cs.length cap ∧ zBh zBl w a cs := by
 obtain ⟨a, cap, e, h1, h2, h3⟩ := zBu.own_rd h
 simp only [List.cons.injEq, and_true] at e
 exact ⟨a, cap, e, h3⟩
theorem zDD {w : World} {g : Nat} {bc : Array Value} {bt : TypeId} {u v : Value} (h0 : bc[0]? = some u) (h1 : bc[1]? = some v) (h : w.heap[g]? = some (.cells bc bt (0, 0))) : w.cell? ⟨g, 0, none⟩ = some u ∧ w.cell? ⟨g, 1, none⟩ = some v :=
 ⟨by rw [cell_of_row w g 0 _ bt (0, 0) h]; exact h0, by rw [cell_of_row w g 1 _ bt (0, 0) h]; exact h1⟩
theorem zIv {c : zAu} (h : OkC isL zAJ c) : c.1.length ≤ 4 ∧ c.2.length ≤ 4 ∧ ∀ row ∈ c.1, row.length ≤ 1048576 ∧ ∀ u ∈ row, u.2.2.length ≤ 1048576 := by
 have h' := h
 obtain ⟨h1, h2, m, hm, h3⟩ := h
 unfold zIU at h1 hm
 refine ⟨by omega, by omega, fun row hr => ?_⟩
 obtain ⟨s, hs⟩ := List.getElem?_of_mem hr
 refine ⟨by have := (h3 s row hs).1; omega, fun u hu => ?_⟩
 obtain ⟨j, hj⟩ := List.getElem?_of_mem hu
 have := zMS h' hs hj
 omega
theorem zMV {c : zAu} (h : OkC isL zAJ c) : (c.1.length = 1 ∨ c.1.length = 2 ∨ c.1.length = 4) ∧ ∃ m, (m = 1 ∨ m = 2 ∨ m = 4) ∧ ∀ row ∈ c.1, row.length = m := by
 obtain ⟨h1, h2, m, hm, h3⟩ := h
 refine ⟨h1, m, hm, fun row hr => ?_⟩
 obtain ⟨s, hs⟩ := List.getElem?_of_mem hr
 exact (h3 s row hs).1
theorem madeR_on {α : Type} {R : Rep α} {w w1 w2 : World} {cs : List Value} {u : α} (h : zAY R w w1 cs u) (hb : Below w1.heap.size w1 w2) : zAY R w w2 cs u :=
 ⟨R.own_mono (own_next h.1 hb) (zCb (Nat.le_refl _) hb.size), zAb h.2 hb⟩
open Go.ChangeShapes Go.WideShapes Go.ChangeAt Go.RowKit Go.Shelf
theorem zMW {t n y : Int} (h : zAJ t n = true) (h0 : 0 ≤ y) (h1 : y < n) : zAJ (zCU t n y) n = true := by
 simp only [zAJ, decide_eq_true_eq] at h
 rcases h with ⟨rfl, rfl⟩ | ⟨rfl, a, b⟩ | ⟨rfl, a, b⟩
 ·obtain rfl : y = 0 := by omega
  decide
 ·rcases (by omega : t = 0 ∨ t = 1) with rfl | rfl <;> rcases (by omega : y = 0 ∨ y = 1) with rfl | rfl <;> decide
 ·rcases (by omega : t = 0 ∨ t = 1 ∨ t = 2 ∨ t = 3 ∨ t = 4 ∨ t = 5 ∨ t = 6 ∨ t = 7) with rfl | rfl | rfl | rfl | rfl | rfl | rfl | rfl <;> rcases (by omega : y = 0 ∨ y = 1 ∨ y = 2 ∨ y = 3) with rfl | rfl | rfl | rfl <;> decide
theorem zJp {t n : Int} (h : zAJ t n = true) : zBk t := by
 simp only [zAJ, decide_eq_true_eq] at h
 constructor <;> omega
theorem tu_tou {t n y : Int} (h : zAJ t n = true) (h0 : 0 ≤ y) (h1 : y < n) : tuI t n y = zCU t n y := by
 unfold tuI
 rw [h, if_pos]
 simp [zAQ]
 omega
theorem zIw {w : World} {S : zAX} {v : Value} {xs : List Int} {j : Nat} {x : Int} (h : zA5.own w S [v] xs) (hx : xs[j]? = some x) :
    ∃ g cap, v = .slice (some ⟨g, 0, none⟩) xs.length cap ∧ S g ∧ g < w.heap.size ∧ w.cell? ⟨g, j, none⟩ = some (.int .i64 x) ∧
     ∀ w1 y, Below w.heap.size w w1 → zBk y → w1.cell? ⟨g, j, none⟩ = some (.int .i64 x) ∧ w1.frozen? ⟨g, j, none⟩ = false ∧ zA5.own (w1.setCell ⟨g, j, none⟩ (.int .i64 y)) S [v] (xs.set j y) ∧ Chg (fun k => k = g) w (w1.setCell ⟨g, j, none⟩ (.int .i64 y)) := by
 obtain ⟨g, cap, cur, Sj, T, c, hv, hSg, hg, hc, hcl, ho, s1, s2, hd, n1, n2, back⟩ := zBH h hx
 have e1 : zBC.size = 1 := rfl
 simp only [e1, Nat.mul_one] at hc back
 have hcx : c = [.int .i64 x] := ho.1
 subst hcx
 have hck : cur[j]? = some (.int .i64 x) := by simpa using hc 0 (by decide)
 have kl := (Array.getElem?_eq_some_iff.1 hck).1
 have hgl := (Array.getElem?_eq_some_iff.1 hg).1
 refine ⟨g, cap, hv, hSg, hgl, by rw [cell_of_row w g j _ _ (0, 0) hg]; exact hck, fun w1 y hb hy => ?_⟩
 have hg1 := zAa hb hg
 have hch : Chg (fun k => k = g) w (w1.setCell ⟨g, j, none⟩ (.int .i64 y)) :=
  (zA9 (S := fun k => k = g) hb).trans (zCR (zIf w1 g j _) rfl)
 refine ⟨by rw [cell_of_row w1 g j _ _ (0, 0) hg1]; exact hck, frozen_of_row w1 g j _ _ hg1, ?_, hch⟩
 refine back _ (cur.setIfInBounds j (.int .i64 y)) [.int .i64 y] y (fun _ => False) S (heap_setCell_same w1 g j _ _ _ hg1) (by simp) ?_ ?_ ?_ ⟨rfl, hy⟩ (fun _ hk _ => hk) (fun hk => hk) hSg (fun _ hk => hk.elim) s2
 ·intro i hi
  rw [Array.getElem?_setIfInBounds_ne (by omega)]
 ·intro i hi
  have : i = 0 := by omega
  subst this
  simp [kl]
 ·intro k hk hl
  exact hch.block k hl fun e => n2 (by have e' : k = g := e; rw [← e']; exact hk)
theorem zIx (S : zAX) (b0 o0 n cap : Nat) (v : Value) (ts : List Int) (sn fi m : Nat) (t : Int) (a1 : Option Addr) (c1 : Nat) (w : World) (hn : 0 < n) (hw : w.cell? ⟨b0, o0, none⟩ = some (.slice a1 m c1)) (h : zA5.own w S [v] ts) (ht : ts[sn]? = some t) (hlen : ts.length ≤ maxLen) (htr : zAJ t m = true) (hf : fi < m) :
    Calls Tryz.prog 133 #[.agg #[.slice (some ⟨b0, o0, none⟩) n cap, v], .agg #[.int .i64 (sn : Int), .int .i64 (fi : Int)]] w fun e w' => e = .returned (.tuple #[]) ∧
     zA5.own w' S [v] (ts.set sn (zCU t m fi)) ∧ ∃ g, S g ∧ g < w.heap.size ∧ Chg (fun k => k = g) w w' := by
 have hsl : sn < ts.length := (List.getElem?_eq_some_iff.1 ht).1
 have hsl' : (sn : Int) < (ts.length : Int) := by omega
 obtain ⟨g, cpv, rfl, hSg, hgl, hcell, step⟩ := zIw h ht
 have HT : Hid (∀ W, Calls Tryz.prog 152 #[.int .i64 t, .int .i64 (m : Int), .int .i64 (fi : Int)] W fun e w' => e = .returned (.int .i64 (zCU t m fi)) ∧ w' = W) := fun W => by
  have := zG7 t m fi W
  rwa [tu_tou htr (by omega) (by omega)] at this
 have hy : zBk (zCU t m fi) := zJp (zMW htr (by omega) (by omega))
 generalize zCU t m fi = y at HT hy ⊢
 have ST : Hid _ := step
 clear step h
 have B0 := zAb (zAf w (.cells #[.slice (some ⟨b0, o0, none⟩) n cap, .slice (some ⟨g, 0, none⟩) ts.length cpv] 37)) (zAf _ (.cells #[.int .i64 (sn : Int), .int .i64 (fi : Int)] 126))
 have X0 := zAK (.cells #[.int .i64 (sn : Int), .int .i64 (fi : Int)] 126) (zAy w (.cells #[.slice (some ⟨b0, o0, none⟩) n cap, .slice (some ⟨g, 0, none⟩) ts.length cpv] 37))
 have Y0 := zAy (w.alloc (.cells #[.slice (some ⟨b0, o0, none⟩) n cap, .slice (some ⟨g, 0, none⟩) ts.length cpv] 37)) (.cells #[.int .i64 (sn : Int), .int .i64 (fi : Int)] 126)
 rw [zAp] at Y0
 go_enter Tryz.func133, Tryz.ntmps133
 go_wp2
 generalize (w.alloc (.cells #[.slice (some ⟨b0, o0, none⟩) n cap, .slice (some ⟨g, 0, none⟩) ts.length cpv] 37)).alloc (.cells #[.int .i64 (sn : Int), .int .i64 (fi : Int)] 126) = W0 at B0 X0 Y0 ⊢
 obtain ⟨x0, x1⟩ := zAx X0
 obtain ⟨y0, y1⟩ := zAx Y0
 have q0 := zAd B0 hw (zAi hw)
 have q1 := zAd B0 hcell hgl
 have m0 : ∀ n' : Cls (fun wx => Below W0.heap.size W0 wx), n'.w.cell? ⟨w.heap.size, 0, none⟩ = some (.slice (some ⟨b0, o0, none⟩) n cap) := fun n' => zAd n'.h x0 (zAi x0)
 have m1 : ∀ n' : Cls (fun wx => Below W0.heap.size W0 wx), n'.w.cell? ⟨w.heap.size, 1, none⟩ = some (.slice (some ⟨g, 0, none⟩) ts.length cpv) := fun n' => zAd n'.h x1 (zAi x1)
 have m2 : ∀ n' : Cls (fun wx => Below W0.heap.size W0 wx), n'.w.cell? ⟨w.heap.size + 1, 0, none⟩ = some (.int .i64 (sn : Int)) := fun n' => zAd n'.h y0 (zAi y0)
 have m3 : ∀ n' : Cls (fun wx => Below W0.heap.size W0 wx), n'.w.cell? ⟨w.heap.size + 1, 1, none⟩ = some (.int .i64 (fi : Int)) := fun n' => zAd n'.h y1 (zAi y1)
 have Q0 : Hid (∀ n' : Cls (fun wx => Below W0.heap.size W0 wx), n'.w.cell? ⟨b0, o0, none⟩ = some (.slice a1 m c1)) := fun n' => zAd n'.h q0 (zAi q0)
 have m4 : ∀ n' : Cls (fun wx => Below W0.heap.size W0 wx), n'.w.cell? ⟨g, sn, none⟩ = some (.int .i64 t) := fun n' => zAd n'.h q1 (zAi q1)
 have HB : Hid _ := B0
 clear x0 x1 y0 y1 q0 q1 X0 Y0 B0 hw hcell
 refine zGE (fun wx => Below W0.heap.size W0 wx) (by kernel_rfl) (by kernel_rfl) (by kernel_rfl) (by simp) ((Below.refl _ W0).drew) ?_
 intro hne
 dsimp only [List.dropLast, zFo]
 repeat (quiet_step (first | (go_at_call 112; exact zAz (zGl b0 o0 n cap _ _ _ _ rfl a1 m c1 _ hn (Q0.out _)) (fun w' hc bb => zAb hc bb)) | (go_at_call 152; exact zAT (HT.out _))))
 refine wpQuiet_nil ?_
 intro wx b2
 clear m0 m1 m2 m3 m4 hne
 obtain ⟨r0, r1, r2, r3⟩ := ST.out wx y (zAb HB.out b2) hy
 have HR : Hid _ := And.intro r2 r3
 clear r2 r3
 unfold Oper.wp
 go_simp
 refine bodyPost_end (v := .tuple #[]) (by simp [results, Tryz.results133, go_sem]) rfl ⟨rfl, HR.out.1, g, hSg, hgl, HR.out.2⟩
abbrev zB5 := Int × Int × Int × Int × Int × List Int × Int
abbrev zBy : Rep zB5 := zBP zBC (zBP zBC (zBP zBC (zBP zBC (zBP zBC (zBP zA5 zBC)))))
abbrev zCD : Mk zB5 := zDH zBx (zDH zBx (zDH zBx (zDH zBx (zDH zBx (zDH zBn zBx)))))
abbrev zBp : Rep (List zB5) := slR 46 zBy
abbrev zHt : Mk (List zB5) := slM zCD
theorem opens_msg : zEb Tryz.prog 32 zBy :=
 zCS Tryz.underlying32 (by kernel_rfl) (zBq rfl (by kernel_rfl) zBL (zBq rfl (by kernel_rfl) zBL (zBq rfl (by kernel_rfl) zBL (zBq rfl (by kernel_rfl) zBL (zBq rfl (by kernel_rfl) zBL (zBq rfl (by kernel_rfl) zE2 (zD5 rfl (by kernel_rfl) zBL)))))))
theorem zBB {w : World} {cs : List Value} {u : zB5} (h : zBy.rd w cs u) :
    ∃ a cap, cs = [.int .i64 u.1, .int .i64 u.2.1, .int .i64 u.2.2.1, .int .i64 u.2.2.2.1, .int .i64 u.2.2.2.2.1, .slice a u.2.2.2.2.2.1.length cap, .int .i64 u.2.2.2.2.2.2] ∧ zBk u.1 ∧ zBk u.2.1 ∧ zBk u.2.2.1 ∧ zBk u.2.2.2.1 ∧ zBk u.2.2.2.2.1 ∧ zBk u.2.2.2.2.2.2 ∧ u.2.2.2.2.2.1.length ≤ cap ∧ cap ≤ maxLen ∧ zBh zBC w a u.2.2.2.2.2.1 := by
 obtain ⟨c0, e0, rfl, ⟨rfl, i0⟩, c1, e1, rfl, ⟨rfl, i1⟩, c2, e2, rfl, ⟨rfl, i2⟩, c3, e3, rfl, ⟨rfl, i3⟩, c4, e4, rfl, ⟨rfl, i4⟩, c5, e5, rfl, ⟨a, cap, rfl, h1, h2, h3⟩, ⟨rfl, i6⟩⟩ := h
 exact ⟨a, cap, rfl, i0, i1, i2, i3, i4, i6, h1, h2, h3⟩
theorem zKu {w : World} {S : zAX} {cs : List Value} {u : zB5} (h : zBy.own w S cs u) :
    ∃ v, cs = [.int .i64 u.1, .int .i64 u.2.1, .int .i64 u.2.2.1, .int .i64 u.2.2.2.1, .int .i64 u.2.2.2.2.1, v, .int .i64 u.2.2.2.2.2.2] ∧ zBk u.1 ∧ zBk u.2.1 ∧ zBk u.2.2.1 ∧ zBk u.2.2.2.1 ∧ zBk u.2.2.2.2.1 ∧ zBk u.2.2.2.2.2.2 ∧ zA5.own w S [v] u.2.2.2.2.2.1 := by
 obtain ⟨c0, e0, S0, T0, rfl, ⟨rfl, i0⟩, ⟨c1, e1, S1, T1, rfl, ⟨rfl, i1⟩, ⟨c2, e2, S2, T2, rfl, ⟨rfl, i2⟩, ⟨c3, e3, S3, T3, rfl, ⟨rfl, i3⟩, ⟨c4, e4, S4, T4, rfl, ⟨rfl, i4⟩, ⟨c5, e5, S5, T5, rfl, h9, ⟨rfl, i6⟩, p5, q5, d5⟩, p4, q4, d4⟩, p3, q3, d3⟩, p2, q2, d2⟩, p1, q1, d1⟩, p0, q0, d0⟩ := h
 have hl := zA5.rd_len (zA5.own_rd h9)
 obtain ⟨v, rfl⟩ : ∃ v, c5 = [v] := List.length_eq_one_iff.1 hl
 exact ⟨v, rfl, i0, i1, i2, i3, i4, i6, zA5.own_mono h9 ((((((p5).trans q4).trans q3).trans q2).trans q1).trans q0)⟩
theorem zBR {w : World} {S : zAX} {f0 f1 f2 f3 f4 f6 : Int} {d : List Int} {v : Value} (i0 : zBk f0) (i1 : zBk f1) (i2 : zBk f2) (i3 : zBk f3) (i4 : zBk f4) (i6 : zBk f6) (h : zA5.own w S [v] d) : zBy.own w S [.int .i64 f0, .int .i64 f1, .int .i64 f2, .int .i64 f3, .int .i64 f4, v, .int .i64 f6] (f0, f1, f2, f3, f4, d, f6) :=
 ⟨[_], [_, _, _, _, _, _], fun _ => False, S, rfl, ⟨rfl, i0⟩, ⟨[_], [_, _, _, _, _], fun _ => False, S, rfl, ⟨rfl, i1⟩, ⟨[_], [_, _, _, _], fun _ => False, S, rfl, ⟨rfl, i2⟩, ⟨[_], [_, _, _], fun _ => False, S, rfl, ⟨rfl, i3⟩, ⟨[_], [_, _], fun _ => False, S, rfl, ⟨rfl, i4⟩, ⟨[_], [_], S, fun _ => False, rfl, h, ⟨rfl, i6⟩, Sub.refl _, fun _ h => h.elim, fun _ _ h => h⟩, fun _ h => h.elim, Sub.refl _, fun _ h _ => h⟩, fun _ h => h.elim, Sub.refl _, fun _ h _ => h⟩, fun _ h => h.elim, Sub.refl _, fun _ h _ => h⟩, fun _ h => h.elim, Sub.refl _, fun _ h _ => h⟩, fun _ h => h.elim, Sub.refl _, fun _ h _ => h⟩
theorem zGK (u : zB5) : zCD.bk u = zBn.bk u.2.2.2.2.2.1 := by
 show 0 + (0 + (0 + (0 + (0 + (zBn.bk u.2.2.2.2.2.1 + 0))))) = _
 omega
theorem zAe {w : World} {g : Nat} {x0 x1 x2 x3 x4 x5 x6 : Value} {t : TypeId} (h : w.heap[g]? = some (.cells #[x0, x1, x2, x3, x4, x5, x6] t (0, 0))) :
    w.cell? ⟨g, 0, none⟩ = some x0 ∧ w.cell? ⟨g, 1, none⟩ = some x1 ∧ w.cell? ⟨g, 2, none⟩ = some x2 ∧ w.cell? ⟨g, 3, none⟩ = some x3 ∧ w.cell? ⟨g, 4, none⟩ = some x4 ∧ w.cell? ⟨g, 5, none⟩ = some x5 ∧ w.cell? ⟨g, 6, none⟩ = some x6 :=
 ⟨by rw [cell_of_row w g 0 _ t (0, 0) h]; rfl, by rw [cell_of_row w g 1 _ t (0, 0) h]; rfl, by rw [cell_of_row w g 2 _ t (0, 0) h]; rfl, by rw [cell_of_row w g 3 _ t (0, 0) h]; rfl, by rw [cell_of_row w g 4 _ t (0, 0) h]; rfl, by rw [cell_of_row w g 5 _ t (0, 0) h]; rfl, by rw [cell_of_row w g 6 _ t (0, 0) h]; rfl⟩
theorem zB8 {w : World} {g : Nat} {cs : Array Value} {t : TypeId} (h : w.heap[g]? = some (.cells cs t (0, 0))) : w.frozen? ⟨g, 0, none⟩ = false ∧ w.frozen? ⟨g, 1, none⟩ = false ∧ w.frozen? ⟨g, 2, none⟩ = false ∧ w.frozen? ⟨g, 3, none⟩ = false ∧ w.frozen? ⟨g, 4, none⟩ = false ∧ w.frozen? ⟨g, 5, none⟩ = false ∧ w.frozen? ⟨g, 6, none⟩ = false :=
 ⟨frozen_of_row w g 0 _ t h, frozen_of_row w g 1 _ t h, frozen_of_row w g 2 _ t h, frozen_of_row w g 3 _ t h, frozen_of_row w g 4 _ t h, frozen_of_row w g 5 _ t h, frozen_of_row w g 6 _ t h⟩
theorem zGL {w : World} {g : Nat} {x0 y0 x1 y1 x2 y2 x3 y3 x4 y4 x5 y5 x6 y6 : Value} {t : TypeId} (h : w.heap[g]? = some (.cells #[x0, x1, x2, x3, x4, x5, x6] t (0, 0))) :
    (((((((w.setCell ⟨g, 0, none⟩ y0).setCell ⟨g, 1, none⟩ y1).setCell ⟨g, 2, none⟩ y2).setCell ⟨g, 3, none⟩ y3).setCell ⟨g, 4, none⟩ y4).setCell ⟨g, 5, none⟩ y5).setCell ⟨g, 6, none⟩ y6).heap[g]? = some (.cells #[y0, y1, y2, y3, y4, y5, y6] t (0, 0)) := by
 have h0 : (w.setCell ⟨g, 0, none⟩ y0).heap[g]? = some (.cells #[y0, x1, x2, x3, x4, x5, x6] t (0, 0)) := heap_setCell_same _ g 0 _ t y0 h
 have h1 : ((w.setCell ⟨g, 0, none⟩ y0).setCell ⟨g, 1, none⟩ y1).heap[g]? = some (.cells #[y0, y1, x2, x3, x4, x5, x6] t (0, 0)) := heap_setCell_same _ g 1 _ t y1 h0
 have h2 : (((w.setCell ⟨g, 0, none⟩ y0).setCell ⟨g, 1, none⟩ y1).setCell ⟨g, 2, none⟩ y2).heap[g]? = some (.cells #[y0, y1, y2, x3, x4, x5, x6] t (0, 0)) := heap_setCell_same _ g 2 _ t y2 h1
 have h3 : ((((w.setCell ⟨g, 0, none⟩ y0).setCell ⟨g, 1, none⟩ y1).setCell ⟨g, 2, none⟩ y2).setCell ⟨g, 3, none⟩ y3).heap[g]? = some (.cells #[y0, y1, y2, y3, x4, x5, x6] t (0, 0)) := heap_setCell_same _ g 3 _ t y3 h2
 have h4 : (((((w.setCell ⟨g, 0, none⟩ y0).setCell ⟨g, 1, none⟩ y1).setCell ⟨g, 2, none⟩ y2).setCell ⟨g, 3, none⟩ y3).setCell ⟨g, 4, none⟩ y4).heap[g]? = some (.cells #[y0, y1, y2, y3, y4, x5, x6] t (0, 0)) := heap_setCell_same _ g 4 _ t y4 h3
 have h5 : ((((((w.setCell ⟨g, 0, none⟩ y0).setCell ⟨g, 1, none⟩ y1).setCell ⟨g, 2, none⟩ y2).setCell ⟨g, 3, none⟩ y3).setCell ⟨g, 4, none⟩ y4).setCell ⟨g, 5, none⟩ y5).heap[g]? = some (.cells #[y0, y1, y2, y3, y4, y5, x6] t (0, 0)) := heap_setCell_same _ g 5 _ t y5 h4
 have h6 : (((((((w.setCell ⟨g, 0, none⟩ y0).setCell ⟨g, 1, none⟩ y1).setCell ⟨g, 2, none⟩ y2).setCell ⟨g, 3, none⟩ y3).setCell ⟨g, 4, none⟩ y4).setCell ⟨g, 5, none⟩ y5).setCell ⟨g, 6, none⟩ y6).heap[g]? = some (.cells #[y0, y1, y2, y3, y4, y5, y6] t (0, 0)) := heap_setCell_same _ g 6 _ t y6 h5
 exact h6
theorem zMX (f0 f1 f2 f3 f4 f6 : Int) (d : List Int) (a : Option Addr) (cap : Nat) (left : Int) (w : World) (h0 : 0 ≤ left) (h1 : left ≤ 1048576) (hm : d.length ≤ maxLen) :
    Calls Tryz.prog 5 #[.agg #[.int .i64 f0, .int .i64 f1, .int .i64 f2, .int .i64 f3, .int .i64 f4, .slice a d.length cap, .int .i64 f6], .int .i64 left] w fun e w' => e = .returned (.int .i64 (szI (zCD.bk (f0, f1, f2, f3, f4, d, f6)) left)) ∧ Below w.heap.size w w' := by
 rw [zGK]
 show Calls Tryz.prog 5 _ w fun e w' => e = .returned (.int .i64 (szI (zBn.bk d) left)) ∧ Below w.heap.size w w'
 by_cases hl : (zBn.bk d : Int) ≤ left
 ·have HS : Hid (szI (zBn.bk d) left = _) := zC2 hl
  have hl' : ¬ (left - (zBn.bk d : Int) < 0) := by omega
  go_enter Tryz.func5, Tryz.ntmps5
  go_wp2_with (go_at_call 21; refine (zCC _ d _ _ _ h0 h1 hm).mono ?_; rintro e w' ⟨rfl, rfl⟩; rw [HS.out])
  go_ret
  exact ⟨zAW HS.out.symm, zAf w _⟩
 ·have HS : Hid (szI (zBn.bk d) left = _) := zCz hl
  go_enter Tryz.func5, Tryz.ntmps5
  go_wp2_with (go_at_call 21; refine (zCC _ d _ _ _ h0 h1 hm).mono ?_; rintro e w' ⟨rfl, rfl⟩; rw [HS.out])
  go_ret
  exact ⟨zAW HS.out.symm, zAf w _⟩
theorem zMY (f0 f1 f2 f3 f4 f6 : Int) (d : List Int) (a : Option Addr) (cap : Nat) (w : World) (i0 : zBk f0) (i1 : zBk f1) (i2 : zBk f2) (i3 : zBk f3) (i4 : zBk f4) (i6 : zBk f6) (h : zBh zBC w a d) (hm : zBn.bk d ≤ 1048576) :
    Calls Tryz.prog 8 #[.agg #[.int .i64 f0, .int .i64 f1, .int .i64 f2, .int .i64 f3, .int .i64 f4, .slice a d.length cap, .int .i64 f6]] w fun e w' => ∃ av cv, e = .returned (.agg #[.int .i64 f0, .int .i64 f1, .int .i64 f2, .int .i64 f3, .int .i64 f4, .slice av d.length cv, .int .i64 f6]) ∧ zAY zBy w w' [.int .i64 f0, .int .i64 f1, .int .i64 f2, .int .i64 f3, .int .i64 f4, .slice av d.length cv, .int .i64 f6] (f0, f1, f2, f3, f4, d, f6) := by
 have H : Hid (∀ W, Below w.heap.size w W → zBh zBC W a d) := fun W hb => zA7 h fun k hk => hb.block k hk
 clear h
 go_enter Tryz.func8, Tryz.ntmps8
 go_wp2_with fail
 have B0 : Below w.heap.size w (((w.alloc (.cells #[.int .i64 f0, .int .i64 f1, .int .i64 f2, .int .i64 f3, .int .i64 f4, .slice a d.length cap, .int .i64 f6] 32)).alloc (.cells #[.int .i64 0, .int .i64 0, .int .i64 0, .int .i64 0, .int .i64 0, .slice none 0 0, .int .i64 0] 46)).alloc (.cells #[.int .i64 f0, .int .i64 f1, .int .i64 f2, .int .i64 f3, .int .i64 f4, .slice none 0 0, .int .i64 0] 46)) := (((Below.refl _ w).alloc (Nat.le_refl _) _).alloc (by simp) _).alloc (by simp; omega) _
 have X1 := zAK (.cells #[.int .i64 f0, .int .i64 f1, .int .i64 f2, .int .i64 f3, .int .i64 f4, .slice none 0 0, .int .i64 0] 46) (zAy (w.alloc (.cells #[.int .i64 f0, .int .i64 f1, .int .i64 f2, .int .i64 f3, .int .i64 f4, .slice a d.length cap, .int .i64 f6] 32)) (.cells #[.int .i64 0, .int .i64 0, .int .i64 0, .int .i64 0, .int .i64 0, .slice none 0 0, .int .i64 0] 46))
 have X2 := zAy ((w.alloc (.cells #[.int .i64 f0, .int .i64 f1, .int .i64 f2, .int .i64 f3, .int .i64 f4, .slice a d.length cap, .int .i64 f6] 32)).alloc (.cells #[.int .i64 0, .int .i64 0, .int .i64 0, .int .i64 0, .int .i64 0, .slice none 0 0, .int .i64 0] 46)) (.cells #[.int .i64 f0, .int .i64 f1, .int .i64 f2, .int .i64 f3, .int .i64 f4, .slice none 0 0, .int .i64 0] 46)
 have e3 : (((w.alloc (.cells #[.int .i64 f0, .int .i64 f1, .int .i64 f2, .int .i64 f3, .int .i64 f4, .slice a d.length cap, .int .i64 f6] 32)).alloc (.cells #[.int .i64 0, .int .i64 0, .int .i64 0, .int .i64 0, .int .i64 0, .slice none 0 0, .int .i64 0] 46)).alloc (.cells #[.int .i64 f0, .int .i64 f1, .int .i64 f2, .int .i64 f3, .int .i64 f4, .slice none 0 0, .int .i64 0] 46)).heap.size = w.heap.size + 1 + 1 + 1 := by simp
 have X0 := zAK (.cells #[.int .i64 f0, .int .i64 f1, .int .i64 f2, .int .i64 f3, .int .i64 f4, .slice none 0 0, .int .i64 0] 46) (zAK (.cells #[.int .i64 0, .int .i64 0, .int .i64 0, .int .i64 0, .int .i64 0, .slice none 0 0, .int .i64 0] 46) (zAy w (.cells #[.int .i64 f0, .int .i64 f1, .int .i64 f2, .int .i64 f3, .int .i64 f4, .slice a d.length cap, .int .i64 f6] 32)))
 rw [zAp] at X1
 rw [zAp, zAp] at X2
 generalize ((w.alloc (.cells #[.int .i64 f0, .int .i64 f1, .int .i64 f2, .int .i64 f3, .int .i64 f4, .slice a d.length cap, .int .i64 f6] 32)).alloc (.cells #[.int .i64 0, .int .i64 0, .int .i64 0, .int .i64 0, .int .i64 0, .slice none 0 0, .int .i64 0] 46)).alloc (.cells #[.int .i64 f0, .int .i64 f1, .int .i64 f2, .int .i64 f3, .int .i64 f4, .slice none 0 0, .int .i64 0] 46) = W0 at B0 X0 X1 X2 e3 ⊢
 refine (zDt _ d _ _ (H.out _ B0) hm).mono ?_
 rintro e w1 ⟨v, rfl, mm⟩
 obtain ⟨av, cv, rfl⟩ := zBD mm.1
 have hm2 := mm.2
 have hown := mm.1
 have B1 := zAb B0 hm2
 replace X0 := zAa hm2 X0
 replace X1 := zAa hm2 X1
 replace X2 := zAa hm2 X2
 obtain ⟨q0, q1, q2, q3, q4, q5, q6⟩ := zAe X0
 obtain ⟨y0, y1, y2, y3, y4, y5, y6⟩ := zAe X2
 obtain ⟨f0y, f1y, f2y, f3y, f4y, f5y, f6y⟩ := zB8 X2
 obtain ⟨z0, z1, z2, z3, z4, z5, z6⟩ := zAe X1
 obtain ⟨g0, g1, g2, g3, g4, g5, g6⟩ := zB8 X1
 have HX : Hid _ := And.intro X1 X2
 have HO : Hid _ := hown
 clear X0 X1 X2 hown mm H
 go_wp2
 obtain ⟨X1, X2⟩ := HX.out
 have Y1 := zGL (y0 := .int .i64 f0) (y1 := .int .i64 f1) (y2 := .int .i64 f2) (y3 := .int .i64 f3) (y4 := .int .i64 f4) (y5 := .slice av d.length cv) (y6 := .int .i64 f6) (zAP (g := w.heap.size + 1 + 1) (o := 6) (v := .int .i64 f6) (zAP (g := w.heap.size + 1 + 1) (o := 5) (v := .slice av d.length cv) X1 (by omega)) (by omega))
 obtain ⟨r0, r1, r2, r3, r4, r5, r6⟩ := zAe Y1
 refine bodyPost_ret (v := .agg #[.int .i64 f0, .int .i64 f1, .int .i64 f2, .int .i64 f3, .int .i64 f4, .slice av d.length cv, .int .i64 f6]) (by simp [results, Tryz.results8, go_sem, r0, r1, r2, r3, r4, r5, r6]) rfl ⟨av, cv, rfl, zBR i0 i1 i2 i3 i4 i6 ?_, ?_⟩
 ·refine zA5.own_mono (zAl (zAl (zAl (zAl (zAl (zAl (zAl (zAl (zAl (HO.out) (fun h => by have := h.1; omega)) (fun h => by have := h.1; omega)) (fun h => by have := h.1; omega)) (fun h => by have := h.1; omega)) (fun h => by have := h.1; omega)) (fun h => by have := h.1; omega)) (fun h => by have := h.1; omega)) (fun h => by have := h.1; omega)) (fun h => by have := h.1; omega)) ?_
  exact zCb (by omega) (by simp)
 ·exact zAq (zAq (zAq (zAq (zAq (zAq (zAq (zAq (zAq (B1) (by omega)) (by omega)) (by omega)) (by omega)) (by omega)) (by omega)) (by omega)) (by omega)) (by omega)
theorem zJq (f0 f1 f2 f3 f4 f6 : Int) (d : List Int) (a1 a2 : Option Addr) (c1 c2 : Nat) (w : World) (h1 : zBh zBC w a1 d) (h2 : zBh zBC w a2 d) (hm : zBn.bk d ≤ 1152921504606846976) :
    Calls Tryz.prog 12 #[.agg #[.int .i64 f0, .int .i64 f1, .int .i64 f2, .int .i64 f3, .int .i64 f4, .slice a1 d.length c1, .int .i64 f6], .agg #[.int .i64 f0, .int .i64 f1, .int .i64 f2, .int .i64 f3, .int .i64 f4, .slice a2 d.length c2, .int .i64 f6]] w fun e w' => e = .returned (.bool true) ∧ Below w.heap.size w w' := by
 have HB : Hid (∀ o o', Below w.heap.size w ((w.alloc o).alloc o')) := fun o o' => zAb (zAf w o) (zAf _ o')
 have H1 : Hid (∀ W, Below w.heap.size w W → zBh zBC W a1 d) := fun W hb => zA7 h1 fun k hk => hb.block k hk
 have H2 : Hid (∀ W, Below w.heap.size w W → zBh zBC W a2 d) := fun W hb => zA7 h2 fun k hk => hb.block k hk
 clear h1 h2
 go_enter Tryz.func12, Tryz.ntmps12
 go_wp2_with fail
 refine (zDu a1 a2 d c1 c2 _ (H1.out _ (HB.out _ _)) (H2.out _ (HB.out _ _)) hm).mono ?_
 rintro e w' ⟨rfl, n, rfl⟩
 go_wp2
 go_ret
 exact ⟨rfl, zBt (HB.out _ _) n⟩
theorem zLV (a1 a2 : Option Addr) (xs : List zB5) (c1 c2 : Nat) (w : World) (h1 : zBh zBy w a1 xs) (h2 : zBh zBy w a2 xs) (hm : (slM zCD).bk xs ≤ 1152921504606846976) :
    Calls Tryz.prog 11 #[.slice a1 xs.length c1, .slice a2 xs.length c2] w fun e w' => e = .returned (.bool true) ∧ Below w.heap.size w w' := by
 have hbk : (slM zCD).bk xs = xs.length + zBz zCD xs := rfl
 have hln : xs.length ≤ 1152921504606846976 := by omega
 have HB : Hid (zBz zCD xs ≤ 1152921504606846976) := by unfold Hid; omega
 have H1 : Hid (∀ W, Below w.heap.size w W → zBh zBy W a1 xs) := fun W hb => zA7 h1 fun k hk => hb.block k hk
 have H2 : Hid (∀ W, Below w.heap.size w W → zBh zBy W a2 xs) := fun W hb => zA7 h2 fun k hk => hb.block k hk
 clear hbk hm h1 h2
 go_enter Tryz.func11, Tryz.ntmps11
 go_wp2
 go_loopw [5] (fun i wr => ∃ k : Nat, k ≤ xs.length ∧ i = .int .i64 k ∧ Below w.heap.size w wr) (fun i _ => xs.length - (intOf i).toNat)
 case atStart => exact ⟨0, Nat.zero_le _, rfl, Below.refl _ _⟩
 case round =>
  obtain ⟨k, hk, rfl, BB⟩ := hrel
  by_cases hlt : k < xs.length
  ·have hlt' : (k : Int) < (xs.length : Int) := by omega
   obtain ⟨x, hx⟩ : ∃ x, xs[k]? = some x := ⟨_, List.getElem?_eq_getElem hlt⟩
   have HX : Hid ((zCD).bk x ≤ 1152921504606846976) := by unfold Hid; have := zFi zCD xs hx; have := HB.out; omega
   obtain ⟨b1, off1, cs1, rfl, hrd1, hcell1⟩ := zBG (H1.out _ BB) hx
   obtain ⟨ad1, cpw1, rfl, -, -, -, -, -, -, -, -, hd1⟩ := zBB hrd1
   have x10 := hcell1 0 _ rfl
   have x11 := hcell1 1 _ rfl
   have x12 := hcell1 2 _ rfl
   have x13 := hcell1 3 _ rfl
   have x14 := hcell1 4 _ rfl
   have x15 := hcell1 5 _ rfl
   have x16 := hcell1 6 _ rfl
   rw [show off1 + (k * zBy.size + 0) = off1 + k * 7 from rfl] at x10
   rw [show off1 + (k * zBy.size + 1) = off1 + k * 7 + 1 from rfl] at x11
   rw [show off1 + (k * zBy.size + 2) = off1 + k * 7 + 2 from rfl] at x12
   rw [show off1 + (k * zBy.size + 3) = off1 + k * 7 + 3 from rfl] at x13
   rw [show off1 + (k * zBy.size + 4) = off1 + k * 7 + 4 from rfl] at x14
   rw [show off1 + (k * zBy.size + 5) = off1 + k * 7 + 5 from rfl] at x15
   rw [show off1 + (k * zBy.size + 6) = off1 + k * 7 + 6 from rfl] at x16
   have HR1 : Hid (∀ n : Cls (fun wx => Below wr.heap.size wr wx), zBh zBC n.w ad1 x.2.2.2.2.2.1) := fun n => zAG hd1 n.h
   clear hcell1 hrd1 hd1
   obtain ⟨b2, off2, cs2, rfl, hrd2, hcell2⟩ := zBG (H2.out _ BB) hx
   obtain ⟨ad2, cpw2, rfl, -, -, -, -, -, -, -, -, hd2⟩ := zBB hrd2
   have x20 := hcell2 0 _ rfl
   have x21 := hcell2 1 _ rfl
   have x22 := hcell2 2 _ rfl
   have x23 := hcell2 3 _ rfl
   have x24 := hcell2 4 _ rfl
   have x25 := hcell2 5 _ rfl
   have x26 := hcell2 6 _ rfl
   rw [show off2 + (k * zBy.size + 0) = off2 + k * 7 from rfl] at x20
   rw [show off2 + (k * zBy.size + 1) = off2 + k * 7 + 1 from rfl] at x21
   rw [show off2 + (k * zBy.size + 2) = off2 + k * 7 + 2 from rfl] at x22
   rw [show off2 + (k * zBy.size + 3) = off2 + k * 7 + 3 from rfl] at x23
   rw [show off2 + (k * zBy.size + 4) = off2 + k * 7 + 4 from rfl] at x24
   rw [show off2 + (k * zBy.size + 5) = off2 + k * 7 + 5 from rfl] at x25
   rw [show off2 + (k * zBy.size + 6) = off2 + k * 7 + 6 from rfl] at x26
   have HR2 : Hid (∀ n : Cls (fun wx => Below wr.heap.size wr wx), zBh zBC n.w ad2 x.2.2.2.2.2.1) := fun n => zAG hd2 n.h
   clear hcell2 hrd2 hd2
   have x10c : ∀ n : Cls (fun wx => Below wr.heap.size wr wx), n.w.cell? ⟨b1, off1 + k * 7, none⟩ = some (.int .i64 x.1) := fun n => zAd n.h x10 (zAi x10)
   have x11c : ∀ n : Cls (fun wx => Below wr.heap.size wr wx), n.w.cell? ⟨b1, off1 + k * 7 + 1, none⟩ = some (.int .i64 x.2.1) := fun n => zAd n.h x11 (zAi x11)
   have x12c : ∀ n : Cls (fun wx => Below wr.heap.size wr wx), n.w.cell? ⟨b1, off1 + k * 7 + 2, none⟩ = some (.int .i64 x.2.2.1) := fun n => zAd n.h x12 (zAi x12)
   have x13c : ∀ n : Cls (fun wx => Below wr.heap.size wr wx), n.w.cell? ⟨b1, off1 + k * 7 + 3, none⟩ = some (.int .i64 x.2.2.2.1) := fun n => zAd n.h x13 (zAi x13)
   have x14c : ∀ n : Cls (fun wx => Below wr.heap.size wr wx), n.w.cell? ⟨b1, off1 + k * 7 + 4, none⟩ = some (.int .i64 x.2.2.2.2.1) := fun n => zAd n.h x14 (zAi x14)
   have x15c : ∀ n : Cls (fun wx => Below wr.heap.size wr wx), n.w.cell? ⟨b1, off1 + k * 7 + 5, none⟩ = some (.slice ad1 x.2.2.2.2.2.1.length cpw1) := fun n => zAd n.h x15 (zAi x15)
   have x16c : ∀ n : Cls (fun wx => Below wr.heap.size wr wx), n.w.cell? ⟨b1, off1 + k * 7 + 6, none⟩ = some (.int .i64 x.2.2.2.2.2.2) := fun n => zAd n.h x16 (zAi x16)
   have x20c : ∀ n : Cls (fun wx => Below wr.heap.size wr wx), n.w.cell? ⟨b2, off2 + k * 7, none⟩ = some (.int .i64 x.1) := fun n => zAd n.h x20 (zAi x20)
   have x21c : ∀ n : Cls (fun wx => Below wr.heap.size wr wx), n.w.cell? ⟨b2, off2 + k * 7 + 1, none⟩ = some (.int .i64 x.2.1) := fun n => zAd n.h x21 (zAi x21)
   have x22c : ∀ n : Cls (fun wx => Below wr.heap.size wr wx), n.w.cell? ⟨b2, off2 + k * 7 + 2, none⟩ = some (.int .i64 x.2.2.1) := fun n => zAd n.h x22 (zAi x22)
   have x23c : ∀ n : Cls (fun wx => Below wr.heap.size wr wx), n.w.cell? ⟨b2, off2 + k * 7 + 3, none⟩ = some (.int .i64 x.2.2.2.1) := fun n => zAd n.h x23 (zAi x23)
   have x24c : ∀ n : Cls (fun wx => Below wr.heap.size wr wx), n.w.cell? ⟨b2, off2 + k * 7 + 4, none⟩ = some (.int .i64 x.2.2.2.2.1) := fun n => zAd n.h x24 (zAi x24)
   have x25c : ∀ n : Cls (fun wx => Below wr.heap.size wr wx), n.w.cell? ⟨b2, off2 + k * 7 + 5, none⟩ = some (.slice ad2 x.2.2.2.2.2.1.length cpw2) := fun n => zAd n.h x25 (zAi x25)
   have x26c : ∀ n : Cls (fun wx => Below wr.heap.size wr wx), n.w.cell? ⟨b2, off2 + k * 7 + 6, none⟩ = some (.int .i64 x.2.2.2.2.2.2) := fun n => zAd n.h x26 (zAi x26)
   clear hx x10 x11 x12 x13 x14 x15 x16 x20 x21 x22 x23 x24 x25 x26
   go_wp2_with fail
   refine zA8 (fun wx => Below wr.heap.size wr wx) (by kernel_rfl) (by kernel_rfl) ((Below.refl _ wr).drew) ?_
   intro hne
   repeat (quiet_step ((go_at_call 12; exact zAz (zJq x.1 x.2.1 x.2.2.1 x.2.2.2.1 x.2.2.2.2.1 x.2.2.2.2.2.2 x.2.2.2.2.2.1 _ _ _ _ _ (HR1.out _) (HR2.out _) (by have := HX.out; rw [zGK] at this; exact this)) (fun w' hc bb => zAb hc bb))))
   refine wpQuiet_nil ?_
   intro wx b2
   replace BB := zAb BB b2
   clear b2 hne x10c x11c x12c x13c x14c x15c x16c x20c x21c x22c x23c x24c x25c x26c
   go_wp2
   go_roundw
   case rel => exact ⟨k + 1, by omega, by go_num, BB⟩
   case measure => simp [intOf]; omega
  ·go_wp2
   go_ret
   exact ⟨rfl, BB⟩
end Go.Proofs.YtoihjejenjcokaaGreatDoor
