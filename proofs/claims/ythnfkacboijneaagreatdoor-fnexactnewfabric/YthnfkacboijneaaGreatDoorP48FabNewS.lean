import Derived.Test.YthnfkacboijneaaGreatDoorP45FabNewI
import Derived.Test.YthnfkacboijneaaGreatDoorP47NewCoreS
import Derived.Deep.RegionHeld3
namespace Go.Proofs.YthnfkacboijneaaGreatDoor
open Go.ChangeShapes Go.WideShapes Go.ChangeAt Go.RowKit
set_option linter.unusedVariables false
set_option linter.unusedSimpArgs false
def CoreBP (V : World) (x : CoreD) (q : Value) (wx : World) : Prop := ∃ vb lo hi gau gcu gbu gdu hau hcu iau icu jau jcu, q = .pointer (some ⟨vb, 0, none⟩) ∧ V.heap.size ≤ vb ∧ V.heap.size ≤ lo ∧ lo ≤ hi ∧ (vb < lo ∨ hi ≤ vb) ∧ vb < wx.heap.size ∧
 wx.heap[vb]? = some (.cells #[.slice gau x.1.1.length gcu, .slice gbu x.1.2.length gdu, .slice hau x.2.1.length hcu, .int .i64 x.2.2.1, .int .i64 x.2.2.2.1, .int .i64 x.2.2.2.2.1.1, .int .i64 x.2.2.2.2.1.2.1, .slice iau x.2.2.2.2.1.2.2.length icu, .slice jau x.2.2.2.2.2.length jcu] 86 (0, 0)) ∧ Owned coreR lo hi wx [.slice gau x.1.1.length gcu, .slice gbu x.1.2.length gdu, .slice hau x.2.1.length hcu, .int .i64 x.2.2.1, .int .i64 x.2.2.2.1, .int .i64 x.2.2.2.2.1.1, .int .i64 x.2.2.2.2.1.2.1, .slice iau x.2.2.2.2.1.2.2.length icu, .slice jau x.2.2.2.2.2.length jcu] x ∧ Below V.heap.size V wx
theorem coreEndA {V cur wf : World} {gau gbu hau iau jau : Option Addr} {gcu gdu hcu icu jcu : Nat} {x : CoreD} (mm : MadeR coreR cur wf [.slice gau x.1.1.length gcu, .slice gbu x.1.2.length gdu, .slice hau x.2.1.length hcu, .int .i64 x.2.2.1, .int .i64 x.2.2.2.1, .int .i64 x.2.2.2.2.1.1, .int .i64 x.2.2.2.2.1.2.1, .slice iau x.2.2.2.2.1.2.2.length icu, .slice jau x.2.2.2.2.2.length jcu] x) (hc : V.heap.size ≤ cur.heap.size) (hb : Below V.heap.size V wf) :
    CoreBP V x (.pointer (some ⟨wf.heap.size, 0, none⟩)) (wf.alloc (.cells #[.slice gau x.1.1.length gcu, .slice gbu x.1.2.length gdu, .slice hau x.2.1.length hcu, .int .i64 x.2.2.1, .int .i64 x.2.2.2.1, .int .i64 x.2.2.2.2.1.1, .int .i64 x.2.2.2.2.1.2.1, .slice iau x.2.2.2.2.1.2.2.length icu, .slice jau x.2.2.2.2.2.length jcu] 86)) :=
 ⟨wf.heap.size, cur.heap.size, wf.heap.size, gau, gcu, gbu, gdu, hau, hcu, iau, icu, jau, jcu, rfl, hb.size, hc, mm.2.size, .inr (Nat.le_refl _), by simp, heap_at wf _, owned_next (owned_made mm) (box_below wf _), below_step hb (box_below wf _)⟩
set_option maxHeartbeats 4000000 in
theorem coreEndB {V cur wf : World} {gau gbu hau iau jau : Option Addr} {gcu gdu hcu icu jcu : Nat} {zb : Nat} {x : CoreD} {x0 x1 x2 x3 x4 x5 x6 x7 x8 : Value} (z : wf.heap[zb]? = some (.cells #[x0, x1, x2, x3, x4, x5, x6, x7, x8] 86 (0, 0))) (mm : MadeR coreR cur wf [.slice gau x.1.1.length gcu, .slice gbu x.1.2.length gdu, .slice hau x.2.1.length hcu, .int .i64 x.2.2.1, .int .i64 x.2.2.2.1, .int .i64 x.2.2.2.2.1.1, .int .i64 x.2.2.2.2.1.2.1, .slice iau x.2.2.2.2.1.2.2.length icu, .slice jau x.2.2.2.2.2.length jcu] x) (h1 : V.heap.size ≤ zb) (h2 : zb < cur.heap.size) (hc : V.heap.size ≤ cur.heap.size) (hb : Below V.heap.size V wf) :
    CoreBP V x (.pointer (some ⟨zb, 0, none⟩)) (((((((((wf.setCell ⟨zb, 0, none⟩ (.slice gau x.1.1.length gcu)).setCell ⟨zb, 1, none⟩ (.slice gbu x.1.2.length gdu)).setCell ⟨zb, 2, none⟩ (.slice hau x.2.1.length hcu)).setCell ⟨zb, 3, none⟩ (.int .i64 x.2.2.1)).setCell ⟨zb, 4, none⟩ (.int .i64 x.2.2.2.1)).setCell ⟨zb, 5, none⟩ (.int .i64 x.2.2.2.2.1.1)).setCell ⟨zb, 6, none⟩ (.int .i64 x.2.2.2.2.1.2.1)).setCell ⟨zb, 7, none⟩ (.slice iau x.2.2.2.2.1.2.2.length icu)).setCell ⟨zb, 8, none⟩ (.slice jau x.2.2.2.2.2.length jcu)) := by
 have lt := (Array.getElem?_eq_some_iff.1 z).1
 exact ⟨zb, cur.heap.size, wf.heap.size, gau, gcu, gbu, gdu, hau, hcu, iau, icu, jau, jcu, rfl, h1, hc, mm.2.size, .inl h2, by simpa using lt, put_core z, owned_setCs (g := zb) (o := 0) (vs := [.slice gau x.1.1.length gcu, .slice gbu x.1.2.length gdu, .slice hau x.2.1.length hcu, .int .i64 x.2.2.1, .int .i64 x.2.2.2.1, .int .i64 x.2.2.2.2.1.1, .int .i64 x.2.2.2.2.1.2.1, .slice iau x.2.2.2.2.1.2.2.length icu, .slice jau x.2.2.2.2.2.length jcu]) (owned_made mm) (.inl h2), below_setCs0 (g := zb) (o := 0) (vs := [.slice gau x.1.1.length gcu, .slice gbu x.1.2.length gdu, .slice hau x.2.1.length hcu, .int .i64 x.2.2.1, .int .i64 x.2.2.2.1, .int .i64 x.2.2.2.2.1.1, .int .i64 x.2.2.2.2.1.2.1, .slice iau x.2.2.2.2.1.2.2.length icu, .slice jau x.2.2.2.2.2.length jcu]) hb h1⟩
theorem set1_cell {w : World} {b i zb j : Nat} {v u : Value} (hne : b < zb) (h : w.cell? ⟨b, i, none⟩ = some v) : (w.setCell ⟨zb, j, none⟩ u).cell? ⟨b, i, none⟩ = some v := by
 rw [World.cell?_setCell_far w ⟨zb, j, none⟩ ⟨b, i, none⟩ u (show zb ≠ b by omega)]
 exact h
theorem dmaS_new {c s y l : Int} {ds : List DescD} (h : descI c s y l ds = 0) : dmaS (ds, 0, false, []) = true := by
 obtain ⟨h1, h2, h3, h4⟩ := desc_zero h
 have hl := (code_cores h4).2
 have hb := (descs_right h).1
 have hq : ds.all line15 = true := List.all_eq_true.2 fun u hu => by
  have := List.all_eq_true.1 h3 u hu
  simp [dlnOk, line15, betw] at this ⊢
  omega
 unfold dmaS dmaB
 simp only
 rw [hb, hq]
 simp [placeB1, waitB1, toldL, betw]
structure NfS (w : World) (b9 vs hlo hhi : Nat) (g : CfgD) (ps : List (List OpD)) (ha hb : Option Addr) (hc hd : Nat) (i : Value) (wr : World) : Prop where
 ex : ∃ (k : Nat) (au : Option Addr) (cu : Nat), k ≤ ps.length ∧ i = .int .i64 k ∧ (∀ j q, j < k → ps[j]? = some q → progI g.1 g.2.1 g.2.2.1 g.2.2.2 q = 0) ∧ wr.heap[w.heap.size]? = some (.cells #[.int .i64 g.1, .int .i64 g.2.1, .int .i64 g.2.2.1, .int .i64 g.2.2.2] 38 (0, 0)) ∧ wr.heap[w.heap.size + 1]? = some (.cells #[.int .i64 0, .int .i64 0, .int .i64 0, .int .i64 0, .slice none 0 0, .slice none 0 0, .slice none 0 0, .slice none 0 0, .int .i64 0, .bool false, .slice none 0 0, .slice none 0 0, .slice none 0 0] 49 (0, 0)) ∧ wr.heap[w.heap.size + 2]? = some (.cells #[.int .i64 0, .int .i64 0, .int .i64 0, .int .i64 0, .slice none 0 0, .slice none 0 0, .slice none 0 0, .slice none 0 0, .int .i64 0, .bool false, .slice none 0 0, .slice none 0 0, .slice none 0 0] 49 (0, 0)) ∧ wr.heap[b9]? = some (.cells #[.int .i64 g.1, .int .i64 g.2.1, .int .i64 g.2.2.1, .int .i64 g.2.2.2, .slice ha (newHouseI g.2.2.2).1.1.length hc, .slice hb (newHouseI g.2.2.2).1.2.length hd, .slice au k cu, .slice none 0 0, .int .i64 0, .bool false, .slice none 0 0, .slice none 0 0, .slice none 0 0] 49 (0, 0)) ∧ Owned houseR hlo hhi wr [.slice ha (newHouseI g.2.2.2).1.1.length hc, .slice hb (newHouseI g.2.2.2).1.2.length hd] (newHouseI g.2.2.2).1 ∧ Owned coresR vs wr.heap.size wr [.slice au k cu] (coresI g (ps.take k)) ∧ Below w.heap.size w wr ∧ vs ≤ wr.heap.size
set_option maxHeartbeats 8000000 in
set_option maxRecDepth 20000 in
theorem specNewFabric_u (g : CfgD) (ps : List (List OpD)) (pa : Option Addr) (pc : Nat) (ds : List DescD) (da : Option Addr) (dc : Nat) (w : World) (hp : SlRd opsR w pa ps) (hpl : ps.length ≤ maxLen) (hd : SlRd descR w da ds) (hdl : ds.length ≤ maxLen) (hi : In64 g.1 ∧ In64 g.2.1 ∧ In64 g.2.2.1 ∧ In64 g.2.2.2) (hdc : ds.length ≤ dc ∧ dc ≤ maxLen) :
    Calls Tryz.prog 12 #[.agg #[.int .i64 g.1, .int .i64 g.2.1, .int .i64 g.2.2.1, .int .i64 g.2.2.2], .slice pa ps.length pc, .slice da ds.length dc] w fun e w' => ∃ ds', e = .returned (.tuple #[aggV ds', .int .i64 (newFabI g ps ds).2]) ∧ MadeR fabricR w w' ds' (newFabI g ps ds).1 := by
 have hdl2 := hdl
 have HRD : Hid (∀ W, Below w.heap.size w W → dmaR.rd W [.slice da ds.length dc, .int .i64 0, .bool false, .slice none 0 0] (ds, 0, false, [])) := fun W hb => ⟨[_], [_, _, _], rfl, ⟨da, dc, rfl, hdc.1, hdc.2, slrd_next hd hb⟩, ⟨[_], [_, _], rfl, ⟨rfl, show In64 0 by constructor <;> omega⟩, ⟨[_], [_], rfl, rfl, rowsR.own_rd (own_nil2 W (fun _ => False))⟩⟩⟩
 clear hdc
 have HS : Hid (∀ W, Below w.heap.size w W → SlRd opsR W pa ps) := fun W hb => slrd_next hp hb
 have HSD : Hid (∀ W, Below w.heap.size w W → SlRd descR W da ds) := fun W hb => slrd_next hd hb
 have hpl2 : ps.length ≤ 9223372036854775807 := hpl
 have HI : Hid _ := hi
 clear hp hd hpl hdl hi
 have B := Below.refl w.heap.size w
 obtain ⟨nf, hnf⟩ : ∃ nf, nf = newFabI g ps ds := ⟨_, rfl⟩
 have HNF : Hid (nf = newFabI g ps ds) := hnf
 rw [← hnf]
 clear hnf
 obtain ⟨kc, hkc⟩ : ∃ kc, kc = codeI g.1 g.2.1 g.2.2.1 g.2.2.2 := ⟨_, rfl⟩
 have EC : Hid (codeI g.1 g.2.1 g.2.2.1 g.2.2.2 = kc) := hkc.symm
 have HCC : Hid (∀ W, Calls Tryz.prog 28 #[.agg #[.int .i64 g.1, .int .i64 g.2.1, .int .i64 g.2.2.1, .int .i64 g.2.2.2]] W fun e w' => e = .returned (.int .i64 kc) ∧ Below W.heap.size W w') := fun W => by rw [hkc]; exact specCode_any g.1 g.2.1 g.2.2.1 g.2.2.2 W
 clear hkc
 by_cases hz : kc = 0
 ·have zk : (kc != 0) = false := by simp [hz]
  have HCZ : Hid (codeI g.1 g.2.1 g.2.2.1 g.2.2.2 = 0) := EC.out.trans hz
  clear hz
  by_cases hn : (ps.length : Int) = g.1
  ·have zn : ((ps.length : Int) != g.1) = false := by simp [hn]
   have HN : Hid ((ps.length : Int) = g.1) := hn
   have hp4 : ps.length ≤ 4 := by have := (code_cores HCZ.out).1; omega
   clear hn EC
   go_enter Tryz.func12, Tryz.ntmps12
   go_upto_region 2 with fail
   have G := heap_at w (.cells #[.int .i64 g.1, .int .i64 g.2.1, .int .i64 g.2.2.1, .int .i64 g.2.2.2] 38)
   have bz := box_below w (.cells #[.int .i64 g.1, .int .i64 g.2.1, .int .i64 g.2.2.1, .int .i64 g.2.2.2] 38)
   have zG := alloc_len w (.cells #[.int .i64 g.1, .int .i64 g.2.1, .int .i64 g.2.2.1, .int .i64 g.2.2.2] 38)
   replace B := below_step B bz
   clear bz
   generalize w.alloc (.cells #[.int .i64 g.1, .int .i64 g.2.1, .int .i64 g.2.2.1, .int .i64 g.2.2.2] 38) = u1w at B G zG ⊢
   have zGa := Nat.le_of_eq zG
   have zGb := Nat.le_of_eq zG.symm
   clear zG
   have R := heap_at u1w (.cells #[.int .i64 0, .int .i64 0, .int .i64 0, .int .i64 0, .slice none 0 0, .slice none 0 0, .slice none 0 0, .slice none 0 0, .int .i64 0, .bool false, .slice none 0 0, .slice none 0 0, .slice none 0 0] 49)
   have bz := box_below u1w (.cells #[.int .i64 0, .int .i64 0, .int .i64 0, .int .i64 0, .slice none 0 0, .slice none 0 0, .slice none 0 0, .slice none 0 0, .int .i64 0, .bool false, .slice none 0 0, .slice none 0 0, .slice none 0 0] 49)
   have zR := alloc_len u1w (.cells #[.int .i64 0, .int .i64 0, .int .i64 0, .int .i64 0, .slice none 0 0, .slice none 0 0, .slice none 0 0, .slice none 0 0, .int .i64 0, .bool false, .slice none 0 0, .slice none 0 0, .slice none 0 0] 49)
   rw [show u1w.heap.size = w.heap.size + 1 from by omega] at R
   replace B := below_step B bz
   replace G := row_keep bz G
   clear bz
   generalize u1w.alloc (.cells #[.int .i64 0, .int .i64 0, .int .i64 0, .int .i64 0, .slice none 0 0, .slice none 0 0, .slice none 0 0, .slice none 0 0, .int .i64 0, .bool false, .slice none 0 0, .slice none 0 0, .slice none 0 0] 49) = u2w at B G R zR ⊢
   have zRa := Nat.le_of_eq zR
   have zRb := Nat.le_of_eq zR.symm
   clear zR
   have Z := heap_at u2w (.cells #[.int .i64 0, .int .i64 0, .int .i64 0, .int .i64 0, .slice none 0 0, .slice none 0 0, .slice none 0 0, .slice none 0 0, .int .i64 0, .bool false, .slice none 0 0, .slice none 0 0, .slice none 0 0] 49)
   have bz := box_below u2w (.cells #[.int .i64 0, .int .i64 0, .int .i64 0, .int .i64 0, .slice none 0 0, .slice none 0 0, .slice none 0 0, .slice none 0 0, .int .i64 0, .bool false, .slice none 0 0, .slice none 0 0, .slice none 0 0] 49)
   have zZ := alloc_len u2w (.cells #[.int .i64 0, .int .i64 0, .int .i64 0, .int .i64 0, .slice none 0 0, .slice none 0 0, .slice none 0 0, .slice none 0 0, .int .i64 0, .bool false, .slice none 0 0, .slice none 0 0, .slice none 0 0] 49)
   rw [show u2w.heap.size = w.heap.size + 2 from by omega] at Z
   replace B := below_step B bz
   replace G := row_keep bz G
   replace R := row_keep bz R
   clear bz
   generalize u2w.alloc (.cells #[.int .i64 0, .int .i64 0, .int .i64 0, .int .i64 0, .slice none 0 0, .slice none 0 0, .slice none 0 0, .slice none 0 0, .int .i64 0, .bool false, .slice none 0 0, .slice none 0 0, .slice none 0 0] 49) = u3w at B G R Z zZ ⊢
   have zZa := Nat.le_of_eq zZ
   have zZb := Nat.le_of_eq zZ.symm
   clear zZ
   obtain ⟨Gc0, Gc1, Gc2, Gc3⟩ := cells_4 G
   have Glt := (Array.getElem?_eq_some_iff.1 G).1
   obtain ⟨Rc0, Rc1, Rc2, Rc3, Rc4, Rc5, Rc6, Rc7, Rc8, Rc9, Rc10, Rc11, Rc12⟩ := cells_fabric R
   have Rlt := (Array.getElem?_eq_some_iff.1 R).1
   obtain ⟨Zc0, Zc1, Zc2, Zc3, Zc4, Zc5, Zc6, Zc7, Zc8, Zc9, Zc10, Zc11, Zc12⟩ := cells_fabric Z
   have Zlt := (Array.getElem?_eq_some_iff.1 Z).1
   go_wp2_with fail
   clear Gc0 Gc1 Gc2 Gc3 Glt Rc0 Rc1 Rc2 Rc3 Rc4 Rc5 Rc6 Rc7 Rc8 Rc9 Rc10 Rc11 Rc12 Rlt Zc0 Zc1 Zc2 Zc3 Zc4 Zc5 Zc6 Zc7 Zc8 Zc9 Zc10 Zc11 Zc12 Zlt
   refine (HCC.out _).mono ?_
   rintro e u4w ⟨rfl, bq⟩
   have tu4w : u3w.heap.size ≤ u4w.heap.size := bq.size
   replace B := below_step B bq
   replace G := row_keep bq G
   replace R := row_keep bq R
   replace Z := row_keep bq Z
   clear bq
   obtain ⟨Gc0, Gc1, Gc2, Gc3⟩ := cells_4 G
   have Glt := (Array.getElem?_eq_some_iff.1 G).1
   obtain ⟨Rc0, Rc1, Rc2, Rc3, Rc4, Rc5, Rc6, Rc7, Rc8, Rc9, Rc10, Rc11, Rc12⟩ := cells_fabric R
   have Rlt := (Array.getElem?_eq_some_iff.1 R).1
   obtain ⟨Zc0, Zc1, Zc2, Zc3, Zc4, Zc5, Zc6, Zc7, Zc8, Zc9, Zc10, Zc11, Zc12⟩ := cells_fabric Z
   have Zlt := (Array.getElem?_eq_some_iff.1 Z).1
   go_upto_region 5 with fail
   clear Gc0 Gc1 Gc2 Gc3 Glt Rc0 Rc1 Rc2 Rc3 Rc4 Rc5 Rc6 Rc7 Rc8 Rc9 Rc10 Rc11 Rc12 Rlt Zc0 Zc1 Zc2 Zc3 Zc4 Zc5 Zc6 Zc7 Zc8 Zc9 Zc10 Zc11 Zc12 Zlt
   have F := heap_at u4w (.cells #[.int .i64 g.1, .int .i64 g.2.1, .int .i64 g.2.2.1, .int .i64 g.2.2.2, .slice none 0 0, .slice none 0 0, .slice none 0 0, .slice none 0 0, .int .i64 0, .bool false, .slice none 0 0, .slice none 0 0, .slice none 0 0] 49)
   have bz := box_below u4w (.cells #[.int .i64 g.1, .int .i64 g.2.1, .int .i64 g.2.2.1, .int .i64 g.2.2.2, .slice none 0 0, .slice none 0 0, .slice none 0 0, .slice none 0 0, .int .i64 0, .bool false, .slice none 0 0, .slice none 0 0, .slice none 0 0] 49)
   have zF := alloc_len u4w (.cells #[.int .i64 g.1, .int .i64 g.2.1, .int .i64 g.2.2.1, .int .i64 g.2.2.2, .slice none 0 0, .slice none 0 0, .slice none 0 0, .slice none 0 0, .int .i64 0, .bool false, .slice none 0 0, .slice none 0 0, .slice none 0 0] 49)
   replace B := below_step B bz
   replace G := row_keep bz G
   replace R := row_keep bz R
   replace Z := row_keep bz Z
   clear bz
   generalize u4w.alloc (.cells #[.int .i64 g.1, .int .i64 g.2.1, .int .i64 g.2.2.1, .int .i64 g.2.2.2, .slice none 0 0, .slice none 0 0, .slice none 0 0, .slice none 0 0, .int .i64 0, .bool false, .slice none 0 0, .slice none 0 0, .slice none 0 0] 49) = u5w at B G R Z F zF ⊢
   have zFa := Nat.le_of_eq zF
   have zFb := Nat.le_of_eq zF.symm
   clear zF
   obtain ⟨Gc0, Gc1, Gc2, Gc3⟩ := cells_4 G
   have Glt := (Array.getElem?_eq_some_iff.1 G).1
   obtain ⟨Rc0, Rc1, Rc2, Rc3, Rc4, Rc5, Rc6, Rc7, Rc8, Rc9, Rc10, Rc11, Rc12⟩ := cells_fabric R
   have Rlt := (Array.getElem?_eq_some_iff.1 R).1
   obtain ⟨Zc0, Zc1, Zc2, Zc3, Zc4, Zc5, Zc6, Zc7, Zc8, Zc9, Zc10, Zc11, Zc12⟩ := cells_fabric Z
   have Zlt := (Array.getElem?_eq_some_iff.1 Z).1
   obtain ⟨Fc0, Fc1, Fc2, Fc3, Fc4, Fc5, Fc6, Fc7, Fc8, Fc9, Fc10, Fc11, Fc12⟩ := cells_fabric F
   have Flt := (Array.getElem?_eq_some_iff.1 F).1
   go_wp2_with fail
   clear Gc0 Gc1 Gc2 Gc3 Glt Rc0 Rc1 Rc2 Rc3 Rc4 Rc5 Rc6 Rc7 Rc8 Rc9 Rc10 Rc11 Rc12 Rlt Zc0 Zc1 Zc2 Zc3 Zc4 Zc5 Zc6 Zc7 Zc8 Zc9 Zc10 Zc11 Zc12 Zlt Fc0 Fc1 Fc2 Fc3 Fc4 Fc5 Fc6 Fc7 Fc8 Fc9 Fc10 Fc11 Fc12 Flt
   refine (specNewHouse_m g.2.2.2 _).mono ?_
   rintro e u6w ⟨dsh, rfl, mm⟩
   obtain ⟨ha, hc, hb, hd, rfl⟩ := house_shape (houseR.own_rd mm.1)
   rw [show aggV [.slice ha (newHouseI g.2.2.2).1.1.length hc, .slice hb (newHouseI g.2.2.2).1.2.length hd] = .agg #[.slice ha (newHouseI g.2.2.2).1.1.length hc, .slice hb (newHouseI g.2.2.2).1.2.length hd] from rfl]
   have H := owned_made (R := houseR) mm
   have mb := mm.2
   have tu6w : u5w.heap.size ≤ u6w.heap.size := mb.size
   replace B := below_step B mb
   replace G := row_keep mb G
   replace R := row_keep mb R
   replace Z := row_keep mb Z
   replace F := row_keep mb F
   clear mb mm
   obtain ⟨Gc0, Gc1, Gc2, Gc3⟩ := cells_4 G
   have Glt := (Array.getElem?_eq_some_iff.1 G).1
   obtain ⟨Rc0, Rc1, Rc2, Rc3, Rc4, Rc5, Rc6, Rc7, Rc8, Rc9, Rc10, Rc11, Rc12⟩ := cells_fabric R
   have Rlt := (Array.getElem?_eq_some_iff.1 R).1
   obtain ⟨Zc0, Zc1, Zc2, Zc3, Zc4, Zc5, Zc6, Zc7, Zc8, Zc9, Zc10, Zc11, Zc12⟩ := cells_fabric Z
   have Zlt := (Array.getElem?_eq_some_iff.1 Z).1
   obtain ⟨Fc0, Fc1, Fc2, Fc3, Fc4, Fc5, Fc6, Fc7, Fc8, Fc9, Fc10, Fc11, Fc12⟩ := cells_fabric F
   have Flt := (Array.getElem?_eq_some_iff.1 F).1
   obtain ⟨Ff0, Ff1, Ff2, Ff3, Ff4, Ff5, Ff6, Ff7, Ff8, Ff9, Ff10, Ff11, Ff12⟩ := froz_fabric F
   go_upto_region 6 with fail
   clear Gc0 Gc1 Gc2 Gc3 Glt Rc0 Rc1 Rc2 Rc3 Rc4 Rc5 Rc6 Rc7 Rc8 Rc9 Rc10 Rc11 Rc12 Rlt Zc0 Zc1 Zc2 Zc3 Zc4 Zc5 Zc6 Zc7 Zc8 Zc9 Zc10 Zc11 Zc12 Zlt Fc0 Fc1 Fc2 Fc3 Fc4 Fc5 Fc6 Fc7 Fc8 Fc9 Fc10 Fc11 Fc12 Flt Ff0 Ff1 Ff2 Ff3 Ff4 Ff5 Ff6 Ff7 Ff8 Ff9 Ff10 Ff11 Ff12
   rw [show ((u6w.setCell ⟨u4w.heap.size, 4, none⟩ (.slice ha (newHouseI g.2.2.2).1.1.length hc)).setCell ⟨u4w.heap.size, 5, none⟩ (.slice hb (newHouseI g.2.2.2).1.2.length hd)) = (setCs u6w (u4w.heap.size) 4 [.slice ha (newHouseI g.2.2.2).1.1.length hc, .slice hb (newHouseI g.2.2.2).1.2.length hd]) from rfl]
   replace G := row_otherCs (g := u4w.heap.size) (o := 4) (vs := [.slice ha (newHouseI g.2.2.2).1.1.length hc, .slice hb (newHouseI g.2.2.2).1.2.length hd]) G (by omega)
   replace R := row_otherCs (g := u4w.heap.size) (o := 4) (vs := [.slice ha (newHouseI g.2.2.2).1.1.length hc, .slice hb (newHouseI g.2.2.2).1.2.length hd]) R (by omega)
   replace Z := row_otherCs (g := u4w.heap.size) (o := 4) (vs := [.slice ha (newHouseI g.2.2.2).1.1.length hc, .slice hb (newHouseI g.2.2.2).1.2.length hd]) Z (by omega)
   replace H := owned_setCs (g := u4w.heap.size) (o := 4) (vs := [.slice ha (newHouseI g.2.2.2).1.1.length hc, .slice hb (newHouseI g.2.2.2).1.2.length hd]) H (by omega)
   replace B := below_setCs0 (g := u4w.heap.size) (o := 4) (vs := [.slice ha (newHouseI g.2.2.2).1.1.length hc, .slice hb (newHouseI g.2.2.2).1.2.length hd]) B (by omega)
   replace F : (setCs u6w (u4w.heap.size) 4 [.slice ha (newHouseI g.2.2.2).1.1.length hc, .slice hb (newHouseI g.2.2.2).1.2.length hd]).heap[u4w.heap.size]? = some (.cells #[.int .i64 g.1, .int .i64 g.2.1, .int .i64 g.2.2.1, .int .i64 g.2.2.2, .slice ha (newHouseI g.2.2.2).1.1.length hc, .slice hb (newHouseI g.2.2.2).1.2.length hd, .slice none 0 0, .slice none 0 0, .int .i64 0, .bool false, .slice none 0 0, .slice none 0 0, .slice none 0 0] 49 (0, 0)) := row_setCs _ _ F
   have tu7w := Nat.le_of_eq (setCs_size (g := u4w.heap.size) [.slice ha (newHouseI g.2.2.2).1.1.length hc, .slice hb (newHouseI g.2.2.2).1.2.length hd] 4 u6w)
   have qu7w := Nat.le_of_eq (setCs_size (g := u4w.heap.size) [.slice ha (newHouseI g.2.2.2).1.1.length hc, .slice hb (newHouseI g.2.2.2).1.2.length hd] 4 u6w).symm
   generalize (setCs u6w (u4w.heap.size) 4 [.slice ha (newHouseI g.2.2.2).1.1.length hc, .slice hb (newHouseI g.2.2.2).1.2.length hd]) = u7w at B G R Z F H tu7w qu7w ⊢
   generalize hb9 : u4w.heap.size = b9 at F ⊢
   obtain ⟨vs, hvs⟩ : ∃ b : Nat, b = u7w.heap.size := ⟨_, rfl⟩
   obtain ⟨hlo, hhl⟩ : ∃ b : Nat, b = u5w.heap.size := ⟨_, rfl⟩
   obtain ⟨hhi, hhh⟩ : ∃ b : Nat, b = u6w.heap.size := ⟨_, rfl⟩
   have q1 : w.heap.size + 3 ≤ b9 := by omega
   have q2 : b9 + 1 ≤ hlo := by omega
   have q3 : hlo ≤ hhi := by omega
   have q4 : hhi ≤ vs := by omega
   rw [← hhl, ← hhh] at H
   have L0 : Owned coresR vs u7w.heap.size u7w [.slice none 0 0] (coresI g (ps.take 0)) := ⟨own_nil2 _ _, Nat.le_refl _⟩
   have ST : Hid (NfS w b9 vs hlo hhi g ps ha hb hc hd (.int .i64 0) u7w) := ⟨0, none, 0, Nat.zero_le _, rfl, fun j q hj => by omega, G, R, Z, F, H, L0, B, by omega⟩
   obtain ⟨Gc0, Gc1, Gc2, Gc3⟩ := cells_4 G
   have Glt := (Array.getElem?_eq_some_iff.1 G).1
   obtain ⟨Rc0, Rc1, Rc2, Rc3, Rc4, Rc5, Rc6, Rc7, Rc8, Rc9, Rc10, Rc11, Rc12⟩ := cells_fabric R
   have Rlt := (Array.getElem?_eq_some_iff.1 R).1
   obtain ⟨Zc0, Zc1, Zc2, Zc3, Zc4, Zc5, Zc6, Zc7, Zc8, Zc9, Zc10, Zc11, Zc12⟩ := cells_fabric Z
   have Zlt := (Array.getElem?_eq_some_iff.1 Z).1
   obtain ⟨Fc0, Fc1, Fc2, Fc3, Fc4, Fc5, Fc6, Fc7, Fc8, Fc9, Fc10, Fc11, Fc12⟩ := cells_fabric F
   have Flt := (Array.getElem?_eq_some_iff.1 F).1
   go_wp2
   clear Gc0 Gc1 Gc2 Gc3 Glt Rc0 Rc1 Rc2 Rc3 Rc4 Rc5 Rc6 Rc7 Rc8 Rc9 Rc10 Rc11 Rc12 Rlt Zc0 Zc1 Zc2 Zc3 Zc4 Zc5 Zc6 Zc7 Zc8 Zc9 Zc10 Zc11 Zc12 Zlt Fc0 Fc1 Fc2 Fc3 Fc4 Fc5 Fc6 Fc7 Fc8 Fc9 Fc10 Fc11 Fc12 Flt
   clear G R Z F H B L0 hvs hhl hhh hb9
   go_loopw [10] (fun i wr => NfS w b9 vs hlo hhi g ps ha hb hc hd i wr) (fun i _ => ps.length - (intOf i).toNat)
   case atStart => exact ST.out
   case round =>
    clear ST
    obtain ⟨k, au, cu, hk, rfl, hno, G, R, Z, F, H, O, B, hsz⟩ := hrel.ex
    clear hrel
    by_cases hlt : k < ps.length
    ·have hlt' : (k : Int) < (ps.length : Int) := by omega
     obtain ⟨p, hx⟩ : ∃ p, ps[k]? = some p := ⟨_, List.getElem?_eq_getElem hlt⟩
     obtain ⟨b, off, cs, rfl, hrdx, hcell⟩ := slrd_at (HS.out _ B) hx
     have HRP : Hid _ := hrdx
     obtain ⟨oa, oc, rfl, l1, l2, l3⟩ := hrdx
     have x0 := hcell 0 _ rfl
     rw [show off + (k * opsR.size + 0) = off + k * 1 from rfl, Nat.mul_one] at x0
     obtain ⟨nc, hnc⟩ : ∃ nc, nc = newCoreI g.2.1 g.2.2.1 p := ⟨_, rfl⟩
     obtain ⟨kp, hkp⟩ : ∃ kp, kp = progI g.1 g.2.1 g.2.2.1 g.2.2.2 p := ⟨_, rfl⟩
     have EP : Hid (progI g.1 g.2.1 g.2.2.1 g.2.2.2 p = kp) := hkp.symm
     have HPc : Hid (∀ n' : Cls (fun wx => Below wr.heap.size wr wx), Calls Tryz.prog 34 #[.agg #[.int .i64 g.1, .int .i64 g.2.1, .int .i64 g.2.2.1, .int .i64 g.2.2.2], .slice oa p.length oc] n'.w fun e w' => e = .returned (.int .i64 kp) ∧ Below n'.w.heap.size n'.w w') := fun n' => by
      rw [hkp]
      exact specProgramCode_any g.1 g.2.1 g.2.2.1 g.2.2.2 oa p oc n'.w (slrd_next l3 n'.h) (Nat.le_trans l1 l2)
     have HC : Hid (∀ W, p.length ≤ 1048576 → Below wr.heap.size wr W → Calls Tryz.prog 57 #[.int .i64 g.2.1, .int .i64 g.2.2.1, .slice oa p.length oc] W fun e w' => ∃ ds, e = .returned (.tuple #[aggV ds, .bool nc.2]) ∧ MadeR coreR W w' ds nc.1) := fun W hl hb => by
      rw [hnc]
      exact specNewCore_u _ _ _ p W (rd_next HRP.out hb) hl
     have HTK : Hid ((coresI g (ps.take k)) ++ [nc.1] = coresI g (ps.take (k + 1))) := by
      unfold Hid
      rw [hnc]
      exact coresI_push hx
     have HTL : Hid ((coresI g (ps.take k)).length = k) := by unfold Hid; rw [coresI_len, List.length_take]; omega
     have HX : Hid (ps[k]? = some p) := hx
     obtain ⟨ti, hi, hz0, hz1, hz2⟩ := info_parts Tryz.infoCore
     clear hcell l1 l2 l3 hx hnc HRP hkp
     obtain ⟨Gc0, Gc1, Gc2, Gc3⟩ := cells_4 G
     have Glt := (Array.getElem?_eq_some_iff.1 G).1
     obtain ⟨Rc0, Rc1, Rc2, Rc3, Rc4, Rc5, Rc6, Rc7, Rc8, Rc9, Rc10, Rc11, Rc12⟩ := cells_fabric R
     have Rlt := (Array.getElem?_eq_some_iff.1 R).1
     obtain ⟨Zc0, Zc1, Zc2, Zc3, Zc4, Zc5, Zc6, Zc7, Zc8, Zc9, Zc10, Zc11, Zc12⟩ := cells_fabric Z
     have Zlt := (Array.getElem?_eq_some_iff.1 Z).1
     obtain ⟨Fc0, Fc1, Fc2, Fc3, Fc4, Fc5, Fc6, Fc7, Fc8, Fc9, Fc10, Fc11, Fc12⟩ := cells_fabric F
     have Flt := (Array.getElem?_eq_some_iff.1 F).1
     go_upto_region 9 with fail
     clear Gc0 Gc1 Gc2 Gc3 Glt Rc0 Rc1 Rc2 Rc3 Rc4 Rc5 Rc6 Rc7 Rc8 Rc9 Rc10 Rc11 Rc12 Rlt Zc0 Zc1 Zc2 Zc3 Zc4 Zc5 Zc6 Zc7 Zc8 Zc9 Zc10 Zc11 Zc12 Zlt Fc0 Fc1 Fc2 Fc3 Fc4 Fc5 Fc6 Fc7 Fc8 Fc9 Fc10 Fc11 Fc12 Flt
     obtain ⟨Gc0, Gc1, Gc2, Gc3⟩ := cells_4 G
     have Gk0 : ∀ n' : Cls (fun wx => Below wr.heap.size wr wx), n'.w.cell? ⟨w.heap.size, 0, none⟩ = some (.int .i64 g.1) := fun n' => cell_keep n'.h Gc0 (cell_lt Gc0)
     have Gk1 : ∀ n' : Cls (fun wx => Below wr.heap.size wr wx), n'.w.cell? ⟨w.heap.size, 1, none⟩ = some (.int .i64 g.2.1) := fun n' => cell_keep n'.h Gc1 (cell_lt Gc1)
     have Gk2 : ∀ n' : Cls (fun wx => Below wr.heap.size wr wx), n'.w.cell? ⟨w.heap.size, 2, none⟩ = some (.int .i64 g.2.2.1) := fun n' => cell_keep n'.h Gc2 (cell_lt Gc2)
     have Gk3 : ∀ n' : Cls (fun wx => Below wr.heap.size wr wx), n'.w.cell? ⟨w.heap.size, 3, none⟩ = some (.int .i64 g.2.2.2) := fun n' => cell_keep n'.h Gc3 (cell_lt Gc3)
     clear Gc0 Gc1 Gc2 Gc3
     have xk : ∀ n' : Cls (fun wx => Below wr.heap.size wr wx), n'.w.cell? ⟨b, off + k, none⟩ = some (.slice oa p.length oc) := fun n' => cell_keep n'.h x0 (cell_lt x0)
     have HFX : Hid _ := And.intro B (And.intro G (And.intro R (And.intro Z (And.intro F (And.intro H (O))))))
     clear B G R Z F H O
     refine region_class (fun wx => Below wr.heap.size wr wx) (by kernel_rfl) (by kernel_rfl) ((Below.refl _ wr).drew) ?_
     intro hne
     repeat (quiet_step (first | (go_at_call 34; exact calls_class (HPc.out _) (fun w' hc bb => below_step hc bb))))
     refine wpQuiet_nil ?_
     intro u8w bq
     clear Gk0 Gk1 Gk2 Gk3 xk hne
     obtain ⟨B, G, R, Z, F, H, O⟩ := HFX.out
     clear HFX
     have tu8w : wr.heap.size ≤ u8w.heap.size := bq.size
     have bk9 := bq
     replace B := below_step B bq
     replace G := row_keep bq G
     replace R := row_keep bq R
     replace Z := row_keep bq Z
     replace F := row_keep bq F
     replace H := owned_next H bq
     replace O := owned_next O bq
     clear bq
     replace x0 := cell_keep bk9 x0 (cell_lt x0)
     have HBK : Hid _ := bk9
     clear HPc bk9
     by_cases hz : kp = 0
     ·have zp : (kp != 0) = false := by simp [hz]
      have HPZ : Hid (progI g.1 g.2.1 g.2.2.1 g.2.2.2 p = 0) := EP.out.trans hz
      have hpl : p.length ≤ 30 := by
       have q := HPZ.out
       unfold progI at q
       rw [if_pos HCZ.out] at q
       split at q
       ·assumption
       ·cases q
      have HE9 : Hid (∀ j q, j < k + 1 → ps[j]? = some q → progI g.1 g.2.1 g.2.2.1 g.2.2.2 q = 0) := fun j q hj hq => by
       by_cases he : j < k
       ·exact hno j q he hq
       ·have : j = k := by omega
        subst this
        rw [HX.out] at hq
        cases hq
        exact HPZ.out
      clear hz hno
      have HCV : Hid (∀ W, Below u8w.heap.size u8w W → Calls Tryz.prog 57 #[.int .i64 g.2.1, .int .i64 g.2.2.1, .slice oa p.length oc] W fun e w' => ∃ ds, e = .returned (.tuple #[aggV ds, .bool nc.2]) ∧ MadeR coreR W w' ds nc.1) := fun W hb => HC.out W (by omega) (below_step HBK.out hb)
      clear HC HBK
      obtain ⟨Gc0, Gc1, Gc2, Gc3⟩ := cells_4 G
      have Glt := (Array.getElem?_eq_some_iff.1 G).1
      obtain ⟨Rc0, Rc1, Rc2, Rc3, Rc4, Rc5, Rc6, Rc7, Rc8, Rc9, Rc10, Rc11, Rc12⟩ := cells_fabric R
      have Rlt := (Array.getElem?_eq_some_iff.1 R).1
      obtain ⟨Zc0, Zc1, Zc2, Zc3, Zc4, Zc5, Zc6, Zc7, Zc8, Zc9, Zc10, Zc11, Zc12⟩ := cells_fabric Z
      have Zlt := (Array.getElem?_eq_some_iff.1 Z).1
      obtain ⟨Fc0, Fc1, Fc2, Fc3, Fc4, Fc5, Fc6, Fc7, Fc8, Fc9, Fc10, Fc11, Fc12⟩ := cells_fabric F
      have Flt := (Array.getElem?_eq_some_iff.1 F).1
      go_upto_region 12 with fail
      clear Gc0 Gc1 Gc2 Gc3 Glt Rc0 Rc1 Rc2 Rc3 Rc4 Rc5 Rc6 Rc7 Rc8 Rc9 Rc10 Rc11 Rc12 Rlt Zc0 Zc1 Zc2 Zc3 Zc4 Zc5 Zc6 Zc7 Zc8 Zc9 Zc10 Zc11 Zc12 Zlt Fc0 Fc1 Fc2 Fc3 Fc4 Fc5 Fc6 Fc7 Fc8 Fc9 Fc10 Fc11 Fc12 Flt
      go_cut [12] (fun q wx => CoreBP u8w nc.1 q wx)
      case first =>
       have Q : Below u8w.heap.size u8w u8w.drew := (Below.refl _ _).drew
       have HX0 : Hid _ := x0
       obtain ⟨Gc0, Gc1, Gc2, Gc3⟩ := cells_4 G
       have Glt := (Array.getElem?_eq_some_iff.1 G).1
       have n1 : w.heap.size < u8w.heap.size := by omega
       have n2 : b < u8w.heap.size := cell_lt x0
       clear R Z F H O B HE9 HPZ HX EP HTK HTL HCZ HN HNF HI HRD HS HSD HCC hsz q1 q2 q3 q4 zk zn zp hpl hdl2 hi hz0 hz1 hz2 ti
       go_region_held3 (fun wx => wx.cell? ⟨w.heap.size, 1, none⟩ = some (.int .i64 g.2.1) ∧ wx.cell? ⟨w.heap.size, 2, none⟩ = some (.int .i64 g.2.2.1) ∧ wx.cell? ⟨b, off + k, none⟩ = some (.slice oa p.length oc)) (first | (go_keep; done) | (exact ⟨(set1_cell n1 (set1_cell n1 (set1_cell n1 (set1_cell n1 (set1_cell n1 (set1_cell n1 (set1_cell n1 (set1_cell n1 (set1_cell n1 Gc1))))))))), (set1_cell n1 (set1_cell n1 (set1_cell n1 (set1_cell n1 (set1_cell n1 (set1_cell n1 (set1_cell n1 (set1_cell n1 (set1_cell n1 Gc2))))))))), (set1_cell n2 (set1_cell n2 (set1_cell n2 (set1_cell n2 (set1_cell n2 (set1_cell n2 (set1_cell n2 (set1_cell n2 (set1_cell n2 x0)))))))))⟩)) (first | (go_at_call 57; (first | (refine (HCV.out _ Q).mono ?_) | (refine (HCV.out _ (below_step Q (box_below _ _))).mono ?_)); rintro e wq0 ⟨dsc, rfl, mm⟩; have mb := mm.2; obtain ⟨gau, gcu, gbu, gdu, hau, hcu, iau, icu, jau, jcu, rfl⟩ := core_shape (coreR.own_rd mm.1); rw [show aggV [.slice gau nc.1.1.1.length gcu, .slice gbu nc.1.1.2.length gdu, .slice hau nc.1.2.1.length hcu, .int .i64 nc.1.2.2.1, .int .i64 nc.1.2.2.2.1, .int .i64 nc.1.2.2.2.2.1.1, .int .i64 nc.1.2.2.2.2.1.2.1, .slice iau nc.1.2.2.2.2.1.2.2.length icu, .slice jau nc.1.2.2.2.2.2.length jcu] = .agg #[.slice gau nc.1.1.1.length gcu, .slice gbu nc.1.1.2.length gdu, .slice hau nc.1.2.1.length hcu, .int .i64 nc.1.2.2.1, .int .i64 nc.1.2.2.2.1, .int .i64 nc.1.2.2.2.2.1.1, .int .i64 nc.1.2.2.2.2.1.2.1, .slice iau nc.1.2.2.2.2.1.2.2.length icu, .slice jau nc.1.2.2.2.2.2.length jcu] from rfl]; have HP : Hid _ := mm; clear mm; (first | (have y0_0 : wq0.heap[u8w.heap.size]? = some (.cells #[.slice none 0 0, .slice none 0 0, .slice none 0 0, .int .i64 0, .int .i64 0, .int .i64 0, .int .i64 0, .slice none 0 0, .slice none 0 0] 86 (0, 0)) := ?hz; case hz => exact row_keep mb (heap_at u8w.drew _)) | skip); (first | (replace Q := below_step Q mb) | (replace Q := below_step (below_step Q (box_below _ _)) mb)); have sz0 : u8w.heap.size ≤ wq0.heap.size := Q.size; clear Gc0 Gc1 Gc2 Gc3 Glt x0; obtain ⟨Gc0, Gc1, Gc2, Gc3⟩ := cells_4 (row_keep Q G); have Glt := (Array.getElem?_eq_some_iff.1 (row_keep Q G)).1; have x0 := cell_keep Q HX0.out (cell_lt HX0.out); (first | (obtain ⟨k0_0, k0_1, k0_2, k0_3, k0_4, k0_5, k0_6, k0_7, k0_8⟩ := cells_core y0_0; obtain ⟨l0_0, l0_1, l0_2, l0_3, l0_4, l0_5, l0_6, l0_7, l0_8⟩ := froz_core y0_0; have n0 := (Array.getElem?_eq_some_iff.1 y0_0).1) | skip)))
       all_goals go_wp2_with fail
       all_goals go_meet
       all_goals first | (have zz := y0_0; exact coreEndB zz HP.out (Nat.le_refl _) (by simp) (by simp) Q) | exact coreEndA HP.out (by first | exact Nat.le_refl _ | simp) Q
      case rest =>
       obtain ⟨vb, nlo, nhi, gau, gcu, gbu, gdu, hau, hcu, iau, icu, jau, jcu, rfl, hv1, hv2, hv3, hv4, hv5, E, C, bq⟩ := hcut
       generalize wc = u9w at E C bq hv5 ⊢
       replace B := below_step B bq
       replace G := row_keep bq G
       replace R := row_keep bq R
       replace Z := row_keep bq Z
       replace F := row_keep bq F
       replace H := owned_next H bq
       replace O := owned_next O bq
       have tz : u8w.heap.size ≤ u9w.heap.size := bq.size
       clear bq x0
       obtain ⟨Gc0, Gc1, Gc2, Gc3⟩ := cells_4 G
       have Glt := (Array.getElem?_eq_some_iff.1 G).1
       obtain ⟨Rc0, Rc1, Rc2, Rc3, Rc4, Rc5, Rc6, Rc7, Rc8, Rc9, Rc10, Rc11, Rc12⟩ := cells_fabric R
       have Rlt := (Array.getElem?_eq_some_iff.1 R).1
       obtain ⟨Zc0, Zc1, Zc2, Zc3, Zc4, Zc5, Zc6, Zc7, Zc8, Zc9, Zc10, Zc11, Zc12⟩ := cells_fabric Z
       have Zlt := (Array.getElem?_eq_some_iff.1 Z).1
       obtain ⟨Fc0, Fc1, Fc2, Fc3, Fc4, Fc5, Fc6, Fc7, Fc8, Fc9, Fc10, Fc11, Fc12⟩ := cells_fabric F
       have Flt := (Array.getElem?_eq_some_iff.1 F).1
       obtain ⟨Ff0, Ff1, Ff2, Ff3, Ff4, Ff5, Ff6, Ff7, Ff8, Ff9, Ff10, Ff11, Ff12⟩ := froz_fabric F
       obtain ⟨Ec0, Ec1, Ec2, Ec3, Ec4, Ec5, Ec6, Ec7, Ec8⟩ := cells_core E
       have Elt := (Array.getElem?_eq_some_iff.1 E).1
       go_wp2_with (at_builtin; refine wpList_push rfl _ _ 42 rfl coreR 86 ti (.agg #[.slice none 0 0, .slice none 0 0, .slice none 0 0, .int .i64 0, .int .i64 0, .int .i64 0, .int .i64 0, .slice none 0 0, .slice none 0 0]) 152 Tryz.underlying42 hi hz0 hz1 hz2 rfl (by decide) (by decide) vs (rng vs wr.heap.size) (rng nlo nhi) (.slice au k cu) (coresI g (ps.take k)) [.slice gau nc.1.1.1.length gcu, .slice gbu nc.1.1.2.length gdu, .slice hau nc.1.2.1.length hcu, .int .i64 nc.1.2.2.1, .int .i64 nc.1.2.2.2.1, .int .i64 nc.1.2.2.2.2.1.1, .int .i64 nc.1.2.2.2.2.1.2.1, .slice iau nc.1.2.2.2.2.1.2.2.length icu, .slice jau nc.1.2.2.2.2.2.length jcu] nc.1 1 rfl _ rfl rfl O.1 C.1 (rng_dis (.inl (by omega))) (fun q hq => hq.1) (fun q hq => by have := hq.1; omega) (by omega) ?c1 ?c2 ?c3 ?_)
       case c1 => intro q hq; simp at hq; rcases hq with rfl | rfl | rfl | rfl | rfl | rfl | rfl | rfl | rfl <;> rfl
       case c2 => rw [HTL.out]; unfold maxLen; omega
       case c3 => rw [HTL.out]; omega
       clear Gc0 Gc1 Gc2 Gc3 Glt Rc0 Rc1 Rc2 Rc3 Rc4 Rc5 Rc6 Rc7 Rc8 Rc9 Rc10 Rc11 Rc12 Rlt Zc0 Zc1 Zc2 Zc3 Zc4 Zc5 Zc6 Zc7 Zc8 Zc9 Zc10 Zc11 Zc12 Zlt Fc0 Fc1 Fc2 Fc3 Fc4 Fc5 Fc6 Fc7 Fc8 Fc9 Fc10 Fc11 Fc12 Flt Ff0 Ff1 Ff2 Ff3 Ff4 Ff5 Ff6 Ff7 Ff8 Ff9 Ff10 Ff11 Ff12 Ec0 Ec1 Ec2 Ec3 Ec4 Ec5 Ec6 Ec7 Ec8 Elt
       intro g' cap' w2 N1 N2
       try rw [HTL.out] at N1
       try rw [HTL.out]
       rw [HTK.out] at N1
       have G2 := row_by (B := vs) G N2 (fun q hq => hq.1) (by omega)
       have R2 := row_by (B := vs) R N2 (fun q hq => hq.1) (by omega)
       have Z2 := row_by (B := vs) Z N2 (fun q hq => hq.1) (by omega)
       have F2 := row_by (B := vs) F N2 (fun q hq => hq.1) (by omega)
       have H2 : Owned houseR hlo hhi w2 _ _ := ⟨own_chg H.1 N2 ((rng_dis (.inl (by omega))).sub (Sub.refl _) old_sub), Nat.le_trans H.2 N2.size⟩
       have BB2 : Below w.heap.size w w2 := below_by B (by omega) N2 (fun q hq => by have := hq.1; omega)
       have sz2 := N2.size
       have HE : Hid (NfS w b9 vs hlo hhi g ps ha hb hc hd (.int .i64 ((k + 1 : Nat) : Int)) (setCs w2 b9 6 [.slice (some ⟨g', 0, none⟩) (k + 1) cap'])) := ⟨k + 1, some ⟨g', 0, none⟩, cap', by omega, rfl, HE9.out, row_otherCs (g := b9) (o := 6) (vs := [.slice (some ⟨g', 0, none⟩) (k + 1) cap']) G2 (by omega), row_otherCs (g := b9) (o := 6) (vs := [.slice (some ⟨g', 0, none⟩) (k + 1) cap']) R2 (by omega), row_otherCs (g := b9) (o := 6) (vs := [.slice (some ⟨g', 0, none⟩) (k + 1) cap']) Z2 (by omega), row_setCs (g := b9) [.slice (some ⟨g', 0, none⟩) (k + 1) cap'] 6 F2, owned_setCs (g := b9) (o := 6) (vs := [.slice (some ⟨g', 0, none⟩) (k + 1) cap']) H2 (by omega), (by have q := owned_setCs (R := coresR) (g := b9) (o := 6) (vs := [.slice (some ⟨g', 0, none⟩) (k + 1) cap']) (⟨N1, Nat.le_refl _⟩ : Owned coresR vs w2.heap.size w2 _ _) (by omega); rw [setCs_size]; exact q), below_setCs0 (g := b9) (o := 6) (vs := [.slice (some ⟨g', 0, none⟩) (k + 1) cap']) BB2 (by omega), by rw [setCs_size]; omega⟩
       obtain ⟨y0, y1, y2, y3, y4, y5, y6, y7, y8, y9, y10, y11, y12⟩ := cells_fabric F2
       obtain ⟨f0, f1, f2, f3, f4, f5, f6, f7, f8, f9, f10, f11, f12⟩ := froz_fabric F2
       have y2lt := (Array.getElem?_eq_some_iff.1 F2).1
       clear G2 R2 Z2 F2 H2 BB2 N1 N2 G R Z F H O C E B
       go_wp2
       go_roundw
       case rel => exact HE.out
       case measure => simp [intOf]; omega
     ·have zp : (kp != 0) = true := by simp [hz]
      have HZN : Hid (¬ kp = 0) := hz
      clear hz x0 HC HBK
      have HQ : Hid (newFabI g ps ds = (((0, 0, 0, 0), ([], []), [], ([], 0, false, []), [], []), kp)) := by
       have q : fabC g ps ds = kp := EP.out ▸ fabC_bad (g := g) (ds := ds) HN.out (codes_bad HX.out hno (by rw [EP.out]; exact HZN.out)) (by rw [EP.out]; exact HZN.out)
       unfold Hid
       rw [new_no1 (by rw [q]; first | decide | exact HZN.out), q]
      obtain ⟨Gc0, Gc1, Gc2, Gc3⟩ := cells_4 G
      have Glt := (Array.getElem?_eq_some_iff.1 G).1
      obtain ⟨Rc0, Rc1, Rc2, Rc3, Rc4, Rc5, Rc6, Rc7, Rc8, Rc9, Rc10, Rc11, Rc12⟩ := cells_fabric R
      have Rlt := (Array.getElem?_eq_some_iff.1 R).1
      obtain ⟨Rf0, Rf1, Rf2, Rf3, Rf4, Rf5, Rf6, Rf7, Rf8, Rf9, Rf10, Rf11, Rf12⟩ := froz_fabric R
      obtain ⟨Zc0, Zc1, Zc2, Zc3, Zc4, Zc5, Zc6, Zc7, Zc8, Zc9, Zc10, Zc11, Zc12⟩ := cells_fabric Z
      have Zlt := (Array.getElem?_eq_some_iff.1 Z).1
      obtain ⟨Fc0, Fc1, Fc2, Fc3, Fc4, Fc5, Fc6, Fc7, Fc8, Fc9, Fc10, Fc11, Fc12⟩ := cells_fabric F
      have Flt := (Array.getElem?_eq_some_iff.1 F).1
      have HK : Hid _ := And.intro R B
      clear G R Z F H O B
      go_wp2
      clear Gc0 Gc1 Gc2 Gc3 Glt Rc0 Rc1 Rc2 Rc3 Rc4 Rc5 Rc6 Rc7 Rc8 Rc9 Rc10 Rc11 Rc12 Rlt Rf0 Rf1 Rf2 Rf3 Rf4 Rf5 Rf6 Rf7 Rf8 Rf9 Rf10 Rf11 Rf12 Zc0 Zc1 Zc2 Zc3 Zc4 Zc5 Zc6 Zc7 Zc8 Zc9 Zc10 Zc11 Zc12 Zlt Fc0 Fc1 Fc2 Fc3 Fc4 Fc5 Fc6 Fc7 Fc8 Fc9 Fc10 Fc11 Fc12 Flt
      obtain ⟨r0, r1, r2, r3, r4, r5, r6, r7, r8, r9, r10, r11, r12⟩ := cells_fabric (put_fabric (y0 := .int .i64 0) (y1 := .int .i64 0) (y2 := .int .i64 0) (y3 := .int .i64 0) (y4 := .slice none 0 0) (y5 := .slice none 0 0) (y6 := .slice none 0 0) (y7 := .slice none 0 0) (y8 := .int .i64 0) (y9 := .bool false) (y10 := .slice none 0 0) (y11 := .slice none 0 0) (y12 := .slice none 0 0) HK.out.1)
      refine bodyPost_ret (v := .tuple #[.agg #[.int .i64 0, .int .i64 0, .int .i64 0, .int .i64 0, .slice none 0 0, .slice none 0 0, .slice none 0 0, .slice none 0 0, .int .i64 0, .bool false, .slice none 0 0, .slice none 0 0, .slice none 0 0], .int .i64 kp]) (by simp [results, Tryz.results12, go_sem, r0, r1, r2, r3, r4, r5, r6, r7, r8, r9, r10, r11, r12]) rfl ⟨[.int .i64 0, .int .i64 0, .int .i64 0, .int .i64 0, .slice none 0 0, .slice none 0 0, .slice none 0 0, .slice none 0 0, .int .i64 0, .bool false, .slice none 0 0, .slice none 0 0, .slice none 0 0], ?_, ?_⟩
      ·rw [HNF.out, HQ.out]; rfl
      ·rw [HNF.out, HQ.out]; exact ⟨own_zeroF _ _, below_setCs0 (g := w.heap.size + 1) (o := 0) (vs := [.int .i64 0, .int .i64 0, .int .i64 0, .int .i64 0, .slice none 0 0, .slice none 0 0, .slice none 0 0, .slice none 0 0, .int .i64 0, .bool false, .slice none 0 0, .slice none 0 0, .slice none 0 0]) HK.out.2 (by omega)⟩
    ·have hkn : k = ps.length := by omega
     subst hkn
     rw [List.take_length] at O
     have HCG : Hid (codesI g.1 g.2.1 g.2.2.1 g.2.2.2 ps = 0) := codes_good fun j q hq => hno j q (by have := (List.getElem?_eq_some_iff.1 hq).1; omega) hq
     clear hno
     obtain ⟨kd, hkd⟩ : ∃ kd, kd = descI g.1 g.2.1 g.2.2.1 g.2.2.2 ds := ⟨_, rfl⟩
     have ED : Hid (descI g.1 g.2.1 g.2.2.1 g.2.2.2 ds = kd) := hkd.symm
     have HDC : Hid (∀ W, Below w.heap.size w W → Calls Tryz.prog 31 #[.agg #[.int .i64 g.1, .int .i64 g.2.1, .int .i64 g.2.2.1, .int .i64 g.2.2.2], .slice da ds.length dc] W fun e w' => e = .returned (.int .i64 kd) ∧ Below W.heap.size W w') := fun W hb => by rw [hkd]; exact specDescCode_any g.1 g.2.1 g.2.2.1 g.2.2.2 da ds dc W (HSD.out W hb) hdl2
     clear hkd
     obtain ⟨Gc0, Gc1, Gc2, Gc3⟩ := cells_4 G
     have Glt := (Array.getElem?_eq_some_iff.1 G).1
     obtain ⟨Rc0, Rc1, Rc2, Rc3, Rc4, Rc5, Rc6, Rc7, Rc8, Rc9, Rc10, Rc11, Rc12⟩ := cells_fabric R
     have Rlt := (Array.getElem?_eq_some_iff.1 R).1
     obtain ⟨Zc0, Zc1, Zc2, Zc3, Zc4, Zc5, Zc6, Zc7, Zc8, Zc9, Zc10, Zc11, Zc12⟩ := cells_fabric Z
     have Zlt := (Array.getElem?_eq_some_iff.1 Z).1
     obtain ⟨Fc0, Fc1, Fc2, Fc3, Fc4, Fc5, Fc6, Fc7, Fc8, Fc9, Fc10, Fc11, Fc12⟩ := cells_fabric F
     have Flt := (Array.getElem?_eq_some_iff.1 F).1
     go_wp2_with fail
     clear Gc0 Gc1 Gc2 Gc3 Glt Rc0 Rc1 Rc2 Rc3 Rc4 Rc5 Rc6 Rc7 Rc8 Rc9 Rc10 Rc11 Rc12 Rlt Zc0 Zc1 Zc2 Zc3 Zc4 Zc5 Zc6 Zc7 Zc8 Zc9 Zc10 Zc11 Zc12 Zlt Fc0 Fc1 Fc2 Fc3 Fc4 Fc5 Fc6 Fc7 Fc8 Fc9 Fc10 Fc11 Fc12 Flt
     refine (HDC.out _ B).mono ?_
     rintro e u10w ⟨rfl, bq⟩
     have tu10w : wr.heap.size ≤ u10w.heap.size := bq.size
     replace B := below_step B bq
     replace G := row_keep bq G
     replace R := row_keep bq R
     replace Z := row_keep bq Z
     replace F := row_keep bq F
     replace H := owned_next H bq
     replace O := owned_next O bq
     clear bq
     by_cases hz : kd = 0
     ·have zd : (kd != 0) = false := by simp [hz]
      have HDZ : Hid (descI g.1 g.2.1 g.2.2.1 g.2.2.2 ds = 0) := ED.out.trans hz
      clear hz
      obtain ⟨hdb, hdn, hdm⟩ := descs_right HDZ.out
      have HDM : Hid _ := hdm
      have HQ : Hid (newFabI g ps ds = ((g, (newHouseI g.2.2.2).1, coresI g ps, (ds, 0, false, []), [], []), 0)) := new_yes1 ((fabC_go HN.out HCG.out).trans HDZ.out)
      clear hdm
      obtain ⟨Gc0, Gc1, Gc2, Gc3⟩ := cells_4 G
      have Glt := (Array.getElem?_eq_some_iff.1 G).1
      obtain ⟨Rc0, Rc1, Rc2, Rc3, Rc4, Rc5, Rc6, Rc7, Rc8, Rc9, Rc10, Rc11, Rc12⟩ := cells_fabric R
      have Rlt := (Array.getElem?_eq_some_iff.1 R).1
      obtain ⟨Zc0, Zc1, Zc2, Zc3, Zc4, Zc5, Zc6, Zc7, Zc8, Zc9, Zc10, Zc11, Zc12⟩ := cells_fabric Z
      have Zlt := (Array.getElem?_eq_some_iff.1 Z).1
      obtain ⟨Fc0, Fc1, Fc2, Fc3, Fc4, Fc5, Fc6, Fc7, Fc8, Fc9, Fc10, Fc11, Fc12⟩ := cells_fabric F
      have Flt := (Array.getElem?_eq_some_iff.1 F).1
      go_wp2_with fail
      clear Gc0 Gc1 Gc2 Gc3 Glt Rc0 Rc1 Rc2 Rc3 Rc4 Rc5 Rc6 Rc7 Rc8 Rc9 Rc10 Rc11 Rc12 Rlt Zc0 Zc1 Zc2 Zc3 Zc4 Zc5 Zc6 Zc7 Zc8 Zc9 Zc10 Zc11 Zc12 Zlt Fc0 Fc1 Fc2 Fc3 Fc4 Fc5 Fc6 Fc7 Fc8 Fc9 Fc10 Fc11 Fc12 Flt
      refine (specNewDma_z ds da dc _ (dmaS_new HDZ.out) (HRD.out _ B) (HSD.out _ B) hdn HDM.out).mono ?_
      rintro e u11w ⟨na, nd, ra, rc, rfl, mm⟩
      have D := owned_made (R := dmaR) mm
      have mb := mm.2
      have tu11w : u10w.heap.size ≤ u11w.heap.size := mb.size
      replace B := below_step B mb
      replace G := row_keep mb G
      replace R := row_keep mb R
      replace Z := row_keep mb Z
      replace F := row_keep mb F
      replace H := owned_next H mb
      replace O := owned_next O mb
      clear mb mm
      obtain ⟨Gc0, Gc1, Gc2, Gc3⟩ := cells_4 G
      have Glt := (Array.getElem?_eq_some_iff.1 G).1
      obtain ⟨Rc0, Rc1, Rc2, Rc3, Rc4, Rc5, Rc6, Rc7, Rc8, Rc9, Rc10, Rc11, Rc12⟩ := cells_fabric R
      have Rlt := (Array.getElem?_eq_some_iff.1 R).1
      obtain ⟨Rf0, Rf1, Rf2, Rf3, Rf4, Rf5, Rf6, Rf7, Rf8, Rf9, Rf10, Rf11, Rf12⟩ := froz_fabric R
      obtain ⟨Zc0, Zc1, Zc2, Zc3, Zc4, Zc5, Zc6, Zc7, Zc8, Zc9, Zc10, Zc11, Zc12⟩ := cells_fabric Z
      have Zlt := (Array.getElem?_eq_some_iff.1 Z).1
      obtain ⟨Fc0, Fc1, Fc2, Fc3, Fc4, Fc5, Fc6, Fc7, Fc8, Fc9, Fc10, Fc11, Fc12⟩ := cells_fabric F
      have Flt := (Array.getElem?_eq_some_iff.1 F).1
      obtain ⟨Ff0, Ff1, Ff2, Ff3, Ff4, Ff5, Ff6, Ff7, Ff8, Ff9, Ff10, Ff11, Ff12⟩ := froz_fabric F
      have HK : Hid _ := And.intro R (And.intro F (And.intro H (And.intro O (And.intro D (B)))))
      clear G R Z F H O D B
      go_wp2
      clear Gc0 Gc1 Gc2 Gc3 Glt Rc0 Rc1 Rc2 Rc3 Rc4 Rc5 Rc6 Rc7 Rc8 Rc9 Rc10 Rc11 Rc12 Rlt Rf0 Rf1 Rf2 Rf3 Rf4 Rf5 Rf6 Rf7 Rf8 Rf9 Rf10 Rf11 Rf12 Zc0 Zc1 Zc2 Zc3 Zc4 Zc5 Zc6 Zc7 Zc8 Zc9 Zc10 Zc11 Zc12 Zlt Fc0 Fc1 Fc2 Fc3 Fc4 Fc5 Fc6 Fc7 Fc8 Fc9 Fc10 Fc11 Fc12 Flt Ff0 Ff1 Ff2 Ff3 Ff4 Ff5 Ff6 Ff7 Ff8 Ff9 Ff10 Ff11 Ff12
      obtain ⟨R, F, H, O, D, B⟩ := HK.out
      have R2 : ((((u11w.setCell ⟨b9, 7, none⟩ (.slice na ds.length nd)).setCell ⟨b9, 8, none⟩ (.int .i64 0)).setCell ⟨b9, 9, none⟩ (.bool false)).setCell ⟨b9, 10, none⟩ (.slice ra 0 rc)).heap[w.heap.size + 1]? = some (.cells #[.int .i64 0, .int .i64 0, .int .i64 0, .int .i64 0, .slice none 0 0, .slice none 0 0, .slice none 0 0, .slice none 0 0, .int .i64 0, .bool false, .slice none 0 0, .slice none 0 0, .slice none 0 0] 49 (0, 0)) := row_otherCs (g := b9) (o := 7) (vs := [.slice na ds.length nd, .int .i64 0, .bool false, .slice ra 0 rc]) R (by omega)
      obtain ⟨r0, r1, r2, r3, r4, r5, r6, r7, r8, r9, r10, r11, r12⟩ := cells_fabric (put_fabric (y0 := .int .i64 g.1) (y1 := .int .i64 g.2.1) (y2 := .int .i64 g.2.2.1) (y3 := .int .i64 g.2.2.2) (y4 := .slice ha (newHouseI g.2.2.2).1.1.length hc) (y5 := .slice hb (newHouseI g.2.2.2).1.2.length hd) (y6 := .slice au ps.length cu) (y7 := .slice na ds.length nd) (y8 := .int .i64 0) (y9 := .bool false) (y10 := .slice ra 0 rc) (y11 := .slice none 0 0) (y12 := .slice none 0 0) R2)
      have FM := made_fab (w := w) (d := (ds, 0, false, [])) HI.out (owned_setCs (g := w.heap.size + 1) (o := 0) (vs := [.int .i64 g.1, .int .i64 g.2.1, .int .i64 g.2.2.1, .int .i64 g.2.2.2, .slice ha (newHouseI g.2.2.2).1.1.length hc, .slice hb (newHouseI g.2.2.2).1.2.length hd, .slice au ps.length cu, .slice na ds.length nd, .int .i64 0, .bool false, .slice ra 0 rc, .slice none 0 0, .slice none 0 0]) (owned_setCs (g := b9) (o := 7) (vs := [.slice na ds.length nd, .int .i64 0, .bool false, .slice ra 0 rc]) H (by omega)) (by omega)) (owned_setCs (g := w.heap.size + 1) (o := 0) (vs := [.int .i64 g.1, .int .i64 g.2.1, .int .i64 g.2.2.1, .int .i64 g.2.2.2, .slice ha (newHouseI g.2.2.2).1.1.length hc, .slice hb (newHouseI g.2.2.2).1.2.length hd, .slice au ps.length cu, .slice na ds.length nd, .int .i64 0, .bool false, .slice ra 0 rc, .slice none 0 0, .slice none 0 0]) (owned_setCs (g := b9) (o := 7) (vs := [.slice na ds.length nd, .int .i64 0, .bool false, .slice ra 0 rc]) O (by omega)) (by omega)) (owned_setCs (g := w.heap.size + 1) (o := 0) (vs := [.int .i64 g.1, .int .i64 g.2.1, .int .i64 g.2.2.1, .int .i64 g.2.2.2, .slice ha (newHouseI g.2.2.2).1.1.length hc, .slice hb (newHouseI g.2.2.2).1.2.length hd, .slice au ps.length cu, .slice na ds.length nd, .int .i64 0, .bool false, .slice ra 0 rc, .slice none 0 0, .slice none 0 0]) (owned_setCs (g := b9) (o := 7) (vs := [.slice na ds.length nd, .int .i64 0, .bool false, .slice ra 0 rc]) D (by omega)) (by omega)) (below_setCs0 (g := w.heap.size + 1) (o := 0) (vs := [.int .i64 g.1, .int .i64 g.2.1, .int .i64 g.2.2.1, .int .i64 g.2.2.2, .slice ha (newHouseI g.2.2.2).1.1.length hc, .slice hb (newHouseI g.2.2.2).1.2.length hd, .slice au ps.length cu, .slice na ds.length nd, .int .i64 0, .bool false, .slice ra 0 rc, .slice none 0 0, .slice none 0 0]) (below_setCs0 (g := b9) (o := 7) (vs := [.slice na ds.length nd, .int .i64 0, .bool false, .slice ra 0 rc]) B (by omega)) (by omega)) (by omega) (by omega) (by omega) (by omega) (by omega) (by omega)
      refine bodyPost_ret (v := .tuple #[.agg #[.int .i64 g.1, .int .i64 g.2.1, .int .i64 g.2.2.1, .int .i64 g.2.2.2, .slice ha (newHouseI g.2.2.2).1.1.length hc, .slice hb (newHouseI g.2.2.2).1.2.length hd, .slice au ps.length cu, .slice na ds.length nd, .int .i64 0, .bool false, .slice ra 0 rc, .slice none 0 0, .slice none 0 0], .int .i64 0]) (by simp [results, Tryz.results12, go_sem, r0, r1, r2, r3, r4, r5, r6, r7, r8, r9, r10, r11, r12]) rfl ⟨[.int .i64 g.1, .int .i64 g.2.1, .int .i64 g.2.2.1, .int .i64 g.2.2.2, .slice ha (newHouseI g.2.2.2).1.1.length hc, .slice hb (newHouseI g.2.2.2).1.2.length hd, .slice au ps.length cu, .slice na ds.length nd, .int .i64 0, .bool false, .slice ra 0 rc, .slice none 0 0, .slice none 0 0], ?_, ?_⟩
      ·rw [HNF.out, HQ.out]; rfl
      ·rw [HNF.out, HQ.out]; exact FM
     ·have zd : (kd != 0) = true := by simp [hz]
      have HZN : Hid (¬ kd = 0) := hz
      clear hz
      have HQ : Hid (newFabI g ps ds = (((0, 0, 0, 0), ([], []), [], ([], 0, false, []), [], []), kd)) := by
       have q := (fabC_go (ds := ds) HN.out HCG.out).trans ED.out
       unfold Hid
       rw [new_no1 (by rw [q]; first | decide | exact HZN.out), q]
      obtain ⟨Gc0, Gc1, Gc2, Gc3⟩ := cells_4 G
      have Glt := (Array.getElem?_eq_some_iff.1 G).1
      obtain ⟨Rc0, Rc1, Rc2, Rc3, Rc4, Rc5, Rc6, Rc7, Rc8, Rc9, Rc10, Rc11, Rc12⟩ := cells_fabric R
      have Rlt := (Array.getElem?_eq_some_iff.1 R).1
      obtain ⟨Rf0, Rf1, Rf2, Rf3, Rf4, Rf5, Rf6, Rf7, Rf8, Rf9, Rf10, Rf11, Rf12⟩ := froz_fabric R
      obtain ⟨Zc0, Zc1, Zc2, Zc3, Zc4, Zc5, Zc6, Zc7, Zc8, Zc9, Zc10, Zc11, Zc12⟩ := cells_fabric Z
      have Zlt := (Array.getElem?_eq_some_iff.1 Z).1
      obtain ⟨Fc0, Fc1, Fc2, Fc3, Fc4, Fc5, Fc6, Fc7, Fc8, Fc9, Fc10, Fc11, Fc12⟩ := cells_fabric F
      have Flt := (Array.getElem?_eq_some_iff.1 F).1
      have HK : Hid _ := And.intro R B
      clear G R Z F H O B
      go_wp2
      clear Gc0 Gc1 Gc2 Gc3 Glt Rc0 Rc1 Rc2 Rc3 Rc4 Rc5 Rc6 Rc7 Rc8 Rc9 Rc10 Rc11 Rc12 Rlt Rf0 Rf1 Rf2 Rf3 Rf4 Rf5 Rf6 Rf7 Rf8 Rf9 Rf10 Rf11 Rf12 Zc0 Zc1 Zc2 Zc3 Zc4 Zc5 Zc6 Zc7 Zc8 Zc9 Zc10 Zc11 Zc12 Zlt Fc0 Fc1 Fc2 Fc3 Fc4 Fc5 Fc6 Fc7 Fc8 Fc9 Fc10 Fc11 Fc12 Flt
      obtain ⟨r0, r1, r2, r3, r4, r5, r6, r7, r8, r9, r10, r11, r12⟩ := cells_fabric (put_fabric (y0 := .int .i64 0) (y1 := .int .i64 0) (y2 := .int .i64 0) (y3 := .int .i64 0) (y4 := .slice none 0 0) (y5 := .slice none 0 0) (y6 := .slice none 0 0) (y7 := .slice none 0 0) (y8 := .int .i64 0) (y9 := .bool false) (y10 := .slice none 0 0) (y11 := .slice none 0 0) (y12 := .slice none 0 0) HK.out.1)
      refine bodyPost_ret (v := .tuple #[.agg #[.int .i64 0, .int .i64 0, .int .i64 0, .int .i64 0, .slice none 0 0, .slice none 0 0, .slice none 0 0, .slice none 0 0, .int .i64 0, .bool false, .slice none 0 0, .slice none 0 0, .slice none 0 0], .int .i64 kd]) (by simp [results, Tryz.results12, go_sem, r0, r1, r2, r3, r4, r5, r6, r7, r8, r9, r10, r11, r12]) rfl ⟨[.int .i64 0, .int .i64 0, .int .i64 0, .int .i64 0, .slice none 0 0, .slice none 0 0, .slice none 0 0, .slice none 0 0, .int .i64 0, .bool false, .slice none 0 0, .slice none 0 0, .slice none 0 0], ?_, ?_⟩
      ·rw [HNF.out, HQ.out]; rfl
      ·rw [HNF.out, HQ.out]; exact ⟨own_zeroF _ _, below_setCs0 (g := w.heap.size + 1) (o := 0) (vs := [.int .i64 0, .int .i64 0, .int .i64 0, .int .i64 0, .slice none 0 0, .slice none 0 0, .slice none 0 0, .slice none 0 0, .int .i64 0, .bool false, .slice none 0 0, .slice none 0 0, .slice none 0 0]) HK.out.2 (by omega)⟩
  ·have zn : ((ps.length : Int) != g.1) = true := by simp [hn]
   have HN : Hid _ := hn
   clear hn
   have HQ : Hid (newFabI g ps ds = (((0, 0, 0, 0), ([], []), [], ([], 0, false, []), [], []), 1)) := by
    have q := fabC_no (ds := ds) HN.out
    unfold Hid
    rw [new_no1 (by rw [q]; first | decide | exact HZN.out), q]
   go_enter Tryz.func12, Tryz.ntmps12
   go_upto_region 2 with fail
   have G := heap_at w (.cells #[.int .i64 g.1, .int .i64 g.2.1, .int .i64 g.2.2.1, .int .i64 g.2.2.2] 38)
   have bz := box_below w (.cells #[.int .i64 g.1, .int .i64 g.2.1, .int .i64 g.2.2.1, .int .i64 g.2.2.2] 38)
   have zG := alloc_len w (.cells #[.int .i64 g.1, .int .i64 g.2.1, .int .i64 g.2.2.1, .int .i64 g.2.2.2] 38)
   replace B := below_step B bz
   clear bz
   generalize w.alloc (.cells #[.int .i64 g.1, .int .i64 g.2.1, .int .i64 g.2.2.1, .int .i64 g.2.2.2] 38) = u1w at B G zG ⊢
   have zGa := Nat.le_of_eq zG
   have zGb := Nat.le_of_eq zG.symm
   clear zG
   have R := heap_at u1w (.cells #[.int .i64 0, .int .i64 0, .int .i64 0, .int .i64 0, .slice none 0 0, .slice none 0 0, .slice none 0 0, .slice none 0 0, .int .i64 0, .bool false, .slice none 0 0, .slice none 0 0, .slice none 0 0] 49)
   have bz := box_below u1w (.cells #[.int .i64 0, .int .i64 0, .int .i64 0, .int .i64 0, .slice none 0 0, .slice none 0 0, .slice none 0 0, .slice none 0 0, .int .i64 0, .bool false, .slice none 0 0, .slice none 0 0, .slice none 0 0] 49)
   have zR := alloc_len u1w (.cells #[.int .i64 0, .int .i64 0, .int .i64 0, .int .i64 0, .slice none 0 0, .slice none 0 0, .slice none 0 0, .slice none 0 0, .int .i64 0, .bool false, .slice none 0 0, .slice none 0 0, .slice none 0 0] 49)
   rw [show u1w.heap.size = w.heap.size + 1 from by omega] at R
   replace B := below_step B bz
   replace G := row_keep bz G
   clear bz
   generalize u1w.alloc (.cells #[.int .i64 0, .int .i64 0, .int .i64 0, .int .i64 0, .slice none 0 0, .slice none 0 0, .slice none 0 0, .slice none 0 0, .int .i64 0, .bool false, .slice none 0 0, .slice none 0 0, .slice none 0 0] 49) = u2w at B G R zR ⊢
   have zRa := Nat.le_of_eq zR
   have zRb := Nat.le_of_eq zR.symm
   clear zR
   have Z := heap_at u2w (.cells #[.int .i64 0, .int .i64 0, .int .i64 0, .int .i64 0, .slice none 0 0, .slice none 0 0, .slice none 0 0, .slice none 0 0, .int .i64 0, .bool false, .slice none 0 0, .slice none 0 0, .slice none 0 0] 49)
   have bz := box_below u2w (.cells #[.int .i64 0, .int .i64 0, .int .i64 0, .int .i64 0, .slice none 0 0, .slice none 0 0, .slice none 0 0, .slice none 0 0, .int .i64 0, .bool false, .slice none 0 0, .slice none 0 0, .slice none 0 0] 49)
   have zZ := alloc_len u2w (.cells #[.int .i64 0, .int .i64 0, .int .i64 0, .int .i64 0, .slice none 0 0, .slice none 0 0, .slice none 0 0, .slice none 0 0, .int .i64 0, .bool false, .slice none 0 0, .slice none 0 0, .slice none 0 0] 49)
   rw [show u2w.heap.size = w.heap.size + 2 from by omega] at Z
   replace B := below_step B bz
   replace G := row_keep bz G
   replace R := row_keep bz R
   clear bz
   generalize u2w.alloc (.cells #[.int .i64 0, .int .i64 0, .int .i64 0, .int .i64 0, .slice none 0 0, .slice none 0 0, .slice none 0 0, .slice none 0 0, .int .i64 0, .bool false, .slice none 0 0, .slice none 0 0, .slice none 0 0] 49) = u3w at B G R Z zZ ⊢
   have zZa := Nat.le_of_eq zZ
   have zZb := Nat.le_of_eq zZ.symm
   clear zZ
   obtain ⟨Gc0, Gc1, Gc2, Gc3⟩ := cells_4 G
   have Glt := (Array.getElem?_eq_some_iff.1 G).1
   obtain ⟨Rc0, Rc1, Rc2, Rc3, Rc4, Rc5, Rc6, Rc7, Rc8, Rc9, Rc10, Rc11, Rc12⟩ := cells_fabric R
   have Rlt := (Array.getElem?_eq_some_iff.1 R).1
   obtain ⟨Zc0, Zc1, Zc2, Zc3, Zc4, Zc5, Zc6, Zc7, Zc8, Zc9, Zc10, Zc11, Zc12⟩ := cells_fabric Z
   have Zlt := (Array.getElem?_eq_some_iff.1 Z).1
   go_wp2_with fail
   clear Gc0 Gc1 Gc2 Gc3 Glt Rc0 Rc1 Rc2 Rc3 Rc4 Rc5 Rc6 Rc7 Rc8 Rc9 Rc10 Rc11 Rc12 Rlt Zc0 Zc1 Zc2 Zc3 Zc4 Zc5 Zc6 Zc7 Zc8 Zc9 Zc10 Zc11 Zc12 Zlt
   refine (HCC.out _).mono ?_
   rintro e u4w ⟨rfl, bq⟩
   have tu4w : u3w.heap.size ≤ u4w.heap.size := bq.size
   replace B := below_step B bq
   replace G := row_keep bq G
   replace R := row_keep bq R
   replace Z := row_keep bq Z
   clear bq
   obtain ⟨Gc0, Gc1, Gc2, Gc3⟩ := cells_4 G
   have Glt := (Array.getElem?_eq_some_iff.1 G).1
   obtain ⟨Rc0, Rc1, Rc2, Rc3, Rc4, Rc5, Rc6, Rc7, Rc8, Rc9, Rc10, Rc11, Rc12⟩ := cells_fabric R
   have Rlt := (Array.getElem?_eq_some_iff.1 R).1
   obtain ⟨Rf0, Rf1, Rf2, Rf3, Rf4, Rf5, Rf6, Rf7, Rf8, Rf9, Rf10, Rf11, Rf12⟩ := froz_fabric R
   obtain ⟨Zc0, Zc1, Zc2, Zc3, Zc4, Zc5, Zc6, Zc7, Zc8, Zc9, Zc10, Zc11, Zc12⟩ := cells_fabric Z
   have Zlt := (Array.getElem?_eq_some_iff.1 Z).1
   have HK : Hid _ := And.intro R B
   clear G R Z B
   go_wp2
   clear Gc0 Gc1 Gc2 Gc3 Glt Rc0 Rc1 Rc2 Rc3 Rc4 Rc5 Rc6 Rc7 Rc8 Rc9 Rc10 Rc11 Rc12 Rlt Rf0 Rf1 Rf2 Rf3 Rf4 Rf5 Rf6 Rf7 Rf8 Rf9 Rf10 Rf11 Rf12 Zc0 Zc1 Zc2 Zc3 Zc4 Zc5 Zc6 Zc7 Zc8 Zc9 Zc10 Zc11 Zc12 Zlt
   obtain ⟨r0, r1, r2, r3, r4, r5, r6, r7, r8, r9, r10, r11, r12⟩ := cells_fabric (put_fabric (y0 := .int .i64 0) (y1 := .int .i64 0) (y2 := .int .i64 0) (y3 := .int .i64 0) (y4 := .slice none 0 0) (y5 := .slice none 0 0) (y6 := .slice none 0 0) (y7 := .slice none 0 0) (y8 := .int .i64 0) (y9 := .bool false) (y10 := .slice none 0 0) (y11 := .slice none 0 0) (y12 := .slice none 0 0) HK.out.1)
   refine bodyPost_ret (v := .tuple #[.agg #[.int .i64 0, .int .i64 0, .int .i64 0, .int .i64 0, .slice none 0 0, .slice none 0 0, .slice none 0 0, .slice none 0 0, .int .i64 0, .bool false, .slice none 0 0, .slice none 0 0, .slice none 0 0], .int .i64 1]) (by simp [results, Tryz.results12, go_sem, r0, r1, r2, r3, r4, r5, r6, r7, r8, r9, r10, r11, r12]) rfl ⟨[.int .i64 0, .int .i64 0, .int .i64 0, .int .i64 0, .slice none 0 0, .slice none 0 0, .slice none 0 0, .slice none 0 0, .int .i64 0, .bool false, .slice none 0 0, .slice none 0 0, .slice none 0 0], ?_, ?_⟩
   ·rw [HNF.out, HQ.out]; rfl
   ·rw [HNF.out, HQ.out]; exact ⟨own_zeroF _ _, below_setCs0 (g := w.heap.size + 1) (o := 0) (vs := [.int .i64 0, .int .i64 0, .int .i64 0, .int .i64 0, .slice none 0 0, .slice none 0 0, .slice none 0 0, .slice none 0 0, .int .i64 0, .bool false, .slice none 0 0, .slice none 0 0, .slice none 0 0]) HK.out.2 (by omega)⟩
 ·have zk : (kc != 0) = true := by simp [hz]
  have HC0 : Hid (¬ codeI g.1 g.2.1 g.2.2.1 g.2.2.2 = 0) := by unfold Hid; rw [EC.out]; exact hz
  clear hz
  have HQ : Hid (newFabI g ps ds = (((0, 0, 0, 0), ([], []), [], ([], 0, false, []), [], []), 1)) := by
   have q := fabC_cfg (ps := ps) (ds := ds) HC0.out
   unfold Hid
   rw [new_no1 (by rw [q]; first | decide | exact HZN.out), q]
  go_enter Tryz.func12, Tryz.ntmps12
  go_upto_region 2 with fail
  have G := heap_at w (.cells #[.int .i64 g.1, .int .i64 g.2.1, .int .i64 g.2.2.1, .int .i64 g.2.2.2] 38)
  have bz := box_below w (.cells #[.int .i64 g.1, .int .i64 g.2.1, .int .i64 g.2.2.1, .int .i64 g.2.2.2] 38)
  have zG := alloc_len w (.cells #[.int .i64 g.1, .int .i64 g.2.1, .int .i64 g.2.2.1, .int .i64 g.2.2.2] 38)
  replace B := below_step B bz
  clear bz
  generalize w.alloc (.cells #[.int .i64 g.1, .int .i64 g.2.1, .int .i64 g.2.2.1, .int .i64 g.2.2.2] 38) = u1w at B G zG ⊢
  have zGa := Nat.le_of_eq zG
  have zGb := Nat.le_of_eq zG.symm
  clear zG
  have R := heap_at u1w (.cells #[.int .i64 0, .int .i64 0, .int .i64 0, .int .i64 0, .slice none 0 0, .slice none 0 0, .slice none 0 0, .slice none 0 0, .int .i64 0, .bool false, .slice none 0 0, .slice none 0 0, .slice none 0 0] 49)
  have bz := box_below u1w (.cells #[.int .i64 0, .int .i64 0, .int .i64 0, .int .i64 0, .slice none 0 0, .slice none 0 0, .slice none 0 0, .slice none 0 0, .int .i64 0, .bool false, .slice none 0 0, .slice none 0 0, .slice none 0 0] 49)
  have zR := alloc_len u1w (.cells #[.int .i64 0, .int .i64 0, .int .i64 0, .int .i64 0, .slice none 0 0, .slice none 0 0, .slice none 0 0, .slice none 0 0, .int .i64 0, .bool false, .slice none 0 0, .slice none 0 0, .slice none 0 0] 49)
  rw [show u1w.heap.size = w.heap.size + 1 from by omega] at R
  replace B := below_step B bz
  replace G := row_keep bz G
  clear bz
  generalize u1w.alloc (.cells #[.int .i64 0, .int .i64 0, .int .i64 0, .int .i64 0, .slice none 0 0, .slice none 0 0, .slice none 0 0, .slice none 0 0, .int .i64 0, .bool false, .slice none 0 0, .slice none 0 0, .slice none 0 0] 49) = u2w at B G R zR ⊢
  have zRa := Nat.le_of_eq zR
  have zRb := Nat.le_of_eq zR.symm
  clear zR
  have Z := heap_at u2w (.cells #[.int .i64 0, .int .i64 0, .int .i64 0, .int .i64 0, .slice none 0 0, .slice none 0 0, .slice none 0 0, .slice none 0 0, .int .i64 0, .bool false, .slice none 0 0, .slice none 0 0, .slice none 0 0] 49)
  have bz := box_below u2w (.cells #[.int .i64 0, .int .i64 0, .int .i64 0, .int .i64 0, .slice none 0 0, .slice none 0 0, .slice none 0 0, .slice none 0 0, .int .i64 0, .bool false, .slice none 0 0, .slice none 0 0, .slice none 0 0] 49)
  have zZ := alloc_len u2w (.cells #[.int .i64 0, .int .i64 0, .int .i64 0, .int .i64 0, .slice none 0 0, .slice none 0 0, .slice none 0 0, .slice none 0 0, .int .i64 0, .bool false, .slice none 0 0, .slice none 0 0, .slice none 0 0] 49)
  rw [show u2w.heap.size = w.heap.size + 2 from by omega] at Z
  replace B := below_step B bz
  replace G := row_keep bz G
  replace R := row_keep bz R
  clear bz
  generalize u2w.alloc (.cells #[.int .i64 0, .int .i64 0, .int .i64 0, .int .i64 0, .slice none 0 0, .slice none 0 0, .slice none 0 0, .slice none 0 0, .int .i64 0, .bool false, .slice none 0 0, .slice none 0 0, .slice none 0 0] 49) = u3w at B G R Z zZ ⊢
  have zZa := Nat.le_of_eq zZ
  have zZb := Nat.le_of_eq zZ.symm
  clear zZ
  obtain ⟨Gc0, Gc1, Gc2, Gc3⟩ := cells_4 G
  have Glt := (Array.getElem?_eq_some_iff.1 G).1
  obtain ⟨Rc0, Rc1, Rc2, Rc3, Rc4, Rc5, Rc6, Rc7, Rc8, Rc9, Rc10, Rc11, Rc12⟩ := cells_fabric R
  have Rlt := (Array.getElem?_eq_some_iff.1 R).1
  obtain ⟨Zc0, Zc1, Zc2, Zc3, Zc4, Zc5, Zc6, Zc7, Zc8, Zc9, Zc10, Zc11, Zc12⟩ := cells_fabric Z
  have Zlt := (Array.getElem?_eq_some_iff.1 Z).1
  go_wp2_with fail
  clear Gc0 Gc1 Gc2 Gc3 Glt Rc0 Rc1 Rc2 Rc3 Rc4 Rc5 Rc6 Rc7 Rc8 Rc9 Rc10 Rc11 Rc12 Rlt Zc0 Zc1 Zc2 Zc3 Zc4 Zc5 Zc6 Zc7 Zc8 Zc9 Zc10 Zc11 Zc12 Zlt
  refine (HCC.out _).mono ?_
  rintro e u4w ⟨rfl, bq⟩
  have tu4w : u3w.heap.size ≤ u4w.heap.size := bq.size
  replace B := below_step B bq
  replace G := row_keep bq G
  replace R := row_keep bq R
  replace Z := row_keep bq Z
  clear bq
  obtain ⟨Gc0, Gc1, Gc2, Gc3⟩ := cells_4 G
  have Glt := (Array.getElem?_eq_some_iff.1 G).1
  obtain ⟨Rc0, Rc1, Rc2, Rc3, Rc4, Rc5, Rc6, Rc7, Rc8, Rc9, Rc10, Rc11, Rc12⟩ := cells_fabric R
  have Rlt := (Array.getElem?_eq_some_iff.1 R).1
  obtain ⟨Rf0, Rf1, Rf2, Rf3, Rf4, Rf5, Rf6, Rf7, Rf8, Rf9, Rf10, Rf11, Rf12⟩ := froz_fabric R
  obtain ⟨Zc0, Zc1, Zc2, Zc3, Zc4, Zc5, Zc6, Zc7, Zc8, Zc9, Zc10, Zc11, Zc12⟩ := cells_fabric Z
  have Zlt := (Array.getElem?_eq_some_iff.1 Z).1
  have HK : Hid _ := And.intro R B
  clear G R Z B
  go_wp2
  clear Gc0 Gc1 Gc2 Gc3 Glt Rc0 Rc1 Rc2 Rc3 Rc4 Rc5 Rc6 Rc7 Rc8 Rc9 Rc10 Rc11 Rc12 Rlt Rf0 Rf1 Rf2 Rf3 Rf4 Rf5 Rf6 Rf7 Rf8 Rf9 Rf10 Rf11 Rf12 Zc0 Zc1 Zc2 Zc3 Zc4 Zc5 Zc6 Zc7 Zc8 Zc9 Zc10 Zc11 Zc12 Zlt
  obtain ⟨r0, r1, r2, r3, r4, r5, r6, r7, r8, r9, r10, r11, r12⟩ := cells_fabric (put_fabric (y0 := .int .i64 0) (y1 := .int .i64 0) (y2 := .int .i64 0) (y3 := .int .i64 0) (y4 := .slice none 0 0) (y5 := .slice none 0 0) (y6 := .slice none 0 0) (y7 := .slice none 0 0) (y8 := .int .i64 0) (y9 := .bool false) (y10 := .slice none 0 0) (y11 := .slice none 0 0) (y12 := .slice none 0 0) HK.out.1)
  refine bodyPost_ret (v := .tuple #[.agg #[.int .i64 0, .int .i64 0, .int .i64 0, .int .i64 0, .slice none 0 0, .slice none 0 0, .slice none 0 0, .slice none 0 0, .int .i64 0, .bool false, .slice none 0 0, .slice none 0 0, .slice none 0 0], .int .i64 1]) (by simp [results, Tryz.results12, go_sem, r0, r1, r2, r3, r4, r5, r6, r7, r8, r9, r10, r11, r12]) rfl ⟨[.int .i64 0, .int .i64 0, .int .i64 0, .int .i64 0, .slice none 0 0, .slice none 0 0, .slice none 0 0, .slice none 0 0, .int .i64 0, .bool false, .slice none 0 0, .slice none 0 0, .slice none 0 0], ?_, ?_⟩
  ·rw [HNF.out, HQ.out]; rfl
  ·rw [HNF.out, HQ.out]; exact ⟨own_zeroF _ _, below_setCs0 (g := w.heap.size + 1) (o := 0) (vs := [.int .i64 0, .int .i64 0, .int .i64 0, .int .i64 0, .slice none 0 0, .slice none 0 0, .slice none 0 0, .slice none 0 0, .int .i64 0, .bool false, .slice none 0 0, .slice none 0 0, .slice none 0 0]) HK.out.2 (by omega)⟩
end Go.Proofs.YthnfkacboijneaaGreatDoor
