import Derived.Test.YtiiipclglngdhaaGreatDoorP00Box
import Derived.Test.YtiiipclglngdhaaGreatDoorP13StoreC
import Derived.Test.YtiiipclglngdhaaGreatDoorP28Forgot
import Derived.Test.YtiiipclglngdhaaGreatDoorP31AllFit
import Derived.Test.YtiiipclglngdhaaGreatDoorP03Bits
import Derived.Test.YtiiipclglngdhaaGreatDoorP09MsgMarks
import Derived.Test.YtiiipclglngdhaaGreatDoorP29RepInt64SS
namespace Go.Proofs.YtiiipclglngdhaaGreatDoor
set_option maxHeartbeats 8000000
set_option maxRecDepth 20000
open Go.ChangeShapes Go.WideShapes Go.ChangeAt Go.RowKit
set_option linter.unusedVariables false
def holdE (x : EntryD) : List Int := if entB x then hoI x.1 x.2.1 else []
def entIn (c : Int) (x : EntryD) : Bool := agentIn c x.2.2.2.2.1 && (holdE x).all (coreIn c)
theorem hold_in (x : EntryD) : ∀ k ∈ holdE x, In64 k := (hold_small x).2
theorem fitsE1_any (c s y l k : Int) (g : Nat) (w : World) (hc : codeI c s y l = 0) (G : w.heap[g]? = some (.cells #[.int .i64 c, .int .i64 s, .int .i64 y, .int .i64 l] 38 (0, 0))) :
    Calls Tryz.prog 133 #[.int .i64 k, .pointer (some ⟨g, 0, none⟩)] w fun e w' => e = .returned (.bool (!coreIn c k)) ∧ Below w.heap.size w w' := by
 have H1 := hasCore_any c s y l k w hc
 generalize coreIn c k = q at H1 ⊢
 obtain ⟨y0, y1, y2, y3⟩ := cells_4 G
 clear hc G
 go_enter Tryz.func133, Tryz.ntmps133
 go_wp2_with fail
 refine H1.mono ?_
 rintro e w1 ⟨rfl, b1⟩
 clear y0 y1 y2 y3
 go_wp2
 go_ret
 exact ⟨rfl, b1⟩
theorem idxFnI (c s y l : Int) (g : Nat) (a : Option Addr) (xs : List Int) (cap : Nat) (w : World) (hc : codeI c s y l = 0) (G : w.heap[g]? = some (.cells #[.int .i64 c, .int .i64 s, .int .i64 y, .int .i64 l] 38 (0, 0))) (h : SlRd intR w a xs) (hm : xs.length ≤ maxLen) :
    Calls Tryz.prog 165 #[.slice a xs.length cap, .func (.func 133) #[] #[.pointer (some ⟨g, 0, none⟩)]] w fun e w' => e = .returned (.int .i64 (badP (coreIn c) xs)) ∧ Below w.heap.size w w' := by
 have hm' : xs.length ≤ 9223372036854775807 := hm
 have H0 : Hid (∀ W, Below w.heap.size w W → SlRd intR W a xs) := fun W hb => slrd_keep h fun k hk => hb.block k hk
 have HPP : Hid (∀ k W, Below w.heap.size w W → Calls Tryz.prog 133 #[.int .i64 k, .pointer (some ⟨g, 0, none⟩)] W fun e w' => e = .returned (.bool (!coreIn c k)) ∧ Below W.heap.size W w') := fun k W hb => fitsE1_any c s y l k g W hc (row_keep hb G)
 clear h hm hc G
 go_enter Tryz.func165, Tryz.ntmps165
 go_wp2
 go_loopw [8] (fun i wr => ∃ k : Nat, k ≤ xs.length ∧ i = .int .i64 k ∧ (∀ j v, j < k → xs[j]? = some v → coreIn c v = true) ∧ Below w.heap.size w wr) (fun i _ => xs.length - (intOf i).toNat)
 case atStart => exact ⟨0, Nat.zero_le _, rfl, fun j v hj => by omega, Below.refl _ _⟩
 case round =>
  obtain ⟨k, hk, rfl, hno, BB⟩ := hrel
  by_cases hlt : k < xs.length
  ·have hlt' : (k : Int) < (xs.length : Int) := by omega
   obtain ⟨x, hx⟩ : ∃ x, xs[k]? = some x := ⟨_, List.getElem?_eq_getElem hlt⟩
   obtain ⟨b, off, cs, rfl, ⟨rfl, -⟩, hcell⟩ := slrd_at (H0.out _ BB) hx
   have HC := HPP.out x wr BB
   have x0 := hcell 0 _ rfl
   rw [show off + (k * intR.size + 0) = off + k from by rw [show intR.size = 1 from rfl]; omega] at x0
   have HX : Hid (xs[k]? = some x) := hx
   clear hx hcell
   cases hb : coreIn c x
   ·have HR : Hid (badP (coreIn c) xs = k) := badP_at HX.out hb hno
    rw [hb] at HC
    go_wp2_with fail
    refine HC.mono ?_
    rintro e w2 ⟨rfl, b2⟩
    replace BB := below_step BB b2
    clear b2 x0
    go_wp2
    go_ret
    exact ⟨ret_int HR.out.symm, BB⟩
   ·rw [hb] at HC
    go_wp2_with fail
    refine HC.mono ?_
    rintro e w2 ⟨rfl, b2⟩
    replace BB := below_step BB b2
    clear b2 x0
    go_wp2
    go_roundw
    case rel =>
     refine ⟨k + 1, by omega, by go_num, fun j v hj hv => ?_, BB⟩
     by_cases he : j < k
     ·exact hno j v he hv
     ·have : j = k := by omega
      subst this
      rw [HX.out] at hv
      cases hv
      exact hb
    case measure => simp [intOf]; omega
  ·have HR : Hid (badP (coreIn c) xs = -1) := badP_no fun j v hv => hno j v (by have := (List.getElem?_eq_some_iff.1 hv).1; omega) hv
   go_wp2
   go_ret
   exact ⟨ret_int HR.out.symm, BB⟩
theorem conFnI (c s y l : Int) (g : Nat) (a : Option Addr) (xs : List Int) (cap : Nat) (w : World) (hc : codeI c s y l = 0) (G : w.heap[g]? = some (.cells #[.int .i64 c, .int .i64 s, .int .i64 y, .int .i64 l] 38 (0, 0))) (h : SlRd intR w a xs) (hm : xs.length ≤ maxLen) :
    Calls Tryz.prog 131 #[.slice a xs.length cap, .func (.func 133) #[] #[.pointer (some ⟨g, 0, none⟩)]] w fun e w' => e = .returned (.bool (!xs.all (coreIn c))) ∧ Below w.heap.size w w' := by
 have HI := idxFnI c s y l g a xs cap w hc G h hm
 have hab := badP_all (coreIn c) xs
 clear h hm hc G
 generalize badP (coreIn c) xs = q at HI hab
 generalize xs.all (coreIn c) = z at hab ⊢
 subst hab
 by_cases hq : q < 0
 ·have hq2 : ¬ (0 ≤ q) := by omega
  go_enter Tryz.func131, Tryz.ntmps131
  go_wp2_with fail
  refine HI.mono ?_
  rintro e w1 ⟨rfl, b1⟩
  go_wp2
  go_ret
  exact ⟨by simp [hq], b1⟩
 ·have hq2 : 0 ≤ q := by omega
  go_enter Tryz.func131, Tryz.ntmps131
  go_wp2_with fail
  refine HI.mono ?_
  rintro e w1 ⟨rfl, b1⟩
  go_wp2
  go_ret
  exact ⟨by simp [hq], b1⟩
theorem fitsEntry_any (c s y l : Int) (x : EntryD) (xa : Option Addr) (xc : Nat) (w : World) (hc : codeI c s y l = 0) (h : SlRd intR w xa x.2.2.2.2.2.2.2) :
    Calls Tryz.prog 101 #[.agg #[.int .i64 c, .int .i64 s, .int .i64 y, .int .i64 l], .agg #[.int .i64 x.1, .int .i64 x.2.1, .bool x.2.2.1, .int .i64 x.2.2.2.1, .int .i64 x.2.2.2.2.1, .int .i64 x.2.2.2.2.2.1, .int .i64 x.2.2.2.2.2.2.1, .slice xa x.2.2.2.2.2.2.2.length xc]] w fun e w' => e = .returned (.bool (entIn c x)) ∧ Below w.heap.size w w' := by
 have H1 : Hid (∀ W, Calls Tryz.prog 130 #[.agg #[.int .i64 c, .int .i64 s, .int .i64 y, .int .i64 l], .int .i64 x.2.2.2.2.1] W fun e w' => e = .returned (.bool (agentIn c x.2.2.2.2.1)) ∧ Below W.heap.size W w') := fun W => hasAgent_any c s y l x.2.2.2.2.1 W hc
 have H2 : Hid (∀ W, Below w.heap.size w W → Calls Tryz.prog 132 #[.agg #[.int .i64 x.1, .int .i64 x.2.1, .bool x.2.2.1, .int .i64 x.2.2.2.1, .int .i64 x.2.2.2.2.1, .int .i64 x.2.2.2.2.2.1, .int .i64 x.2.2.2.2.2.2.1, .slice xa x.2.2.2.2.2.2.2.length xc]] W fun e w' => ∃ v, e = .returned v ∧ Made W w' v (holdE x)) := fun W hb => implHolders_any x.1 x.2.1 x.2.2.2.1 x.2.2.2.2.1 x.2.2.2.2.2.1 x.2.2.2.2.2.2.1 x.2.2.1 x.2.2.2.2.2.2.2 xa xc W (slrd_next h hb)
 unfold entIn
 generalize agentIn c x.2.2.2.2.1 = q1 at H1 ⊢
 clear h
 have B := Below.refl w.heap.size w
 go_enter Tryz.func101, Tryz.ntmps101
 go_upto_region 1 with fail
 have X := heap_at w (.cells #[.int .i64 c, .int .i64 s, .int .i64 y, .int .i64 l] 38)
 have bz := box_below w (.cells #[.int .i64 c, .int .i64 s, .int .i64 y, .int .i64 l] 38)
 have zX := alloc_len w (.cells #[.int .i64 c, .int .i64 s, .int .i64 y, .int .i64 l] 38)
 replace B := below_step B bz
 clear bz
 generalize w.alloc (.cells #[.int .i64 c, .int .i64 s, .int .i64 y, .int .i64 l] 38) = u1w at B X zX ⊢
 have zXa := Nat.le_of_eq zX
 have zXb := Nat.le_of_eq zX.symm
 clear zX
 have E := heap_at u1w (.cells #[.int .i64 x.1, .int .i64 x.2.1, .bool x.2.2.1, .int .i64 x.2.2.2.1, .int .i64 x.2.2.2.2.1, .int .i64 x.2.2.2.2.2.1, .int .i64 x.2.2.2.2.2.2.1, .slice xa x.2.2.2.2.2.2.2.length xc] 113)
 have bz := box_below u1w (.cells #[.int .i64 x.1, .int .i64 x.2.1, .bool x.2.2.1, .int .i64 x.2.2.2.1, .int .i64 x.2.2.2.2.1, .int .i64 x.2.2.2.2.2.1, .int .i64 x.2.2.2.2.2.2.1, .slice xa x.2.2.2.2.2.2.2.length xc] 113)
 have zE := alloc_len u1w (.cells #[.int .i64 x.1, .int .i64 x.2.1, .bool x.2.2.1, .int .i64 x.2.2.2.1, .int .i64 x.2.2.2.2.1, .int .i64 x.2.2.2.2.2.1, .int .i64 x.2.2.2.2.2.2.1, .slice xa x.2.2.2.2.2.2.2.length xc] 113)
 rw [show u1w.heap.size = w.heap.size + 1 from by omega] at E
 replace B := below_step B bz
 replace X := row_keep bz X
 clear bz
 generalize u1w.alloc (.cells #[.int .i64 x.1, .int .i64 x.2.1, .bool x.2.2.1, .int .i64 x.2.2.2.1, .int .i64 x.2.2.2.2.1, .int .i64 x.2.2.2.2.2.1, .int .i64 x.2.2.2.2.2.2.1, .slice xa x.2.2.2.2.2.2.2.length xc] 113) = u2w at B X E zE ⊢
 have zEa := Nat.le_of_eq zE
 have zEb := Nat.le_of_eq zE.symm
 clear zE
 obtain ⟨Xc0, Xc1, Xc2, Xc3⟩ := cells_4 X
 have Xlt := (Array.getElem?_eq_some_iff.1 X).1
 obtain ⟨Ec0, Ec1, Ec2, Ec3, Ec4, Ec5, Ec6, Ec7⟩ := cells_8 E
 have Elt := (Array.getElem?_eq_some_iff.1 E).1
 go_wp2_with fail
 clear Xc0 Xc1 Xc2 Xc3 Xlt Ec0 Ec1 Ec2 Ec3 Ec4 Ec5 Ec6 Ec7 Elt
 refine (H1.out _).mono ?_
 rintro e u3w ⟨rfl, bq⟩
 have tu3w : u2w.heap.size ≤ u3w.heap.size := bq.size
 replace B := below_step B bq
 replace X := row_keep bq X
 replace E := row_keep bq E
 clear bq
 cases q1
 ·skip
  obtain ⟨Xc0, Xc1, Xc2, Xc3⟩ := cells_4 X
  have Xlt := (Array.getElem?_eq_some_iff.1 X).1
  obtain ⟨Ec0, Ec1, Ec2, Ec3, Ec4, Ec5, Ec6, Ec7⟩ := cells_8 E
  have Elt := (Array.getElem?_eq_some_iff.1 E).1
  have HB : Hid _ := B
  clear B X E
  go_wp2
  go_ret
  exact ⟨rfl, HB.out⟩
 ·skip
  obtain ⟨Xc0, Xc1, Xc2, Xc3⟩ := cells_4 X
  have Xlt := (Array.getElem?_eq_some_iff.1 X).1
  obtain ⟨Ec0, Ec1, Ec2, Ec3, Ec4, Ec5, Ec6, Ec7⟩ := cells_8 E
  have Elt := (Array.getElem?_eq_some_iff.1 E).1
  go_wp2_with fail
  clear Xc0 Xc1 Xc2 Xc3 Xlt Ec0 Ec1 Ec2 Ec3 Ec4 Ec5 Ec6 Ec7 Elt
  refine (H2.out _ B).mono ?_
  rintro e u4w ⟨v, rfl, mm⟩
  have mr := madeR_ints mm (hold_in x)
  obtain ⟨va, vc, rv, vl1, vl2, vr⟩ := intsR.own_rd mr.1
  simp only [List.cons.injEq, and_true] at rv
  obtain rfl := rv
  have mb := mr.2
  clear mm mr
  replace B := below_step B mb
  replace X := row_keep mb X
  replace E := row_keep mb E
  clear mb
  obtain ⟨Xc0, Xc1, Xc2, Xc3⟩ := cells_4 X
  have Xlt := (Array.getElem?_eq_some_iff.1 X).1
  obtain ⟨Ec0, Ec1, Ec2, Ec3, Ec4, Ec5, Ec6, Ec7⟩ := cells_8 E
  have Elt := (Array.getElem?_eq_some_iff.1 E).1
  go_wp2_with fail
  clear Xc0 Xc1 Xc2 Xc3 Xlt Ec0 Ec1 Ec2 Ec3 Ec4 Ec5 Ec6 Ec7 Elt
  refine (conFnI c s y l w.heap.size va (holdE x) vc _ hc X vr (Nat.le_trans vl1 vl2)).mono ?_
  rintro e u5w ⟨rfl, bq⟩
  replace B := below_step B bq
  replace X := row_keep bq X
  replace E := row_keep bq E
  clear bq
  obtain ⟨Xc0, Xc1, Xc2, Xc3⟩ := cells_4 X
  have Xlt := (Array.getElem?_eq_some_iff.1 X).1
  obtain ⟨Ec0, Ec1, Ec2, Ec3, Ec4, Ec5, Ec6, Ec7⟩ := cells_8 E
  have Elt := (Array.getElem?_eq_some_iff.1 E).1
  have HB : Hid _ := B
  clear B X E
  go_wp2
  go_ret
  exact ⟨by simp, HB.out⟩
theorem szDescs_u : SzC 38 descsR descsM cell1 := by
 rintro cs x left w ⟨a, cap, rfl, l1, l2, l3⟩ h0 h1
 exact szDescS_rep a x cap left w l3 h0 h1 (Nat.le_trans l1 l2)
theorem toDescs_u : ToC 53 descsR descsM cell1 := by
 rintro cs x w ⟨a, cap, rfl, l1, l2, l3⟩ hm
 refine (toDescS_rep a x cap w l3 hm).mono ?_
 rintro e w' ⟨v, rfl, mm⟩
 exact ⟨[v], rfl, mm⟩
theorem eqDescs_u : EqC 69 descsR descsM cell1 := by
 rintro cs ds x w ⟨a, cap, rfl, l1, l2, l3⟩ ⟨b, cp, rfl, k1, k2, k3⟩ hm
 exact eqDescS_rep a b x cap cp w l3 k3 (Nat.le_trans hm (by decide))
abbrev DmaD := List DescD × Int × Bool × List (List Int)
abbrev dmaR : Rep DmaD := prodR descsR (prodR intR (prodR boolR rowsR))
abbrev dmaM : Mk DmaD := prodM descsM (prodM intM (prodM boolM rowsM))
theorem len1dma {l : List Value} (h : l.length = 1) : ∃ a0, l = [a0] := by
 match l, h with
 | [a0], _ => exact ⟨a0, rfl⟩
theorem dma_rd {w : World} {cs : List Value} {x : DmaD} (h : dmaR.rd w cs x) : ∃ v0 v3, cs = [v0, .int .i64 x.2.1, .bool x.2.2.1, v3] ∧ descsR.rd w [v0] x.1 ∧ In64 x.2.1 ∧ True ∧ rowsR.rd w [v3] x.2.2.2 := by
 obtain ⟨c0, e0, rfl, h0, ⟨c1, e1, rfl, ⟨rfl, i1⟩, ⟨c2, e2, rfl, rfl, h3⟩⟩⟩ := h
 obtain ⟨v0, rfl⟩ := len1dma (descsR.rd_len h0)
 obtain ⟨v3, rfl⟩ := len1dma (rowsR.rd_len h3)
 exact ⟨v0, v3, rfl, h0, i1, trivial, h3⟩
theorem cells_dma {w : World} {g : Nat} {x0 x1 x2 x3 : Value} {t : TypeId} (h : w.heap[g]? = some (.cells #[x0, x1, x2, x3] t (0, 0))) : w.cell? ⟨g, 0, none⟩ = some x0 ∧ w.cell? ⟨g, 1, none⟩ = some x1 ∧ w.cell? ⟨g, 2, none⟩ = some x2 ∧ w.cell? ⟨g, 3, none⟩ = some x3 :=
 ⟨by rw [cell_of_row w g 0 _ t (0, 0) h]; rfl, by rw [cell_of_row w g 1 _ t (0, 0) h]; rfl, by rw [cell_of_row w g 2 _ t (0, 0) h]; rfl, by rw [cell_of_row w g 3 _ t (0, 0) h]; rfl⟩
theorem szDma_u : SzC 14 dmaR dmaM aggV := by
 intro cs x left w h h0 h1
 obtain ⟨v0, v3, rfl, r0, -, -, r3⟩ := dma_rd h
 clear h
 rw [show dmaM.bk x = descsM.bk x.1 + (0 + (0 + rowsM.bk x.2.2.2)) from rfl]
 change Calls Tryz.prog 14 #[.agg #[v0, .int .i64 x.2.1, .bool x.2.2.1, v3], .int .i64 left] w _
 have C0 : Hid (∀ L W, Below w.heap.size w W → 0 ≤ L → L ≤ 1048576 → Calls Tryz.prog 38 #[v0, .int .i64 L] W fun e w' => e = .returned (.int .i64 (szI (descsM.bk x.1) L)) ∧ Below W.heap.size W w') := fun L W hb a b => szDescs_u [v0] _ L W (rd_next r0 hb) a b
 have C3 : Hid (∀ L W, Below w.heap.size w W → 0 ≤ L → L ≤ 1048576 → Calls Tryz.prog 35 #[v3, .int .i64 L] W fun e w' => e = .returned (.int .i64 (szI (rowsM.bk x.2.2.2) L)) ∧ Below W.heap.size W w') := fun L W hb a b => szRows_u [v3] _ L W (rd_next r3 hb) a b
 clear r0 r3
 generalize descsM.bk x.1 = n0 at C0 ⊢
 generalize rowsM.bk x.2.2.2 = n3 at C3 ⊢
 have X := heap_at w (.cells #[v0, .int .i64 x.2.1, .bool x.2.2.1, v3] 31)
 have B := box_below w (.cells #[v0, .int .i64 x.2.1, .bool x.2.2.1, v3] 31)
 go_enter Tryz.func14, Tryz.ntmps14
 go_wp2_with fail
 generalize w.alloc (.cells #[v0, .int .i64 x.2.1, .bool x.2.2.1, v3] 31) = W0 at X B ⊢
 refine (C0.out (left) _ B (by omega) (by omega)).mono ?_
 rintro e w1 ⟨rfl, bq⟩
 replace X := row_keep bq X
 replace B := below_step B bq
 clear bq C0
 by_cases l0 : (n0 : Int) ≤ left
 ·rw [szI_yes l0]
  have g0 : ¬ (left - (n0 : Int) < 0) := by omega
  obtain ⟨y0, y1, y2, y3⟩ := cells_dma X
  go_wp2_with fail
  clear y0 y1 y2 y3
  refine (C3.out (left - (n0 : Int)) _ B (by omega) (by omega)).mono ?_
  rintro e w2 ⟨rfl, bq⟩
  replace X := row_keep bq X
  replace B := below_step B bq
  clear bq C3
  by_cases l3 : (n3 : Int) ≤ left - (n0 : Int)
  ·rw [szI_yes l3]
   have g3 : ¬ (left - (n0 : Int) - (n3 : Int) < 0) := by omega
   obtain ⟨y0, y1, y2, y3⟩ := cells_dma X
   clear y0 y1 y2 y3 X
   go_wp2
   go_ret
   exact ⟨ret_int (by rw [szI_yes (by omega)]; omega), B⟩
  ·rw [szI_no l3]
   clear X
   go_wp2
   go_ret
   exact ⟨ret_int (szI_no (by omega)).symm, B⟩
 ·rw [szI_no l0]
  clear X
  go_wp2
  go_ret
  exact ⟨ret_int (szI_no (by omega)).symm, B⟩
theorem eqDma_u : EqC 30 dmaR dmaM aggV := by
 intro cs ds x w h k hm
 obtain ⟨v0, v3, rfl, r0, -, -, r3⟩ := dma_rd h
 obtain ⟨u0, u3, rfl, s0, -, -, s3⟩ := dma_rd k
 clear h k
 rw [show dmaM.bk x = descsM.bk x.1 + (0 + (0 + rowsM.bk x.2.2.2)) from rfl] at hm
 change Calls Tryz.prog 30 #[.agg #[v0, .int .i64 x.2.1, .bool x.2.2.1, v3], .agg #[u0, .int .i64 x.2.1, .bool x.2.2.1, u3]] w _
 have C0 : Hid (∀ W, Below w.heap.size w W → Calls Tryz.prog 69 #[v0, u0] W fun e w' => e = .returned (.bool true) ∧ Below W.heap.size W w') := fun W hb => eqDescs_u [v0] [u0] _ W (rd_next r0 hb) (rd_next s0 hb) (by omega)
 have C3 : Hid (∀ W, Below w.heap.size w W → Calls Tryz.prog 66 #[v3, u3] W fun e w' => e = .returned (.bool true) ∧ Below W.heap.size W w') := fun W hb => eqRows_u [v3] [u3] _ W (rd_next r3 hb) (rd_next s3 hb) (by omega)
 clear hm r0 s0 r3 s3
 have X := heap_on (.cells #[u0, .int .i64 x.2.1, .bool x.2.2.1, u3] 45) (heap_at w (.cells #[v0, .int .i64 x.2.1, .bool x.2.2.1, v3] 45))
 have Y := heap_at (w.alloc (.cells #[v0, .int .i64 x.2.1, .bool x.2.2.1, v3] 45)) (.cells #[u0, .int .i64 x.2.1, .bool x.2.2.1, u3] 45)
 rw [alloc_len] at Y
 have B := below_step (box_below w (.cells #[v0, .int .i64 x.2.1, .bool x.2.2.1, v3] 45)) (box_below _ (.cells #[u0, .int .i64 x.2.1, .bool x.2.2.1, u3] 45))
 go_enter Tryz.func30, Tryz.ntmps30
 go_wp2_with fail
 generalize (w.alloc (.cells #[v0, .int .i64 x.2.1, .bool x.2.2.1, v3] 45)).alloc (.cells #[u0, .int .i64 x.2.1, .bool x.2.2.1, u3] 45) = W0 at X Y B ⊢
 refine (C0.out _ B).mono ?_
 rintro e w1 ⟨rfl, bq⟩
 replace X := row_keep bq X
 replace Y := row_keep bq Y
 replace B := below_step B bq
 clear bq C0
 obtain ⟨y0, y1, y2, y3⟩ := cells_dma X
 obtain ⟨z0, z1, z2, z3⟩ := cells_dma Y
 go_wp2_with fail
 clear y0 y1 y2 y3 z0 z1 z2 z3
 refine (C3.out _ B).mono ?_
 rintro e w2 ⟨rfl, bq⟩
 replace X := row_keep bq X
 replace Y := row_keep bq Y
 replace B := below_step B bq
 clear bq C3
 obtain ⟨y0, y1, y2, y3⟩ := cells_dma X
 obtain ⟨z0, z1, z2, z3⟩ := cells_dma Y
 clear X Y
 go_wp2
 go_ret
 exact ⟨rfl, B⟩
theorem own_dma {w : World} {S S0 S3 : Foot} {v0 v3 : Value} {x : DmaD} (i1 : In64 x.2.1) (h0 : descsR.own w S0 [v0] x.1) (h3 : rowsR.own w S3 [v3] x.2.2.2) (s0 : Sub S0 S) (s3 : Sub S3 S) (d03 : Dis S0 S3) : dmaR.own w S [v0, .int .i64 x.2.1, .bool x.2.2.1, v3] x := by
 exact ⟨[v0], [.int .i64 x.2.1, .bool x.2.2.1, v3], S0, (fun q => (fun _ => False) q ∨ (fun q => (fun _ => False) q ∨ S3 q) q), rfl, h0, ⟨[.int .i64 x.2.1], [.bool x.2.2.1, v3], (fun _ => False), (fun q => (fun _ => False) q ∨ S3 q), rfl, ⟨rfl, i1⟩, ⟨[.bool x.2.2.1], [v3], (fun _ => False), S3, rfl, rfl, h3, (fun q h => .inl h), (fun q h => .inr h), (fun _ h _ => h.elim)⟩, (fun q h => .inl h), (fun q h => .inr h), (fun _ h _ => h.elim)⟩, s0, (fun q h => h.elim (fun ha => ha.elim) (fun hb => hb.elim (fun hba => hba.elim) (fun hbb => s3 q hbb))), (fun q a h => h.elim (fun ha => ha.elim) (fun hb => hb.elim (fun hba => hba.elim) (fun hbb => d03 q a hbb)))⟩
theorem froz_dma {w : World} {g : Nat} {cs : Array Value} {t : TypeId} (h : w.heap[g]? = some (.cells cs t (0, 0))) : w.frozen? ⟨g, 0, none⟩ = false ∧ w.frozen? ⟨g, 1, none⟩ = false ∧ w.frozen? ⟨g, 2, none⟩ = false ∧ w.frozen? ⟨g, 3, none⟩ = false :=
 ⟨frozen_of_row w g 0 _ t h, frozen_of_row w g 1 _ t h, frozen_of_row w g 2 _ t h, frozen_of_row w g 3 _ t h⟩
theorem put_dma {w : World} {g : Nat} {x0 x1 x2 x3 y0 y1 y2 y3 : Value} {t : TypeId} (h : w.heap[g]? = some (.cells #[x0, x1, x2, x3] t (0, 0))) : ((((w.setCell ⟨g, 0, none⟩ (y0)).setCell ⟨g, 1, none⟩ (y1)).setCell ⟨g, 2, none⟩ (y2)).setCell ⟨g, 3, none⟩ (y3)).heap[g]? = some (.cells #[y0, y1, y2, y3] t (0, 0)) := by
 have h0 : (w.setCell ⟨g, 0, none⟩ (y0)).heap[g]? = some (.cells #[y0, x1, x2, x3] t (0, 0)) := heap_setCell_same _ g 0 _ t y0 h
 have h1 : ((w.setCell ⟨g, 0, none⟩ (y0)).setCell ⟨g, 1, none⟩ (y1)).heap[g]? = some (.cells #[y0, y1, x2, x3] t (0, 0)) := heap_setCell_same _ g 1 _ t y1 h0
 have h2 : (((w.setCell ⟨g, 0, none⟩ (y0)).setCell ⟨g, 1, none⟩ (y1)).setCell ⟨g, 2, none⟩ (y2)).heap[g]? = some (.cells #[y0, y1, y2, x3] t (0, 0)) := heap_setCell_same _ g 2 _ t y2 h1
 have h3 : ((((w.setCell ⟨g, 0, none⟩ (y0)).setCell ⟨g, 1, none⟩ (y1)).setCell ⟨g, 2, none⟩ (y2)).setCell ⟨g, 3, none⟩ (y3)).heap[g]? = some (.cells #[y0, y1, y2, y3] t (0, 0)) := heap_setCell_same _ g 3 _ t y3 h2
 exact h3
theorem toDma_u : ToC 22 dmaR dmaM aggV := by
 intro cs x w h hm
 obtain ⟨v0, v3, rfl, r0, i1, i2, r3⟩ := dma_rd h
 clear h
 rw [show dmaM.bk x = descsM.bk x.1 + (0 + (0 + rowsM.bk x.2.2.2)) from rfl] at hm
 change Calls Tryz.prog 22 #[.agg #[v0, .int .i64 x.2.1, .bool x.2.2.1, v3]] w _
 have C0 : Hid (∀ W, Below w.heap.size w W → Calls Tryz.prog 53 #[v0] W fun e w' => ∃ a0 c0, e = .returned (.slice a0 x.1.length c0) ∧ MadeR descsR W w' [.slice a0 x.1.length c0] x.1) := fun W hb => (toDescs_u [v0] _ W (rd_next r0 hb) (by omega)).mono (by rintro e w' ⟨ds, rfl, mm⟩; obtain ⟨a0, c0, rfl, -⟩ := descsR.own_rd mm.1; exact ⟨a0, c0, rfl, mm⟩)
 have C3 : Hid (∀ W, Below w.heap.size w W → Calls Tryz.prog 50 #[v3] W fun e w' => ∃ a3 c3, e = .returned (.slice a3 x.2.2.2.length c3) ∧ MadeR rowsR W w' [.slice a3 x.2.2.2.length c3] x.2.2.2) := fun W hb => (toRows_u [v3] _ W (rd_next r3 hb) (by omega)).mono (by rintro e w' ⟨ds, rfl, mm⟩; obtain ⟨a3, c3, rfl, -⟩ := rowsR.own_rd mm.1; exact ⟨a3, c3, rfl, mm⟩)
 clear hm r0 r3
 have HI : Hid _ := i1
 clear i1
 have X0 := heap_on (.cells #[.slice none 0 0, .int .i64 0, .bool false, .slice none 0 0] 45) (heap_on (.cells #[.slice none 0 0, .int .i64 0, .bool false, .slice none 0 0] 45) (heap_at w (.cells #[v0, .int .i64 x.2.1, .bool x.2.2.1, v3] 31)))
 have X1 := heap_on (.cells #[.slice none 0 0, .int .i64 0, .bool false, .slice none 0 0] 45) (heap_at (w.alloc (.cells #[v0, .int .i64 x.2.1, .bool x.2.2.1, v3] 31)) (.cells #[.slice none 0 0, .int .i64 0, .bool false, .slice none 0 0] 45))
 have X2 := heap_at ((w.alloc (.cells #[v0, .int .i64 x.2.1, .bool x.2.2.1, v3] 31)).alloc (.cells #[.slice none 0 0, .int .i64 0, .bool false, .slice none 0 0] 45)) (.cells #[.slice none 0 0, .int .i64 0, .bool false, .slice none 0 0] 45)
 rw [alloc_len] at X1
 rw [alloc_len, alloc_len] at X2
 have B : Below w.heap.size w (((w.alloc (.cells #[v0, .int .i64 x.2.1, .bool x.2.2.1, v3] 31)).alloc (.cells #[.slice none 0 0, .int .i64 0, .bool false, .slice none 0 0] 45)).alloc (.cells #[.slice none 0 0, .int .i64 0, .bool false, .slice none 0 0] 45)) := (((Below.refl _ w).alloc (Nat.le_refl _) _).alloc (by simp) _).alloc (by simp; omega) _
 have e3 : w.heap.size + 1 + 1 + 1 ≤ (((w.alloc (.cells #[v0, .int .i64 x.2.1, .bool x.2.2.1, v3] 31)).alloc (.cells #[.slice none 0 0, .int .i64 0, .bool false, .slice none 0 0] 45)).alloc (.cells #[.slice none 0 0, .int .i64 0, .bool false, .slice none 0 0] 45)).heap.size := by simp
 go_enter Tryz.func22, Tryz.ntmps22
 go_wp2_with fail
 generalize ((w.alloc (.cells #[v0, .int .i64 x.2.1, .bool x.2.2.1, v3] 31)).alloc (.cells #[.slice none 0 0, .int .i64 0, .bool false, .slice none 0 0] 45)).alloc (.cells #[.slice none 0 0, .int .i64 0, .bool false, .slice none 0 0] 45) = u0 at X0 X1 X2 B e3 ⊢
 refine (C0.out _ B).mono ?_
 rintro e w1 ⟨a0, c0, rfl, mm⟩
 have hs0 := mm.2.size
 replace B := below_step B mm.2
 replace X0 := row_keep mm.2 X0
 replace X1 := row_keep mm.2 X1
 replace X2 := row_keep mm.2 X2
 have O0 := mm.1
 clear mm C0
 obtain ⟨p0, p1, p2, p3⟩ := cells_dma X0
 obtain ⟨y0, y1, y2, y3⟩ := cells_dma X2
 obtain ⟨f0, f1, f2, f3⟩ := froz_dma X2
 have HS : Hid _ := And.intro X0 (And.intro X1 (And.intro X2 (And.intro B (O0))))
 clear X0 X1 X2 B O0
 go_wp2_with fail
 clear p0 p1 p2 p3 y0 y1 y2 y3 f0 f1 f2 f3
 obtain ⟨X0, X1, X2, B, O0⟩ := HS.out
 clear HS
 have k0 : (w1.setCell ⟨w.heap.size + 1 + 1, 0, none⟩ (.slice a0 x.1.length c0)).heap[w.heap.size + 1 + 1]? = some (.cells #[.slice a0 x.1.length c0, .int .i64 0, .bool false, .slice none 0 0] 45 (0, 0)) := heap_setCell_same _ (w.heap.size + 1 + 1) 0 _ _ (.slice a0 x.1.length c0) X2
 have k1 : ((w1.setCell ⟨w.heap.size + 1 + 1, 0, none⟩ (.slice a0 x.1.length c0)).setCell ⟨w.heap.size + 1 + 1, 1, none⟩ (.int .i64 x.2.1)).heap[w.heap.size + 1 + 1]? = some (.cells #[.slice a0 x.1.length c0, .int .i64 x.2.1, .bool false, .slice none 0 0] 45 (0, 0)) := heap_setCell_same _ (w.heap.size + 1 + 1) 1 _ _ (.int .i64 x.2.1) k0
 have k2 : (((w1.setCell ⟨w.heap.size + 1 + 1, 0, none⟩ (.slice a0 x.1.length c0)).setCell ⟨w.heap.size + 1 + 1, 1, none⟩ (.int .i64 x.2.1)).setCell ⟨w.heap.size + 1 + 1, 2, none⟩ (.bool x.2.2.1)).heap[w.heap.size + 1 + 1]? = some (.cells #[.slice a0 x.1.length c0, .int .i64 x.2.1, .bool x.2.2.1, .slice none 0 0] 45 (0, 0)) := heap_setCell_same _ (w.heap.size + 1 + 1) 2 _ _ (.bool x.2.2.1) k1
 have qn0 := (heap_setC (g := w.heap.size + 1 + 1) (o := 2) (v := .bool x.2.2.1) (heap_setC (g := w.heap.size + 1 + 1) (o := 1) (v := .int .i64 x.2.1) (heap_setC (g := w.heap.size + 1 + 1) (o := 0) (v := .slice a0 x.1.length c0) X0 (by omega)) (by omega)) (by omega))
 have qn1 := (heap_setC (g := w.heap.size + 1 + 1) (o := 2) (v := .bool x.2.2.1) (heap_setC (g := w.heap.size + 1 + 1) (o := 1) (v := .int .i64 x.2.1) (heap_setC (g := w.heap.size + 1 + 1) (o := 0) (v := .slice a0 x.1.length c0) X1 (by omega)) (by omega)) (by omega))
 have qb1 : Below w.heap.size w (((w1.setCell ⟨w.heap.size + 1 + 1, 0, none⟩ (.slice a0 x.1.length c0)).setCell ⟨w.heap.size + 1 + 1, 1, none⟩ (.int .i64 x.2.1)).setCell ⟨w.heap.size + 1 + 1, 2, none⟩ (.bool x.2.2.1)) := (below_setC (below_setC (below_setC B (by omega)) (by omega)) (by omega))
 have qo0 : descsR.own (((w1.setCell ⟨w.heap.size + 1 + 1, 0, none⟩ (.slice a0 x.1.length c0)).setCell ⟨w.heap.size + 1 + 1, 1, none⟩ (.int .i64 x.2.1)).setCell ⟨w.heap.size + 1 + 1, 2, none⟩ (.bool x.2.2.1)) _ _ _ := (own_setC (own_setC (own_setC O0 (fun h => by have := h.1; omega)) (fun h => by have := h.1; omega)) (fun h => by have := h.1; omega))
 have qz1 : w1.heap.size ≤ (((w1.setCell ⟨w.heap.size + 1 + 1, 0, none⟩ (.slice a0 x.1.length c0)).setCell ⟨w.heap.size + 1 + 1, 1, none⟩ (.int .i64 x.2.1)).setCell ⟨w.heap.size + 1 + 1, 2, none⟩ (.bool x.2.2.1)).heap.size := by simp
 have qz2 : (((w1.setCell ⟨w.heap.size + 1 + 1, 0, none⟩ (.slice a0 x.1.length c0)).setCell ⟨w.heap.size + 1 + 1, 1, none⟩ (.int .i64 x.2.1)).setCell ⟨w.heap.size + 1 + 1, 2, none⟩ (.bool x.2.2.1)).heap.size ≤ w1.heap.size := by simp
 clear X0 X1 X2 B O0 k0 k1
 generalize (((w1.setCell ⟨w.heap.size + 1 + 1, 0, none⟩ (.slice a0 x.1.length c0)).setCell ⟨w.heap.size + 1 + 1, 1, none⟩ (.int .i64 x.2.1)).setCell ⟨w.heap.size + 1 + 1, 2, none⟩ (.bool x.2.2.1)) = u1 at qn0 qn1 k2 qb1 qz1 qz2 qo0 ⊢
 have X0 := qn0
 have X1 := qn1
 have X2 := k2
 have B := qb1
 have O0 := qo0
 have za0 := qz1
 have zb0 := qz2
 clear qn0 qn1 k2 qb1 qz1 qz2 qo0
 refine (C3.out _ B).mono ?_
 rintro e w2 ⟨a3, c3, rfl, mm⟩
 have hs3 := mm.2.size
 replace B := below_step B mm.2
 replace X0 := row_keep mm.2 X0
 replace X1 := row_keep mm.2 X1
 replace X2 := row_keep mm.2 X2
 replace O0 := own_stay O0 mm.2 (by omega)
 have O3 := mm.1
 clear mm C3
 obtain ⟨p0, p1, p2, p3⟩ := cells_dma X0
 obtain ⟨y0, y1, y2, y3⟩ := cells_dma X2
 obtain ⟨f0, f1, f2, f3⟩ := froz_dma X2
 obtain ⟨z0, z1, z2, z3⟩ := cells_dma X1
 obtain ⟨g0, g1, g2, g3⟩ := froz_dma X1
 have HS : Hid _ := And.intro X0 (And.intro X1 (And.intro X2 (And.intro B (And.intro O0 (O3)))))
 clear X0 X1 X2 B O0 O3
 go_wp2
 clear p0 p1 p2 p3 y0 y1 y2 y3 f0 f1 f2 f3 z0 z1 z2 z3 g0 g1 g2 g3
 obtain ⟨X0, X1, X2, B, O0, O3⟩ := HS.out
 clear HS
 have k0 : (w2.setCell ⟨w.heap.size + 1 + 1, 3, none⟩ (.slice a3 x.2.2.2.length c3)).heap[w.heap.size + 1 + 1]? = some (.cells #[.slice a0 x.1.length c0, .int .i64 x.2.1, .bool x.2.2.1, .slice a3 x.2.2.2.length c3] 45 (0, 0)) := heap_setCell_same _ (w.heap.size + 1 + 1) 3 _ _ (.slice a3 x.2.2.2.length c3) X2
 have V := put_dma (y0 := .slice a0 x.1.length c0) (y1 := .int .i64 x.2.1) (y2 := .bool x.2.2.1) (y3 := .slice a3 x.2.2.2.length c3) (heap_setC (g := w.heap.size + 1 + 1) (o := 3) (v := .slice a3 x.2.2.2.length c3) X1 (by omega))
 obtain ⟨r0, r1, r2, r3⟩ := cells_dma V
 have i1 := HI.out
 refine bodyPost_ret (v := .agg #[.slice a0 x.1.length c0, .int .i64 x.2.1, .bool x.2.2.1, .slice a3 x.2.2.2.length c3]) (by simp [results, Tryz.results22, go_sem, r0, r1, r2, r3]) rfl ⟨[.slice a0 x.1.length c0, .int .i64 x.2.1, .bool x.2.2.1, .slice a3 x.2.2.2.length c3], rfl, own_dma (S0 := rng u0.heap.size w1.heap.size) (S3 := rng u1.heap.size w2.heap.size) i1 ?_ ?_ (rng_sub (by omega) (by simp <;> omega)) (rng_sub (by omega) (by simp <;> omega)) (rng_dis (.inl (by omega))), ?_⟩
 ·exact (own_setC (own_setC (own_setC (own_setC (own_setC O0 (fun h => by have := h.1; omega)) (fun h => by have := h.1; omega)) (fun h => by have := h.1; omega)) (fun h => by have := h.1; omega)) (fun h => by have := h.1; omega))
 ·exact (own_setC (own_setC (own_setC (own_setC (own_setC O3 (fun h => by have := h.1; omega)) (fun h => by have := h.1; omega)) (fun h => by have := h.1; omega)) (fun h => by have := h.1; omega)) (fun h => by have := h.1; omega))
 ·exact (below_setC (below_setC (below_setC (below_setC (below_setC B (by omega)) (by omega)) (by omega)) (by omega)) (by omega))
theorem dma_shape {w : World} {cs : List Value} {x : DmaD} (h : dmaR.rd w cs x) : ∃ (a0 : Option Addr) (c0 : Nat) (a3 : Option Addr) (c3 : Nat), cs = [.slice a0 x.1.length c0, .int .i64 x.2.1, .bool x.2.2.1, .slice a3 x.2.2.2.length c3] := by
 obtain ⟨v0, v3, rfl, r0, -, -, r3⟩ := dma_rd h
 obtain ⟨a0, c0, e0, -⟩ := r0
 simp only [List.cons.injEq, and_true] at e0
 obtain rfl := e0
 obtain ⟨a3, c3, e3, -⟩ := r3
 simp only [List.cons.injEq, and_true] at e3
 obtain rfl := e3
 exact ⟨a0, c0, a3, c3, rfl⟩
theorem opens_dma : Opens Tryz.prog 31 dmaR :=
 opens_struct Tryz.underlying31 (by kernel_rfl) (opensF_cons rfl (by kernel_rfl) opens_descs (opensF_cons rfl (by kernel_rfl) opens_i64 (opensF_cons rfl (by kernel_rfl) (opens_bool Tryz.underlying4) (opensF_one rfl (by kernel_rfl) opens_rows))))
theorem eqMsgs_u : EqC 31 msgsR msgsM cell1 := by
 rintro cs ds x w ⟨a, cap, rfl, l1, l2, l3⟩ ⟨b, cp, rfl, k1, k2, k3⟩ hm
 exact eqMsgS_rep a b x cap cp w l3 k3 (Nat.le_trans hm (by decide))
theorem szMsgs_u : SzC 15 msgsR msgsM cell1 := by
 rintro cs x left w ⟨a, cap, rfl, l1, l2, l3⟩ h0 h1
 exact szMsgS_rep a x cap left w l3 h0 h1 (Nat.le_trans l1 l2)
theorem toMsgs_u : ToC 23 msgsR msgsM cell1 := by
 rintro cs x w ⟨a, cap, rfl, l1, l2, l3⟩ hm
 refine (toMsgS_rep a x cap w l3 hm).mono ?_
 rintro e w' ⟨v, rfl, mm⟩
 exact ⟨[v], rfl, mm⟩
end Go.Proofs.YtiiipclglngdhaaGreatDoor
