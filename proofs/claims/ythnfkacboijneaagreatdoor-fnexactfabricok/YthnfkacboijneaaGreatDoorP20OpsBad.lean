import Derived.Test.YthnfkacboijneaaGreatDoorP18BadP
import Derived.Test.YthnfkacboijneaaGreatDoorP19Prog11
import Derived.Test.YthnfkacboijneaaGreatDoorP12Ways2
import Derived.Test.YthnfkacboijneaaGreatDoorP16OkLink
import Derived.Deep.DeepCutAuto
import Derived.BigRegion
import Derived.Test.YthnfkacboijneaaGreatDoorP03Bits
import Derived.Test.YthnfkacboijneaaGreatDoorP11Iters
import Derived.Test.YthnfkacboijneaaGreatDoorP01Lists
import Derived.Test.YthnfkacboijneaaGreatDoorP02Nums
import Derived.Deep.RegionWith
import Derived.Test.YthnfkacboijneaaGreatDoorP07OpL
import Derived.LoopN
namespace Go.Proofs.YthnfkacboijneaaGreatDoor
set_option maxHeartbeats 2000000
open Go.ChangeShapes Go.WideShapes Go.ChangeAt Go.RowKit
set_option linter.unusedVariables false
theorem opsOk1_any (x : OpD) (w : World) :
    Calls Tryz.prog 200 #[.agg #[.int .i64 x.1, .int .i64 x.2.1, .int .i64 x.2.2.1, .int .i64 x.2.2.2]] w fun e w' => e = .returned (.bool (!opOkD x)) ∧ Below w.heap.size w w' := by
 have B := box_below w (.cells #[.int .i64 x.1, .int .i64 x.2.1, .int .i64 x.2.2.1, .int .i64 x.2.2.2] 98)
 have HM : Hid (∀ W, Calls Tryz.prog 201 #[.agg #[.int .i64 x.1, .int .i64 x.2.1, .int .i64 x.2.2.1, .int .i64 x.2.2.2]] W fun e w' => e = .returned (.bool (opOkD x)) ∧ Below W.heap.size W w') := fun W => implOpOk_any x.1 x.2.1 x.2.2.1 x.2.2.2 W
 generalize opOkD x = q at HM ⊢
 go_enter Tryz.func200, Tryz.ntmps200
 go_wp2_with fail
 generalize w.alloc (.cells #[.int .i64 x.1, .int .i64 x.2.1, .int .i64 x.2.2.1, .int .i64 x.2.2.2] 98) = W0 at B ⊢
 refine (HM.out _).mono ?_
 rintro e w1 ⟨rfl, b1⟩
 go_wp2
 go_ret
 exact ⟨rfl, below_step B b1⟩
theorem indexBadO_any (a : Option Addr) (xs : List OpD) (cap : Nat) (w : World) (h : SlRd opR w a xs) (hm : xs.length ≤ maxLen) :
    Calls Tryz.prog 242 #[.slice a xs.length cap, .func (.func 200) #[] #[]] w fun e w' => e = .returned (.int .i64 (badP opOkD xs)) ∧ Below w.heap.size w w' := by
 have hm' : xs.length ≤ 9223372036854775807 := hm
 have H0 : Hid (∀ W, Below w.heap.size w W → SlRd opR W a xs) := fun W hb => slrd_keep h fun k hk => hb.block k hk
 clear h hm
 go_enter Tryz.func242, Tryz.ntmps242
 go_wp2
 go_loopw [8] (fun i wr => ∃ k : Nat, k ≤ xs.length ∧ i = .int .i64 k ∧ (∀ j v, j < k → xs[j]? = some v → opOkD v = true) ∧ Below w.heap.size w wr) (fun i _ => xs.length - (intOf i).toNat)
 case atStart => exact ⟨0, Nat.zero_le _, rfl, fun j v hj => by omega, Below.refl _ _⟩
 case round =>
  obtain ⟨k, hk, rfl, hno, BB⟩ := hrel
  by_cases hlt : k < xs.length
  ·have hlt' : (k : Int) < (xs.length : Int) := by omega
   obtain ⟨x, hx⟩ : ∃ x, xs[k]? = some x := ⟨_, List.getElem?_eq_getElem hlt⟩
   obtain ⟨b, off, rfl, x0, x1, x2, x3, -⟩ := op_at (H0.out _ BB) hx
   have HC := opsOk1_any x wr
   have HX : Hid (xs[k]? = some x) := hx
   clear hx
   cases hb : opOkD x
   ·have HR : Hid (badP opOkD xs = k) := badP_at HX.out hb hno
    rw [hb] at HC
    go_wp2_with fail
    refine HC.mono ?_
    rintro e w2 ⟨rfl, b2⟩
    replace BB := below_step BB b2
    clear b2 x0 x1 x2 x3
    go_wp2
    go_ret
    exact ⟨ret_int HR.out.symm, BB⟩
   ·rw [hb] at HC
    go_wp2_with fail
    refine HC.mono ?_
    rintro e w2 ⟨rfl, b2⟩
    replace BB := below_step BB b2
    clear b2 x0 x1 x2 x3
    go_wp2
    go_roundw
    case rel =>
     refine ⟨k + 1, by omega, by go_num, fun j v hj hv => ?_, BB⟩
     by_cases he : j < k
     ·exact hno j v he hv
     ·have : j = k := by omega
      subst this
      rw [HX.out] at hv
      cases hv
      exact hb
    case measure => simp [intOf]; omega
  ·have HR : Hid (badP opOkD xs = -1) := badP_no fun j v hv => hno j v (by have := (List.getElem?_eq_some_iff.1 hv).1; omega) hv
   go_wp2
   go_ret
   exact ⟨ret_int HR.out.symm, BB⟩
theorem containsBadO_any (a : Option Addr) (xs : List OpD) (cap : Nat) (w : World) (h : SlRd opR w a xs) (hm : xs.length ≤ maxLen) :
    Calls Tryz.prog 199 #[.slice a xs.length cap, .func (.func 200) #[] #[]] w fun e w' => e = .returned (.bool (!xs.all opOkD)) ∧ Below w.heap.size w w' := by
 have HI := indexBadO_any a xs cap w h hm
 have hab := badP_all opOkD xs
 clear h hm
 generalize badP opOkD xs = q at HI hab
 generalize xs.all opOkD = y at hab ⊢
 subst hab
 by_cases hq : q < 0
 ·have hq2 : ¬ (0 ≤ q) := by omega
  go_enter Tryz.func199, Tryz.ntmps199
  go_wp2_with fail
  refine HI.mono ?_
  rintro e w1 ⟨rfl, b1⟩
  go_wp2
  go_ret
  exact ⟨by simp [hq], b1⟩
 ·have hq2 : 0 ≤ q := by omega
  go_enter Tryz.func199, Tryz.ntmps199
  go_wp2_with fail
  refine HI.mono ?_
  rintro e w1 ⟨rfl, b1⟩
  go_wp2
  go_ret
  exact ⟨by simp [hq], b1⟩
def progB (xs : List OpD) : Bool := decide (xs.length ≤ 30) && xs.all opOkD
theorem implOpsOk_any (a : Option Addr) (xs : List OpD) (cap : Nat) (w : World) (h : SlRd opR w a xs) (hm : xs.length ≤ maxLen) :
    Calls Tryz.prog 133 #[.slice a xs.length cap] w fun e w' => e = .returned (.bool (progB xs)) ∧ Below w.heap.size w w' := by
 have HC := containsBadO_any a xs cap w h hm
 have hm' : xs.length ≤ 9223372036854775807 := hm
 unfold progB
 generalize xs.all opOkD = y at HC ⊢
 clear h hm
 by_cases hl : xs.length ≤ 30
 ·have hl' : (xs.length : Int) ≤ 30 := by omega
  go_enter Tryz.func133, Tryz.ntmps133
  go_wp2_with fail
  refine HC.mono ?_
  rintro e w1 ⟨rfl, b1⟩
  go_wp2
  go_ret
  exact ⟨by simp [hl], b1⟩
 ·have hl' : ¬ ((xs.length : Int) ≤ 30) := by omega
  go_enter Tryz.func133, Tryz.ntmps133
  go_wp2
  go_ret
  exact ⟨by simp, Below.refl _ _⟩
open Go.ChangeShapes Go.WideShapes Go.ChangeAt Go.RowKit Go.Shelf
section
variable {α : Type}
end
variable {α : Type}
variable {α : Type}
def At (w : World) (t : TypeId) (G off : Nat) (cs : List Value) : Prop := ∃ cur, w.heap[G]? = some (.cells cur t (0, 0)) ∧ off + cs.length ≤ cur.size ∧ ∀ j, j < cs.length → cur[off + j]? = cs[j]?
def In (G off n : Nat) (w w' : World) : Prop := ∀ cur t, w.heap[G]? = some (.cells cur t (0, 0)) → ∃ cur' : Array Value, w'.heap[G]? = some (.cells cur' t (0, 0)) ∧ cur'.size = cur.size ∧ ∀ i, i < off ∨ off + n ≤ i → cur'[i]? = cur[i]?
theorem In.refl (G off n : Nat) (w : World) : In G off n w w := fun cur t h => ⟨cur, h, rfl, fun _ _ => rfl⟩
theorem In.trans {G off n : Nat} {a b c : World} (h : In G off n a b) (k : In G off n b c) : In G off n a c := fun cur t hc => by
 obtain ⟨c1, e1, s1, q1⟩ := h cur t hc
 obtain ⟨c2, e2, s2, q2⟩ := k c1 t e1
 exact ⟨c2, e2, s2.trans s1, fun i hi => (q2 i hi).trans (q1 i hi)⟩
theorem In.same {G off n : Nat} {w w' : World} (h : w'.heap[G]? = w.heap[G]?) : In G off n w w' := fun cur t hc => ⟨cur, h.trans hc, rfl, fun _ _ => rfl⟩
theorem In.set {G off n j : Nat} {w : World} {v : Value} (hj : j < n) : In G off n w (w.setCell ⟨G, off + j, none⟩ v) := fun cur t hc =>
 ⟨_, heap_setCell_same w G (off + j) cur t v hc, by simp, fun i hi => Array.getElem?_setIfInBounds_ne (by omega)⟩
theorem In.mono {G off n off' n' : Nat} {w w' : World} (h : In G off n w w') (h1 : off' ≤ off) (h2 : off + n ≤ off' + n') : In G off' n' w w' := fun cur t hc => by
 obtain ⟨c1, e1, s1, q1⟩ := h cur t hc
 exact ⟨c1, e1, s1, fun i hi => q1 i (by omega)⟩
structure Turn (G off n : Nat) (S : Foot) (w w' : World) : Prop where
 chg : Chg (fun k => S k ∨ k = G) w w'
 row : In G off n w w'
theorem Turn.refl (G off n : Nat) (S : Foot) (w : World) : Turn G off n S w w := ⟨Chg.refl _ _, In.refl _ _ _ _⟩
theorem Turn.mono {G off n : Nat} {S T : Foot} {w w' : World} (h : Turn G off n S w w') (hs : Sub S T) : Turn G off n T w w' := ⟨h.chg.mono (fun k hk => hk.imp (hs k) id), h.row⟩
theorem Turn.trans {G off n : Nat} {S S' : Foot} {a b c : World} (h : Turn G off n S a b) (k : Turn G off n S' b c) (hS : ∀ k, S' k → S k ∨ (a.heap.size ≤ k)) : Turn G off n S a c := by
 refine ⟨⟨k.chg.os.trans h.chg.os, k.chg.tape.trans h.chg.tape, k.chg.output.trans h.chg.output, Nat.le_trans h.chg.size k.chg.size, fun j hj hn => ?_⟩, h.row.trans k.row⟩
 have hb := h.chg.size
 refine (k.chg.block j (by omega) (fun hx => ?_)).trans (h.chg.block j hj hn)
 rcases hx with hx | hx
 ·rcases hS j hx with h1 | h1
  ·exact hn (.inl h1)
  ·omega
 ·exact hn (.inr hx)
theorem szOps_u : SzC 54 opsR opsM cell1 := by
 rintro cs x left w ⟨a, cap, rfl, l1, l2, l3⟩ h0 h1
 exact (szOpS_rep a x cap left w h0 h1 (Nat.le_trans l1 l2)).mono fun e w' ⟨q, r⟩ => ⟨q, be_eq r⟩
theorem toOps_u : ToC 59 opsR opsM cell1 := by
 rintro cs x w ⟨a, cap, rfl, l1, l2, l3⟩ hm
 refine (toOpS_rep a x cap w l3 hm).mono ?_
 rintro e w' ⟨v, rfl, mm⟩
 exact ⟨[v], rfl, mm⟩
theorem eqOps_u : EqC 65 opsR opsM cell1 := by
 rintro cs ds x w ⟨a, cap, rfl, l1, l2, l3⟩ ⟨b, cp, rfl, k1, k2, k3⟩ hm
 exact eqOpS_rep a b x cap cp w l3 k3 (by have : lot = 4398046511104 := rfl; omega)
theorem szWay_u : SzC 151 wayR wayM aggV := by
 intro cs x left w h h0 h1
 obtain ⟨a, cap, rfl, i1, i2, l1, l2, l3⟩ := way_rd h
 exact szWay_rep x.1 x.2.1 x.2.2 a cap left w h0 h1 (Nat.le_trans l1 l2)
theorem toWay_u : ToC 156 wayR wayM aggV := by
 intro cs x w h hm
 obtain ⟨a, cap, rfl, i1, i2, l1, l2, l3⟩ := way_rd h
 refine (toWay_rep x.1 x.2.1 x.2.2 a cap w i1 i2 l3 (by have : wayM.bk x = 0 + (0 + intsM.bk x.2.2) := rfl; omega)).mono ?_
 rintro e w' ⟨av, cv, rfl, mm⟩
 exact ⟨_, rfl, mm⟩
theorem eqWay_u : EqC 193 wayR wayM aggV := by
 intro cs ds x w h k hm
 obtain ⟨a, cap, rfl, i1, i2, l1, l2, l3⟩ := way_rd h
 obtain ⟨b, cp, rfl, _, _, k1, k2, k3⟩ := way_rd k
 exact eqWay_rep x.1 x.2.1 x.2.2 a b cap cp w l3 k3 (by have : wayM.bk x = 0 + (0 + intsM.bk x.2.2) := rfl; have : lot = 4398046511104 := rfl; omega)
theorem szCache_u : SzC 150 cacheR cacheM aggV := by
 intro cs x left w h h0 h1
 obtain ⟨a, cap, b, cp, rfl, l1, l2, m1, m2, r1, r2⟩ := cache_rd h
 exact szCache_rep a b x cap cp left w r1 h0 h1 (Nat.le_trans l1 l2) (Nat.le_trans m1 m2)
theorem toCache_u : ToC 155 cacheR cacheM aggV := by
 intro cs x w h hm
 obtain ⟨a, cap, b, cp, rfl, l1, l2, m1, m2, r1, r2⟩ := cache_rd h
 refine (toCache_rep a b x cap cp w r1 r2 hm).mono ?_
 rintro e w' ⟨av, cv, bv, dv, rfl, mm⟩
 exact ⟨_, rfl, mm⟩
theorem eqCache_u : EqC 192 cacheR cacheM aggV := by
 intro cs ds x w h k hm
 obtain ⟨a, cap, b, cp, rfl, l1, l2, m1, m2, r1, r2⟩ := cache_rd h
 obtain ⟨a', cap', b', cp', rfl, _, _, _, _, t1, t2⟩ := cache_rd k
 exact eqCache_rep x a b a' b' cap cp cap' cp' w r1 r2 t1 t2 (by have : lot = 4398046511104 := rfl; omega)
end Go.Proofs.YthnfkacboijneaaGreatDoor
