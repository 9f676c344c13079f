import Derived.Test.YtoihjejenjcokaaGreatDoorP00Box
import Derived.Test.YtoihjejenjcokaaGreatDoorP18SpecCopy
import Derived.Test.YtoihjejenjcokaaGreatDoorP09Lines6
import Derived.Test.YtoihjejenjcokaaGreatDoorP03OpensBase
import Derived.Test.YtoihjejenjcokaaGreatDoorP01Lists
import Derived.Test.YtoihjejenjcokaaGreatDoorP02Nums
import Derived.Deep.RegionWith
import Derived.BigRegion
import Derived.LoopN
import Derived.Test.YtoihjejenjcokaaGreatDoorP13Ways2
import Derived.Test.YtoihjejenjcokaaGreatDoorP14WayCopy
namespace Go.Proofs.YtoihjejenjcokaaGreatDoor
set_option maxHeartbeats 2000000
open Go.ChangeShapes Go.WideShapes Go.ChangeAt Go.RowKit
set_option linter.unusedVariables false
def endsB (r f t : Int) : Bool := zAQ r 0 2 && (zAQ f 0 5 && zAQ t 0 5)
def zLW (d : List Int) : Bool := d.isEmpty || isL d
def msgB (u : zB5) : Bool := endsB u.1 u.2.1 u.2.2.1 && (zAQ u.2.2.2.1 1 15 && (zAQ u.2.2.2.2.1 0 15 && (zLW u.2.2.2.2.2.1 && zAQ u.2.2.2.2.2.2 0 15)))
theorem mb {r f t k l g : Int} {d : List Int} : msgB (r, f, t, k, l, d, g) = (endsB r f t && (zAQ k 1 15 && (zAQ l 0 15 && (zLW d && zAQ g 0 15)))) := rfl
abbrev OpD := Int × Int × Int × Int
abbrev opR : Rep OpD := zBP zBC (zBP zBC (zBP zBC zBC))
abbrev opM : Mk OpD := zDH zBx (zDH zBx (zDH zBx zBx))
abbrev zBX : Rep (List OpD) := slR 85 opR
abbrev zDl : Mk (List OpD) := slM opM
def In4 (u : OpD) : Prop := zBk u.1 ∧ zBk u.2.1 ∧ zBk u.2.2.1 ∧ zBk u.2.2.2
theorem opens_op : zEb Tryz.prog 96 opR :=
 zCS Tryz.underlying96 (by kernel_rfl) (zBq rfl (by kernel_rfl) zBL (zBq rfl (by kernel_rfl) zBL (zBq rfl (by kernel_rfl) zBL (zD5 rfl (by kernel_rfl) zBL))))
theorem zMZ : zEb Tryz.prog 26 zBX := zDG Tryz.underlying26 (by kernel_rfl) (by decide) opens_op
theorem op_rd {w : World} {cs : List Value} {u : OpD} (h : opR.rd w cs u) : cs = [.int .i64 u.1, .int .i64 u.2.1, .int .i64 u.2.2.1, .int .i64 u.2.2.2] ∧ In4 u := by
 obtain ⟨c0, e0, rfl, ⟨rfl, i0⟩, c1, e1, rfl, ⟨rfl, i1⟩, c2, e2, rfl, ⟨rfl, i2⟩, ⟨rfl, i3⟩⟩ := h
 exact ⟨rfl, i0, i1, i2, i3⟩
theorem zHF {w : World} {S : zAX} {u : OpD} (h : In4 u) : opR.own w S [.int .i64 u.1, .int .i64 u.2.1, .int .i64 u.2.2.1, .int .i64 u.2.2.2] u :=
 ⟨[_], [_, _, _], fun _ => False, S, rfl, ⟨rfl, h.1⟩, ⟨[_], [_, _], fun _ => False, S, rfl, ⟨rfl, h.2.1⟩, ⟨[_], [_], fun _ => False, S, rfl, ⟨rfl, h.2.2.1⟩, ⟨rfl, h.2.2.2⟩, fun _ h => h.elim, Sub.refl _, fun _ h _ => h⟩, fun _ h => h.elim, Sub.refl _, fun _ h _ => h⟩, fun _ h => h.elim, Sub.refl _, fun _ h _ => h⟩
theorem made_op {w w' : World} {u : OpD} (h : In4 u) (hb : Below w.heap.size w w') : zAY opR w w' [.int .i64 u.1, .int .i64 u.2.1, .int .i64 u.2.2.1, .int .i64 u.2.2.2] u := ⟨zHF h, hb⟩
theorem zNc (xs : List OpD) : zBz opM xs = 0 := by
 induction xs with
 | nil => rfl
 | cons x xs ih => simp only [zBz, List.map_cons, List.sum_cons] at ih ⊢; rw [ih]; rfl
theorem zLi (xs : List OpD) : zDl.bk xs = xs.length := by
 have h1 : zDl.bk xs = xs.length + zBz opM xs := rfl
 rw [h1, zNc]; rfl
theorem zNd (xs : List OpD) : zA1 opM xs = 4 * xs.length := by
 induction xs with
 | nil => rfl
 | cons x xs ih =>
  simp only [zA1, List.map_cons, List.sum_cons, List.length_cons] at ih ⊢
  rw [ih]
  show 1 + (1 + (1 + 1)) + _ = _
  omega
theorem zEt {w : World} {a : Option Addr} {xs : List OpD} (h : zBh opR w a xs) {k : Nat} {x : OpD} (hx : xs[k]? = some x) : ∃ b off, a = some ⟨b, off, none⟩ ∧ w.cell? ⟨b, off + k * 4, none⟩ = some (.int .i64 x.1) ∧ w.cell? ⟨b, off + k * 4 + 1, none⟩ = some (.int .i64 x.2.1) ∧ w.cell? ⟨b, off + k * 4 + 2, none⟩ = some (.int .i64 x.2.2.1) ∧ w.cell? ⟨b, off + k * 4 + 3, none⟩ = some (.int .i64 x.2.2.2) ∧ In4 x := by
 obtain ⟨b, off, cs, rfl, hrd, hc⟩ := zBG h hx
 obtain ⟨rfl, h4⟩ := op_rd hrd
 exact ⟨b, off, rfl, hc 0 _ rfl, hc 1 _ rfl, hc 2 _ rfl, hc 3 _ rfl, h4⟩
theorem zNe (a : Option Addr) (xs : List OpD) (cap : Nat) (left : Int) (w : World) (h0 : 0 ≤ left) (h1 : left ≤ 1048576) (hm : xs.length ≤ maxLen) :
    Calls Tryz.prog 19 #[.slice a xs.length cap, .int .i64 left] w fun e w' => e = .returned (.int .i64 (szI (zDl.bk xs) left)) ∧ w' = w := by
 have hm' : xs.length ≤ 9223372036854775807 := hm
 rw [zLi]
 by_cases hl : (xs.length : Int) ≤ left
 ·have HS : Hid (szI xs.length left = _) := zC2 hl
  have hl' : ¬ (left - (xs.length : Int) < 0) := by omega
  go_enter Tryz.func19, Tryz.ntmps19
  go_wp2
  go_ret
  exact ⟨zAW HS.out.symm, rfl⟩
 ·have HS : Hid (szI xs.length left = _) := zCz hl
  have hl' : left - (xs.length : Int) < 0 := by omega
  go_enter Tryz.func19, Tryz.ntmps19
  go_wp2
  go_ret
  exact ⟨zAW HS.out.symm, rfl⟩
theorem toOp_rep (k a x y : Int) (w : World) :
    Calls Tryz.prog 63 #[.agg #[.int .i64 k, .int .i64 a, .int .i64 x, .int .i64 y]] w fun e w' => e = .returned (.agg #[.int .i64 k, .int .i64 a, .int .i64 x, .int .i64 y]) ∧ Below w.heap.size w w' := by
 have HB : Hid (∀ o o' o'', Below w.heap.size w (((w.alloc o).alloc o').alloc o'')) := fun o o' o'' => zAb (zAb (zAf w o) (zAf _ o')) (zAf _ o'')
 go_enter Tryz.func63, Tryz.ntmps63
 go_wp2
 refine bodyPost_ret (v := .agg #[.int .i64 k, .int .i64 a, .int .i64 x, .int .i64 y]) (by simp [results, Tryz.results63, go_sem]) rfl ⟨rfl, ?_⟩
 exact HB.out _ _ _
theorem Tryz.infoOp : (Tryz.prog.info? 85).map (fun i => (i.zero, i.size, i.bytes)) = some (some (.agg #[.int .i64 0, .int .i64 0, .int .i64 0, .int .i64 0]), 4, 32) := by kernel_rfl
theorem zNf (a : Option Addr) (xs : List OpD) (cap : Nat) (w : World) (h : zBh opR w a xs) (hm : zDl.bk xs ≤ 1048576) :
    Calls Tryz.prog 27 #[.slice a xs.length cap] w fun e w' => ∃ v, e = .returned v ∧ zAY zBX w w' [v] xs := by
 rw [zLi] at hm
 have H0 : Hid (zBh opR w a xs) := h
 clear h
 have hmk := zDK (P := Tryz.prog) 38 85 (.agg #[.int .i64 0, .int .i64 0, .int .i64 0, .int .i64 0]) 4 32 Tryz.underlying38 Tryz.infoOp xs.length (by omega) (by omega)
 go_enter Tryz.func27, Tryz.ntmps27
 go_wp2
 go_loopw [4] (fun i wr => ∃ k : Nat, k ≤ xs.length ∧ i = .int .i64 k ∧ Fill 85 opR w wr xs.length (xs.take k)) (fun i _ => xs.length - (intOf i).toNat)
 case atStart => exact ⟨0, Nat.zero_le _, rfl, by simpa using zEP (e := 85) (R := opR) (w0 := w) (n := xs.length) (cs := madeCells #[.int .i64 0, .int .i64 0, .int .i64 0, .int .i64 0] (xs.length * 4)) (by unfold maxLen; omega) (by rw [size_madeCells]; rfl)⟩
 case round =>
  obtain ⟨k, hk, rfl, hF⟩ := hrel
  by_cases hlt : k < xs.length
  ·have hlt' : (k : Int) < (xs.length : Int) := by omega
   obtain ⟨x, hx⟩ : ∃ x, xs[k]? = some x := ⟨_, List.getElem?_eq_getElem hlt⟩
   obtain ⟨b, off, rfl, x0, x1, x2, x3, h4⟩ := zEt (zAG H0.out (zF7 hF)) hx
   have FS : Hid (∀ w1 c, zAY opR wr w1 c x → _) := fun w1 c hm => zF5 (w1 := w1) (c := c) hF (by simp; omega) hlt hm
   have HP : Hid (xs.take k ++ [x] = xs.take (k + 1)) := by unfold Hid; rw [List.take_add_one, hx]; rfl
   have H4 : Hid (In4 x) := h4
   clear hx hmk hF h4
   go_wp2_with fail
   refine (toOp_rep x.1 x.2.1 x.2.2.1 x.2.2.2 _).mono ?_
   rintro e w1 ⟨rfl, bb⟩
   obtain ⟨q1, q2, F1⟩ := FS.out _ _ (made_op H4.out bb)
   obtain ⟨v0, hv0⟩ := q1 0 (by decide)
   obtain ⟨v1, hv1⟩ := q1 1 (by decide)
   obtain ⟨v2, hv2⟩ := q1 2 (by decide)
   obtain ⟨v3, hv3⟩ := q1 3 (by decide)
   have z0 := q2 (k * 4)
   have z1 := q2 (k * 4 + 1)
   have z2 := q2 (k * 4 + 2)
   have z3 := q2 (k * 4 + 3)
   rw [show k * opR.size + 0 = k * 4 from rfl] at hv0
   rw [show k * opR.size + 1 = k * 4 + 1 from rfl] at hv1
   rw [show k * opR.size + 2 = k * 4 + 2 from rfl] at hv2
   rw [show k * opR.size + 3 = k * 4 + 3 from rfl] at hv3
   rw [HP.out] at F1
   have HF : Hid _ := F1
   clear F1 bb q1 q2 FS x0 x1 x2 x3
   go_wp2
   go_roundw
   case rel => exact ⟨k + 1, by omega, by go_num, HF.out⟩
   case measure => simp [intOf]; omega
  ·have hkl : k = xs.length := by omega
   subst hkl
   rw [List.take_length] at hF
   have FE := zGv hF rfl
   clear hF
   go_wp2
   go_ret
   exact ⟨_, rfl, FE⟩
theorem eqOp_rep (k a x y : Int) (w : World) :
    Calls Tryz.prog 77 #[.agg #[.int .i64 k, .int .i64 a, .int .i64 x, .int .i64 y], .agg #[.int .i64 k, .int .i64 a, .int .i64 x, .int .i64 y]] w fun e w' => e = .returned (.bool true) ∧ Below w.heap.size w w' := by
 have HB : Hid (∀ o o', Below w.heap.size w ((w.alloc o).alloc o')) := fun o o' => zAb (zAf w o) (zAf _ o')
 go_enter Tryz.func77, Tryz.ntmps77
 go_wp2
 go_ret
 exact ⟨rfl, HB.out _ _⟩
theorem zNg (a1 a2 : Option Addr) (xs : List OpD) (c1 c2 : Nat) (w : World) (h1 : zBh opR w a1 xs) (h2 : zBh opR w a2 xs) (hm : zDl.bk xs ≤ 1152921504606846976) :
    Calls Tryz.prog 38 #[.slice a1 xs.length c1, .slice a2 xs.length c2] w fun e w' => e = .returned (.bool true) ∧ Below w.heap.size w w' := by
 rw [zLi] at hm
 have H1 : Hid (∀ W, Below w.heap.size w W → zBh opR W a1 xs) := fun W hb => zA7 h1 fun k hk => hb.block k hk
 have H2 : Hid (∀ W, Below w.heap.size w W → zBh opR W a2 xs) := fun W hb => zA7 h2 fun k hk => hb.block k hk
 clear h1 h2
 go_enter Tryz.func38, Tryz.ntmps38
 go_wp2
 go_loopw [5] (fun i wr => ∃ k : Nat, k ≤ xs.length ∧ i = .int .i64 k ∧ Below w.heap.size w wr) (fun i _ => xs.length - (intOf i).toNat)
 case atStart => exact ⟨0, Nat.zero_le _, rfl, Below.refl _ _⟩
 case round =>
  obtain ⟨k, hk, rfl, BB⟩ := hrel
  by_cases hlt : k < xs.length
  ·have hlt' : (k : Int) < (xs.length : Int) := by omega
   obtain ⟨x, hx⟩ : ∃ x, xs[k]? = some x := ⟨_, List.getElem?_eq_getElem hlt⟩
   obtain ⟨b1, off1, rfl, x10, x11, x12, x13, -⟩ := zEt (H1.out _ BB) hx
   obtain ⟨b2, off2, rfl, x20, x21, x22, x23, -⟩ := zEt (H2.out _ BB) hx
   have x10c : ∀ n : Cls (fun wx => Below wr.heap.size wr wx), n.w.cell? ⟨b1, off1 + k * 4, none⟩ = some (.int .i64 x.1) := fun n => zAd n.h x10 (zAi x10)
   have x11c : ∀ n : Cls (fun wx => Below wr.heap.size wr wx), n.w.cell? ⟨b1, off1 + k * 4 + 1, none⟩ = some (.int .i64 x.2.1) := fun n => zAd n.h x11 (zAi x11)
   have x12c : ∀ n : Cls (fun wx => Below wr.heap.size wr wx), n.w.cell? ⟨b1, off1 + k * 4 + 2, none⟩ = some (.int .i64 x.2.2.1) := fun n => zAd n.h x12 (zAi x12)
   have x13c : ∀ n : Cls (fun wx => Below wr.heap.size wr wx), n.w.cell? ⟨b1, off1 + k * 4 + 3, none⟩ = some (.int .i64 x.2.2.2) := fun n => zAd n.h x13 (zAi x13)
   have x20c : ∀ n : Cls (fun wx => Below wr.heap.size wr wx), n.w.cell? ⟨b2, off2 + k * 4, none⟩ = some (.int .i64 x.1) := fun n => zAd n.h x20 (zAi x20)
   have x21c : ∀ n : Cls (fun wx => Below wr.heap.size wr wx), n.w.cell? ⟨b2, off2 + k * 4 + 1, none⟩ = some (.int .i64 x.2.1) := fun n => zAd n.h x21 (zAi x21)
   have x22c : ∀ n : Cls (fun wx => Below wr.heap.size wr wx), n.w.cell? ⟨b2, off2 + k * 4 + 2, none⟩ = some (.int .i64 x.2.2.1) := fun n => zAd n.h x22 (zAi x22)
   have x23c : ∀ n : Cls (fun wx => Below wr.heap.size wr wx), n.w.cell? ⟨b2, off2 + k * 4 + 3, none⟩ = some (.int .i64 x.2.2.2) := fun n => zAd n.h x23 (zAi x23)
   clear hx x10 x11 x12 x13 x20 x21 x22 x23
   go_wp2_with fail
   refine zA8 (fun wx => Below wr.heap.size wr wx) (by kernel_rfl) (by kernel_rfl) ((Below.refl _ wr).drew) ?_
   intro hne
   repeat (quiet_step ((go_at_call 77; exact zAz (eqOp_rep x.1 x.2.1 x.2.2.1 x.2.2.2 _) (fun w' hc bb => zAb hc bb))))
   refine wpQuiet_nil ?_
   intro wx b2
   replace BB := zAb BB b2
   clear b2 hne x10c x20c x11c x21c x12c x22c x13c x23c
   go_wp2
   go_roundw
   case rel => exact ⟨k + 1, by omega, by go_num, BB⟩
   case measure => simp [intOf]; omega
  ·go_wp2
   go_ret
   exact ⟨rfl, BB⟩
variable {α : Type}
theorem zIy {w : World} {g i : Nat} {v : Value} : Chg (fun b => b = g) w (w.setCell ⟨g, i, none⟩ v) := ⟨rfl, rfl, rfl, by simp, fun j _ hj => heap_setCell_other w ⟨g, i, none⟩ j v hj⟩
variable {α : Type}
def At (w : World) (t : TypeId) (G off : Nat) (cs : List Value) : Prop := ∃ cur, w.heap[G]? = some (.cells cur t (0, 0)) ∧ off + cs.length ≤ cur.size ∧ ∀ j, j < cs.length → cur[off + j]? = cs[j]?
theorem at_lt {w : World} {t : TypeId} {G off : Nat} {cs : List Value} (h : At w t G off cs) : G < w.heap.size := by
 obtain ⟨cur, h1, _⟩ := h
 exact (Array.getElem?_eq_some_iff.1 h1).1
theorem zFF {w : World} {t : TypeId} {G off : Nat} {cs : List Value} (h : At w t G off cs) (j : Nat) {v : Value} (hv : cs[j]? = some v) : w.cell? ⟨G, off + j, none⟩ = some v := by
 obtain ⟨cur, h1, _, h3⟩ := h
 rw [cell_of_row w G _ cur t (0, 0) h1, h3 j (List.getElem?_eq_some_iff.1 hv).1]
 exact hv
theorem zIz {w : World} {t : TypeId} {G : Nat} {off : Nat} {cs : List Value} {v : Value} (h : At w t G off (v :: cs)) : w.cell? ⟨G, off, none⟩ = some v := zFF h 0 rfl
theorem zI0 {w : World} {t : TypeId} {G off : Nat} {cs : List Value} (h : At w t G off cs) (j : Nat) : w.frozen? ⟨G, off + j, none⟩ = false := by
 obtain ⟨cur, h1, _⟩ := h
 exact frozen_of_row w G _ _ t h1
theorem at_froz0 {w : World} {t : TypeId} {G off : Nat} {cs : List Value} (h : At w t G off cs) : w.frozen? ⟨G, off, none⟩ = false := zI0 h 0
theorem at_keep {w w' : World} {t : TypeId} {G off : Nat} {cs : List Value} (h : At w t G off cs) (hk : w'.heap[G]? = w.heap[G]?) : At w' t G off cs := by
 obtain ⟨cur, h1, h2⟩ := h
 exact ⟨cur, hk.trans h1, h2⟩
theorem at_set {w : World} {t : TypeId} {G off : Nat} {cs cs' : List Value} (h : At w t G off cs) (j : Nat) (v : Value) (e : cs' = cs.set j v) : At (w.setCell ⟨G, off + j, none⟩ v) t G off cs' := by
 obtain ⟨cur, h1, h2, h3⟩ := h
 subst e
 refine ⟨_, heap_setCell_same w G (off + j) cur t v h1, by simpa using h2, fun i hi => ?_⟩
 rw [List.length_set] at hi
 by_cases hij : i = j
 ·subst hij
  rw [Array.getElem?_setIfInBounds_self_of_lt (by omega), List.getElem?_set_self hi]
 ·rw [Array.getElem?_setIfInBounds_ne (by omega), List.getElem?_set_ne (by omega)]
  exact h3 i hi
def In (G off n : Nat) (w w' : World) : Prop := ∀ cur t, w.heap[G]? = some (.cells cur t (0, 0)) → ∃ cur' : Array Value, w'.heap[G]? = some (.cells cur' t (0, 0)) ∧ cur'.size = cur.size ∧ ∀ i, i < off ∨ off + n ≤ i → cur'[i]? = cur[i]?
theorem In.refl (G off n : Nat) (w : World) : In G off n w w := fun cur t h => ⟨cur, h, rfl, fun _ _ => rfl⟩
theorem In.trans {G off n : Nat} {a b c : World} (h : In G off n a b) (k : In G off n b c) : In G off n a c := fun cur t hc => by
 obtain ⟨c1, e1, s1, q1⟩ := h cur t hc
 obtain ⟨c2, e2, s2, q2⟩ := k c1 t e1
 exact ⟨c2, e2, s2.trans s1, fun i hi => (q2 i hi).trans (q1 i hi)⟩
theorem In.same {G off n : Nat} {w w' : World} (h : w'.heap[G]? = w.heap[G]?) : In G off n w w' := fun cur t hc => ⟨cur, h.trans hc, rfl, fun _ _ => rfl⟩
theorem In.set {G off n j : Nat} {w : World} {v : Value} (hj : j < n) : In G off n w (w.setCell ⟨G, off + j, none⟩ v) := fun cur t hc =>
 ⟨_, heap_setCell_same w G (off + j) cur t v hc, by simp, fun i hi => Array.getElem?_setIfInBounds_ne (by omega)⟩
theorem In.mono {G off n off' n' : Nat} {w w' : World} (h : In G off n w w') (h1 : off' ≤ off) (h2 : off + n ≤ off' + n') : In G off' n' w w' := fun cur t hc => by
 obtain ⟨c1, e1, s1, q1⟩ := h cur t hc
 exact ⟨c1, e1, s1, fun i hi => q1 i (by omega)⟩
structure Obj1 (R : Rep α) (t : TypeId) (w : World) (G off : Nat) (S : zAX) (cs : List Value) (x : α) : Prop where
 lies : At w t G off cs
 own : R.own w S cs x
 out : ¬ S G
structure Turn (G off n : Nat) (S : zAX) (w w' : World) : Prop where
 chg : Chg (fun k => S k ∨ k = G) w w'
 row : In G off n w w'
theorem Turn.refl (G off n : Nat) (S : zAX) (w : World) : Turn G off n S w w := ⟨Chg.refl _ _, In.refl _ _ _ _⟩
theorem Turn.mono {G off n : Nat} {S T : zAX} {w w' : World} (h : Turn G off n S w w') (hs : Sub S T) : Turn G off n T w w' := ⟨h.chg.mono (fun k hk => hk.imp (hs k) id), h.row⟩
theorem Turn.trans {G off n : Nat} {S S' : zAX} {a b c : World} (h : Turn G off n S a b) (k : Turn G off n S' b c) (hS : ∀ k, S' k → S k ∨ (a.heap.size ≤ k)) : Turn G off n S a c := by
 refine ⟨⟨k.chg.os.trans h.chg.os, k.chg.tape.trans h.chg.tape, k.chg.output.trans h.chg.output, Nat.le_trans h.chg.size k.chg.size, fun j hj hn => ?_⟩, h.row.trans k.row⟩
 have hb := h.chg.size
 refine (k.chg.block j (by omega) (fun hx => ?_)).trans (h.chg.block j hj hn)
 rcases hx with hx | hx
 ·rcases hS j hx with h1 | h1
  ·exact hn (.inl h1)
  ·omega
 ·exact hn (.inr hx)
theorem zEB {e : TypeId} {R : Rep α} {w : World} {S : zAX} {v : Value} {xs : List α} {j : Nat} {x : α} (h : (slR e R).own w S [v] xs) (hx : xs[j]? = some x) :
    ∃ g cap Sj T c, v = .slice (some ⟨g, 0, none⟩) xs.length cap ∧ S g ∧ Obj1 R e w g (j * R.size) Sj c x ∧ Sub Sj S ∧ Sub T S ∧ Dis Sj T ∧ ¬ T g ∧
     ∀ w' c' x' U V, Obj1 R e w' g (j * R.size) U c' x' → In g (j * R.size) R.size w w' → Keeps T w w' → Dis U T → V g → Sub U V → Sub T V → (slR e R).own w' V [v] (xs.set j x') := by
 obtain ⟨g, cap, cur, Sj, T, c, hv, hSg, hg, hc, hcl, ho, s1, s2, hd, n1, n2, back⟩ := zBH h hx
 have hsz : j * R.size + R.size ≤ cur.size ∨ R.size = 0 := by
  by_cases h0 : R.size = 0
  ·exact .inr h0
  ·left
   have h1 := hc (R.size - 1) (by omega)
   have h2 : (R.size - 1) < c.length := by omega
   rw [List.getElem?_eq_getElem h2] at h1
   have := (Array.getElem?_eq_some_iff.1 h1).1
   omega
 have hle : j * R.size + R.size ≤ cur.size := by
  rcases hsz with h1 | h0
  ·exact h1
  ·rw [h0]; simp
 refine ⟨g, cap, Sj, T, c, hv, hSg, ⟨⟨cur, hg, by omega, fun i hi => hc i (by omega)⟩, ho, n1⟩, s1, s2, hd, n2, ?_⟩
 intro w' c' x' U V ob hin hk hd2 hV hU hT
 obtain ⟨cur', e1, e2, e3⟩ := hin cur e hg
 obtain ⟨cur2, f1, f2, f3⟩ := ob.lies
 have hcc : cur2 = cur' := by rw [e1] at f1; simp at f1; exact f1.symm
 subst hcc
 have hcl' := R.rd_len (R.own_rd ob.own)
 exact back w' cur2 c' x' U V e1 e2 (fun i hi => e3 i (by omega)) (fun i hi => f3 i (by omega)) hk ob.own hd2 ob.out hV hU hT
theorem zFs {e : TypeId} {R : Rep α} {w : World} {S : zAX} {g n cap : Nat} {xs : List α} {j i : Nat} {x x' : α} {v : Value} (h : (slR e R).own w S [.slice (some ⟨g, 0, none⟩) n cap] xs) (hx : xs[j]? = some x) (hi : i < R.size) (hc : ∀ c, R.rd w c x → (∀ W T, R.own W T c x → R.own W T (c.set i v) x')) :
    (slR e R).own (w.setCell ⟨g, j * R.size + i, none⟩ v) S [.slice (some ⟨g, 0, none⟩) n cap] (xs.set j x') := by
 obtain ⟨g1, cap1, Sj, T, c1, hv, hSg, ob, s1, s2, hd, n2, back⟩ := zEB h hx
 simp only [Value.slice.injEq, Option.some.injEq, Addr.mk.injEq, and_true] at hv
 obtain ⟨rfl, -, rfl⟩ := hv
 have hk : ∀ F : zAX, ¬ F g → Keeps F w (w.setCell ⟨g, j * R.size + i, none⟩ v) := fun F hF k hk _ => heap_setCell_other w ⟨g, j * R.size + i, none⟩ k v (fun e => hF (by have e' : k = g := e; rw [← e']; exact hk))
 exact back _ (c1.set i v) x' Sj S ⟨at_set ob.lies i v rfl, hc c1 (R.own_rd ob.own) _ _ (R.own_keep ob.own (hk Sj ob.out)), ob.out⟩ (In.set hi) (hk T n2) hd hSg s1 s2
theorem zGM {w : World} {S : zAX} {c : List Value} {u : OpD} (h : opR.own w S c u) : c = [.int .i64 u.1, .int .i64 u.2.1, .int .i64 u.2.2.1, .int .i64 u.2.2.2] ∧ In4 u := op_rd (opR.own_rd h)
theorem op_set0 {w : World} {c : List Value} {x : OpD} {y : Int} (hy : zBk y) (hr : opR.rd w c x) : ∀ W T, opR.own W T c x → opR.own W T (c.set 0 (.int .i64 y)) (y, x.2) := by
 intro W T ho
 obtain ⟨rfl, h⟩ := zGM ho
 exact zHF (u := (y, x.2)) ⟨hy, h.2.1, h.2.2.1, h.2.2.2⟩
theorem op_set1 {w : World} {c : List Value} {x : OpD} {y : Int} (hy : zBk y) (hr : opR.rd w c x) : ∀ W T, opR.own W T c x → opR.own W T (c.set 1 (.int .i64 y)) (x.1, y, x.2.2) := by
 intro W T ho
 obtain ⟨rfl, h⟩ := zGM ho
 exact zHF (u := (x.1, y, x.2.2)) ⟨h.1, hy, h.2.2.1, h.2.2.2⟩
theorem op_set2 {w : World} {c : List Value} {x : OpD} {y : Int} (hy : zBk y) (hr : opR.rd w c x) : ∀ W T, opR.own W T c x → opR.own W T (c.set 2 (.int .i64 y)) (x.1, x.2.1, y, x.2.2.2) := by
 intro W T ho
 obtain ⟨rfl, h⟩ := zGM ho
 exact zHF (u := (x.1, x.2.1, y, x.2.2.2)) ⟨h.1, h.2.1, hy, h.2.2.2⟩
theorem op_set3 {w : World} {c : List Value} {x : OpD} {y : Int} (hy : zBk y) (hr : opR.rd w c x) : ∀ W T, opR.own W T c x → opR.own W T (c.set 3 (.int .i64 y)) (x.1, x.2.1, x.2.2.1, y) := by
 intro W T ho
 obtain ⟨rfl, h⟩ := zGM ho
 exact zHF (u := (x.1, x.2.1, x.2.2.1, y)) ⟨h.1, h.2.1, h.2.2.1, hy⟩
theorem zLj {k : Int} (h0 : 0 ≤ k) (h1 : k ≤ 1152921504606846976) : zBk k := by constructor <;> omega
theorem zKv {α : Type} {xs : List α} {j : Nat} {x a : α} (h : xs[j]? = some x) : (xs.set j a)[j]? = some a := by
 rw [List.getElem?_set_self (List.getElem?_eq_some_iff.1 h).1]
theorem zKw (k : Int) (w : World) :
    Calls Tryz.prog 42 #[.slice none 0 0, .int .i64 k] w fun e' w' => e' = .returned (.int .i64 k) ∧ w' = w := by
 go_enter Tryz.func42, Tryz.ntmps42
 go_wp2
 refine wp_loop_rounds 1 ?_
 rw [rounds_succ]
 go_wp2
 go_ret
 exact ⟨rfl, rfl⟩
theorem zJr {S : zAX} {G n cap j : Nat} {w : World} {xs : List OpD} {x : OpD} {kk : Int} (h0 : 0 ≤ kk) (h1 : kk ≤ 1152921504606846970) (h : zBX.own w S [.slice (some ⟨G, 0, none⟩) n cap] xs) (hx : xs[j]? = some x) :
    zBX.own ((((w.setCell ⟨G, j * 4, none⟩ (.int .i64 kk)).setCell ⟨G, j * 4 + 1, none⟩ (.int .i64 (kk + 1))).setCell ⟨G, j * 4 + 2, none⟩ (.int .i64 (kk + 1 + 1))).setCell ⟨G, j * 4 + 3, none⟩ (.int .i64 (kk + 1 + 1 + 1))) S [.slice (some ⟨G, 0, none⟩) n cap] (xs.set j (kk, kk + 1, kk + 1 + 1, kk + 1 + 1 + 1)) ∧
    Chg (fun k => k = G) w ((((w.setCell ⟨G, j * 4, none⟩ (.int .i64 kk)).setCell ⟨G, j * 4 + 1, none⟩ (.int .i64 (kk + 1))).setCell ⟨G, j * 4 + 2, none⟩ (.int .i64 (kk + 1 + 1))).setCell ⟨G, j * 4 + 3, none⟩ (.int .i64 (kk + 1 + 1 + 1))) := by
 have a1 := zFs (i := 0) (v := .int .i64 kk) h hx (by decide) (fun c hr => op_set0 (zLj (by omega) (by omega)) hr)
 have a2 := zFs (i := 1) (v := .int .i64 (kk + 1)) a1 (zKv hx) (by decide) (fun c hr => op_set1 (zLj (by omega) (by omega)) hr)
 rw [List.set_set] at a2
 have a3 := zFs (i := 2) (v := .int .i64 (kk + 1 + 1)) a2 (zKv hx) (by decide) (fun c hr => op_set2 (zLj (by omega) (by omega)) hr)
 rw [List.set_set] at a3
 have a4 := zFs (i := 3) (v := .int .i64 (kk + 1 + 1 + 1)) a3 (zKv hx) (by decide) (fun c hr => op_set3 (zLj (by omega) (by omega)) hr)
 rw [List.set_set] at a4
 exact ⟨a4, ((zIy.trans zIy).trans zIy).trans zIy⟩
theorem zKx (S : zAX) (v : Value) (k : Int) (xs : List OpD) (w : World) (h0 : 0 ≤ k) (h1 : k ≤ 288230376151711744) (hm : zA1 opM xs ≤ 288230376151711744) (h : zBX.own w S [v] xs) :
    Calls Tryz.prog 42 #[v, .int .i64 k] w fun e' w' => e' = .returned (.int .i64 (k + zA1 opM xs)) ∧ zBX.own w' S [v] (zBw opM k xs) ∧ Chg S w w' := by
 rcases zD9 h with ⟨rfl, rfl⟩ | ⟨G, cap, rfl, hG⟩
 ·exact (zKw k w).mono fun e w' ⟨e1, e2⟩ => ⟨by simpa [zA1] using e1, by rw [e2]; exact h, by rw [e2]; exact Chg.refl _ _⟩
 have hcn := zNd xs
 have H : Hid _ := h
 clear h
 go_enter Tryz.func42, Tryz.ntmps42
 go_wp2
 go_loopw [1, 5] (fun q i wr => ∃ j : Nat, j ≤ xs.length ∧ i = .int .i64 j ∧ q = .int .i64 (k + zA1 opM (xs.take j)) ∧ zBX.own wr S [.slice (some ⟨G, 0, none⟩) xs.length cap] (zEh opM k xs j) ∧ Chg S w wr) (fun _ i _ => xs.length - (intOf i).toNat)
 case atStart => exact ⟨0, Nat.zero_le _, rfl, by simp [zA1], by rw [zE0]; exact H.out, Chg.refl _ _⟩
 case round =>
  obtain ⟨j, hj, rfl, rfl, ho, hs⟩ := hrel
  by_cases hlt : j < xs.length
  ·have hlt' : (j : Int) < (xs.length : Int) := by omega
   obtain ⟨x, hx⟩ : ∃ x, xs[j]? = some x := ⟨_, List.getElem?_eq_getElem hlt⟩
   have HT : Hid (zA1 opM (xs.take (j + 1)) = zA1 opM (xs.take j) + 4) := zCv (M := opM) hx
   have hT : zA1 opM (xs.take j) + 4 ≤ zA1 opM xs := zCT (M := opM) hx
   have HPS := zE1 (M := opM) (k := k) hx
   obtain ⟨G1, cap1, Sj, Tj, cj, hv, -, ob, -⟩ := zEB ho (zFg hx)
   simp only [Value.slice.injEq, Option.some.injEq, Addr.mk.injEq, and_true] at hv
   obtain ⟨rfl, -, rfl⟩ := hv
   obtain ⟨rfl, -⟩ := zGM ob.own
   have y0 := zIz ob.lies
   have y1 := zFF ob.lies 1 rfl
   have y2 := zFF ob.lies 2 rfl
   have y3 := zFF ob.lies 3 rfl
   have t0 := at_froz0 ob.lies
   have t1 := zI0 ob.lies 1
   have t2 := zI0 ob.lies 2
   have t3 := zI0 ob.lies 3
   rw [show j * opR.size = j * 4 from rfl] at y0 y1 y2 y3 t0 t1 t2 t3
   generalize hkk : k + (zA1 opM (xs.take j) : Int) = kk at HPS ⊢
   have hk0 : 0 ≤ kk ∧ kk ≤ 576460752303423488 := by omega
   obtain ⟨O2, C2⟩ := zJr (kk := kk) hk0.1 (by omega) ho (zFg hx)
   rw [show (kk, kk + 1, kk + 1 + 1, kk + 1 + 1 + 1) = opM.mE kk x from rfl, HPS] at O2
   have HF : Hid _ := And.intro O2 (hs.trans (C2.mono (fun b hb => by rw [hb]; exact hG)))
   clear O2 C2 ob ho hs HPS hx
   generalize zA1 opM (xs.take j) = TT at HT hT hkk
   go_wp2
   go_roundw
   case rel => exact ⟨j + 1, by omega, by go_num, by rw [HT.out]; congr 1; omega, HF.out.1, HF.out.2⟩
   case measure => simp [intOf]; omega
  ·have hjn : j = xs.length := by omega
   subst hjn
   rw [List.take_length]
   rw [zFf] at ho
   have HF : Hid _ := And.intro ho hs
   clear ho hs
   go_wp2
   go_ret
   exact ⟨rfl, HF.out.1, HF.out.2⟩
theorem zKy (a : Option Addr) (cap : Nat) (k : Int) (xs : List OpD) (w : World) (h0 : 0 ≤ k) (h1 : k ≤ 288230376151711744) (hm : zA1 opM xs ≤ 288230376151711744) (h : zBh opR w a (zBw opM k xs)) :
    Calls Tryz.prog 46 #[.slice a xs.length cap, .int .i64 k] w fun e' w' => e' = .returned (.int .i64 (k + zA1 opM xs)) ∧ w' = w := by
 have hln := zNd xs
 go_enter Tryz.func46, Tryz.ntmps46
 go_wp2
 go_loop [1, 5] (fun q i => ∃ j : Nat, j ≤ xs.length ∧ i = .int .i64 j ∧ q = .int .i64 (k + zA1 opM (xs.take j))) (fun _ i => xs.length - (intOf i).toNat)
 case atStart => exact ⟨0, Nat.zero_le _, rfl, by simp [zA1]⟩
 case round =>
  obtain ⟨j, hj, rfl, rfl⟩ := hrel
  by_cases hlt : j < xs.length
  ·have hlt' : (j : Int) < (xs.length : Int) := by omega
   obtain ⟨x, hx⟩ : ∃ x, xs[j]? = some x := ⟨_, List.getElem?_eq_getElem hlt⟩
   obtain ⟨b, off, rfl, x0, x1, x2, x3, -⟩ := zEt h (zD7 (M := opM) (k := k) hx)
   have y0 : w.cell? ⟨b, off + j * 4, none⟩ = some (.int .i64 (k + zA1 opM (xs.take j))) := x0
   have y1 : w.cell? ⟨b, off + j * 4 + 1, none⟩ = some (.int .i64 (k + zA1 opM (xs.take j) + 1)) := x1
   have y2 : w.cell? ⟨b, off + j * 4 + 2, none⟩ = some (.int .i64 (k + zA1 opM (xs.take j) + 1 + 1)) := x2
   have y3 : w.cell? ⟨b, off + j * 4 + 3, none⟩ = some (.int .i64 (k + zA1 opM (xs.take j) + 1 + 1 + 1)) := x3
   have HT : Hid (zA1 opM (xs.take (j + 1)) = zA1 opM (xs.take j) + 4) := zCv (M := opM) hx
   have hT : zA1 opM (xs.take j) + 4 ≤ zA1 opM xs := zCT (M := opM) hx
   clear hx h x0 x1 x2 x3
   generalize hkk : k + (zA1 opM (xs.take j) : Int) = kk at y0 y1 y2 y3 ⊢
   generalize zA1 opM (xs.take j) = TT at HT hT hkk
   have hk0 : 0 ≤ kk ∧ kk ≤ 576460752303423488 := by omega
   go_wp2
   go_round
   case rel => exact ⟨j + 1, by omega, by go_num, by rw [HT.out]; congr 1; omega⟩
   case measure => simp [intOf]; omega
  ·have hjn : j = xs.length := by omega
   subst hjn
   rw [List.take_length]
   go_wp2
   go_ret
   exact ⟨rfl, rfl⟩
theorem szOps_u : SzC 19 zBX zDl zEc := by
 rintro cs x left w ⟨a, cap, rfl, l1, l2, l3⟩ h0 h1
 exact (zNe a x cap left w h0 h1 (Nat.le_trans l1 l2)).mono fun e w' ⟨q, r⟩ => ⟨q, zFj r⟩
theorem toOps_u : ToC 27 zBX zDl zEc := by
 rintro cs x w ⟨a, cap, rfl, l1, l2, l3⟩ hm
 refine (zNf a x cap w l3 hm).mono ?_
 rintro e w' ⟨v, rfl, mm⟩
 exact ⟨[v], rfl, mm⟩
theorem eqOps_u : EqC 38 zBX zDl zEc := by
 rintro cs ds x w ⟨a, cap, rfl, l1, l2, l3⟩ ⟨b, cp, rfl, k1, k2, k3⟩ hm
 exact zNg a b x cap cp w l3 k3 (by have : lot = 4398046511104 := rfl; omega)
theorem mkOps_u : MkC 42 zBX zDl zEc := by
 intro S cs x k w h h0 hm hb
 obtain ⟨v, rfl⟩ := zHT h
 have e : lot = 4398046511104 := rfl
 have e2 : zDl.cV x = zA1 opM x := rfl
 exact zKx S v k x w h0 (by omega) (by omega) h
theorem hdOps_u : HdC 46 zBX zDl zEc := by
 rintro cs x k w ⟨a, cap, rfl, l1, l2, l3⟩ h0 hm hb
 have e : lot = 4398046511104 := rfl
 have e2 : zDl.cV x = zA1 opM x := rfl
 have := zKy a cap k x w h0 (by omega) (by omega) l3
 rw [show x.length = (zDl.mV k x).length from (zBF _ _ _).symm] at this
 exact this.mono fun e w' ⟨q, r⟩ => ⟨q, zFj r⟩
theorem szWay_u : SzC 20 zAS zBE zAM := by
 intro cs x left w h h0 h1
 obtain ⟨a, cap, rfl, i1, i2, l1, l2, l3⟩ := zAL h
 exact zG2 x.1 x.2.1 x.2.2 a cap left w h0 h1 (Nat.le_trans l1 l2)
theorem toWay_u : ToC 28 zAS zBE zAM := by
 intro cs x w h hm
 obtain ⟨a, cap, rfl, i1, i2, l1, l2, l3⟩ := zAL h
 refine (zJf x.1 x.2.1 x.2.2 a cap w i1 i2 l3 (by have : zBE.bk x = 0 + (0 + zBn.bk x.2.2) := rfl; omega)).mono ?_
 rintro e w' ⟨av, cv, rfl, mm⟩
 exact ⟨_, rfl, mm⟩
theorem eqWay_u : EqC 39 zAS zBE zAM := by
 intro cs ds x w h k hm
 obtain ⟨a, cap, rfl, i1, i2, l1, l2, l3⟩ := zAL h
 obtain ⟨b, cp, rfl, _, _, k1, k2, k3⟩ := zAL k
 exact zJg x.1 x.2.1 x.2.2 a b cap cp w l3 k3 (by have : zBE.bk x = 0 + (0 + zBn.bk x.2.2) := rfl; have : lot = 4398046511104 := rfl; omega)
theorem way_cV (x : zAU) : zBE.cV x = zA1 zBx x.2.2 := by show 0 + (0 + zA1 zBx x.2.2) = _; omega
theorem way_mV (k : Int) (x : zAU) : zBE.mV k x = (x.1, x.2.1, zBw zBx k x.2.2) := by
 show (x.1, x.2.1, zBw zBx (k + 0 + 0) x.2.2) = _
 rw [Int.add_zero, Int.add_zero]
theorem mkWay_u : MkC 43 zAS zBE zAM := by
 intro S cs x k w h h0 hm hb
 obtain ⟨v, rfl, i1, i2, o⟩ := zHY h
 have e : lot = 4398046511104 := rfl
 rw [way_cV] at hm ⊢
 rw [way_mV]
 refine (zKq S x.1 x.2.1 v k x.2.2 w h0 (by omega) (by omega) o).mono ?_
 rintro e w' ⟨q, r, s⟩
 exact ⟨q, zCF i1 i2 r, s⟩
theorem hdWay_u : HdC 47 zAS zBE zAM := by
 intro cs x k w h h0 hm hb
 have e : lot = 4398046511104 := rfl
 rw [way_mV] at h
 rw [way_cV] at hm ⊢
 obtain ⟨a, cap, rfl, i1, i2, l1, l2, l3⟩ := zAL h
 have := zKr x.1 x.2.1 a cap k x.2.2 w h0 (by omega) (by omega) l3
 rw [show x.2.2.length = (zBw zBx k x.2.2).length from (zBF _ _ _).symm] at this
 exact this
theorem zNh : SzC 18 zAB zBb zAM := by
 intro cs x left w h h0 h1
 obtain ⟨a, cap, b, cp, rfl, l1, l2, m1, m2, r1, r2⟩ := zAH h
 exact zKk a b x cap cp left w r1 h0 h1 (Nat.le_trans l1 l2) (Nat.le_trans m1 m2)
theorem zNi : ToC 26 zAB zBb zAM := by
 intro cs x w h hm
 obtain ⟨a, cap, b, cp, rfl, l1, l2, m1, m2, r1, r2⟩ := zAH h
 refine (zKm a b x cap cp w r1 r2 hm).mono ?_
 rintro e w' ⟨av, cv, bv, dv, rfl, mm⟩
 exact ⟨_, rfl, mm⟩
theorem zNj : EqC 37 zAB zBb zAM := by
 intro cs ds x w h k hm
 obtain ⟨a, cap, b, cp, rfl, l1, l2, m1, m2, r1, r2⟩ := zAH h
 obtain ⟨a', cap', b', cp', rfl, _, _, _, _, t1, t2⟩ := zAH k
 exact zKo x a b a' b' cap cp cap' cp' w r1 r2 t1 t2 (by have : lot = 4398046511104 := rfl; omega)
theorem zNk : MkC 41 zAB zBb zAM := by
 intro S cs x k w h h0 hm hb
 obtain ⟨u, v, S1, S2, rfl, _⟩ := zCe h
 have e : lot = 4398046511104 := rfl
 have hbk : zBb.bk x = zEU.bk x.1 + zBn.bk x.2 := rfl
 have hb1 : zEU.bk x.1 = x.1.length + zBz zBr x.1 := rfl
 have e2 : zBb.cV x = cntC x := rfl
 exact zIl S u v k x w h0 (by omega) (by omega) (by omega) h
theorem zNl : HdC 45 zAB zBb zAM := by
 intro cs x k w h h0 hm hb
 have e : lot = 4398046511104 := rfl
 have hbk : zBb.bk x = zEU.bk x.1 + zBn.bk x.2 := rfl
 have hb1 : zEU.bk x.1 = x.1.length + zBz zBr x.1 := rfl
 obtain ⟨a, cap, b, cp, rfl, l1, l2, m1, m2, r1, r2⟩ := zAH h
 have e2 : zBb.cV x = cntC x := rfl
 have := zIm a b cap cp k x w h0 (by omega) (by omega) (by omega) r1 r2
 rw [show x.1.length = (zBb.mV k x).1.length from (zBF _ _ _).symm, show x.2.length = (zBb.mV k x).2.length from (zBF _ _ _).symm] at this
 exact this
end Go.Proofs.YtoihjejenjcokaaGreatDoor
