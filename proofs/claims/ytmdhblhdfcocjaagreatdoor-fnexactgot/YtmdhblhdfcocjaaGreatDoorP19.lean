import Derived.Test.YtmdhblhdfcocjaaGreatDoorP00Box
import Derived.Test.YtmdhblhdfcocjaaGreatDoorP18
namespace Go.Proofs.YtmdhblhdfcocjaaGreatDoor
set_option maxHeartbeats 2000000
open Go.ChangeShapes Go.WideShapes Go.ChangeAt Go.RowKit
set_option linter.unusedVariables false
def endsB (r f t : Int) : Bool := zAP r 0 2 && (zAP f 0 5 && zAP t 0 5)
def zLW (d : List Int) : Bool := d.isEmpty || isL d
def msgB (u : zB5) : Bool := endsB u.1 u.2.1 u.2.2.1 && (zAP u.2.2.2.1 1 15 && (zAP u.2.2.2.2.1 0 15 && (zLW u.2.2.2.2.2.1 && zAP u.2.2.2.2.2.2 0 15)))
theorem mb {r f t k l g : Int} {d : List Int} : msgB (r, f, t, k, l, d, g) = (endsB r f t && (zAP k 1 15 && (zAP l 0 15 && (zLW d && zAP g 0 15)))) := rfl
abbrev OpD := Int × Int × Int × Int
abbrev opR : Rep OpD := zBP zBC (zBP zBC (zBP zBC zBC))
abbrev opM : Mk OpD := zDH zBx (zDH zBx (zDH zBx zBx))
abbrev zBX : Rep (List OpD) := slR 85 opR
abbrev zDl : Mk (List OpD) := slM opM
def In4 (u : OpD) : Prop := zBk u.1 ∧ zBk u.2.1 ∧ zBk u.2.2.1 ∧ zBk u.2.2.2
theorem opens_op : zEb Tryz.prog 96 opR :=
 zCS Tryz.underlying96 (by kernel_rfl) (zBq rfl (by kernel_rfl) zBL (zBq rfl (by kernel_rfl) zBL (zBq rfl (by kernel_rfl) zBL (zD5 rfl (by kernel_rfl) zBL))))
theorem zMZ : zEb Tryz.prog 26 zBX := zDG Tryz.underlying26 (by kernel_rfl) (by decide) opens_op
theorem op_rd {w : World} {cs : List Value} {u : OpD} (h : opR.rd w cs u) : cs = [nI u.1, nI u.2.1, nI u.2.2.1, nI u.2.2.2] ∧ In4 u := by
 obtain ⟨c0, e0, rfl, ⟨rfl, d⟩, c1, e1, rfl, ⟨rfl, b⟩, c2, e2, rfl, ⟨rfl, c⟩, ⟨rfl, a⟩⟩ := h;exact ⟨rfl, d, b, c, a⟩
theorem zHG {w : World} {S : zAW} {u : OpD} (h : In4 u) : opR.own w S [nI u.1, nI u.2.1, nI u.2.2.1, nI u.2.2.2] u :=
 ⟨[_], [_, _, _], fun _ => False, S, rfl, ⟨rfl, h.1⟩, ⟨[_], [_, _], fun _ => False, S, rfl, ⟨rfl, h.2.1⟩, ⟨[_], [_], fun _ => False, S, rfl, ⟨rfl, h.2.2.1⟩, ⟨rfl, h.2.2.2⟩, fun _ h => h.elim, Sub.refl _, fun _ h _ => h⟩, fun _ h => h.elim, Sub.refl _, fun _ h _ => h⟩, fun _ h => h.elim, Sub.refl _, fun _ h _ => h⟩
theorem made_op {w w' : World} {u : OpD} (h : In4 u) (hb : Bl w w') : zAX opR w w' [nI u.1, nI u.2.1, nI u.2.2.1, nI u.2.2.2] u := ⟨zHG h, hb⟩
theorem zNc (xs : List OpD) : zBz opM xs = 0 := by
 induction xs with
 | nil => rfl
 | cons x xs ih => simp only [zBz, List.map_cons, List.sum_cons] at ih ⊢; rw [ih]; rfl
theorem zLi (xs : List OpD) : zDl.bk xs = xs.length := by
 have a : zDl.bk xs = xs.length + zBz opM xs := rfl;rw [a, zNc]; rfl
theorem zNd (xs : List OpD) : zA1 opM xs = 4 * xs.length := by
 induction xs with
 | nil => rfl
 | cons x xs ih =>
  simp only [zA1, List.map_cons, List.sum_cons, List.length_cons] at ih ⊢;rw [ih];show 1 + (1 + (1 + 1)) + _ = _
  omega
theorem zEt {w : World} {a : Option Addr} {xs : List OpD} (h : zBg opR w a xs) {k : Nat} {x : OpD} (hx : xs[k]? = some x) : ∃ b c, a = some ⟨b, c, none⟩ ∧ w.cell? ⟨b, c + k * 4, none⟩ = some (nI x.1) ∧ w.cell? ⟨b, c + k * 4 + 1, none⟩ = some (nI x.2.1) ∧ w.cell? ⟨b, c + k * 4 + 2, none⟩ = some (nI x.2.2.1) ∧ w.cell? ⟨b, c + k * 4 + 3, none⟩ = some (nI x.2.2.2) ∧ In4 x := by
 obtain ⟨b, c, cs, rfl, f, d⟩ := zBG h hx;obtain ⟨rfl, g⟩ := op_rd f;exact ⟨b, c, rfl, d 0 _ rfl, d 1 _ rfl, d 2 _ rfl, d 3 _ rfl, g⟩
theorem zNe (a : Option Addr) (xs : List OpD) (cap : Nat) (left : Int) (w : World) (h0 : 0 ≤ left) (h1 : left ≤ 1048576) (hm : xs.length ≤ maxLen) :
    Calls Tryz.prog 19 #[sL a xs.length cap, nI left] w fun e w' => e = .returned (nI (szI (zDl.bk xs) left)) ∧ w' = w := by
 have f : xs.length ≤ 9223372036854775807 := hm;rw [zLi];by_cases d : (xs.length : Int) ≤ left
 ·have c : Hid (szI xs.length left = _) := zC2 d;have b : ¬ (left - (xs.length : Int) < 0) := by omega
  go_enter Tryz.func19, Tryz.ntmps19;go_wp2;go_ret
  exact ⟨zAV c.out.symm, rfl⟩
 ·have c : Hid (szI xs.length left = _) := zCz d;have b : left - (xs.length : Int) < 0 := by omega
  go_enter Tryz.func19, Tryz.ntmps19;go_wp2;go_ret
  exact ⟨zAV c.out.symm, rfl⟩
theorem toOp_rep (k a x y : Int) (w : World) :
    Calls Tryz.prog 63 #[.agg #[nI k, nI a, nI x, nI y]] w fun e w' => e = .returned (.agg #[nI k, nI a, nI x, nI y]) ∧ Bl w w' := by
 have b : Hid (∀ o o' o'', Bl w (((w.alloc o).alloc o').alloc o'')) := fun o o' o'' => zAb (zAb (zAf w o) (zAf _ o')) (zAf _ o'');go_enter Tryz.func63, Tryz.ntmps63;go_wp2;refine bodyPost_ret (v := .agg #[nI k, nI a, nI x, nI y]) (by simp [results, Tryz.results63, go_sem]) rfl ⟨rfl, ?_⟩;exact b.out _ _ _
theorem Tryz.infoOp : (Tryz.prog.info? 85).map (fun i => (i.zero, i.size, i.bytes)) = some (some (.agg #[nI 0, nI 0, nI 0, nI 0]), 4, 32) := by kernel_rfl
theorem zNf (a : Option Addr) (xs : List OpD) (cap : Nat) (w : World) (h : zBg opR w a xs) (hm : zDl.bk xs ≤ 1048576) :
    Calls Tryz.prog 27 #[sL a xs.length cap] w fun e w' => ∃ v, e = .returned v ∧ zAX zBX w w' [v] xs := by
 rw [zLi] at hm;have K : Hid (zBg opR w a xs) := h;clear h;have q := zDK (P := Tryz.prog) 38 85 (.agg #[nI 0, nI 0, nI 0, nI 0]) 4 32 Tryz.underlying38 Tryz.infoOp xs.length (by omega) (by omega);go_enter Tryz.func27, Tryz.ntmps27;go_wp2;go_loopw [4] (fun i wr => ∃ k : Nat, k ≤ xs.length ∧ i = nI k ∧ Fill 85 opR w wr xs.length (xs.take k)) (fun i _ => xs.length - (intOf i).toNat)
 case atStart => exact ⟨0, Nat.zero_le _, rfl, by simpa using zEP (e := 85) (R := opR) (w0 := w) (n := xs.length) (cs := madeCells #[nI 0, nI 0, nI 0, nI 0] (xs.length * 4)) (by unfold maxLen; omega) (by rw [size_madeCells]; rfl)⟩
 case round =>
  obtain ⟨k, hk, rfl, d⟩ := hrel;by_cases g : k < xs.length
  ·have A : (k : Int) < (xs.length : Int) := by omega
   obtain ⟨x, s⟩ : ∃ x, xs[k]? = some x := ⟨_, List.getElem?_eq_getElem g⟩;obtain ⟨b, J, rfl, D, H, M, E, B⟩ := zEt (zAG K.out (zF7 d)) s;have z : Hid (∀ w1 c, zAX opR wr w1 c x → _) := fun w1 c hm => zF5 (w1 := w1) (c := c) d (by simp; omega) g hm;have L : Hid (xs.take k ++ [x] = xs.take (k + 1)) := by unfold Hid; rw [List.take_add_one, s]; rfl
   have G : Hid (In4 x) := B;clear s q d B;go_wp2_with fail
   refine (toOp_rep x.1 x.2.1 x.2.2.1 x.2.2.2 _).mono ?_;rintro e w1 ⟨rfl, C⟩;obtain ⟨j, f, o⟩ := z.out _ _ (made_op G.out C);obtain ⟨v0, l⟩ := j 0 (by decide);obtain ⟨v1, r⟩ := j 1 (by decide);obtain ⟨v2, y⟩ := j 2 (by decide);obtain ⟨v3, p⟩ := j 3 (by decide);have z0 := f (k * 4);have z1 := f (k * 4 + 1);have z2 := f (k * 4 + 2);have z3 := f (k * 4 + 3);rw [show k * opR.size + 0 = k * 4 from rfl] at l;rw [show k * opR.size + 1 = k * 4 + 1 from rfl] at r;rw [show k * opR.size + 2 = k * 4 + 2 from rfl] at y;rw [show k * opR.size + 3 = k * 4 + 3 from rfl] at p;rw [L.out] at o;have F : Hid _ := o;clear o C j f z D H M E;go_wp2;go_roundw
   case rel => exact ⟨k + 1, by omega, by go_num, F.out⟩
   case measure => simp [intOf]; omega
  ·have m : k = xs.length := by omega
   subst m;rw [List.take_length] at d;have I := zGv d rfl;clear d;go_wp2;go_ret
   exact ⟨_, rfl, I⟩
theorem eqOp_rep (k a x y : Int) (w : World) :
    Calls Tryz.prog 77 #[.agg #[nI k, nI a, nI x, nI y], .agg #[nI k, nI a, nI x, nI y]] w fun e w' => e = .returned (.bool true) ∧ Bl w w' := by
 have b : Hid (∀ o o', Bl w ((w.alloc o).alloc o')) := fun o o' => zAb (zAf w o) (zAf _ o');go_enter Tryz.func77, Tryz.ntmps77;go_wp2;go_ret
 exact ⟨rfl, b.out _ _⟩
theorem zNg (a1 a2 : Option Addr) (xs : List OpD) (c1 c2 : Nat) (w : World) (h1 : zBg opR w a1 xs) (h2 : zBg opR w a2 xs) (hm : zDl.bk xs ≤ 1152921504606846976) :
    Calls Tryz.prog 38 #[sL a1 xs.length c1, sL a2 xs.length c2] w fun e w' => e = .returned (.bool true) ∧ Bl w w' := by
 rw [zLi] at hm;have J : Hid (∀ W, Bl w W → zBg opR W a1 xs) := fun W hb => zA7 h1 fun k E => hb.block k E;have K : Hid (∀ W, Bl w W → zBg opR W a2 xs) := fun W hb => zA7 h2 fun k E => hb.block k E;clear h1 h2;go_enter Tryz.func38, Tryz.ntmps38;go_wp2;go_loopw [5] (fun i wr => ∃ k : Nat, k ≤ xs.length ∧ i = nI k ∧ Bl w wr) (fun i _ => xs.length - (intOf i).toNat)
 case atStart => exact ⟨0, Nat.zero_le _, rfl, Below.refl _ _⟩
 case round =>
  obtain ⟨k, E, rfl, q⟩ := hrel;by_cases F : k < xs.length
  ·have I : (k : Int) < (xs.length : Int) := by omega
   obtain ⟨x, H⟩ : ∃ x, xs[k]? = some x := ⟨_, List.getElem?_eq_getElem F⟩;obtain ⟨D, a, rfl, g, j, l, c, -⟩ := zEt (J.out _ q) H;obtain ⟨m, b, rfl, o, f, d, p, -⟩ := zEt (K.out _ q) H;have v : ∀ n : Cls (fun wx => Bl wr wx), n.w.cell? ⟨D, a + k * 4, none⟩ = some (nI x.1) := fun n => zAd n.h g (zAi g);have C : ∀ n : Cls (fun wx => Bl wr wx), n.w.cell? ⟨D, a + k * 4 + 1, none⟩ = some (nI x.2.1) := fun n => zAd n.h j (zAi j);have y : ∀ n : Cls (fun wx => Bl wr wx), n.w.cell? ⟨D, a + k * 4 + 2, none⟩ = some (nI x.2.2.1) := fun n => zAd n.h l (zAi l);have s : ∀ n : Cls (fun wx => Bl wr wx), n.w.cell? ⟨D, a + k * 4 + 3, none⟩ = some (nI x.2.2.2) := fun n => zAd n.h c (zAi c);have B : ∀ n : Cls (fun wx => Bl wr wx), n.w.cell? ⟨m, b + k * 4, none⟩ = some (nI x.1) := fun n => zAd n.h o (zAi o);have z : ∀ n : Cls (fun wx => Bl wr wx), n.w.cell? ⟨m, b + k * 4 + 1, none⟩ = some (nI x.2.1) := fun n => zAd n.h f (zAi f);have A : ∀ n : Cls (fun wx => Bl wr wx), n.w.cell? ⟨m, b + k * 4 + 2, none⟩ = some (nI x.2.2.1) := fun n => zAd n.h d (zAi d);have r : ∀ n : Cls (fun wx => Bl wr wx), n.w.cell? ⟨m, b + k * 4 + 3, none⟩ = some (nI x.2.2.2) := fun n => zAd n.h p (zAi p);clear H g j l c o f d p;go_wp2_with fail
   refine zA8 (fun wx => Bl wr wx) (by kernel_rfl) (by kernel_rfl) ((Below.refl _ wr).drew) ?_;intro G;repeat (quiet_step ((go_at_call 77; exact zAz (eqOp_rep x.1 x.2.1 x.2.2.1 x.2.2.2 _) (fun w' hc bb => zAb hc bb))))
   refine wpQuiet_nil ?_;intro wx m;replace q := zAb q m;clear m G v B C z y A s r;go_wp2;go_roundw
   case rel => exact ⟨k + 1, by omega, by go_num, q⟩
   case measure => simp [intOf]; omega
  ·go_wp2;go_ret
   exact ⟨rfl, q⟩
variable {α : Type}
theorem zIz {w : World} {g i : Nat} {v : Value} : Chg (fun b => b = g) w (w.setCell ⟨g, i, none⟩ v) := ⟨rfl, rfl, rfl, by simp, fun j _ hj => heap_setCell_other w ⟨g, i, none⟩ j v hj⟩
variable {α : Type}
def At (w : World) (t : TypeId) (G off : Nat) (cs : List Value) : Prop := ∃ cur, w.heap[G]? = some (.cells cur t (0, 0)) ∧ off + cs.length ≤ cur.size ∧ ∀ j, j < cs.length → cur[off + j]? = cs[j]?
theorem at_lt {w : World} {t : TypeId} {G off : Nat} {cs : List Value} (h : At w t G off cs) : G < w.heap.size := by
 obtain ⟨a, b, _⟩ := h;exact (ltH b)
theorem zFF {w : World} {t : TypeId} {G off : Nat} {cs : List Value} (h : At w t G off cs) (j : Nat) {v : Value} (hv : cs[j]? = some v) : w.cell? ⟨G, off + j, none⟩ = some v := by
 obtain ⟨a, c, _, b⟩ := h;rw [cell_of_row w G _ a t (0, 0) c, b j (List.getElem?_eq_some_iff.1 hv).1];exact hv
theorem zI0 {w : World} {t : TypeId} {G : Nat} {off : Nat} {cs : List Value} {v : Value} (h : At w t G off (v :: cs)) : w.cell? ⟨G, off, none⟩ = some v := zFF h 0 rfl
theorem zI1 {w : World} {t : TypeId} {G off : Nat} {cs : List Value} (h : At w t G off cs) (j : Nat) : w.frozen? ⟨G, off + j, none⟩ = false := by
 obtain ⟨a, b, _⟩ := h;exact frozen_of_row w G _ _ t b
theorem at_froz0 {w : World} {t : TypeId} {G off : Nat} {cs : List Value} (h : At w t G off cs) : w.frozen? ⟨G, off, none⟩ = false := zI1 h 0
theorem at_keep {w w' : World} {t : TypeId} {G off : Nat} {cs : List Value} (h : At w t G off cs) (hk : w'.heap[G]? = w.heap[G]?) : At w' t G off cs := by
 obtain ⟨a, c, b⟩ := h;exact ⟨a, hk.trans c, b⟩
theorem at_set {w : World} {t : TypeId} {G off : Nat} {cs cs' : List Value} (h : At w t G off cs) (j : Nat) (v : Value) (e : cs' = cs.set j v) : At (w.setCell ⟨G, off + j, none⟩ v) t G off cs' := by
 obtain ⟨a, d, f, c⟩ := h;subst e;refine ⟨_, heap_setCell_same w G (off + j) a t v d, by simpa using f, fun i hi => ?_⟩;rw [List.length_set] at hi;by_cases b : i = j
 ·subst b;rw [Array.getElem?_setIfInBounds_self_of_lt (by omega), List.getElem?_set_self hi]
 ·rw [Array.getElem?_setIfInBounds_ne (by omega), List.getElem?_set_ne (by omega)];exact c i hi
def In (G off n : Nat) (w w' : World) : Prop := ∀ cur t, w.heap[G]? = some (.cells cur t (0, 0)) → ∃ cur' : Array Value, w'.heap[G]? = some (.cells cur' t (0, 0)) ∧ cur'.size = cur.size ∧ ∀ i, i < off ∨ off + n ≤ i → cur'[i]? = cur[i]?
theorem In.refl (G off n : Nat) (w : World) : In G off n w w := fun cur t h => ⟨cur, h, rfl, fun _ _ => rfl⟩
theorem In.trans {G off n : Nat} {a b c : World} (h : In G off n a b) (k : In G off n b c) : In G off n a c := fun cur t hc => by
 obtain ⟨l, d, p, j⟩ := h cur t hc;obtain ⟨o, f, g, m⟩ := k l t d;exact ⟨o, f, g.trans p, fun i hi => (m i hi).trans (j i hi)⟩
theorem In.same {G off n : Nat} {w w' : World} (h : w'.heap[G]? = w.heap[G]?) : In G off n w w' := fun cur t hc => ⟨cur, h.trans hc, rfl, fun _ _ => rfl⟩
theorem In.set {G off n j : Nat} {w : World} {v : Value} (hj : j < n) : In G off n w (w.setCell ⟨G, off + j, none⟩ v) := fun cur t hc =>
 ⟨_, heap_setCell_same w G (off + j) cur t v hc, by simp, fun i hi => Array.getElem?_setIfInBounds_ne (by omega)⟩
theorem In.mono {G off n off' n' : Nat} {w w' : World} (h : In G off n w w') (h1 : off' ≤ off) (h2 : off + n ≤ off' + n') : In G off' n' w w' := fun cur t hc => by
 obtain ⟨c, d, f, b⟩ := h cur t hc;exact ⟨c, d, f, fun i hi => b i (by omega)⟩
structure Obj1 (R : Rep α) (t : TypeId) (w : World) (G off : Nat) (S : zAW) (cs : List Value) (x : α) : Prop where
 lies : At w t G off cs
 own : R.own w S cs x
 out : ¬ S G
structure Turn (G off n : Nat) (S : zAW) (w w' : World) : Prop where
 chg : Chg (fun k => S k ∨ k = G) w w'
 row : In G off n w w'
theorem Turn.refl (G off n : Nat) (S : zAW) (w : World) : Turn G off n S w w := ⟨Chg.refl _ _, In.refl _ _ _ _⟩
theorem Turn.mono {G off n : Nat} {S T : zAW} {w w' : World} (h : Turn G off n S w w') (hs : Sub S T) : Turn G off n T w w' := ⟨h.chg.mono (fun k hk => hk.imp (hs k) id), h.row⟩
theorem Turn.trans {G off n : Nat} {S S' : zAW} {a b c : World} (h : Turn G off n S a b) (k : Turn G off n S' b c) (hS : ∀ k, S' k → S k ∨ (a.heap.size ≤ k)) : Turn G off n S a c := by
 refine ⟨⟨k.chg.os.trans h.chg.os, k.chg.tape.trans h.chg.tape, k.chg.output.trans h.chg.output, Nat.le_trans h.chg.size k.chg.size, fun j hj hn => ?_⟩, h.row.trans k.row⟩;have hb := h.chg.size;refine (k.chg.block j (by omega) (fun d => ?_)).trans (h.chg.block j hj hn);rcases d with d | d
 ·rcases hS j d with f | f
  ·exact hn (.inl f)
  ·omega
 ·exact hn (.inr d)
theorem zEB {e : TypeId} {R : Rep α} {w : World} {S : zAW} {v : Value} {xs : List α} {j : Nat} {x : α} (h : (slR e R).own w S [v] xs) (hx : xs[j]? = some x) :
    ∃ g f Sj T c, v = sL (some ⟨g, 0, none⟩) xs.length f ∧ S g ∧ Obj1 R e w g (j * R.size) Sj c x ∧ Sub Sj S ∧ Sub T S ∧ Dis Sj T ∧ ¬ T g ∧
     ∀ k s o U V, Obj1 R e k g (j * R.size) U s o → In g (j * R.size) R.size w k → Keeps T w k → Dis U T → V g → Sub U V → Sub T V → (slR e R).own k V [v] (xs.set j o) := by
 obtain ⟨g, f, b, Sj, T, c, Y, r, E, G, M, ho, J, H, hd, Z, n2, m⟩ := zBH h hx;have C : j * R.size + R.size ≤ b.size ∨ R.size = 0 := by
  by_cases z : R.size = 0
  ·exact .inr z
  ·left
   have p := G (R.size - 1) (by omega);have O : (R.size - 1) < c.length := by omega
   rw [List.getElem?_eq_getElem O] at p;have := (ltH p);omega
 have fA : j * R.size + R.size ≤ b.size := by
  rcases C with p | z
  ·exact p
  ·rw [z]; simp
 refine ⟨g, f, Sj, T, c, Y, r, ⟨⟨b, E, by omega, fun i hi => G i (by omega)⟩, ho, Z⟩, J, H, hd, n2, ?_⟩;intro k s o U V n q N A K I hT;obtain ⟨l, F, X, e3⟩ := q b e E;obtain ⟨d, y, f2, L⟩ := n.lies;have B : d = l := by rw [F] at y; simp at y; exact y.symm
 subst B;have D := R.rd_len (R.own_rd n.own);exact m k d s o U V F X (fun i hi => e3 i (by omega)) (fun i hi => L i (by omega)) N n.own A n.out K I hT
theorem zFs {e : TypeId} {R : Rep α} {w : World} {S : zAW} {g n cap : Nat} {xs : List α} {j i : Nat} {x x' : α} {v : Value} (h : (slR e R).own w S [sL (some ⟨g, 0, none⟩) n cap] xs) (hx : xs[j]? = some x) (hi : i < R.size) (hc : ∀ c, R.rd w c x → (∀ W T, R.own W T c x → R.own W T (c.set i v) x')) :
    (slR e R).own (w.setCell ⟨g, j * R.size + i, none⟩ v) S [sL (some ⟨g, 0, none⟩) n cap] (xs.set j x') := by
 obtain ⟨g1, m, Sj, T, l, o, f, a, y, p, q, r, b⟩ := zEB h hx;simp only [Value.slice.injEq, Option.some.injEq, Addr.mk.injEq, and_true] at o;obtain ⟨rfl, -, rfl⟩ := o;have d : ∀ F : zAW, ¬ F g → Keeps F w (w.setCell ⟨g, j * R.size + i, none⟩ v) := fun F hF k d _ => heap_setCell_other w ⟨g, j * R.size + i, none⟩ k v (fun e => hF (by have s : k = g := e; rw [← s]; exact d));exact b _ (l.set i v) x' Sj S ⟨at_set a.lies i v rfl, hc l (R.own_rd a.own) _ _ (R.own_keep a.own (d Sj a.out)), a.out⟩ (In.set hi) (d T r) q f y p
theorem zGM {w : World} {S : zAW} {c : List Value} {u : OpD} (h : opR.own w S c u) : c = [nI u.1, nI u.2.1, nI u.2.2.1, nI u.2.2.2] ∧ In4 u := op_rd (opR.own_rd h)
theorem op_set0 {w : World} {c : List Value} {x : OpD} {y : Int} (hy : zBk y) (hr : opR.rd w c x) : ∀ W T, opR.own W T c x → opR.own W T (c.set 0 (nI y)) (y, x.2) := by
 intro W T a;obtain ⟨rfl, h⟩ := zGM a;exact zHG (u := (y, x.2)) ⟨hy, h.2.1, h.2.2.1, h.2.2.2⟩
theorem op_set1 {w : World} {c : List Value} {x : OpD} {y : Int} (hy : zBk y) (hr : opR.rd w c x) : ∀ W T, opR.own W T c x → opR.own W T (c.set 1 (nI y)) (x.1, y, x.2.2) := by
 intro W T a;obtain ⟨rfl, h⟩ := zGM a;exact zHG (u := (x.1, y, x.2.2)) ⟨h.1, hy, h.2.2.1, h.2.2.2⟩
theorem op_set2 {w : World} {c : List Value} {x : OpD} {y : Int} (hy : zBk y) (hr : opR.rd w c x) : ∀ W T, opR.own W T c x → opR.own W T (c.set 2 (nI y)) (x.1, x.2.1, y, x.2.2.2) := by
 intro W T a;obtain ⟨rfl, h⟩ := zGM a;exact zHG (u := (x.1, x.2.1, y, x.2.2.2)) ⟨h.1, h.2.1, hy, h.2.2.2⟩
theorem op_set3 {w : World} {c : List Value} {x : OpD} {y : Int} (hy : zBk y) (hr : opR.rd w c x) : ∀ W T, opR.own W T c x → opR.own W T (c.set 3 (nI y)) (x.1, x.2.1, x.2.2.1, y) := by
 intro W T a;obtain ⟨rfl, h⟩ := zGM a;exact zHG (u := (x.1, x.2.1, x.2.2.1, y)) ⟨h.1, h.2.1, h.2.2.1, hy⟩
theorem zLj {k : Int} (h0 : 0 ≤ k) (h1 : k ≤ 1152921504606846976) : zBk k := by constructor <;> omega
theorem zKv {α : Type} {xs : List α} {j : Nat} {x a : α} (h : xs[j]? = some x) : (xs.set j a)[j]? = some a := by
 rw [List.getElem?_set_self (List.getElem?_eq_some_iff.1 h).1]
theorem zKw (k : Int) (w : World) :
    Calls Tryz.prog 42 #[sL none 0 0, nI k] w fun e' w' => e' = .returned (nI k) ∧ w' = w := by
 go_enter Tryz.func42, Tryz.ntmps42;go_wp2;refine wp_loop_rounds 1 ?_;rw [rounds_succ];go_wp2;go_ret
 exact ⟨rfl, rfl⟩
theorem zJr {S : zAW} {G n cap j : Nat} {w : World} {xs : List OpD} {x : OpD} {kk : Int} (h0 : 0 ≤ kk) (h1 : kk ≤ 1152921504606846970) (h : zBX.own w S [sL (some ⟨G, 0, none⟩) n cap] xs) (hx : xs[j]? = some x) :
    zBX.own ((((w.setCell ⟨G, j * 4, none⟩ (nI kk)).setCell ⟨G, j * 4 + 1, none⟩ (nI (kk + 1))).setCell ⟨G, j * 4 + 2, none⟩ (nI (kk + 1 + 1))).setCell ⟨G, j * 4 + 3, none⟩ (nI (kk + 1 + 1 + 1))) S [sL (some ⟨G, 0, none⟩) n cap] (xs.set j (kk, kk + 1, kk + 1 + 1, kk + 1 + 1 + 1)) ∧
    Chg (fun k => k = G) w ((((w.setCell ⟨G, j * 4, none⟩ (nI kk)).setCell ⟨G, j * 4 + 1, none⟩ (nI (kk + 1))).setCell ⟨G, j * 4 + 2, none⟩ (nI (kk + 1 + 1))).setCell ⟨G, j * 4 + 3, none⟩ (nI (kk + 1 + 1 + 1))) := by
 have f := zFs (i := 0) (v := nI kk) h hx (by decide) (fun c hr => op_set0 (zLj (by omega) (by omega)) hr);have a := zFs (i := 1) (v := nI (kk + 1)) f (zKv hx) (by decide) (fun c hr => op_set1 (zLj (by omega) (by omega)) hr);rw [List.set_set] at a;have d := zFs (i := 2) (v := nI (kk + 1 + 1)) a (zKv hx) (by decide) (fun c hr => op_set2 (zLj (by omega) (by omega)) hr);rw [List.set_set] at d;have b := zFs (i := 3) (v := nI (kk + 1 + 1 + 1)) d (zKv hx) (by decide) (fun c hr => op_set3 (zLj (by omega) (by omega)) hr);rw [List.set_set] at b;exact ⟨b, ((zIz.trans zIz).trans zIz).trans zIz⟩
theorem zKx (S : zAW) (v : Value) (k : Int) (xs : List OpD) (w : World) (h0 : 0 ≤ k) (h1 : k ≤ 288230376151711744) (hm : zA1 opM xs ≤ 288230376151711744) (h : zBX.own w S [v] xs) :
    Calls Tryz.prog 42 #[v, nI k] w fun e' w' => e' = .returned (nI (k + zA1 opM xs)) ∧ zBX.own w' S [v] (zBw opM k xs) ∧ Chg S w w' := by
 rcases zD9 h with ⟨rfl, rfl⟩ | ⟨G, r, rfl, J⟩
 ·exact (zKw k w).mono fun e w' ⟨e1, e2⟩ => ⟨by simpa [zA1] using e1, by rw [e2]; exact h, by rw [e2]; exact Chg.refl _ _⟩
 have I := zNd xs;have H : Hid _ := h;clear h;go_enter Tryz.func42, Tryz.ntmps42;go_wp2;go_loopw [1, 5] (fun q i wr => ∃ j : Nat, j ≤ xs.length ∧ i = nI j ∧ q = nI (k + zA1 opM (xs.take j)) ∧ zBX.own wr S [sL (some ⟨G, 0, none⟩) xs.length r] (zEh opM k xs j) ∧ Chg S w wr) (fun _ i _ => xs.length - (intOf i).toNat)
 case atStart => exact ⟨0, Nat.zero_le _, rfl, by simp [zA1], by rw [zE0]; exact H.out, Chg.refl _ _⟩
 case round =>
  obtain ⟨j, hj, rfl, rfl, d, l⟩ := hrel;by_cases p : j < xs.length
  ·have z : (j : Int) < (xs.length : Int) := by omega
   obtain ⟨x, f⟩ : ∃ x, xs[j]? = some x := ⟨_, List.getElem?_eq_getElem p⟩;have C : Hid (zA1 opM (xs.take (j + 1)) = zA1 opM (xs.take j) + 4) := zCv (M := opM) f;have K : zA1 opM (xs.take j) + 4 ≤ zA1 opM xs := zCT (M := opM) f;have c := zE1 (M := opM) (k := k) f;obtain ⟨G1, A, Sj, Tj, cj, B, -, a, -⟩ := zEB d (zFg f);simp only [Value.slice.injEq, Option.some.injEq, Addr.mk.injEq, and_true] at B;obtain ⟨rfl, -, rfl⟩ := B;obtain ⟨rfl, -⟩ := zGM a.own;have D := zI0 a.lies;have N := zFF a.lies 1 rfl;have E := zFF a.lies 2 rfl;have F := zFF a.lies 3 rfl;have R := at_froz0 a.lies;have O := zI1 a.lies 1;have T := zI1 a.lies 2;have L := zI1 a.lies 3;rw [show j * opR.size = j * 4 from rfl] at D N E F R O T L;generalize n : k + (zA1 opM (xs.take j) : Int) = kk at c ⊢;have m : 0 ≤ kk ∧ kk ≤ 576460752303423488 := by omega
   obtain ⟨s, y⟩ := zJr (kk := kk) m.1 (by omega) d (zFg f);rw [show (kk, kk + 1, kk + 1 + 1, kk + 1 + 1 + 1) = opM.mE kk x from rfl, c] at s;have g : Hid _ := aI s (l.trans (y.mono (fun b hb => by rw [hb]; exact J)));clear s y a d l c f;generalize zA1 opM (xs.take j) = TT at C K n;go_wp2;go_roundw
   case rel => exact ⟨j + 1, by omega, by go_num, by rw [C.out]; congr 1; omega, g.out.1, g.out.2⟩
   case measure => simp [intOf]; omega
  ·have o : j = xs.length := by omega
   subst o;rw [List.take_length];rw [zFf] at d;have g : Hid _ := aI d l;clear d l;go_wp2;go_ret
   exact ⟨rfl, g.out.1, g.out.2⟩
theorem zKy (a : Option Addr) (cap : Nat) (k : Int) (xs : List OpD) (w : World) (h0 : 0 ≤ k) (h1 : k ≤ 288230376151711744) (hm : zA1 opM xs ≤ 288230376151711744) (h : zBg opR w a (zBw opM k xs)) :
    Calls Tryz.prog 46 #[sL a xs.length cap, nI k] w fun e' w' => e' = .returned (nI (k + zA1 opM xs)) ∧ w' = w := by
 have D := zNd xs;go_enter Tryz.func46, Tryz.ntmps46;go_wp2;go_loop [1, 5] (fun q i => ∃ j : Nat, j ≤ xs.length ∧ i = nI j ∧ q = nI (k + zA1 opM (xs.take j))) (fun _ i => xs.length - (intOf i).toNat)
 case atStart => exact ⟨0, Nat.zero_le _, rfl, by simp [zA1]⟩
 case round =>
  obtain ⟨j, hj, rfl, rfl⟩ := hrel;by_cases l : j < xs.length
  ·have o : (j : Int) < (xs.length : Int) := by omega
   obtain ⟨x, d⟩ : ∃ x, xs[j]? = some x := ⟨_, List.getElem?_eq_getElem l⟩;obtain ⟨b, c, rfl, m, p, r, n, -⟩ := zEt h (zD7 (M := opM) (k := k) d);have y : w.cell? ⟨b, c + j * 4, none⟩ = some (nI (k + zA1 opM (xs.take j))) := m;have C : w.cell? ⟨b, c + j * 4 + 1, none⟩ = some (nI (k + zA1 opM (xs.take j) + 1)) := p;have z : w.cell? ⟨b, c + j * 4 + 2, none⟩ = some (nI (k + zA1 opM (xs.take j) + 1 + 1)) := r;have A : w.cell? ⟨b, c + j * 4 + 3, none⟩ = some (nI (k + zA1 opM (xs.take j) + 1 + 1 + 1)) := n;have s : Hid (zA1 opM (xs.take (j + 1)) = zA1 opM (xs.take j) + 4) := zCv (M := opM) d;have B : zA1 opM (xs.take j) + 4 ≤ zA1 opM xs := zCT (M := opM) d;clear d h m p r n;generalize f : k + (zA1 opM (xs.take j) : Int) = kk at y C z A ⊢;generalize zA1 opM (xs.take j) = TT at s B f;have v : 0 ≤ kk ∧ kk ≤ 576460752303423488 := by omega
   go_wp2;go_round
   case rel => exact ⟨j + 1, by omega, by go_num, by rw [s.out]; congr 1; omega⟩
   case measure => simp [intOf]; omega
  ·have g : j = xs.length := by omega
   subst g;rw [List.take_length];go_wp2;go_ret
   exact ⟨rfl, rfl⟩
theorem szOps_u : SzC 19 zBX zDl zEc := by
 rintro cs x left w ⟨a, b, rfl, d, c, l3⟩ f g;exact (zNe a x b left w f g (Nat.le_trans d c)).mono fun e w' ⟨q, r⟩ => ⟨q, zFj r⟩
theorem toOps_u : ToC 27 zBX zDl zEc := by
 rintro cs x w ⟨a, b, rfl, l1, l2, c⟩ d;refine (zNf a x b w c d).mono ?_;rintro e w' ⟨v, rfl, f⟩;exact ⟨[v], rfl, f⟩
theorem eqOps_u : EqC 38 zBX zDl zEc := by
 rintro cs ds x w ⟨a, c, rfl, l1, l2, g⟩ ⟨b, d, rfl, k1, k2, f⟩ hm;exact zNg a b x c d w g f (by have : lot = 4398046511104 := rfl; omega)
theorem mkOps_u : MkC 42 zBX zDl zEc := by
 intro S cs x k w h a hm hb;obtain ⟨v, rfl⟩ := zHU h;have e : lot = 4398046511104 := rfl;have e2 : zDl.cV x = zA1 opM x := rfl;exact zKx S v k x w a (by omega) (by omega) h
theorem hdOps_u : HdC 46 zBX zDl zEc := by
 rintro cs x k w ⟨a, b, rfl, l1, l2, c⟩ d hm hb;have e : lot = 4398046511104 := rfl;have e2 : zDl.cV x = zA1 opM x := rfl;have := zKy a b k x w d (by omega) (by omega) c;rw [show x.length = (zDl.mV k x).length from (zBF _ _ _).symm] at this;exact this.mono fun e w' ⟨q, r⟩ => ⟨q, zFj r⟩
theorem szWay_u : SzC 20 zAR zBE zBh := by
 intro cs x left w h f g;obtain ⟨a, b, rfl, i1, i2, d, c, l3⟩ := zAL h;exact zG2 x.1 x.2.1 x.2.2 a b left w f g (Nat.le_trans d c)
theorem toWay_u : ToC 28 zAR zBE zBh := by
 intro cs x w h hm;obtain ⟨a, b, rfl, c, d, l1, l2, f⟩ := zAL h;refine (zJf x.1 x.2.1 x.2.2 a b w c d f (by have : zBE.bk x = 0 + (0 + zBn.bk x.2.2) := rfl; omega)).mono ?_;rintro e w' ⟨av, cv, rfl, g⟩;exact ⟨_, rfl, g⟩
theorem eqWay_u : EqC 39 zAR zBE zBh := by
 intro cs ds x w h k hm;obtain ⟨a, c, rfl, i1, i2, l1, l2, d⟩ := zAL h;obtain ⟨b, f, rfl, _, _, k1, k2, g⟩ := zAL k;exact zJg x.1 x.2.1 x.2.2 a b c f w d g (by have : zBE.bk x = 0 + (0 + zBn.bk x.2.2) := rfl; have : lot = 4398046511104 := rfl; omega)
theorem way_cV (x : zAT) : zBE.cV x = zA1 zBx x.2.2 := by show 0 + (0 + zA1 zBx x.2.2) = _; omega
theorem way_mV (k : Int) (x : zAT) : zBE.mV k x = (x.1, x.2.1, zBw zBx k x.2.2) := by
 show (x.1, x.2.1, zBw zBx (k + 0 + 0) x.2.2) = _
 rw [Int.add_zero, Int.add_zero]
theorem mkWay_u : MkC 43 zAR zBE zBh := by
 intro S cs x k w h c b hb;obtain ⟨v, rfl, d, a, o⟩ := zHZ h;have e : lot = 4398046511104 := rfl;rw [way_cV] at b ⊢;rw [way_mV];refine (zKq S x.1 x.2.1 v k x.2.2 w c (by omega) (by omega) o).mono ?_;rintro e w' ⟨q, r, s⟩;exact ⟨q, zCF d a r, s⟩
theorem hdWay_u : HdC 47 zAR zBE zBh := by
 intro cs x k w h d f hb;have e : lot = 4398046511104 := rfl;rw [way_mV] at h;rw [way_cV] at f ⊢;obtain ⟨a, b, rfl, i1, i2, l1, l2, c⟩ := zAL h;have := zKr x.1 x.2.1 a b k x.2.2 w d (by omega) (by omega) c;rw [show x.2.2.length = (zBw zBx k x.2.2).length from (zBF _ _ _).symm] at this;exact this
theorem zNh : SzC 18 zAA zBa zBh := by
 intro cs x left w h l m;obtain ⟨a, c, b, k, rfl, f, d, i, g, j, r2⟩ := zAH h;exact zKk a b x c k left w j l m (Nat.le_trans f d) (Nat.le_trans i g)
theorem zNi : ToC 26 zAA zBa zBh := by
 intro cs x w h d;obtain ⟨a, c, b, g, rfl, l1, l2, m1, m2, f, j⟩ := zAH h;refine (zKm a b x c g w f j d).mono ?_;rintro e w' ⟨av, cv, bv, dv, rfl, i⟩;exact ⟨_, rfl, i⟩
theorem zNj : EqC 37 zAA zBa zBh := by
 intro cs ds x w h k hm;obtain ⟨a, d, b, j, rfl, l1, l2, m1, m2, i, n⟩ := zAH h;obtain ⟨m, c, g, f, rfl, _, _, _, _, l, o⟩ := zAH k;exact zKo x a b m g d j c f w i n l o (by have : lot = 4398046511104 := rfl; omega)
theorem zNk : MkC 41 zAA zBa zBh := by
 intro S cs x k w h b hm hb;obtain ⟨u, v, S1, S2, rfl, _⟩ := zCe h;have e : lot = 4398046511104 := rfl;have c : zBa.bk x = zEU.bk x.1 + zBn.bk x.2 := rfl;have a : zEU.bk x.1 = x.1.length + zBz zBr x.1 := rfl;have e2 : zBa.cV x = cntC x := rfl;exact zIm S u v k x w b (by omega) (by omega) (by omega) h
theorem zNl : HdC 45 zAA zBa zBh := by
 intro cs x k w h i hm hb;have e : lot = 4398046511104 := rfl;have l : zBa.bk x = zEU.bk x.1 + zBn.bk x.2 := rfl;have d : zEU.bk x.1 = x.1.length + zBz zBr x.1 := rfl;obtain ⟨a, c, b, g, rfl, l1, l2, m1, m2, f, j⟩ := zAH h;have e2 : zBa.cV x = cntC x := rfl;have := zIn a b c g k x w i (by omega) (by omega) (by omega) f j;rw [show x.1.length = (zBa.mV k x).1.length from (zBF _ _ _).symm, show x.2.length = (zBa.mV k x).2.length from (zBF _ _ _).symm] at this;exact this
end Go.Proofs.YtmdhblhdfcocjaaGreatDoor
