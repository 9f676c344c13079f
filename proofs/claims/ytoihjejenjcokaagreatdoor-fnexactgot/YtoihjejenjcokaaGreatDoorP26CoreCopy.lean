import Derived.Test.YtoihjejenjcokaaGreatDoorP00Box
import Derived.Test.YtoihjejenjcokaaGreatDoorP25Impl12
import Derived.Test.YtoihjejenjcokaaGreatDoorP24FillImpl
namespace Go.Proofs.YtoihjejenjcokaaGreatDoor
set_option maxHeartbeats 2000000
set_option maxRecDepth 20000
open Go.ChangeShapes Go.WideShapes Go.ChangeAt Go.RowKit
set_option linter.unusedVariables false
theorem zB4 {x : zAE} (h : zAZ x = true) : CoreP (toS x) := zI8.1 h
theorem zDX {x : zAE} (h : zAZ x = true) : x.2.2.2.2.1.2.2.length ≤ 2 := by
 have hp := zB4 h
 by_cases h1 : x.2.2.2.1 = 1
 ·obtain ⟨-, h2 | h2, -⟩ := zCE hp h1
  ·have : x.2.2.2.2.1.2.2 = [] := h2.2
   rw [this]; simp
  ·have h3 : x.2.2.2.2.1.2.2.length = 2 := zD4 (zB0 h2).2.2
   omega
 ·have : x.2.2.2.2.1 = zAA := zDo hp h1
  rw [this]; simp [zAA]
theorem zF0 {x : zAE} (h : zAZ x = true) : x.2.2.2.2.2.length ≤ 30 := by
 have hp := zB4 h
 have h1 : (x.2.2.2.2.2.length : Int) = x.2.2.1 := hp.told
 have h2 : x.2.2.1 ≤ x.2.1.length := hp.at1
 have h3 : x.2.1.length ≤ 30 := hp.len
 omega
theorem zJ1 {x : zAE} (h : zAZ x = true) : zBk x.2.2.1 ∧ zBk x.2.2.2.1 := by
 have hp := zB4 h
 have h1 : 0 ≤ x.2.2.1 := hp.at0
 have h2 : x.2.2.1 ≤ x.2.1.length := hp.at1
 have h3 : x.2.1.length ≤ 30 := hp.len
 have h4 : x.2.2.2.1 = 0 ∨ x.2.2.2.1 = 1 ∨ x.2.2.2.1 = 2 := hp.ph
 constructor <;> constructor <;> omega
theorem zHK {w w' : World} {c : zAu} {p : List OpD} {a ph : Int} {u : zAU} {t : List Int} {v0 v1 v2 v5 v6 v7 v8 : Value} {l0 h0 l1 h1 l4 h4 l5 h5 : Nat} (i2 : zBk a) (i3 : zBk ph) (o0 : zCp zAB l0 h0 w' [v0, v1] c) (o1 : zCp zBX l1 h1 w' [v2] p) (o4 : zCp zAS l4 h4 w' [v5, v6, v7] u) (o5 : zCp zA5 l5 h5 w' [v8] t)
    (b : Below w.heap.size w w') (k0 : w.heap.size ≤ l0) (k1 : w.heap.size ≤ l1) (k4 : w.heap.size ≤ l4) (k5 : w.heap.size ≤ l5)
    (d01 : h0 ≤ l1) (d14 : h1 ≤ l4) (d45 : h4 ≤ l5) (e1 : l1 ≤ h1) (e4 : l4 ≤ h4) :
    zAY zAn w w' [v0, v1, v2, .int .i64 a, .int .i64 ph, v5, v6, v7, v8] (c, p, a, ph, u, t) :=
 ⟨zCo (x := (c, p, a, ph, u, t)) i2 i3 o0.1 o1.1 o4.1 o5.1 (fun k h => ⟨Nat.le_trans k0 h.1, Nat.lt_of_lt_of_le h.2 o0.2⟩) (fun k h => ⟨Nat.le_trans k1 h.1, Nat.lt_of_lt_of_le h.2 o1.2⟩) (fun k h => ⟨Nat.le_trans k4 h.1, Nat.lt_of_lt_of_le h.2 o4.2⟩) (fun k h => ⟨Nat.le_trans k5 h.1, Nat.lt_of_lt_of_le h.2 o5.2⟩) (zC1 (.inl d01)) (zC1 (.inl (by omega))) (zC1 (.inl (by omega))) (zC1 (.inl d14)) (zC1 (.inl (by omega))) (zC1 (.inl d45)), b⟩
theorem zGf (cs : List Value) (x : zAE) (w : World) (h : zAn.rd w cs x) (hk : zAZ x = true) :
    Calls Tryz.prog 32 #[zAM cs] w fun e w' => ∃ ds, e = .returned (zAM ds) ∧ zAY zAn w w' ds x := by
 have hp := zB4 hk
 have hlu := zDX hk
 have hlt := zF0 hk
 have hia := zJ1 hk
 have hok : OkC isL zAJ x.1 := hp.ok
 have hlp : x.2.1.length ≤ 30 := hp.len
 clear hp hk
 obtain ⟨v0, v1, v2, v5, v6, v7, v8, rfl, r0, r1, i2, i3, r4, r5⟩ := zCs h
 clear h
 obtain ⟨a0, c0, b0, d0, e0, l1, l2, l3, l4, q0, q1⟩ := zAH r0
 simp only [List.cons.injEq, and_true] at e0
 obtain ⟨rfl, rfl⟩ := e0
 have r1c := r1
 obtain ⟨a1, c1, e1, k1, k2, q2⟩ := r1c
 simp only [List.cons.injEq, and_true] at e1
 obtain rfl := e1
 obtain ⟨a4, c4, e4, j1, j2, g1, g2, q4⟩ := zAL r4
 simp only [List.cons.injEq, and_true] at e4
 obtain ⟨rfl, rfl, rfl⟩ := e4
 obtain ⟨a5, c5, e5, m1, m2, q5⟩ := r5
 simp only [List.cons.injEq, and_true] at e5
 obtain rfl := e5
 obtain ⟨c, p, at_, ph, u, t⟩ := x
 simp only at *
 have KC : Hid (∀ W, Below w.heap.size w W → zAB.rd W [.slice a0 c.1.length c0, .slice b0 c.2.length d0] c) := fun W hb => zAN r0 hb
 have KP : Hid (∀ W, Below w.heap.size w W → zBX.rd W [.slice a1 p.length c1] p) := fun W hb => zAN r1 hb
 have KW : Hid (∀ W, Below w.heap.size w W → zAS.rd W [.int .i64 u.1, .int .i64 u.2.1, .slice a4 u.2.2.length c4] u) := fun W hb => zAN r4 hb
 have KT : Hid (∀ W, Below w.heap.size w W → zBh zBC W a5 t) := fun W hb => zAG q5 hb
 have HOK : Hid (OkC isL zAJ c) := hok
 clear r0 r1 r4 q0 q1 q2 q4 q5 l1 l2 l3 l4 k1 k2 g1 g2 m1 m2 hok j1 j2
 change Calls Tryz.prog 32 #[.agg #[.slice a0 c.1.length c0, .slice b0 c.2.length d0, .slice a1 p.length c1, .int .i64 at_, .int .i64 ph, .int .i64 u.1, .int .i64 u.2.1, .slice a4 u.2.2.length c4, .slice a5 t.length c5]] w _
 have B := Below.refl w.heap.size w
 go_enter Tryz.func32, Tryz.ntmps32
 go_wp2_with fail
 generalize hu1w : w.alloc _ = u1w
 have X := boxH hu1w
 have bz := boxB hu1w
 have zX := boxL hu1w
 clear hu1w
 replace B := zAb B bz
 clear bz
 generalize hu2w : u1w.alloc _ = u2w
 have R := boxH hu2w
 have bz := boxB hu2w
 have zR := boxL hu2w
 clear hu2w
 rw [zX] at R
 replace B := zAb B bz
 replace X := zAa bz X
 clear bz
 refine (zJy [.slice a0 c.1.length c0, .slice b0 c.2.length d0] c _ HOK.out (KC.out _ B)).mono ?_
 rintro e u3w ⟨ds, rfl, mm⟩
 obtain ⟨na, nb, nc, nd, rfl, -, -, -, -, -, -⟩ := zAH (zAB.own_rd mm.1)
 rw [show zAM [.slice na c.1.length nb, .slice nc c.2.length nd] = .agg #[.slice na c.1.length nb, .slice nc c.2.length nd] from rfl]
 have P := zAR (R := zAB) mm
 have mb := mm.2
 have tu3w : u2w.heap.size ≤ u3w.heap.size := mb.size
 replace B := zAb B mb
 replace X := zAa mb X
 replace R := zAa mb R
 clear mb mm
 obtain ⟨Xc0, Xc1, Xc2, Xc3, Xc4, Xc5, Xc6, Xc7, Xc8⟩ := zAc X
 have Xlt := (Array.getElem?_eq_some_iff.1 X).1
 obtain ⟨Xf0, Xf1, Xf2, Xf3, Xf4, Xf5, Xf6, Xf7, Xf8⟩ := zAr X
 obtain ⟨Rc0, Rc1, Rc2, Rc3, Rc4, Rc5, Rc6, Rc7, Rc8⟩ := zAc R
 have Rlt := (Array.getElem?_eq_some_iff.1 R).1
 go_wp2_with fail
 clear Xc0 Xc1 Xc2 Xc3 Xc4 Xc5 Xc6 Xc7 Xc8 Xlt Xf0 Xf1 Xf2 Xf3 Xf4 Xf5 Xf6 Xf7 Xf8 Rc0 Rc1 Rc2 Rc3 Rc4 Rc5 Rc6 Rc7 Rc8 Rlt
 rw [show ((u3w.setCell ⟨w.heap.size, 0, none⟩ (.slice na c.1.length nb)).setCell ⟨w.heap.size, 1, none⟩ (.slice nc c.2.length nd)) = (zAo u3w (w.heap.size) 0 [.slice na c.1.length nb, .slice nc c.2.length nd]) from rfl]
 replace R := zAk (g := w.heap.size) (o := 0) (vs := [.slice na c.1.length nb, .slice nc c.2.length nd]) R (by omega)
 replace P := zAw (g := w.heap.size) (o := 0) (vs := [.slice na c.1.length nb, .slice nc c.2.length nd]) P (by omega)
 replace B := zAv (g := w.heap.size) (o := 0) (vs := [.slice na c.1.length nb, .slice nc c.2.length nd]) B (by omega)
 replace X : (zAo u3w (w.heap.size) 0 [.slice na c.1.length nb, .slice nc c.2.length nd]).heap[w.heap.size]? = some (.cells #[.slice na c.1.length nb, .slice nc c.2.length nd, .slice a1 p.length c1, .int .i64 at_, .int .i64 ph, .int .i64 u.1, .int .i64 u.2.1, .slice a4 u.2.2.length c4, .slice a5 t.length c5] 41 (0, 0)) := zAC _ _ X
 have tu4w := Nat.le_of_eq (zAj (g := w.heap.size) [.slice na c.1.length nb, .slice nc c.2.length nd] 0 u3w)
 have qu4w := Nat.le_of_eq (zAj (g := w.heap.size) [.slice na c.1.length nb, .slice nc c.2.length nd] 0 u3w).symm
 generalize (zAo u3w (w.heap.size) 0 [.slice na c.1.length nb, .slice nc c.2.length nd]) = u4w at B X R P tu4w qu4w ⊢
 refine (zN6 _ p _ (KP.out _ B) (by omega)).mono ?_
 rintro e u5w ⟨vo, rfl, mm⟩
 obtain ⟨oa, oc, ro, -, -, -⟩ := zBX.own_rd mm.1
 simp only [List.cons.injEq, and_true] at ro
 obtain rfl := ro
 have O := zAR (R := zBX) mm
 have mb := mm.2
 have tu5w : u4w.heap.size ≤ u5w.heap.size := mb.size
 replace B := zAb B mb
 replace X := zAa mb X
 replace R := zAa mb R
 replace P := zA6 P mb
 clear mb mm
 obtain ⟨Xc0, Xc1, Xc2, Xc3, Xc4, Xc5, Xc6, Xc7, Xc8⟩ := zAc X
 have Xlt := (Array.getElem?_eq_some_iff.1 X).1
 obtain ⟨Xf0, Xf1, Xf2, Xf3, Xf4, Xf5, Xf6, Xf7, Xf8⟩ := zAr X
 obtain ⟨Rc0, Rc1, Rc2, Rc3, Rc4, Rc5, Rc6, Rc7, Rc8⟩ := zAc R
 have Rlt := (Array.getElem?_eq_some_iff.1 R).1
 go_wp2_with fail
 clear Xc0 Xc1 Xc2 Xc3 Xc4 Xc5 Xc6 Xc7 Xc8 Xlt Xf0 Xf1 Xf2 Xf3 Xf4 Xf5 Xf6 Xf7 Xf8 Rc0 Rc1 Rc2 Rc3 Rc4 Rc5 Rc6 Rc7 Rc8 Rlt
 rw [show (u5w.setCell ⟨w.heap.size, 2, none⟩ (.slice oa p.length oc)) = (zAo u5w (w.heap.size) 2 [.slice oa p.length oc]) from rfl]
 replace R := zAk (g := w.heap.size) (o := 2) (vs := [.slice oa p.length oc]) R (by omega)
 replace P := zAw (g := w.heap.size) (o := 2) (vs := [.slice oa p.length oc]) P (by omega)
 replace O := zAw (g := w.heap.size) (o := 2) (vs := [.slice oa p.length oc]) O (by omega)
 replace B := zAv (g := w.heap.size) (o := 2) (vs := [.slice oa p.length oc]) B (by omega)
 replace X : (zAo u5w (w.heap.size) 2 [.slice oa p.length oc]).heap[w.heap.size]? = some (.cells #[.slice na c.1.length nb, .slice nc c.2.length nd, .slice oa p.length oc, .int .i64 at_, .int .i64 ph, .int .i64 u.1, .int .i64 u.2.1, .slice a4 u.2.2.length c4, .slice a5 t.length c5] 41 (0, 0)) := zAC _ _ X
 have tu6w := Nat.le_of_eq (zAj (g := w.heap.size) [.slice oa p.length oc] 2 u5w)
 have qu6w := Nat.le_of_eq (zAj (g := w.heap.size) [.slice oa p.length oc] 2 u5w).symm
 generalize (zAo u5w (w.heap.size) 2 [.slice oa p.length oc]) = u6w at B X R P O tu6w qu6w ⊢
 refine (zGT [.int .i64 u.1, .int .i64 u.2.1, .slice a4 u.2.2.length c4] u _ (KW.out _ B) (by omega)).mono ?_
 rintro e u7w ⟨ds, rfl, mm⟩
 obtain ⟨ea, ec, rfl, -, -, -, -, -⟩ := zAL (zAS.own_rd mm.1)
 rw [show zAM [.int .i64 u.1, .int .i64 u.2.1, .slice ea u.2.2.length ec] = .agg #[.int .i64 u.1, .int .i64 u.2.1, .slice ea u.2.2.length ec] from rfl]
 have E := zAR (R := zAS) mm
 have mb := mm.2
 have tu7w : u6w.heap.size ≤ u7w.heap.size := mb.size
 replace B := zAb B mb
 replace X := zAa mb X
 replace R := zAa mb R
 replace P := zA6 P mb
 replace O := zA6 O mb
 clear mb mm
 obtain ⟨Xc0, Xc1, Xc2, Xc3, Xc4, Xc5, Xc6, Xc7, Xc8⟩ := zAc X
 have Xlt := (Array.getElem?_eq_some_iff.1 X).1
 obtain ⟨Xf0, Xf1, Xf2, Xf3, Xf4, Xf5, Xf6, Xf7, Xf8⟩ := zAr X
 obtain ⟨Rc0, Rc1, Rc2, Rc3, Rc4, Rc5, Rc6, Rc7, Rc8⟩ := zAc R
 have Rlt := (Array.getElem?_eq_some_iff.1 R).1
 go_wp2_with fail
 clear Xc0 Xc1 Xc2 Xc3 Xc4 Xc5 Xc6 Xc7 Xc8 Xlt Xf0 Xf1 Xf2 Xf3 Xf4 Xf5 Xf6 Xf7 Xf8 Rc0 Rc1 Rc2 Rc3 Rc4 Rc5 Rc6 Rc7 Rc8 Rlt
 rw [show (((u7w.setCell ⟨w.heap.size, 5, none⟩ (.int .i64 u.1)).setCell ⟨w.heap.size, 6, none⟩ (.int .i64 u.2.1)).setCell ⟨w.heap.size, 7, none⟩ (.slice ea u.2.2.length ec)) = (zAo u7w (w.heap.size) 5 [.int .i64 u.1, .int .i64 u.2.1, .slice ea u.2.2.length ec]) from rfl]
 replace R := zAk (g := w.heap.size) (o := 5) (vs := [.int .i64 u.1, .int .i64 u.2.1, .slice ea u.2.2.length ec]) R (by omega)
 replace P := zAw (g := w.heap.size) (o := 5) (vs := [.int .i64 u.1, .int .i64 u.2.1, .slice ea u.2.2.length ec]) P (by omega)
 replace O := zAw (g := w.heap.size) (o := 5) (vs := [.int .i64 u.1, .int .i64 u.2.1, .slice ea u.2.2.length ec]) O (by omega)
 replace E := zAw (g := w.heap.size) (o := 5) (vs := [.int .i64 u.1, .int .i64 u.2.1, .slice ea u.2.2.length ec]) E (by omega)
 replace B := zAv (g := w.heap.size) (o := 5) (vs := [.int .i64 u.1, .int .i64 u.2.1, .slice ea u.2.2.length ec]) B (by omega)
 replace X : (zAo u7w (w.heap.size) 5 [.int .i64 u.1, .int .i64 u.2.1, .slice ea u.2.2.length ec]).heap[w.heap.size]? = some (.cells #[.slice na c.1.length nb, .slice nc c.2.length nd, .slice oa p.length oc, .int .i64 at_, .int .i64 ph, .int .i64 u.1, .int .i64 u.2.1, .slice ea u.2.2.length ec, .slice a5 t.length c5] 41 (0, 0)) := zAC _ _ X
 have tu8w := Nat.le_of_eq (zAj (g := w.heap.size) [.int .i64 u.1, .int .i64 u.2.1, .slice ea u.2.2.length ec] 5 u7w)
 have qu8w := Nat.le_of_eq (zAj (g := w.heap.size) [.int .i64 u.1, .int .i64 u.2.1, .slice ea u.2.2.length ec] 5 u7w).symm
 generalize (zAo u7w (w.heap.size) 5 [.int .i64 u.1, .int .i64 u.2.1, .slice ea u.2.2.length ec]) = u8w at B X R P O E tu8w qu8w ⊢
 refine (zJn a5 t c5 _ (KT.out _ B) (by omega)).mono ?_
 rintro e u9w ⟨ta, tc, rfl, mm⟩
 have T := zAR (R := zA5) mm
 have mb := mm.2
 have tu9w : u8w.heap.size ≤ u9w.heap.size := mb.size
 replace B := zAb B mb
 replace X := zAa mb X
 replace R := zAa mb R
 replace P := zA6 P mb
 replace O := zA6 O mb
 replace E := zA6 E mb
 clear mb mm
 obtain ⟨Xc0, Xc1, Xc2, Xc3, Xc4, Xc5, Xc6, Xc7, Xc8⟩ := zAc X
 have Xlt := (Array.getElem?_eq_some_iff.1 X).1
 obtain ⟨Xf0, Xf1, Xf2, Xf3, Xf4, Xf5, Xf6, Xf7, Xf8⟩ := zAr X
 obtain ⟨Rc0, Rc1, Rc2, Rc3, Rc4, Rc5, Rc6, Rc7, Rc8⟩ := zAc R
 have Rlt := (Array.getElem?_eq_some_iff.1 R).1
 obtain ⟨Rf0, Rf1, Rf2, Rf3, Rf4, Rf5, Rf6, Rf7, Rf8⟩ := zAr R
 have HK : Hid _ := And.intro X (And.intro R (And.intro B (And.intro P (And.intro O (And.intro E T)))))
 clear X R B P O E T
 go_wp2
 clear Xc0 Xc1 Xc2 Xc3 Xc4 Xc5 Xc6 Xc7 Xc8 Xlt Xf0 Xf1 Xf2 Xf3 Xf4 Xf5 Xf6 Xf7 Xf8 Rc0 Rc1 Rc2 Rc3 Rc4 Rc5 Rc6 Rc7 Rc8 Rlt Rf0 Rf1 Rf2 Rf3 Rf4 Rf5 Rf6 Rf7 Rf8
 obtain ⟨X, R, B, P, O, E, T⟩ := HK.out
 have R2 : (u9w.setCell ⟨w.heap.size, 8, none⟩ (.slice ta t.length tc)).heap[w.heap.size + 1]? = some (.cells #[.slice none 0 0, .slice none 0 0, .slice none 0 0, .int .i64 0, .int .i64 0, .int .i64 0, .int .i64 0, .slice none 0 0, .slice none 0 0] 41 (0, 0)) := zAk (g := w.heap.size) (o := 8) (vs := [.slice ta t.length tc]) R (by omega)
 obtain ⟨r0, r1, r2, r3, r4, r5, r6, r7, r8⟩ := zAc (zAV (y0 := .slice na c.1.length nb) (y1 := .slice nc c.2.length nd) (y2 := .slice oa p.length oc) (y3 := .int .i64 at_) (y4 := .int .i64 ph) (y5 := .int .i64 u.1) (y6 := .int .i64 u.2.1) (y7 := .slice ea u.2.2.length ec) (y8 := .slice ta t.length tc) R2)
 refine bodyPost_ret (v := .agg #[.slice na c.1.length nb, .slice nc c.2.length nd, .slice oa p.length oc, .int .i64 at_, .int .i64 ph, .int .i64 u.1, .int .i64 u.2.1, .slice ea u.2.2.length ec, .slice ta t.length tc]) (by simp [results, Tryz.results32, go_sem, r0, r1, r2, r3, r4, r5, r6, r7, r8]) rfl ⟨[.slice na c.1.length nb, .slice nc c.2.length nd, .slice oa p.length oc, .int .i64 at_, .int .i64 ph, .int .i64 u.1, .int .i64 u.2.1, .slice ea u.2.2.length ec, .slice ta t.length tc], rfl, zHK hia.1 hia.2 (zAw (g := w.heap.size + 1) (o := 0) (vs := [.slice na c.1.length nb, .slice nc c.2.length nd, .slice oa p.length oc, .int .i64 at_, .int .i64 ph, .int .i64 u.1, .int .i64 u.2.1, .slice ea u.2.2.length ec, .slice ta t.length tc]) (zAw (g := w.heap.size) (o := 8) (vs := [.slice ta t.length tc]) P (by omega)) (by omega)) (zAw (g := w.heap.size + 1) (o := 0) (vs := [.slice na c.1.length nb, .slice nc c.2.length nd, .slice oa p.length oc, .int .i64 at_, .int .i64 ph, .int .i64 u.1, .int .i64 u.2.1, .slice ea u.2.2.length ec, .slice ta t.length tc]) (zAw (g := w.heap.size) (o := 8) (vs := [.slice ta t.length tc]) O (by omega)) (by omega)) (zAw (g := w.heap.size + 1) (o := 0) (vs := [.slice na c.1.length nb, .slice nc c.2.length nd, .slice oa p.length oc, .int .i64 at_, .int .i64 ph, .int .i64 u.1, .int .i64 u.2.1, .slice ea u.2.2.length ec, .slice ta t.length tc]) (zAw (g := w.heap.size) (o := 8) (vs := [.slice ta t.length tc]) E (by omega)) (by omega)) (zAw (g := w.heap.size + 1) (o := 0) (vs := [.slice na c.1.length nb, .slice nc c.2.length nd, .slice oa p.length oc, .int .i64 at_, .int .i64 ph, .int .i64 u.1, .int .i64 u.2.1, .slice ea u.2.2.length ec, .slice ta t.length tc]) (zAw (g := w.heap.size) (o := 8) (vs := [.slice ta t.length tc]) T (by omega)) (by omega)) (zAv (g := w.heap.size + 1) (o := 0) (vs := [.slice na c.1.length nb, .slice nc c.2.length nd, .slice oa p.length oc, .int .i64 at_, .int .i64 ph, .int .i64 u.1, .int .i64 u.2.1, .slice ea u.2.2.length ec, .slice ta t.length tc]) (zAv (g := w.heap.size) (o := 8) (vs := [.slice ta t.length tc]) B (by omega)) (by omega)) (by omega) (by omega) (by omega) (by omega) (by omega) (by omega) (by omega) (by omega) (by omega)⟩
theorem zN7 (cs : List Value) (x : zAE) (w : World) (h : zAn.rd w cs x) (hk : zAZ x = true) :
    Calls Tryz.prog 24 #[zAM cs] w fun e w' => ∃ ds, e = .returned (zAM ds) ∧ zAY zAn w w' ds x := by
 have hp := zB4 hk
 have hlu := zDX hk
 have hlt := zF0 hk
 have hia := zJ1 hk
 have hok : OkC isL zAJ x.1 := hp.ok
 have hlp : x.2.1.length ≤ 30 := hp.len
 clear hp hk
 obtain ⟨v0, v1, v2, v5, v6, v7, v8, rfl, r0, r1, i2, i3, r4, r5⟩ := zCs h
 clear h
 obtain ⟨a0, c0, b0, d0, e0, l1, l2, l3, l4, q0, q1⟩ := zAH r0
 simp only [List.cons.injEq, and_true] at e0
 obtain ⟨rfl, rfl⟩ := e0
 have r1c := r1
 obtain ⟨a1, c1, e1, k1, k2, q2⟩ := r1c
 simp only [List.cons.injEq, and_true] at e1
 obtain rfl := e1
 obtain ⟨a4, c4, e4, j1, j2, g1, g2, q4⟩ := zAL r4
 simp only [List.cons.injEq, and_true] at e4
 obtain ⟨rfl, rfl, rfl⟩ := e4
 obtain ⟨a5, c5, e5, m1, m2, q5⟩ := r5
 simp only [List.cons.injEq, and_true] at e5
 obtain rfl := e5
 obtain ⟨c, p, at_, ph, u, t⟩ := x
 simp only at *
 have KC : Hid (∀ W, Below w.heap.size w W → zAB.rd W [.slice a0 c.1.length c0, .slice b0 c.2.length d0] c) := fun W hb => zAN r0 hb
 have KP : Hid (∀ W, Below w.heap.size w W → zBX.rd W [.slice a1 p.length c1] p) := fun W hb => zAN r1 hb
 have KW : Hid (∀ W, Below w.heap.size w W → zAS.rd W [.int .i64 u.1, .int .i64 u.2.1, .slice a4 u.2.2.length c4] u) := fun W hb => zAN r4 hb
 have KT : Hid (∀ W, Below w.heap.size w W → zBh zBC W a5 t) := fun W hb => zAG q5 hb
 have HOK : Hid (OkC isL zAJ c) := hok
 clear r0 r1 r4 q0 q1 q2 q4 q5 l1 l2 l3 l4 k1 k2 g1 g2 m1 m2 hok j1 j2
 change Calls Tryz.prog 24 #[.agg #[.slice a0 c.1.length c0, .slice b0 c.2.length d0, .slice a1 p.length c1, .int .i64 at_, .int .i64 ph, .int .i64 u.1, .int .i64 u.2.1, .slice a4 u.2.2.length c4, .slice a5 t.length c5]] w _
 have B := Below.refl w.heap.size w
 go_enter Tryz.func24, Tryz.ntmps24
 go_wp2_with fail
 generalize hu1w : w.alloc _ = u1w
 have X := boxH hu1w
 have bz := boxB hu1w
 have zX := boxL hu1w
 clear hu1w
 replace B := zAb B bz
 clear bz
 generalize hu2w : u1w.alloc _ = u2w
 have R := boxH hu2w
 have bz := boxB hu2w
 have zR := boxL hu2w
 clear hu2w
 rw [zX] at R
 replace B := zAb B bz
 replace X := zAa bz X
 clear bz
 have qY : u2w.heap.size = w.heap.size + 2 := by omega
 generalize hu3w : u2w.alloc _ = u3w
 have Y := boxH hu3w
 have bz := boxB hu3w
 have zY := boxL hu3w
 clear hu3w
 rw [qY] at Y
 replace B := zAb B bz
 replace X := zAa bz X
 replace R := zAa bz R
 clear bz
 refine (l6Copy_u [.slice a0 c.1.length c0, .slice b0 c.2.length d0] c _ HOK.out (KC.out _ B)).mono ?_
 rintro e u4w ⟨ds, rfl, mm⟩
 obtain ⟨na, nb, nc, nd, rfl, -, -, -, -, -, -⟩ := zAH (zAB.own_rd mm.1)
 rw [show zAM [.slice na c.1.length nb, .slice nc c.2.length nd] = .agg #[.slice na c.1.length nb, .slice nc c.2.length nd] from rfl]
 have P := zAR (R := zAB) mm
 have mb := mm.2
 have tu4w : u3w.heap.size ≤ u4w.heap.size := mb.size
 replace B := zAb B mb
 replace X := zAa mb X
 replace R := zAa mb R
 replace Y := zAa mb Y
 clear mb mm
 obtain ⟨Xc0, Xc1, Xc2, Xc3, Xc4, Xc5, Xc6, Xc7, Xc8⟩ := zAc X
 have Xlt := (Array.getElem?_eq_some_iff.1 X).1
 obtain ⟨Rc0, Rc1, Rc2, Rc3, Rc4, Rc5, Rc6, Rc7, Rc8⟩ := zAc R
 have Rlt := (Array.getElem?_eq_some_iff.1 R).1
 obtain ⟨Yc0, Yc1, Yc2, Yc3, Yc4, Yc5, Yc6, Yc7, Yc8⟩ := zAc Y
 have Ylt := (Array.getElem?_eq_some_iff.1 Y).1
 obtain ⟨Yf0, Yf1, Yf2, Yf3, Yf4, Yf5, Yf6, Yf7, Yf8⟩ := zAr Y
 go_upto_region 3 with fail
 clear Xc0 Xc1 Xc2 Xc3 Xc4 Xc5 Xc6 Xc7 Xc8 Xlt Rc0 Rc1 Rc2 Rc3 Rc4 Rc5 Rc6 Rc7 Rc8 Rlt Yc0 Yc1 Yc2 Yc3 Yc4 Yc5 Yc6 Yc7 Yc8 Ylt Yf0 Yf1 Yf2 Yf3 Yf4 Yf5 Yf6 Yf7 Yf8
 rw [show ((u4w.setCell ⟨w.heap.size + 2, 0, none⟩ (.slice na c.1.length nb)).setCell ⟨w.heap.size + 2, 1, none⟩ (.slice nc c.2.length nd)) = (zAo u4w (w.heap.size + 2) 0 [.slice na c.1.length nb, .slice nc c.2.length nd]) from rfl]
 replace X := zAk (g := w.heap.size + 2) (o := 0) (vs := [.slice na c.1.length nb, .slice nc c.2.length nd]) X (by omega)
 replace R := zAk (g := w.heap.size + 2) (o := 0) (vs := [.slice na c.1.length nb, .slice nc c.2.length nd]) R (by omega)
 replace P := zAw (g := w.heap.size + 2) (o := 0) (vs := [.slice na c.1.length nb, .slice nc c.2.length nd]) P (by omega)
 replace B := zAv (g := w.heap.size + 2) (o := 0) (vs := [.slice na c.1.length nb, .slice nc c.2.length nd]) B (by omega)
 replace Y : (zAo u4w (w.heap.size + 2) 0 [.slice na c.1.length nb, .slice nc c.2.length nd]).heap[w.heap.size + 2]? = some (.cells #[.slice na c.1.length nb, .slice nc c.2.length nd, .slice a1 p.length c1, .int .i64 at_, .int .i64 ph, .int .i64 u.1, .int .i64 u.2.1, .slice a4 u.2.2.length c4, .slice a5 t.length c5] 41 (0, 0)) := zAC _ _ Y
 have tu5w := Nat.le_of_eq (zAj (g := w.heap.size + 2) [.slice na c.1.length nb, .slice nc c.2.length nd] 0 u4w)
 have qu5w := Nat.le_of_eq (zAj (g := w.heap.size + 2) [.slice na c.1.length nb, .slice nc c.2.length nd] 0 u4w).symm
 generalize (zAo u4w (w.heap.size + 2) 0 [.slice na c.1.length nb, .slice nc c.2.length nd]) = u5w at B X R Y P tu5w qu5w ⊢
 obtain ⟨Xc0, Xc1, Xc2, Xc3, Xc4, Xc5, Xc6, Xc7, Xc8⟩ := zAc X
 have Xlt := (Array.getElem?_eq_some_iff.1 X).1
 obtain ⟨Rc0, Rc1, Rc2, Rc3, Rc4, Rc5, Rc6, Rc7, Rc8⟩ := zAc R
 have Rlt := (Array.getElem?_eq_some_iff.1 R).1
 obtain ⟨Yc0, Yc1, Yc2, Yc3, Yc4, Yc5, Yc6, Yc7, Yc8⟩ := zAc Y
 have Ylt := (Array.getElem?_eq_some_iff.1 Y).1
 obtain ⟨Yf0, Yf1, Yf2, Yf3, Yf4, Yf5, Yf6, Yf7, Yf8⟩ := zAr Y
 go_wp2_with (at_builtin; refine zMg (V := u5w) rfl _ _ rfl _ p rfl rfl (KP.out _ B) (by omega) ?_)
 clear Xc0 Xc1 Xc2 Xc3 Xc4 Xc5 Xc6 Xc7 Xc8 Xlt Rc0 Rc1 Rc2 Rc3 Rc4 Rc5 Rc6 Rc7 Rc8 Rlt Yc0 Yc1 Yc2 Yc3 Yc4 Yc5 Yc6 Yc7 Yc8 Ylt Yf0 Yf1 Yf2 Yf3 Yf4 Yf5 Yf6 Yf7 Yf8
 intro vo u6w mm
 obtain ⟨oa, oc, ro, -, -, -⟩ := zBX.own_rd mm.1
 simp only [List.cons.injEq, and_true] at ro
 obtain rfl := ro
 have O := zAR (R := zBX) mm
 have mb := mm.2
 have tu6w : u5w.heap.size ≤ u6w.heap.size := mb.size
 replace B := zAb B mb
 replace X := zAa mb X
 replace R := zAa mb R
 replace Y := zAa mb Y
 replace P := zA6 P mb
 clear mb mm
 obtain ⟨Xc0, Xc1, Xc2, Xc3, Xc4, Xc5, Xc6, Xc7, Xc8⟩ := zAc X
 have Xlt := (Array.getElem?_eq_some_iff.1 X).1
 obtain ⟨Rc0, Rc1, Rc2, Rc3, Rc4, Rc5, Rc6, Rc7, Rc8⟩ := zAc R
 have Rlt := (Array.getElem?_eq_some_iff.1 R).1
 obtain ⟨Yc0, Yc1, Yc2, Yc3, Yc4, Yc5, Yc6, Yc7, Yc8⟩ := zAc Y
 have Ylt := (Array.getElem?_eq_some_iff.1 Y).1
 obtain ⟨Yf0, Yf1, Yf2, Yf3, Yf4, Yf5, Yf6, Yf7, Yf8⟩ := zAr Y
 go_wp2_with fail
 clear Xc0 Xc1 Xc2 Xc3 Xc4 Xc5 Xc6 Xc7 Xc8 Xlt Rc0 Rc1 Rc2 Rc3 Rc4 Rc5 Rc6 Rc7 Rc8 Rlt Yc0 Yc1 Yc2 Yc3 Yc4 Yc5 Yc6 Yc7 Yc8 Ylt Yf0 Yf1 Yf2 Yf3 Yf4 Yf5 Yf6 Yf7 Yf8
 rw [show (u6w.setCell ⟨w.heap.size + 2, 2, none⟩ (.slice oa p.length oc)) = (zAo u6w (w.heap.size + 2) 2 [.slice oa p.length oc]) from rfl]
 replace X := zAk (g := w.heap.size + 2) (o := 2) (vs := [.slice oa p.length oc]) X (by omega)
 replace R := zAk (g := w.heap.size + 2) (o := 2) (vs := [.slice oa p.length oc]) R (by omega)
 replace P := zAw (g := w.heap.size + 2) (o := 2) (vs := [.slice oa p.length oc]) P (by omega)
 replace O := zAw (g := w.heap.size + 2) (o := 2) (vs := [.slice oa p.length oc]) O (by omega)
 replace B := zAv (g := w.heap.size + 2) (o := 2) (vs := [.slice oa p.length oc]) B (by omega)
 replace Y : (zAo u6w (w.heap.size + 2) 2 [.slice oa p.length oc]).heap[w.heap.size + 2]? = some (.cells #[.slice na c.1.length nb, .slice nc c.2.length nd, .slice oa p.length oc, .int .i64 at_, .int .i64 ph, .int .i64 u.1, .int .i64 u.2.1, .slice a4 u.2.2.length c4, .slice a5 t.length c5] 41 (0, 0)) := zAC _ _ Y
 have tu7w := Nat.le_of_eq (zAj (g := w.heap.size + 2) [.slice oa p.length oc] 2 u6w)
 have qu7w := Nat.le_of_eq (zAj (g := w.heap.size + 2) [.slice oa p.length oc] 2 u6w).symm
 generalize (zAo u6w (w.heap.size + 2) 2 [.slice oa p.length oc]) = u7w at B X R Y P O tu7w qu7w ⊢
 refine (zGV [.int .i64 u.1, .int .i64 u.2.1, .slice a4 u.2.2.length c4] u _ (KW.out _ B) (by omega)).mono ?_
 rintro e u8w ⟨ds, rfl, mm⟩
 obtain ⟨ea, ec, rfl, -, -, -, -, -⟩ := zAL (zAS.own_rd mm.1)
 rw [show zAM [.int .i64 u.1, .int .i64 u.2.1, .slice ea u.2.2.length ec] = .agg #[.int .i64 u.1, .int .i64 u.2.1, .slice ea u.2.2.length ec] from rfl]
 have E := zAR (R := zAS) mm
 have mb := mm.2
 have tu8w : u7w.heap.size ≤ u8w.heap.size := mb.size
 replace B := zAb B mb
 replace X := zAa mb X
 replace R := zAa mb R
 replace Y := zAa mb Y
 replace P := zA6 P mb
 replace O := zA6 O mb
 clear mb mm
 obtain ⟨Xc0, Xc1, Xc2, Xc3, Xc4, Xc5, Xc6, Xc7, Xc8⟩ := zAc X
 have Xlt := (Array.getElem?_eq_some_iff.1 X).1
 obtain ⟨Rc0, Rc1, Rc2, Rc3, Rc4, Rc5, Rc6, Rc7, Rc8⟩ := zAc R
 have Rlt := (Array.getElem?_eq_some_iff.1 R).1
 obtain ⟨Yc0, Yc1, Yc2, Yc3, Yc4, Yc5, Yc6, Yc7, Yc8⟩ := zAc Y
 have Ylt := (Array.getElem?_eq_some_iff.1 Y).1
 obtain ⟨Yf0, Yf1, Yf2, Yf3, Yf4, Yf5, Yf6, Yf7, Yf8⟩ := zAr Y
 go_wp2_with fail
 clear Xc0 Xc1 Xc2 Xc3 Xc4 Xc5 Xc6 Xc7 Xc8 Xlt Rc0 Rc1 Rc2 Rc3 Rc4 Rc5 Rc6 Rc7 Rc8 Rlt Yc0 Yc1 Yc2 Yc3 Yc4 Yc5 Yc6 Yc7 Yc8 Ylt Yf0 Yf1 Yf2 Yf3 Yf4 Yf5 Yf6 Yf7 Yf8
 rw [show (((u8w.setCell ⟨w.heap.size + 2, 5, none⟩ (.int .i64 u.1)).setCell ⟨w.heap.size + 2, 6, none⟩ (.int .i64 u.2.1)).setCell ⟨w.heap.size + 2, 7, none⟩ (.slice ea u.2.2.length ec)) = (zAo u8w (w.heap.size + 2) 5 [.int .i64 u.1, .int .i64 u.2.1, .slice ea u.2.2.length ec]) from rfl]
 replace X := zAk (g := w.heap.size + 2) (o := 5) (vs := [.int .i64 u.1, .int .i64 u.2.1, .slice ea u.2.2.length ec]) X (by omega)
 replace R := zAk (g := w.heap.size + 2) (o := 5) (vs := [.int .i64 u.1, .int .i64 u.2.1, .slice ea u.2.2.length ec]) R (by omega)
 replace P := zAw (g := w.heap.size + 2) (o := 5) (vs := [.int .i64 u.1, .int .i64 u.2.1, .slice ea u.2.2.length ec]) P (by omega)
 replace O := zAw (g := w.heap.size + 2) (o := 5) (vs := [.int .i64 u.1, .int .i64 u.2.1, .slice ea u.2.2.length ec]) O (by omega)
 replace E := zAw (g := w.heap.size + 2) (o := 5) (vs := [.int .i64 u.1, .int .i64 u.2.1, .slice ea u.2.2.length ec]) E (by omega)
 replace B := zAv (g := w.heap.size + 2) (o := 5) (vs := [.int .i64 u.1, .int .i64 u.2.1, .slice ea u.2.2.length ec]) B (by omega)
 replace Y : (zAo u8w (w.heap.size + 2) 5 [.int .i64 u.1, .int .i64 u.2.1, .slice ea u.2.2.length ec]).heap[w.heap.size + 2]? = some (.cells #[.slice na c.1.length nb, .slice nc c.2.length nd, .slice oa p.length oc, .int .i64 at_, .int .i64 ph, .int .i64 u.1, .int .i64 u.2.1, .slice ea u.2.2.length ec, .slice a5 t.length c5] 41 (0, 0)) := zAC _ _ Y
 have tu9w := Nat.le_of_eq (zAj (g := w.heap.size + 2) [.int .i64 u.1, .int .i64 u.2.1, .slice ea u.2.2.length ec] 5 u8w)
 have qu9w := Nat.le_of_eq (zAj (g := w.heap.size + 2) [.int .i64 u.1, .int .i64 u.2.1, .slice ea u.2.2.length ec] 5 u8w).symm
 generalize (zAo u8w (w.heap.size + 2) 5 [.int .i64 u.1, .int .i64 u.2.1, .slice ea u.2.2.length ec]) = u9w at B X R Y P O E tu9w qu9w ⊢
 refine (zDc a5 t c5 _ (KT.out _ B) (by omega)).mono ?_
 rintro e u10w ⟨vt, rfl, mm⟩
 obtain ⟨ta, tc, rt, -, -, -⟩ := zA5.own_rd mm.1
 simp only [List.cons.injEq, and_true] at rt
 obtain rfl := rt
 have T := zAR (R := zA5) mm
 have mb := mm.2
 have tu10w : u9w.heap.size ≤ u10w.heap.size := mb.size
 replace B := zAb B mb
 replace X := zAa mb X
 replace R := zAa mb R
 replace Y := zAa mb Y
 replace P := zA6 P mb
 replace O := zA6 O mb
 replace E := zA6 E mb
 clear mb mm
 obtain ⟨Xc0, Xc1, Xc2, Xc3, Xc4, Xc5, Xc6, Xc7, Xc8⟩ := zAc X
 have Xlt := (Array.getElem?_eq_some_iff.1 X).1
 obtain ⟨Rc0, Rc1, Rc2, Rc3, Rc4, Rc5, Rc6, Rc7, Rc8⟩ := zAc R
 have Rlt := (Array.getElem?_eq_some_iff.1 R).1
 obtain ⟨Rf0, Rf1, Rf2, Rf3, Rf4, Rf5, Rf6, Rf7, Rf8⟩ := zAr R
 obtain ⟨Yc0, Yc1, Yc2, Yc3, Yc4, Yc5, Yc6, Yc7, Yc8⟩ := zAc Y
 have Ylt := (Array.getElem?_eq_some_iff.1 Y).1
 obtain ⟨Yf0, Yf1, Yf2, Yf3, Yf4, Yf5, Yf6, Yf7, Yf8⟩ := zAr Y
 have HK : Hid _ := And.intro Y (And.intro R (And.intro B (And.intro P (And.intro O (And.intro E T)))))
 clear X Y R B P O E T
 go_wp2
 clear Xc0 Xc1 Xc2 Xc3 Xc4 Xc5 Xc6 Xc7 Xc8 Xlt Rc0 Rc1 Rc2 Rc3 Rc4 Rc5 Rc6 Rc7 Rc8 Rlt Rf0 Rf1 Rf2 Rf3 Rf4 Rf5 Rf6 Rf7 Rf8 Yc0 Yc1 Yc2 Yc3 Yc4 Yc5 Yc6 Yc7 Yc8 Ylt Yf0 Yf1 Yf2 Yf3 Yf4 Yf5 Yf6 Yf7 Yf8
 obtain ⟨Y, R, B, P, O, E, T⟩ := HK.out
 have R2 : (u10w.setCell ⟨w.heap.size + 2, 8, none⟩ (.slice ta t.length tc)).heap[w.heap.size + 1]? = some (.cells #[.slice none 0 0, .slice none 0 0, .slice none 0 0, .int .i64 0, .int .i64 0, .int .i64 0, .int .i64 0, .slice none 0 0, .slice none 0 0] 41 (0, 0)) := zAk (g := w.heap.size + 2) (o := 8) (vs := [.slice ta t.length tc]) R (by omega)
 obtain ⟨r0, r1, r2, r3, r4, r5, r6, r7, r8⟩ := zAc (zAV (y0 := .slice na c.1.length nb) (y1 := .slice nc c.2.length nd) (y2 := .slice oa p.length oc) (y3 := .int .i64 at_) (y4 := .int .i64 ph) (y5 := .int .i64 u.1) (y6 := .int .i64 u.2.1) (y7 := .slice ea u.2.2.length ec) (y8 := .slice ta t.length tc) R2)
 refine bodyPost_ret (v := .agg #[.slice na c.1.length nb, .slice nc c.2.length nd, .slice oa p.length oc, .int .i64 at_, .int .i64 ph, .int .i64 u.1, .int .i64 u.2.1, .slice ea u.2.2.length ec, .slice ta t.length tc]) (by simp [results, Tryz.results24, go_sem, r0, r1, r2, r3, r4, r5, r6, r7, r8]) rfl ⟨[.slice na c.1.length nb, .slice nc c.2.length nd, .slice oa p.length oc, .int .i64 at_, .int .i64 ph, .int .i64 u.1, .int .i64 u.2.1, .slice ea u.2.2.length ec, .slice ta t.length tc], rfl, zHK hia.1 hia.2 (zAw (g := w.heap.size + 1) (o := 0) (vs := [.slice na c.1.length nb, .slice nc c.2.length nd, .slice oa p.length oc, .int .i64 at_, .int .i64 ph, .int .i64 u.1, .int .i64 u.2.1, .slice ea u.2.2.length ec, .slice ta t.length tc]) (zAw (g := w.heap.size + 2) (o := 8) (vs := [.slice ta t.length tc]) P (by omega)) (by omega)) (zAw (g := w.heap.size + 1) (o := 0) (vs := [.slice na c.1.length nb, .slice nc c.2.length nd, .slice oa p.length oc, .int .i64 at_, .int .i64 ph, .int .i64 u.1, .int .i64 u.2.1, .slice ea u.2.2.length ec, .slice ta t.length tc]) (zAw (g := w.heap.size + 2) (o := 8) (vs := [.slice ta t.length tc]) O (by omega)) (by omega)) (zAw (g := w.heap.size + 1) (o := 0) (vs := [.slice na c.1.length nb, .slice nc c.2.length nd, .slice oa p.length oc, .int .i64 at_, .int .i64 ph, .int .i64 u.1, .int .i64 u.2.1, .slice ea u.2.2.length ec, .slice ta t.length tc]) (zAw (g := w.heap.size + 2) (o := 8) (vs := [.slice ta t.length tc]) E (by omega)) (by omega)) (zAw (g := w.heap.size + 1) (o := 0) (vs := [.slice na c.1.length nb, .slice nc c.2.length nd, .slice oa p.length oc, .int .i64 at_, .int .i64 ph, .int .i64 u.1, .int .i64 u.2.1, .slice ea u.2.2.length ec, .slice ta t.length tc]) (zAw (g := w.heap.size + 2) (o := 8) (vs := [.slice ta t.length tc]) T (by omega)) (by omega)) (zAv (g := w.heap.size + 1) (o := 0) (vs := [.slice na c.1.length nb, .slice nc c.2.length nd, .slice oa p.length oc, .int .i64 at_, .int .i64 ph, .int .i64 u.1, .int .i64 u.2.1, .slice ea u.2.2.length ec, .slice ta t.length tc]) (zAv (g := w.heap.size + 2) (o := 8) (vs := [.slice ta t.length tc]) B (by omega)) (by omega)) (by omega) (by omega) (by omega) (by omega) (by omega) (by omega) (by omega) (by omega) (by omega)⟩
end Go.Proofs.YtoihjejenjcokaaGreatDoor
