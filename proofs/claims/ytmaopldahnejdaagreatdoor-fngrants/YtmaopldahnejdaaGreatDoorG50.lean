import Derived.Test.YtmaopldahnejdaaGreatDoorG42
import Derived.Test.YtmaopldahnejdaaGreatDoorG43
import Derived.Test.YtmaopldahnejdaaGreatDoorG49
namespace Go.Proofs.YtmaopldahnejdaaGreatDoor
open Go.ChangeShapes Go.WideShapes Go.ChangeAt Go.RowKit
set_option linter.unusedVariables false
set_option linter.unusedSimpArgs false
set_option maxHeartbeats 16000000 in
set_option maxRecDepth 20000 in
theorem grants_law (a : Option Addr) (len cap : Nat) (zs : List Int) (w : World) (hh : HoldT w) (hr : Row8 w a len zs) (hs : len ≤ 4096) :
    Calls Tryz.prog 4 #[.slice a len cap] w fun e w' => e = .returned (.bool true) ∧ Below w.heap.size w w' := by
 have hnb : decide ((4096 : Int) < (len : Int)) = false := by simp; omega
 go_enter Tryz.func4, Tryz.ntmps4
 go_wp2_with fail
 refine (big_any _ _ _ _).mono ?_
 rintro e wb ⟨rfl, hwb⟩
 rw [hwb, hnb]
 clear hwb wb hnb
 go_wp2_with fail
 refine (zHP a len cap zs _ hr).mono ?_
 rintro e w1 ⟨x, m, a0, ac0, a1, ac1, av, cv, rfl, sm, dl, rx, rm, B⟩
 clear hr
 have Xr := zAW (.cells #[.int .i64 m.1, .int .i64 m.2.1, .int .i64 m.2.2.1, .int .i64 m.2.2.2.1, .int .i64 m.2.2.2.2.1, .slice av m.2.2.2.2.2.1.length cv, .int .i64 m.2.2.2.2.2.2] 30) (zAw w1 (.cells #[.slice a0 x.1.length ac0, .slice a1 x.2.length ac1] 27))
 have Nr := zAw (w1.alloc (.cells #[.slice a0 x.1.length ac0, .slice a1 x.2.length ac1] 27)) (.cells #[.int .i64 m.1, .int .i64 m.2.1, .int .i64 m.2.2.1, .int .i64 m.2.2.2.1, .int .i64 m.2.2.2.2.1, .slice av m.2.2.2.2.2.1.length cv, .int .i64 m.2.2.2.2.2.2] 30)
 rw [zAu] at Nr
 have bz := zAa (zAg w1 (.cells #[.slice a0 x.1.length ac0, .slice a1 x.2.length ac1] 27)) (zAg _ (.cells #[.int .i64 m.1, .int .i64 m.2.1, .int .i64 m.2.2.1, .int .i64 m.2.2.2.1, .int .i64 m.2.2.2.2.1, .slice av m.2.2.2.2.2.1.length cv, .int .i64 m.2.2.2.2.2.2] 30))
 have sz2 : ((w1.alloc (.cells #[.slice a0 x.1.length ac0, .slice a1 x.2.length ac1] 27)).alloc (.cells #[.int .i64 m.1, .int .i64 m.2.1, .int .i64 m.2.2.1, .int .i64 m.2.2.2.1, .int .i64 m.2.2.2.2.1, .slice av m.2.2.2.2.2.1.length cv, .int .i64 m.2.2.2.2.2.2] 30)).heap.size = w1.heap.size + 2 := by simp
 replace rx := zBl rx bz
 replace rm := zBl rm bz
 replace B := zAa B bz
 clear bz
 go_upto_region 4 with fail
 generalize (w1.alloc (.cells #[.slice a0 x.1.length ac0, .slice a1 x.2.length ac1] 27)).alloc (.cells #[.int .i64 m.1, .int .i64 m.2.1, .int .i64 m.2.2.1, .int .i64 m.2.2.2.1, .int .i64 m.2.2.2.2.1, .slice av m.2.2.2.2.2.1.length cv, .int .i64 m.2.2.2.2.2.2] 30) = w2 at Xr Nr rx rm B sz2 ⊢
 generalize hb0 : w1.heap.size = hb at Xr Nr sz2 ⊢
 clear hb0
 obtain ⟨x0, x1⟩ := zAd Xr
 obtain ⟨n0, n1, n2, n3, n4, n5, n6⟩ := zAe Nr
 have HIM := zJw _ _ x m w2 (hh.goes B) rx rm (Nat.le_trans dl (by decide))
 have HSP : Hid (∀ W, Below w2.heap.size w2 W → _) := fun W hb => zJy _ _ x m W (zBl rx hb) (Nat.le_trans (zJN sm) (by decide)) (zBl rm hb) (Nat.le_trans dl (by decide))
 have HLET : Hid _ := fun l => zLG (x := x) (m := m) (l := l)
 have HSM : Hid _ := And.intro sm dl
 have hsmall := zJn x m (Nat.le_trans (zJN sm) (by decide)) (by rw [zLk, zD1]; omega)
 clear sm dl
 have hex : ∃ y, y = zBb x m := ⟨_, rfl⟩
 obtain ⟨y, hy⟩ := hex
 rw [← hy] at HIM HSP HLET hsmall
 clear hy
 go_wp2_with fail
 refine HIM.mono ?_
 rintro e w3 ⟨ds0, ds1, rfl, hl, M⟩
 clear HIM x0 x1 n0 n1 n2 n3 n4 n5 n6
 have pr := zKP ((zCg zAz zAT).own_rd M.1) hl
 obtain ⟨b0, bc0, b1, bc1, e0⟩ := zB4 pr.1
 obtain ⟨la, lc, e1, _, _, lr⟩ := pr.2
 subst e0
 subst e1
 have ry := pr.1
 have b3 := M.2
 clear pr M hl
 rw [show zBw [.slice b0 y.1.1.length bc0, .slice b1 y.1.2.length bc1] = .agg #[.slice b0 y.1.1.length bc0, .slice b1 y.1.2.length bc1] from rfl, show zFl [.slice la y.2.1.length lc] = .slice la y.2.1.length lc from rfl]
 have bz := zAg w3 (.cells #[.slice b0 y.1.1.length bc0, .slice b1 y.1.2.length bc1] 27)
 have Yr := zAw w3 (.cells #[.slice b0 y.1.1.length bc0, .slice b1 y.1.2.length bc1] 27)
 have hl3 := b3.size
 replace b3 := zAa b3 bz
 replace Xr := zAb b3 Xr
 replace Nr := zAb b3 Nr
 replace rx := zBl rx b3
 replace rm := zBl rm b3
 replace ry := zBl ry bz
 replace lr := zAt lr bz
 replace B := zAa B b3
 have sz4 : (w3.alloc (.cells #[.slice b0 y.1.1.length bc0, .slice b1 y.1.2.length bc1] 27)).heap.size = w3.heap.size + 1 := zAu _ _
 clear bz
 go_upto_region 5 with fail
 generalize w3.alloc (.cells #[.slice b0 y.1.1.length bc0, .slice b1 y.1.2.length bc1] 27) = w4 at Xr Nr rx rm ry lr Yr B b3 sz4 ⊢
 generalize hb0 : w3.heap.size = yb at Yr sz4 hl3 ⊢
 clear hb0
 obtain ⟨x0, x1⟩ := zAd Xr
 obtain ⟨n0, n1, n2, n3, n4, n5, n6⟩ := zAe Nr
 go_wp2_with fail
 refine (HSP.out _ b3).mono ?_
 rintro e w5 ⟨ds0, ds1, rfl, oz, ol, b5⟩
 clear HSP x0 x1 n0 n1 n2 n3 n4 n5 n6
 have rz := zAz.own_rd oz
 have rl := zAT.own_rd ol
 obtain ⟨c0, cc0, c1, cc1, e0⟩ := zB4 rz
 obtain ⟨ka, kc, e1, _, _, kr⟩ := rl
 subst e0
 subst e1
 clear oz ol
 rw [show zBw [.slice c0 y.1.1.length cc0, .slice c1 y.1.2.length cc1] = .agg #[.slice c0 y.1.1.length cc0, .slice c1 y.1.2.length cc1] from rfl, show zFl [.slice ka y.2.1.length kc] = .slice ka y.2.1.length kc from rfl]
 have bz := zAg w5 (.cells #[.slice c0 y.1.1.length cc0, .slice c1 y.1.2.length cc1] 27)
 have Zr := zAw w5 (.cells #[.slice c0 y.1.1.length cc0, .slice c1 y.1.2.length cc1] 27)
 have hl5 := b5.size
 replace b5 := zAa b5 bz
 replace Xr := zAb b5 Xr
 replace Nr := zAb b5 Nr
 replace Yr := zAb b5 Yr
 replace rx := zBl rx b5
 replace rm := zBl rm b5
 replace ry := zBl ry b5
 replace lr := zAt lr b5
 replace rz := zBl rz bz
 replace kr := zAt kr bz
 replace B := zAa B b5
 have sz6 : (w5.alloc (.cells #[.slice c0 y.1.1.length cc0, .slice c1 y.1.2.length cc1] 27)).heap.size = w5.heap.size + 1 := zAu _ _
 clear bz
 go_upto_region 6 with fail
 generalize w5.alloc (.cells #[.slice c0 y.1.1.length cc0, .slice c1 y.1.2.length cc1] 27) = w6 at Xr Nr Yr rx rm ry lr rz kr Zr B b5 sz6 ⊢
 generalize hb0 : w5.heap.size = cb at Zr sz6 hl5 ⊢
 clear hb0
 obtain ⟨y0, y1⟩ := zAd Yr
 obtain ⟨z0, z1⟩ := zAd Zr
 have HK : Hid (Calls Tryz.prog 13 #[.agg #[.slice b0 y.1.1.length bc0, .slice b1 y.1.2.length bc1], .agg #[.slice c0 y.1.1.length cc0, .slice c1 y.1.2.length cc1]] w6 fun e w' => e = .returned (.bool true) ∧ Below w6.heap.size w6 w') := zJq _ _ y.1 w6 ry rz hsmall.1
 have HN : Hid (∀ W, Below w6.heap.size w6 W → Calls Tryz.prog 14 #[.slice la y.2.1.length lc, .slice ka y.2.1.length kc] W fun e w' => e = .returned (.bool true) ∧ Below W.heap.size W w') := fun W hb => zJs la ka y.2.1 lc kc W (zAt lr hb) (zAt kr hb) (Nat.le_trans hsmall.2 (by decide))
 go_wp2_with (first | (go_at_call 13; refine HK.out.mono ?_; rintro e w7 ⟨rfl, B7⟩) | (go_at_call 14; refine (HN.out _ B7).mono ?_; rintro e w8 ⟨rfl, B8⟩; have BX : Hid (Below w6.heap.size w6 w8) := zAa B7 B8; clear B7 B8 y0 y1 z0 z1 HK HN))
 go_loopw [11] (fun i wr => ∃ k : Nat, k ≤ y.2.1.length ∧ i = .int .i64 k ∧ Below w6.heap.size w6 wr) (fun i _ => y.2.1.length - (intOf i).toNat)
 case atStart => exact ⟨0, Nat.zero_le _, rfl, BX⟩
 case round =>
  clear BX
  obtain ⟨k, hk, rfl, BB⟩ := hrel
  by_cases hlt : k < y.2.1.length
  ·have hlt' : (k : Int) < (y.2.1.length : Int) := by omega
   have hlx := List.getElem?_eq_getElem hlt
   obtain ⟨j, r, eu, u, hm, g1, g2, g3, hh1, hh2, hrL, GL⟩ := HLET.out _ (List.getElem_mem hlt)
   generalize y.2.1[k] = l at hlx GL
   clear g3
   obtain ⟨lb, lo, cs, rfl, hrd, hc⟩ := zBH lr hlx
   obtain ⟨lr0, lf, lt, lk, ll, ld, lg⟩ := l
   obtain ⟨da, dc, rfl, -, -, -, -, -, -, -, -, hdd⟩ := zGR hrd
   obtain ⟨v0, v1, ev, ⟨_, _, e0, _, _, s0⟩, ⟨_, _, e1, _, _, s1⟩⟩ := zBW ry
   simp only [List.cons.injEq, and_true] at ev
   obtain ⟨rfl, rfl⟩ := ev
   simp only [List.cons.injEq, Value.slice.injEq, and_true] at e0 e1
   obtain ⟨rfl, -⟩ := e0
   obtain ⟨rfl, -⟩ := e1
   obtain ⟨eb, eo, cs, rfl, hrd2, hc2⟩ := zBH s1 g2
   obtain ⟨eo0, es, ez, ek, ef, el, em, ed⟩ := eu
   obtain ⟨ea, ec, rfl, -, -, -, -, -, -, -, -, -⟩ := zE0 hrd2
   obtain ⟨mb, mo, cs, rfl, hrd3, hc3⟩ := zBH s0 g1
   obtain ⟨ra, rc, rfl, -, -, hrr⟩ := hrd3
   obtain ⟨ax0, ax1⟩ := zAd Xr
   obtain ⟨an0, an1, an2, an3, an4, an5, an6⟩ := zAe Nr
   rw [hm] at an4
   obtain ⟨ay0, ay1⟩ := zAd Yr
   have al0 : w6.cell? ⟨lb, lo + k * 7, none⟩ = some (.int .i64 lr0) := hc 0 _ rfl
   have al1 : w6.cell? ⟨lb, lo + k * 7 + 1, none⟩ = some (.int .i64 lf) := hc 1 _ rfl
   have al2 : w6.cell? ⟨lb, lo + k * 7 + 2, none⟩ = some (.int .i64 lt) := hc 2 _ rfl
   have al3 : w6.cell? ⟨lb, lo + k * 7 + 3, none⟩ = some (.int .i64 lk) := hc 3 _ rfl
   have al4 : w6.cell? ⟨lb, lo + k * 7 + 4, none⟩ = some (.int .i64 ll) := hc 4 _ rfl
   have al5 : w6.cell? ⟨lb, lo + k * 7 + 5, none⟩ = some (.slice da ld.length dc) := hc 5 _ rfl
   have al6 : w6.cell? ⟨lb, lo + k * 7 + 6, none⟩ = some (.int .i64 lg) := hc 6 _ rfl
   have aq0 : w6.cell? ⟨eb, eo + j * 8, none⟩ = some (.int .i64 eo0) := hc2 0 _ rfl
   have aq1 : w6.cell? ⟨eb, eo + j * 8 + 1, none⟩ = some (.int .i64 es) := hc2 1 _ rfl
   have aq2 : w6.cell? ⟨eb, eo + j * 8 + 2, none⟩ = some (.bool ez) := hc2 2 _ rfl
   have aq3 : w6.cell? ⟨eb, eo + j * 8 + 3, none⟩ = some (.int .i64 ek) := hc2 3 _ rfl
   have aq4 : w6.cell? ⟨eb, eo + j * 8 + 4, none⟩ = some (.int .i64 ef) := hc2 4 _ rfl
   have aq5 : w6.cell? ⟨eb, eo + j * 8 + 5, none⟩ = some (.int .i64 el) := hc2 5 _ rfl
   have aq6 : w6.cell? ⟨eb, eo + j * 8 + 6, none⟩ = some (.int .i64 em) := hc2 6 _ rfl
   have aq7 : w6.cell? ⟨eb, eo + j * 8 + 7, none⟩ = some (.slice ea ed.length ec) := hc2 7 _ rfl
   have ar0 : w6.cell? ⟨mb, mo + j, none⟩ = some (.slice ra r.length rc) := by
    have q := hc3 0 _ rfl
    rw [show mo + (j * zAm.size + 0) = mo + j from by rw [show zAm.size = 1 from rfl]; omega] at q
    exact q
   have KC : Hid (∀ W, Below w6.heap.size w6 W → W.cell? ⟨hb, 0, none⟩ = some (.slice a0 x.1.length ac0) ∧ W.cell? ⟨hb, 1, none⟩ = some (.slice a1 x.2.length ac1) ∧ W.cell? ⟨hb + 1, 0, none⟩ = some (.int .i64 m.1) ∧ W.cell? ⟨hb + 1, 1, none⟩ = some (.int .i64 m.2.1) ∧ W.cell? ⟨hb + 1, 2, none⟩ = some (.int .i64 m.2.2.1) ∧ W.cell? ⟨hb + 1, 3, none⟩ = some (.int .i64 m.2.2.2.1) ∧ W.cell? ⟨hb + 1, 4, none⟩ = some (.int .i64 j) ∧ W.cell? ⟨hb + 1, 5, none⟩ = some (.slice av m.2.2.2.2.2.1.length cv) ∧ W.cell? ⟨hb + 1, 6, none⟩ = some (.int .i64 m.2.2.2.2.2.2) ∧ W.cell? ⟨yb, 0, none⟩ = some (.slice (some ⟨mb, mo, none⟩) y.1.1.length bc0) ∧ W.cell? ⟨yb, 1, none⟩ = some (.slice (some ⟨eb, eo, none⟩) y.1.2.length bc1) ∧ W.cell? ⟨lb, lo + k * 7, none⟩ = some (.int .i64 lr0) ∧ W.cell? ⟨lb, lo + k * 7 + 1, none⟩ = some (.int .i64 lf) ∧ W.cell? ⟨lb, lo + k * 7 + 2, none⟩ = some (.int .i64 lt) ∧ W.cell? ⟨lb, lo + k * 7 + 3, none⟩ = some (.int .i64 lk) ∧ W.cell? ⟨lb, lo + k * 7 + 4, none⟩ = some (.int .i64 ll) ∧ W.cell? ⟨lb, lo + k * 7 + 5, none⟩ = some (.slice da ld.length dc) ∧ W.cell? ⟨lb, lo + k * 7 + 6, none⟩ = some (.int .i64 lg) ∧ W.cell? ⟨eb, eo + j * 8, none⟩ = some (.int .i64 eo0) ∧ W.cell? ⟨eb, eo + j * 8 + 1, none⟩ = some (.int .i64 es) ∧ W.cell? ⟨eb, eo + j * 8 + 2, none⟩ = some (.bool ez) ∧ W.cell? ⟨eb, eo + j * 8 + 3, none⟩ = some (.int .i64 ek) ∧ W.cell? ⟨eb, eo + j * 8 + 4, none⟩ = some (.int .i64 ef) ∧ W.cell? ⟨eb, eo + j * 8 + 5, none⟩ = some (.int .i64 el) ∧ W.cell? ⟨eb, eo + j * 8 + 6, none⟩ = some (.int .i64 em) ∧ W.cell? ⟨eb, eo + j * 8 + 7, none⟩ = some (.slice ea ed.length ec) ∧ W.cell? ⟨mb, mo + j, none⟩ = some (.slice ra r.length rc)) := fun W hb => ⟨zAf hb ax0 (zAi ax0), zAf hb ax1 (zAi ax1), zAf hb an0 (zAi an0), zAf hb an1 (zAi an1), zAf hb an2 (zAi an2), zAf hb an3 (zAi an3), zAf hb an4 (zAi an4), zAf hb an5 (zAi an5), zAf hb an6 (zAi an6), zAf hb ay0 (zAi ay0), zAf hb ay1 (zAi ay1), zAf hb al0 (zAi al0), zAf hb al1 (zAi al1), zAf hb al2 (zAi al2), zAf hb al3 (zAi al3), zAf hb al4 (zAi al4), zAf hb al5 (zAi al5), zAf hb al6 (zAi al6), zAf hb aq0 (zAi aq0), zAf hb aq1 (zAi aq1), zAf hb aq2 (zAi aq2), zAf hb aq3 (zAi aq3), zAf hb aq4 (zAi aq4), zAf hb aq5 (zAi aq5), zAf hb aq6 (zAi aq6), zAf hb aq7 (zAi aq7), zAf hb ar0 (zAi ar0)⟩
   have hj2 : j < y.1.2.length := (List.getElem?_eq_some_iff.1 g2).1
   have hj1 : j < y.1.1.length := (List.getElem?_eq_some_iff.1 g1).1
   have hj2' : (j : Int) < (y.1.2.length : Int) := by omega
   have hj1' : (j : Int) < (y.1.1.length : Int) := by omega
   have HD : Hid _ := And.intro hdd hrr
   have HR : Hid _ := And.intro ry (And.intro rx (And.intro hh1 hh2))
   have HSZ : Hid _ := hsmall
   have HRL : Hid (r.length ≤ zBI zDm y.1.1) := by unfold Hid; have q := zHp zDm y.1.1 g1; rw [zD1] at q; exact q
   have hr7 : r.length ≤ 2305843009213693952 := by have q := hsmall.1; rw [show zC3.bk y.1 = (y.1.1.length + zBI zDm y.1.1) + (y.1.2.length + zBI zK7 y.1.2) from rfl] at q; have := HRL.out; omega
   have hn7 : y.2.1.length ≤ 8388608 := by have := hsmall.2; rw [show zIj.bk y.2.1 = y.2.1.length + zBI zK9 y.2.1 from rfl] at this; omega
   clear ax0 ax1 an0 an1 an2 an3 an4 an5 an6 ay0 ay1 al0 al1 al2 al3 al4 al5 al6 aq0 aq1 aq2 aq3 aq4 aq5 aq6 aq7 ar0 hrd hrd2 hc hc2 hc3 hdd hrr s0 s1 ry rx rm lr rz kr Xr Nr Yr Zr g1 g2 hlx hh1 hh2 hm HLET hsmall
   unfold GP at GL
   simp only at GL
   rcases GL with ⟨rfl, rfl, G3, rfl, rfl, rfl, G7⟩ | ⟨rfl, rfl, rfl, G4⟩ | ⟨G1, rfl, rfl, G4⟩ | ⟨rfl, G2⟩
   ·as_aux_lemma =>
      obtain ⟨x0, x1, n0, n1, n2, n3, n4, n5, n6, y0, y1, l0, l1, l2, l3, l4, l5, l6, q0, q1, q2, q3, q4, q5, q6, q7, r0⟩ := KC.out wr BB
      go_upto_region 12 with fail
      clear x0 x1 n0 n1 n2 n3 n4 n5 n6 y0 y1 l0 l1 l2 l3 l4 l5 l6 q0 q1 q2 q3 q4 q5 q6 q7 r0
      have ER := zAw wr (.cells #[.int .i64 eo0, .int .i64 es, .bool true, .int .i64 ek, .int .i64 ef, .int .i64 0, .int .i64 em, .slice ea ed.length ec] 48)
      have be := zAg wr (.cells #[.int .i64 eo0, .int .i64 es, .bool true, .int .i64 ek, .int .i64 ef, .int .i64 0, .int .i64 em, .slice ea ed.length ec] 48)
      have se := zAu wr (.cells #[.int .i64 eo0, .int .i64 es, .bool true, .int .i64 ek, .int .i64 ef, .int .i64 0, .int .i64 em, .slice ea ed.length ec] 48)
      replace BB := zAa BB be
      clear be
      generalize wr.alloc (.cells #[.int .i64 eo0, .int .i64 es, .bool true, .int .i64 ek, .int .i64 ef, .int .i64 0, .int .i64 em, .slice ea ed.length ec] 48) = wE at ER BB se ⊢
      generalize heb : wr.heap.size = xb at ER se ⊢
      clear heb
      obtain ⟨x0, x1, n0, n1, n2, n3, n4, n5, n6, y0, y1, l0, l1, l2, l3, l4, l5, l6, q0, q1, q2, q3, q4, q5, q6, q7, r0⟩ := KC.out wE BB
      obtain ⟨p0, p1, p2, p3, p4, p5, p6, p7⟩ := zAk ER
      go_wp2_with fail
      clear x0 x1 n0 n1 n2 n3 n4 n5 n6 y0 y1 l0 l1 l2 l3 l4 l5 l6 q0 q1 q2 q3 q4 q5 q6 q7 r0 p0 p1 p2 p3 p4 p5 p6 p7
      refine (zGe _ y.1 j wE (zBl HR.out.1 BB)).mono ?_
      rintro e wF ⟨ds, rfl, M⟩
      rw [HR.out.2.2.1] at M
      obtain ⟨ha, hc, e9, -, -, hrd⟩ := zAm.own_rd M.1
      subst e9
      have b9 := M.2
      replace ER := zAb b9 ER
      have BF := zAa BB b9
      clear BB b9 M
      rw [show zFl [.slice ha (hoI eo0 es).length hc] = .slice ha (hoI eo0 es).length hc from rfl]
      go_upto_region 16 with fail
      have HLI : Hid (∀ n9 : Cls (fun wx => Below wF.heap.size wF wx), Calls Tryz.prog 17 #[.slice da ld.length dc, .slice ra ld.length rc] n9.w fun e w' => e = .returned (.bool true) ∧ Below n9.w.heap.size n9.w w') := fun n9 => (zCO da ra ld dc rc n9.w (zAM (zAt (zAt HD.out.1 BF) n9.h)) (zAM (zAt (zAt HD.out.2 BF) n9.h)) hr7).mono fun e w' ⟨h, n, hw⟩ => ⟨h, hw ▸ below_drewN (Below.refl _ n9.w) n⟩
      have HHA : Hid (∀ n9 : Cls (fun wx => Below wF.heap.size wF wx), Calls Tryz.prog 23 #[.slice ha (hoI eo0 es).length hc, .int .i64 ef] n9.w fun e w' => e = .returned (.bool true) ∧ Below n9.w.heap.size n9.w w') := fun n9 => by have q := zFC ha (hoI eo0 es) hc ef n9.w (zAM (zAt hrd n9.h)) (Nat.le_trans (zDA eo0 es) (by decide)); rw [decide_eq_true G3] at q; exact q.mono fun e w' ⟨h, hw⟩ => ⟨h, be_eq hw⟩
      have BB := BF
      go_cut [113] (fun q wx => q = .bool false ∧ Below wF.heap.size wF wx)
      case first =>
       obtain ⟨-, -, -, -, -, -, n4, -, -, y0, -, -, -, -, -, -, l5, -, -, -, -, -, -, -, -, -, r0⟩ := KC.out wF BF
       have n4c : ∀ n9 : Cls (fun wx => Below wF.heap.size wF wx), n9.w.cell? ⟨hb + 1, 4, none⟩ = some (.int .i64 j) := fun n9 => zAf n9.h n4 (zAi n4)
       have y0c : ∀ n9 : Cls (fun wx => Below wF.heap.size wF wx), n9.w.cell? ⟨yb, 0, none⟩ = some (.slice (some ⟨mb, mo, none⟩) y.1.1.length bc0) := fun n9 => zAf n9.h y0 (zAi y0)
       have l5c : ∀ n9 : Cls (fun wx => Below wF.heap.size wF wx), n9.w.cell? ⟨lb, lo + k * 7 + 5, none⟩ = some (.slice da ld.length dc) := fun n9 => zAf n9.h l5 (zAi l5)
       have r0c : ∀ n9 : Cls (fun wx => Below wF.heap.size wF wx), n9.w.cell? ⟨mb, mo + j, none⟩ = some (.slice ra ld.length rc) := fun n9 => zAf n9.h r0 (zAi r0)
       obtain ⟨-, -, p2, -, p4, p5, -, -⟩ := zAk ER
       have p2c : ∀ n9 : Cls (fun wx => Below wF.heap.size wF wx), n9.w.cell? ⟨xb, 2, none⟩ = some (.bool true) := fun n9 => zAf n9.h p2 (zAi p2)
       have p4c : ∀ n9 : Cls (fun wx => Below wF.heap.size wF wx), n9.w.cell? ⟨xb, 4, none⟩ = some (.int .i64 ef) := fun n9 => zAf n9.h p4 (zAi p4)
       have p5c : ∀ n9 : Cls (fun wx => Below wF.heap.size wF wx), n9.w.cell? ⟨xb, 5, none⟩ = some (.int .i64 0) := fun n9 => zAf n9.h p5 (zAi p5)
       clear n4 y0 l5 r0 p2 p4 p5
       refine zB9 (fun wx => Below wF.heap.size wF wx) (by kernel_rfl) (by kernel_rfl) ((Below.refl _ wF).drew) ?_
       intro hne
       repeat (quiet_step ((first | (go_at_call 17; exact zAE (HLI.out _) (fun w' hc bb => zAa hc bb)) | (go_at_call 23; exact zAE (HHA.out _) (fun w' hc bb => zAa hc bb)))))
       refine wpQuiet_nil ?_
       intro wx b2
       clear hne n4c y0c l5c r0c p2c p4c p5c
       go_wp2_with fail
       go_meet
       exact ⟨rfl, b2⟩
      case rest =>
       obtain ⟨rfl, bq⟩ := hcut
       obtain ⟨wx, hwn⟩ : ∃ q, q = wc := ⟨_, rfl⟩
       subst hwn
       replace BB := zAa BF bq
       replace ER := zAb bq ER
       clear bq
       clear HLI HHA BF
       rcases G7 with ⟨g1, g2, rfl⟩ | ⟨rfl, rfl, g2⟩
       ·skip
        have g2' : ((hoI eo0 es).length : Int) = 1 := by omega
        have g1' : ¬ lg = 1 := by omega
        obtain ⟨-, -, -, -, -, -, -, -, -, -, -, -, -, -, -, -, -, l6, -, -, -, -, -, -, -, -, -⟩ := KC.out wx BB
        obtain ⟨p0, -, -, -, -, -, -, -⟩ := zAk ER
        go_wp2
        go_roundw
        case rel => exact ⟨k + 1, by omega, by go_num, BB⟩
        case measure => simp [intOf]; omega
       ·skip
        have g2' : ¬ ((hoI (-1) es).length : Int) < 2 := by omega
        obtain ⟨-, -, -, -, -, -, -, -, -, -, -, -, -, -, -, -, -, l6, -, -, -, -, -, -, -, -, -⟩ := KC.out wx BB
        obtain ⟨p0, -, -, -, -, -, -, -⟩ := zAk ER
        go_wp2
        go_roundw
        case rel => exact ⟨k + 1, by omega, by go_num, BB⟩
        case measure => simp [intOf]; omega
   ·as_aux_lemma =>
      obtain ⟨x0, x1, n0, n1, n2, n3, n4, n5, n6, y0, y1, l0, l1, l2, l3, l4, l5, l6, q0, q1, q2, q3, q4, q5, q6, q7, r0⟩ := KC.out wr BB
      go_upto_region 12 with fail
      clear x0 x1 n0 n1 n2 n3 n4 n5 n6 y0 y1 l0 l1 l2 l3 l4 l5 l6 q0 q1 q2 q3 q4 q5 q6 q7 r0
      have ER := zAw wr (.cells #[.int .i64 eo0, .int .i64 es, .bool false, .int .i64 ek, .int .i64 ef, .int .i64 el, .int .i64 em, .slice ea ed.length ec] 48)
      have be := zAg wr (.cells #[.int .i64 eo0, .int .i64 es, .bool false, .int .i64 ek, .int .i64 ef, .int .i64 el, .int .i64 em, .slice ea ed.length ec] 48)
      have se := zAu wr (.cells #[.int .i64 eo0, .int .i64 es, .bool false, .int .i64 ek, .int .i64 ef, .int .i64 el, .int .i64 em, .slice ea ed.length ec] 48)
      replace BB := zAa BB be
      clear be
      generalize wr.alloc (.cells #[.int .i64 eo0, .int .i64 es, .bool false, .int .i64 ek, .int .i64 ef, .int .i64 el, .int .i64 em, .slice ea ed.length ec] 48) = wE at ER BB se ⊢
      generalize heb : wr.heap.size = xb at ER se ⊢
      clear heb
      obtain ⟨-, -, -, -, -, -, -, -, -, -, -, -, -, l2, l3, -, -, -, -, -, -, -, -, -, -, -, -⟩ := KC.out wE BB
      go_upto_region 21 with fail
      clear l2 l3 se
      rcases G4 with rfl | rfl
      ·skip
       have BE := BB
       go_cut [180] (fun q wx => q = .bool false ∧ Below wE.heap.size wE wx)
       case first =>
        obtain ⟨-, -, -, -, -, -, -, -, -, -, -, -, -, -, -, -, l5, -, -, -, -, -, -, -, -, -, -⟩ := KC.out wE BE
        have l5c : ∀ n9 : Cls (fun wx => Below wE.heap.size wE wx), n9.w.cell? ⟨lb, lo + k * 7 + 5, none⟩ = some (.slice da 0 dc) := fun n9 => zAf n9.h l5 (zAi l5)
        obtain ⟨-, -, p2, -, -, -, -, -⟩ := zAk ER
        have p2c : ∀ n9 : Cls (fun wx => Below wE.heap.size wE wx), n9.w.cell? ⟨xb, 2, none⟩ = some (.bool false) := fun n9 => zAf n9.h p2 (zAi p2)
        clear l5 p2
        refine zB9 (fun wx => Below wE.heap.size wE wx) (by kernel_rfl) (by kernel_rfl) ((Below.refl _ wE).drew) ?_
        intro hne
        quiet_step (fail)
        quiet_step (fail)
        quiet_step (fail)
        quiet_step (fail)
        quiet_step (fail)
        quiet_step (fail)
        quiet_step (fail)
        quiet_step (fail)
        quiet_step (fail)
        quiet_step (fail)
        quiet_step (fail)
        quiet_step (fail)
        quiet_step (fail)
        quiet_step (fail)
        refine wpQuiet_step (fun K hK => ?_)
        go_simp
        refine hid_act K _ ?_
        intro Aq hAq
        refine hK Aq ?_
        clear hK K
        have htq : Aq.tmps[165]? = some (.bool false) := by rw [hAq]; rfl
        refine zHS (j := 14) (b := true) (d := 165) rfl rfl 13 _ _ htq (by rfl) ?_
        clear htq
        rewrite [hAq]
        clear hAq Aq
        simp only [List.take_succ_cons, List.take_zero, List.drop_succ_cons, List.drop_zero, putAll, List.foldl_cons, List.foldl_nil]
        go_simp
        repeat (quiet_step ((first | (fail))))
        refine wpQuiet_nil ?_
        intro wx b2
        clear hne l5c p2c
        go_wp2_with fail
        go_meet
        exact ⟨rfl, b2⟩
       case rest =>
        obtain ⟨rfl, bq⟩ := hcut
        obtain ⟨wx, hwn⟩ : ∃ q, q = wc := ⟨_, rfl⟩
        subst hwn
        replace BB := zAa BE bq
        replace ER := zAb bq ER
        clear bq
        clear BE
        go_wp2
        go_roundw
        case rel => exact ⟨k + 1, by omega, by go_num, BB⟩
        case measure => simp [intOf]; omega
      ·skip
       have HLI : Hid (∀ n9 : Cls (fun wx => Below wE.heap.size wE wx), Calls Tryz.prog 17 #[.slice da ld.length dc, .slice ra ld.length rc] n9.w fun e w' => e = .returned (.bool true) ∧ Below n9.w.heap.size n9.w w') := fun n9 => (zCO da ra ld dc rc n9.w (zAM (zAt (zAt HD.out.1 BB) n9.h)) (zAM (zAt (zAt HD.out.2 BB) n9.h)) hr7).mono fun e w' ⟨h, n, hw⟩ => ⟨h, hw ▸ below_drewN (Below.refl _ n9.w) n⟩
       have hz' : (0 : Int) < (ld.length : Int) := by
        rcases zBJ ld with q | ⟨p, q, rfl, -⟩
        ·rw [q] at hrL; cases hrL
        ·simp
       have hz : 0 < ld.length := by omega
       have BE := BB
       go_cut [180] (fun q wx => q = .bool false ∧ Below wE.heap.size wE wx)
       case first =>
        obtain ⟨-, -, -, -, -, -, n4, -, -, y0, -, -, -, -, -, -, l5, -, -, -, -, -, -, -, -, -, r0⟩ := KC.out wE BE
        have n4c : ∀ n9 : Cls (fun wx => Below wE.heap.size wE wx), n9.w.cell? ⟨hb + 1, 4, none⟩ = some (.int .i64 j) := fun n9 => zAf n9.h n4 (zAi n4)
        have y0c : ∀ n9 : Cls (fun wx => Below wE.heap.size wE wx), n9.w.cell? ⟨yb, 0, none⟩ = some (.slice (some ⟨mb, mo, none⟩) y.1.1.length bc0) := fun n9 => zAf n9.h y0 (zAi y0)
        have l5c : ∀ n9 : Cls (fun wx => Below wE.heap.size wE wx), n9.w.cell? ⟨lb, lo + k * 7 + 5, none⟩ = some (.slice da ld.length dc) := fun n9 => zAf n9.h l5 (zAi l5)
        have r0c : ∀ n9 : Cls (fun wx => Below wE.heap.size wE wx), n9.w.cell? ⟨mb, mo + j, none⟩ = some (.slice ra ld.length rc) := fun n9 => zAf n9.h r0 (zAi r0)
        obtain ⟨-, -, p2, -, -, -, -, -⟩ := zAk ER
        have p2c : ∀ n9 : Cls (fun wx => Below wE.heap.size wE wx), n9.w.cell? ⟨xb, 2, none⟩ = some (.bool false) := fun n9 => zAf n9.h p2 (zAi p2)
        clear n4 y0 l5 r0 p2
        refine zB9 (fun wx => Below wE.heap.size wE wx) (by kernel_rfl) (by kernel_rfl) ((Below.refl _ wE).drew) ?_
        intro hne
        repeat (quiet_step ((first | (go_at_call 17; exact zAE (HLI.out _) (fun w' hc bb => zAa hc bb)))))
        refine wpQuiet_nil ?_
        intro wx b2
        clear hne n4c y0c l5c r0c p2c
        go_wp2_with fail
        go_meet
        exact ⟨rfl, b2⟩
       case rest =>
        obtain ⟨rfl, bq⟩ := hcut
        obtain ⟨wx, hwn⟩ : ∃ q, q = wc := ⟨_, rfl⟩
        subst hwn
        replace BB := zAa BE bq
        replace ER := zAb bq ER
        clear bq
        clear BE HLI
        go_wp2
        go_roundw
        case rel => exact ⟨k + 1, by omega, by go_num, BB⟩
        case measure => simp [intOf]; omega
   ·rcases G1 with rfl | rfl
    ·as_aux_lemma =>
       obtain ⟨x0, x1, n0, n1, n2, n3, n4, n5, n6, y0, y1, l0, l1, l2, l3, l4, l5, l6, q0, q1, q2, q3, q4, q5, q6, q7, r0⟩ := KC.out wr BB
       go_upto_region 12 with fail
       clear x0 x1 n0 n1 n2 n3 n4 n5 n6 y0 y1 l0 l1 l2 l3 l4 l5 l6 q0 q1 q2 q3 q4 q5 q6 q7 r0
       have ER := zAw wr (.cells #[.int .i64 eo0, .int .i64 es, .bool true, .int .i64 ek, .int .i64 ef, .int .i64 (y.2.1.length : Int), .int .i64 em, .slice ea ed.length ec] 48)
       have be := zAg wr (.cells #[.int .i64 eo0, .int .i64 es, .bool true, .int .i64 ek, .int .i64 ef, .int .i64 (y.2.1.length : Int), .int .i64 em, .slice ea ed.length ec] 48)
       have se := zAu wr (.cells #[.int .i64 eo0, .int .i64 es, .bool true, .int .i64 ek, .int .i64 ef, .int .i64 (y.2.1.length : Int), .int .i64 em, .slice ea ed.length ec] 48)
       replace BB := zAa BB be
       clear be
       generalize wr.alloc (.cells #[.int .i64 eo0, .int .i64 es, .bool true, .int .i64 ek, .int .i64 ef, .int .i64 (y.2.1.length : Int), .int .i64 em, .slice ea ed.length ec] 48) = wE at ER BB se ⊢
       generalize heb : wr.heap.size = xb at ER se ⊢
       clear heb
       obtain ⟨x0, x1, -, -, -, -, n4, -, -, -, -, -, -, l2, l3, -, -, -, -, -, -, -, -, -, -, -, -⟩ := KC.out wE BB
       obtain ⟨-, -, p2, -, -, p5, -, -⟩ := zAk ER
       go_wp2_with fail
       clear l2 l3 x0 x1 n4 p2 p5
       refine (zGf _ x j wE (zBl HR.out.2.1 BB) (Nat.le_trans (zJN HSM.out.1) (by decide))).mono ?_
       rintro e wF ⟨ds, rfl, M, b9⟩
       rw [HR.out.2.2.2] at M
       obtain ⟨ha, hc, e9, -, -, hrd⟩ := M
       subst e9
       replace ER := zAb b9 ER
       have BF := zAa BB b9
       clear BB b9
       rw [show zFl [.slice ha (hoI u.1 u.2.1).length hc] = .slice ha (hoI u.1 u.2.1).length hc from rfl]
       go_wp2_with fail
       refine (zFC ha (hoI u.1 u.2.1) hc lt wF (zAM hrd) (Nat.le_trans (zDA _ _) (by decide))).mono ?_
       rintro e wG ⟨rfl, hwG⟩
       rw [hwG, decide_eq_true G4]
       clear hwG wG
       have BB := BF
       clear BF
       go_wp2
       go_roundw
       case rel => exact ⟨k + 1, by omega, by go_num, BB⟩
       case measure => simp [intOf]; omega
    ·as_aux_lemma =>
       obtain ⟨x0, x1, n0, n1, n2, n3, n4, n5, n6, y0, y1, l0, l1, l2, l3, l4, l5, l6, q0, q1, q2, q3, q4, q5, q6, q7, r0⟩ := KC.out wr BB
       go_upto_region 12 with fail
       clear x0 x1 n0 n1 n2 n3 n4 n5 n6 y0 y1 l0 l1 l2 l3 l4 l5 l6 q0 q1 q2 q3 q4 q5 q6 q7 r0
       have ER := zAw wr (.cells #[.int .i64 eo0, .int .i64 es, .bool true, .int .i64 ek, .int .i64 ef, .int .i64 (y.2.1.length : Int), .int .i64 em, .slice ea ed.length ec] 48)
       have be := zAg wr (.cells #[.int .i64 eo0, .int .i64 es, .bool true, .int .i64 ek, .int .i64 ef, .int .i64 (y.2.1.length : Int), .int .i64 em, .slice ea ed.length ec] 48)
       have se := zAu wr (.cells #[.int .i64 eo0, .int .i64 es, .bool true, .int .i64 ek, .int .i64 ef, .int .i64 (y.2.1.length : Int), .int .i64 em, .slice ea ed.length ec] 48)
       replace BB := zAa BB be
       clear be
       generalize wr.alloc (.cells #[.int .i64 eo0, .int .i64 es, .bool true, .int .i64 ek, .int .i64 ef, .int .i64 (y.2.1.length : Int), .int .i64 em, .slice ea ed.length ec] 48) = wE at ER BB se ⊢
       generalize heb : wr.heap.size = xb at ER se ⊢
       clear heb
       obtain ⟨x0, x1, -, -, -, -, n4, -, -, -, -, -, -, l2, l3, -, -, -, -, -, -, -, -, -, -, -, -⟩ := KC.out wE BB
       obtain ⟨-, -, p2, -, -, p5, -, -⟩ := zAk ER
       go_wp2_with fail
       clear l2 l3 x0 x1 n4 p2 p5
       refine (zGf _ x j wE (zBl HR.out.2.1 BB) (Nat.le_trans (zJN HSM.out.1) (by decide))).mono ?_
       rintro e wF ⟨ds, rfl, M, b9⟩
       rw [HR.out.2.2.2] at M
       obtain ⟨ha, hc, e9, -, -, hrd⟩ := M
       subst e9
       replace ER := zAb b9 ER
       have BF := zAa BB b9
       clear BB b9
       rw [show zFl [.slice ha (hoI u.1 u.2.1).length hc] = .slice ha (hoI u.1 u.2.1).length hc from rfl]
       go_wp2_with fail
       refine (zFC ha (hoI u.1 u.2.1) hc lt wF (zAM hrd) (Nat.le_trans (zDA _ _) (by decide))).mono ?_
       rintro e wG ⟨rfl, hwG⟩
       rw [hwG, decide_eq_true G4]
       clear hwG wG
       have BB := BF
       clear BF
       go_wp2
       go_roundw
       case rel => exact ⟨k + 1, by omega, by go_num, BB⟩
       case measure => simp [intOf]; omega
   ·as_aux_lemma =>
      obtain ⟨x0, x1, n0, n1, n2, n3, n4, n5, n6, y0, y1, l0, l1, l2, l3, l4, l5, l6, q0, q1, q2, q3, q4, q5, q6, q7, r0⟩ := KC.out wr BB
      go_upto_region 12 with fail
      clear x0 x1 n0 n1 n2 n3 n4 n5 n6 y0 y1 l0 l1 l2 l3 l4 l5 l6 q0 q1 q2 q3 q4 q5 q6 q7 r0
      have ER := zAw wr (.cells #[.int .i64 eo0, .int .i64 es, .bool ez, .int .i64 ek, .int .i64 ef, .int .i64 el, .int .i64 em, .slice ea ed.length ec] 48)
      have be := zAg wr (.cells #[.int .i64 eo0, .int .i64 es, .bool ez, .int .i64 ek, .int .i64 ef, .int .i64 el, .int .i64 em, .slice ea ed.length ec] 48)
      have se := zAu wr (.cells #[.int .i64 eo0, .int .i64 es, .bool ez, .int .i64 ek, .int .i64 ef, .int .i64 el, .int .i64 em, .slice ea ed.length ec] 48)
      replace BB := zAa BB be
      clear be
      generalize wr.alloc (.cells #[.int .i64 eo0, .int .i64 es, .bool ez, .int .i64 ek, .int .i64 ef, .int .i64 el, .int .i64 em, .slice ea ed.length ec] 48) = wE at ER BB se ⊢
      generalize heb : wr.heap.size = xb at ER se ⊢
      clear heb
      obtain ⟨-, -, -, -, -, -, n4, -, -, y0, y1, -, -, l2, l3, -, -, -, -, -, -, -, -, -, -, -, -⟩ := KC.out wE BB
      go_wp2_with fail
      clear l2 l3 y0 y1 n4
      refine (zGe _ y.1 j wE (zBl HR.out.1 BB)).mono ?_
      rintro e wF ⟨ds, rfl, M⟩
      rw [HR.out.2.2.1] at M
      obtain ⟨ha, hc, e9, -, -, hrd⟩ := zAm.own_rd M.1
      subst e9
      have b9 := M.2
      clear M
      replace ER := zAb b9 ER
      have BF := zAa BB b9
      clear BB b9
      rw [show zFl [.slice ha (hoI eo0 es).length hc] = .slice ha (hoI eo0 es).length hc from rfl]
      go_wp2_with fail
      refine (zFC ha (hoI eo0 es) hc lt wF (zAM hrd) (Nat.le_trans (zDA _ _) (by decide))).mono ?_
      rintro e wG ⟨rfl, hwG⟩
      rw [hwG, decide_eq_false G2]
      clear hwG wG
      have BB := BF
      clear BF
      go_wp2
      go_roundw
      case rel => exact ⟨k + 1, by omega, by go_num, BB⟩
      case measure => simp [intOf]; omega
  ·have hge : ¬ (k : Int) < (y.2.1.length : Int) := by omega
   go_wp2
   go_ret
   exact ⟨rfl, zAa B BB⟩
end Go.Proofs.YtmaopldahnejdaaGreatDoor
