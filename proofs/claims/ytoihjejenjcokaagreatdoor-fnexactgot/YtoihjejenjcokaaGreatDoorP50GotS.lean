import Derived.Test.YtoihjejenjcokaaGreatDoorP00Box
import Derived.Test.YtoihjejenjcokaaGreatDoorP43SpecGetI
import Derived.Test.YtoihjejenjcokaaGreatDoorP49NewCore
import Derived.Test.YtoihjejenjcokaaGreatDoorP21Ops
import Derived.BigQuiet
import Derived.Deep.QuietTactic
namespace Go.Proofs.YtoihjejenjcokaaGreatDoor
open Go.ChangeShapes Go.WideShapes Go.ChangeAt Go.RowKit
set_option linter.unusedVariables false
def GotP (w : World) (y : zAE × List zB5 × Int) (e : Ending) (w' : World) : Prop := ∃ ds0 ds1, e = .returned (.tuple #[zAM ds0, zEc ds1, .int .i64 y.2.2]) ∧ zAn.own w' (rng w.heap.size w'.heap.size) ds0 y.1 ∧ zBp.own w' (rng w.heap.size w'.heap.size) ds1 y.2.1 ∧ Below w.heap.size w w'
set_option maxHeartbeats 16000000 in
set_option maxRecDepth 20000 in
theorem specGot_u (cs ns : List Value) (x : zAE) (id : Int) (m : zB5) (w : World) (hr : zAn.rd w cs x) (hm : zBy.rd w ns m) :
    Calls Tryz.prog 6 #[zAM cs, .int .i64 id, zAM ns] w fun e w' => GotP w (zMu x id m) e w' := by
 have HNO : Hid ((zAZ x = true → zAQ id 0 3 = false) → _) := fun e => got_no (x := x) (id := id) (m := m) e
 have HGO : Hid (zAZ x = true → zAQ id 0 3 = true → _) := fun e1 e2 => got_go (x := x) (id := id) (m := m) e1 e2
 have HOK : Hid (∀ W, Below w.heap.size w W → Calls Tryz.prog 22 #[zAM cs] W fun e w' => e = .returned (.bool (zAZ x)) ∧ Below W.heap.size W w') := fun W hb => zJt cs x W (zAN hr hb)
 have HCP : Hid (∀ W, Below w.heap.size w W → zAZ x = true → Calls Tryz.prog 24 #[zAM cs] W fun e w' => ∃ ds, e = .returned (zAM ds) ∧ zAY zAn W w' ds x) := fun W hb hk => zN7 cs x W (zAN hr hb) hk
 have HBG : Hid (∀ (S : zAX) (g : Nat) (ds : List Value) (W : World), zAn.own W S ds x → (∀ k, S k → k < W.heap.size) → ¬ S g → W.heap[g]? = some (.cells ds.toArray 41 (0, 0)) → Below w.heap.size w W → zAZ x = true → zAQ id 0 3 = true → Calls Tryz.prog 25 #[.pointer (some ⟨g, 0, none⟩), .int .i64 id, zAM ns] W fun e w' => GtP S g W (ofS (zBO (toS x) id m).1) (zBO (toS x) id m).2.1 (zBO (toS x) id m).2.2 e w') := fun S g ds W ho hS hg hb hB hk hi => l12Get_u S g ds ns x id m W ho hS hg hb (zAN hm hB) hk (by simp [zAQ] at hi; constructor <;> omega)
 obtain ⟨v0, v1, v2, v5, v6, v7, v8, rfl, r0, r1, i2, i3, r4, r5⟩ := zCs hr
 obtain ⟨a0, c0, b0, d0, e0, -⟩ := zAH r0
 simp only [List.cons.injEq, and_true] at e0
 obtain ⟨rfl, rfl⟩ := e0
 obtain ⟨a1, c1, e1, -⟩ := r1
 simp only [List.cons.injEq, and_true] at e1
 obtain rfl := e1
 obtain ⟨a4, c4, e4, -⟩ := zAL r4
 simp only [List.cons.injEq, and_true] at e4
 obtain ⟨rfl, rfl, rfl⟩ := e4
 obtain ⟨a5, c5, e5, -, -, -⟩ := r5
 simp only [List.cons.injEq, and_true] at e5
 obtain rfl := e5
 obtain ⟨ma, mc, rfl, -, -, -, -, -, -, -, -, -⟩ := zBB hm
 clear r0 r4 hr i2 i3 hm
 obtain ⟨y9, hy9⟩ : ∃ y9, y9 = zMu x id m := ⟨_, rfl⟩
 rw [← hy9] at HNO HGO ⊢
 clear hy9
 unfold GtP at HBG
 obtain ⟨b9, hb9⟩ : ∃ b9, b9 = zBO (toS x) id m := ⟨_, rfl⟩
 rw [← hb9] at HBG HGO
 clear hb9
 obtain ⟨kk, hkk⟩ : ∃ kk, kk = zAZ x := ⟨_, rfl⟩
 rw [← hkk] at HNO HGO HOK HCP HBG
 clear hkk
 have HCI : Hid (∀ W, Calls Tryz.prog 23 #[.int .i64 id, .int .i64 0, .int .i64 3] W fun e w' => e = .returned (.bool (zAQ id 0 3)) ∧ Below W.heap.size W w') := fun W => (zBa id 0 3 W).mono fun e w' ⟨q, r⟩ => ⟨q, zFj r⟩
 generalize zAQ id 0 3 = ki at HNO HGO HBG HCI
 obtain ⟨c, p, at_, ph, h, t⟩ := x
 simp only at *
 rw [show zAM [.slice a0 c.1.length c0, .slice b0 c.2.length d0, .slice a1 p.length c1, .int .i64 at_, .int .i64 ph, .int .i64 h.1, .int .i64 h.2.1, .slice a4 h.2.2.length c4, .slice a5 t.length c5] = .agg #[.slice a0 c.1.length c0, .slice b0 c.2.length d0, .slice a1 p.length c1, .int .i64 at_, .int .i64 ph, .int .i64 h.1, .int .i64 h.2.1, .slice a4 h.2.2.length c4, .slice a5 t.length c5] from rfl] at HOK HCP ⊢
 rw [show zAM [.int .i64 m.1, .int .i64 m.2.1, .int .i64 m.2.2.1, .int .i64 m.2.2.2.1, .int .i64 m.2.2.2.2.1, .slice ma m.2.2.2.2.2.1.length mc, .int .i64 m.2.2.2.2.2.2] = .agg #[.int .i64 m.1, .int .i64 m.2.1, .int .i64 m.2.2.1, .int .i64 m.2.2.2.1, .int .i64 m.2.2.2.2.1, .slice ma m.2.2.2.2.2.1.length mc, .int .i64 m.2.2.2.2.2.2] from rfl] at HBG ⊢
 have B := Below.refl w.heap.size w
 go_enter Tryz.func6, Tryz.ntmps6
 go_wp2_with fail
 generalize hu1w : w.alloc _ = u1w
 have X := boxH hu1w
 have bz := boxB hu1w
 have zX := boxL hu1w
 clear hu1w
 replace B := zAb B bz
 clear bz
 have zXa := Nat.le_of_eq zX
 have zXb := Nat.le_of_eq zX.symm
 clear zX
 generalize hu2w : u1w.alloc _ = u2w
 have N := boxH hu2w
 have bz := boxB hu2w
 have zN := boxL hu2w
 clear hu2w
 rw [show u1w.heap.size = w.heap.size + 1 from by omega] at N
 replace B := zAb B bz
 replace X := zAa bz X
 clear bz
 have zNa := Nat.le_of_eq zN
 have zNb := Nat.le_of_eq zN.symm
 clear zN
 generalize hu3w : u2w.alloc _ = u3w
 have R := boxH hu3w
 have bz := boxB hu3w
 have zR := boxL hu3w
 clear hu3w
 rw [show u2w.heap.size = w.heap.size + 1 + 1 from by omega] at R
 replace B := zAb B bz
 replace X := zAa bz X
 replace N := zAa bz N
 clear bz
 have zRa := Nat.le_of_eq zR
 have zRb := Nat.le_of_eq zR.symm
 clear zR
 refine (HOK.out _ B).mono ?_
 rintro e u4w ⟨rfl, bq⟩
 have tu4w : u3w.heap.size ≤ u4w.heap.size := bq.size
 replace B := zAb B bq
 replace X := zAa bq X
 replace N := zAa bq N
 replace R := zAa bq R
 clear bq
 cases kk
 ·have hy := HNO.out (fun e => by cases e)
  subst hy
  clear HNO HGO HBG HCP
  obtain ⟨Xc0, Xc1, Xc2, Xc3, Xc4, Xc5, Xc6, Xc7, Xc8⟩ := zAc X
  have Xlt := (Array.getElem?_eq_some_iff.1 X).1
  obtain ⟨Nc0, Nc1, Nc2, Nc3, Nc4, Nc5, Nc6⟩ := zAe N
  have Nlt := (Array.getElem?_eq_some_iff.1 N).1
  obtain ⟨Rc0, Rc1, Rc2, Rc3, Rc4, Rc5, Rc6, Rc7, Rc8⟩ := zAc R
  have Rlt := (Array.getElem?_eq_some_iff.1 R).1
  obtain ⟨Rf0, Rf1, Rf2, Rf3, Rf4, Rf5, Rf6, Rf7, Rf8⟩ := zAr R
  have HK : Hid _ := And.intro B (And.intro X (And.intro N (R)))
  clear B X N R
  go_wp2
  clear Xc0 Xc1 Xc2 Xc3 Xc4 Xc5 Xc6 Xc7 Xc8 Xlt Nc0 Nc1 Nc2 Nc3 Nc4 Nc5 Nc6 Nlt Rc0 Rc1 Rc2 Rc3 Rc4 Rc5 Rc6 Rc7 Rc8 Rlt Rf0 Rf1 Rf2 Rf3 Rf4 Rf5 Rf6 Rf7 Rf8
  obtain ⟨B, X, N, R⟩ := HK.out
  clear HK
  have V2 := zAa (zAf _ (.cells #[] 46)) (zAV (y0 := .slice none 0 0) (y1 := .slice none 0 0) (y2 := .slice none 0 0) (y3 := .int .i64 0) (y4 := .int .i64 0) (y5 := .int .i64 0) (y6 := .int .i64 0) (y7 := .slice none 0 0) (y8 := .slice none 0 0) R)
  obtain ⟨r0, r1, r2, r3, r4, r5, r6, r7, r8⟩ := zAc V2
  have bsz := B.size
  have FB := zAb (zAv (g := w.heap.size + 1 + 1) (o := 0) (vs := [.slice none 0 0, .slice none 0 0, .slice none 0 0, .int .i64 0, .int .i64 0, .int .i64 0, .int .i64 0, .slice none 0 0, .slice none 0 0]) B (by omega)) (zAf _ (.cells #[] 46))
  have FS : (zAo u4w (w.heap.size + 1 + 1) 0 [.slice none 0 0, .slice none 0 0, .slice none 0 0, .int .i64 0, .int .i64 0, .int .i64 0, .int .i64 0, .slice none 0 0, .slice none 0 0]).heap.size = u4w.heap.size := zAj _ _ _
  have FQ : GotP w (zJC, [], -1) (.returned (.tuple #[zAM [.slice none 0 0, .slice none 0 0, .slice none 0 0, .int .i64 0, .int .i64 0, .int .i64 0, .int .i64 0, .slice none 0 0, .slice none 0 0], zEc [.slice (some ⟨u4w.heap.size, 0, none⟩) 0 0], .int .i64 (-1)])) ((zAo u4w (w.heap.size + 1 + 1) 0 [.slice none 0 0, .slice none 0 0, .slice none 0 0, .int .i64 0, .int .i64 0, .int .i64 0, .int .i64 0, .slice none 0 0, .slice none 0 0]).alloc (.cells #[] 46)) := ⟨[.slice none 0 0, .slice none 0 0, .slice none 0 0, .int .i64 0, .int .i64 0, .int .i64 0, .int .i64 0, .slice none 0 0, .slice none 0 0], [.slice (some ⟨u4w.heap.size, 0, none⟩) 0 0], rfl, zAn.own_mono (zF4 _ (fun _ => False)) (fun _ q => q.elim), zBp.own_mono (by have q := zC3 (e := 46) (R := zBy) (zAo u4w (w.heap.size + 1 + 1) 0 [.slice none 0 0, .slice none 0 0, .slice none 0 0, .int .i64 0, .int .i64 0, .int .i64 0, .int .i64 0, .slice none 0 0, .slice none 0 0]); rw [FS] at q; exact q) (fun k q => by have q2 : k = u4w.heap.size := q; exact ⟨by omega, by rw [zAp, FS]; omega⟩), FB⟩
  simp only [zA0, zA3, Nat.reduceAdd] at FQ
  clear B X N R V2 FB FS
  refine bodyPost_ret (v := .tuple #[.agg #[.slice none 0 0, .slice none 0 0, .slice none 0 0, .int .i64 0, .int .i64 0, .int .i64 0, .int .i64 0, .slice none 0 0, .slice none 0 0], .slice (some ⟨u4w.heap.size, 0, none⟩) 0 0, .int .i64 (-1)]) (by simp [results, Tryz.results6, go_sem, r0, r1, r2, r3, r4, r5, r6, r7, r8]) rfl ?_
  exact FQ
 ·cases ki
  ·have hy := HNO.out (fun _ => rfl)
   subst hy
   clear HNO HGO HBG HCP
   obtain ⟨Xc0, Xc1, Xc2, Xc3, Xc4, Xc5, Xc6, Xc7, Xc8⟩ := zAc X
   have Xlt := (Array.getElem?_eq_some_iff.1 X).1
   obtain ⟨Nc0, Nc1, Nc2, Nc3, Nc4, Nc5, Nc6⟩ := zAe N
   have Nlt := (Array.getElem?_eq_some_iff.1 N).1
   obtain ⟨Rc0, Rc1, Rc2, Rc3, Rc4, Rc5, Rc6, Rc7, Rc8⟩ := zAc R
   have Rlt := (Array.getElem?_eq_some_iff.1 R).1
   go_wp2_with fail
   clear Xc0 Xc1 Xc2 Xc3 Xc4 Xc5 Xc6 Xc7 Xc8 Xlt Nc0 Nc1 Nc2 Nc3 Nc4 Nc5 Nc6 Nlt Rc0 Rc1 Rc2 Rc3 Rc4 Rc5 Rc6 Rc7 Rc8 Rlt
   refine (HCI.out _).mono ?_
   rintro e u5w ⟨rfl, bq⟩
   have tu5w : u4w.heap.size ≤ u5w.heap.size := bq.size
   replace B := zAb B bq
   replace X := zAa bq X
   replace N := zAa bq N
   replace R := zAa bq R
   clear bq
   obtain ⟨Xc0, Xc1, Xc2, Xc3, Xc4, Xc5, Xc6, Xc7, Xc8⟩ := zAc X
   have Xlt := (Array.getElem?_eq_some_iff.1 X).1
   obtain ⟨Nc0, Nc1, Nc2, Nc3, Nc4, Nc5, Nc6⟩ := zAe N
   have Nlt := (Array.getElem?_eq_some_iff.1 N).1
   obtain ⟨Rc0, Rc1, Rc2, Rc3, Rc4, Rc5, Rc6, Rc7, Rc8⟩ := zAc R
   have Rlt := (Array.getElem?_eq_some_iff.1 R).1
   obtain ⟨Rf0, Rf1, Rf2, Rf3, Rf4, Rf5, Rf6, Rf7, Rf8⟩ := zAr R
   have HK : Hid _ := And.intro B (And.intro X (And.intro N (R)))
   clear B X N R
   go_wp2
   clear Xc0 Xc1 Xc2 Xc3 Xc4 Xc5 Xc6 Xc7 Xc8 Xlt Nc0 Nc1 Nc2 Nc3 Nc4 Nc5 Nc6 Nlt Rc0 Rc1 Rc2 Rc3 Rc4 Rc5 Rc6 Rc7 Rc8 Rlt Rf0 Rf1 Rf2 Rf3 Rf4 Rf5 Rf6 Rf7 Rf8
   obtain ⟨B, X, N, R⟩ := HK.out
   clear HK
   have V2 := zAa (zAf _ (.cells #[] 46)) (zAV (y0 := .slice none 0 0) (y1 := .slice none 0 0) (y2 := .slice none 0 0) (y3 := .int .i64 0) (y4 := .int .i64 0) (y5 := .int .i64 0) (y6 := .int .i64 0) (y7 := .slice none 0 0) (y8 := .slice none 0 0) R)
   obtain ⟨r0, r1, r2, r3, r4, r5, r6, r7, r8⟩ := zAc V2
   have bsz := B.size
   have FB := zAb (zAv (g := w.heap.size + 1 + 1) (o := 0) (vs := [.slice none 0 0, .slice none 0 0, .slice none 0 0, .int .i64 0, .int .i64 0, .int .i64 0, .int .i64 0, .slice none 0 0, .slice none 0 0]) B (by omega)) (zAf _ (.cells #[] 46))
   have FS : (zAo u5w (w.heap.size + 1 + 1) 0 [.slice none 0 0, .slice none 0 0, .slice none 0 0, .int .i64 0, .int .i64 0, .int .i64 0, .int .i64 0, .slice none 0 0, .slice none 0 0]).heap.size = u5w.heap.size := zAj _ _ _
   have FQ : GotP w (zJC, [], -1) (.returned (.tuple #[zAM [.slice none 0 0, .slice none 0 0, .slice none 0 0, .int .i64 0, .int .i64 0, .int .i64 0, .int .i64 0, .slice none 0 0, .slice none 0 0], zEc [.slice (some ⟨u5w.heap.size, 0, none⟩) 0 0], .int .i64 (-1)])) ((zAo u5w (w.heap.size + 1 + 1) 0 [.slice none 0 0, .slice none 0 0, .slice none 0 0, .int .i64 0, .int .i64 0, .int .i64 0, .int .i64 0, .slice none 0 0, .slice none 0 0]).alloc (.cells #[] 46)) := ⟨[.slice none 0 0, .slice none 0 0, .slice none 0 0, .int .i64 0, .int .i64 0, .int .i64 0, .int .i64 0, .slice none 0 0, .slice none 0 0], [.slice (some ⟨u5w.heap.size, 0, none⟩) 0 0], rfl, zAn.own_mono (zF4 _ (fun _ => False)) (fun _ q => q.elim), zBp.own_mono (by have q := zC3 (e := 46) (R := zBy) (zAo u5w (w.heap.size + 1 + 1) 0 [.slice none 0 0, .slice none 0 0, .slice none 0 0, .int .i64 0, .int .i64 0, .int .i64 0, .int .i64 0, .slice none 0 0, .slice none 0 0]); rw [FS] at q; exact q) (fun k q => by have q2 : k = u5w.heap.size := q; exact ⟨by omega, by rw [zAp, FS]; omega⟩), FB⟩
   simp only [zA0, zA3, Nat.reduceAdd] at FQ
   clear B X N R V2 FB FS
   refine bodyPost_ret (v := .tuple #[.agg #[.slice none 0 0, .slice none 0 0, .slice none 0 0, .int .i64 0, .int .i64 0, .int .i64 0, .int .i64 0, .slice none 0 0, .slice none 0 0], .slice (some ⟨u5w.heap.size, 0, none⟩) 0 0, .int .i64 (-1)]) (by simp [results, Tryz.results6, go_sem, r0, r1, r2, r3, r4, r5, r6, r7, r8]) rfl ?_
   exact FQ
  ·have hy := HGO.out (by first | rfl | trivial) (by first | rfl | trivial)
   subst hy
   clear HNO HGO
   obtain ⟨Xc0, Xc1, Xc2, Xc3, Xc4, Xc5, Xc6, Xc7, Xc8⟩ := zAc X
   have Xlt := (Array.getElem?_eq_some_iff.1 X).1
   obtain ⟨Nc0, Nc1, Nc2, Nc3, Nc4, Nc5, Nc6⟩ := zAe N
   have Nlt := (Array.getElem?_eq_some_iff.1 N).1
   obtain ⟨Rc0, Rc1, Rc2, Rc3, Rc4, Rc5, Rc6, Rc7, Rc8⟩ := zAc R
   have Rlt := (Array.getElem?_eq_some_iff.1 R).1
   go_wp2_with fail
   clear Xc0 Xc1 Xc2 Xc3 Xc4 Xc5 Xc6 Xc7 Xc8 Xlt Nc0 Nc1 Nc2 Nc3 Nc4 Nc5 Nc6 Nlt Rc0 Rc1 Rc2 Rc3 Rc4 Rc5 Rc6 Rc7 Rc8 Rlt
   refine (HCI.out _).mono ?_
   rintro e u6w ⟨rfl, bq⟩
   have tu6w : u4w.heap.size ≤ u6w.heap.size := bq.size
   replace B := zAb B bq
   replace X := zAa bq X
   replace N := zAa bq N
   replace R := zAa bq R
   clear bq
   obtain ⟨Xc0, Xc1, Xc2, Xc3, Xc4, Xc5, Xc6, Xc7, Xc8⟩ := zAc X
   have Xlt := (Array.getElem?_eq_some_iff.1 X).1
   obtain ⟨Nc0, Nc1, Nc2, Nc3, Nc4, Nc5, Nc6⟩ := zAe N
   have Nlt := (Array.getElem?_eq_some_iff.1 N).1
   obtain ⟨Rc0, Rc1, Rc2, Rc3, Rc4, Rc5, Rc6, Rc7, Rc8⟩ := zAc R
   have Rlt := (Array.getElem?_eq_some_iff.1 R).1
   go_wp2_with fail
   clear Xc0 Xc1 Xc2 Xc3 Xc4 Xc5 Xc6 Xc7 Xc8 Xlt Nc0 Nc1 Nc2 Nc3 Nc4 Nc5 Nc6 Nlt Rc0 Rc1 Rc2 Rc3 Rc4 Rc5 Rc6 Rc7 Rc8 Rlt
   refine (HCP.out _ B (by first | rfl | trivial)).mono ?_
   rintro e u7w ⟨ds, rfl, mm⟩
   obtain ⟨ka, kc, kb, kd, la, lc, mak, mck, na, nc, rfl⟩ := zCy (zAn.own_rd mm.1)
   simp only
   rw [show zAM [.slice ka c.1.length kc, .slice kb c.2.length kd, .slice la p.length lc, .int .i64 at_, .int .i64 ph, .int .i64 h.1, .int .i64 h.2.1, .slice mak h.2.2.length mck, .slice na t.length nc] = .agg #[.slice ka c.1.length kc, .slice kb c.2.length kd, .slice la p.length lc, .int .i64 at_, .int .i64 ph, .int .i64 h.1, .int .i64 h.2.1, .slice mak h.2.2.length mck, .slice na t.length nc] from rfl]
   have K := zAR (R := zAn) mm
   have mb := mm.2
   have tu7w : u6w.heap.size ≤ u7w.heap.size := mb.size
   replace B := zAb B mb
   replace X := zAa mb X
   replace N := zAa mb N
   replace R := zAa mb R
   clear mb mm
   obtain ⟨Xc0, Xc1, Xc2, Xc3, Xc4, Xc5, Xc6, Xc7, Xc8⟩ := zAc X
   have Xlt := (Array.getElem?_eq_some_iff.1 X).1
   obtain ⟨Nc0, Nc1, Nc2, Nc3, Nc4, Nc5, Nc6⟩ := zAe N
   have Nlt := (Array.getElem?_eq_some_iff.1 N).1
   obtain ⟨Rc0, Rc1, Rc2, Rc3, Rc4, Rc5, Rc6, Rc7, Rc8⟩ := zAc R
   have Rlt := (Array.getElem?_eq_some_iff.1 R).1
   go_upto_region 4 with fail
   clear Xc0 Xc1 Xc2 Xc3 Xc4 Xc5 Xc6 Xc7 Xc8 Xlt Nc0 Nc1 Nc2 Nc3 Nc4 Nc5 Nc6 Nlt Rc0 Rc1 Rc2 Rc3 Rc4 Rc5 Rc6 Rc7 Rc8 Rlt
   generalize hu8w : u7w.alloc _ = u8w
   have F := boxH hu8w
   have bz := boxB hu8w
   have zF := boxL hu8w
   clear hu8w
   replace B := zAb B bz
   replace X := zAa bz X
   replace N := zAa bz N
   replace R := zAa bz R
   replace K := zA6 K bz
   clear bz
   have zFa := Nat.le_of_eq zF
   have zFb := Nat.le_of_eq zF.symm
   clear zF
   obtain ⟨Xc0, Xc1, Xc2, Xc3, Xc4, Xc5, Xc6, Xc7, Xc8⟩ := zAc X
   have Xlt := (Array.getElem?_eq_some_iff.1 X).1
   obtain ⟨Nc0, Nc1, Nc2, Nc3, Nc4, Nc5, Nc6⟩ := zAe N
   have Nlt := (Array.getElem?_eq_some_iff.1 N).1
   obtain ⟨Rc0, Rc1, Rc2, Rc3, Rc4, Rc5, Rc6, Rc7, Rc8⟩ := zAc R
   have Rlt := (Array.getElem?_eq_some_iff.1 R).1
   obtain ⟨Fc0, Fc1, Fc2, Fc3, Fc4, Fc5, Fc6, Fc7, Fc8⟩ := zAc F
   have Flt := (Array.getElem?_eq_some_iff.1 F).1
   go_wp2_with fail
   clear Xc0 Xc1 Xc2 Xc3 Xc4 Xc5 Xc6 Xc7 Xc8 Xlt Nc0 Nc1 Nc2 Nc3 Nc4 Nc5 Nc6 Nlt Rc0 Rc1 Rc2 Rc3 Rc4 Rc5 Rc6 Rc7 Rc8 Rlt Fc0 Fc1 Fc2 Fc3 Fc4 Fc5 Fc6 Fc7 Fc8 Flt
   refine (HBG.out (rng (u6w.heap.size) (u7w.heap.size)) u7w.heap.size [.slice ka c.1.length kc, .slice kb c.2.length kd, .slice la p.length lc, .int .i64 at_, .int .i64 ph, .int .i64 h.1, .int .i64 h.2.1, .slice mak h.2.2.length mck, .slice na t.length nc] _ K.1 (fun k q => by have := q.2; have := K.2; omega) (fun q => by have := q.2; omega) F B (by first | rfl | trivial) (by first | rfl | trivial)).mono ?_
   rintro e wd ⟨ds, ms, rfl, DO, DM, DG, DC⟩
   obtain ⟨n0, hn0⟩ : ∃ n0, n0 = ofS b9.1 := ⟨_, rfl⟩
   obtain ⟨m0, hm0⟩ : ∃ m0, m0 = b9.2.1 := ⟨_, rfl⟩
   rw [← hn0] at DO
   rw [← hm0] at DM
   obtain ⟨dga, dgc, dgb, dgd, dha, dhc, dia, dic, dja, djc, rfl⟩ := zCy (zAn.own_rd DO)
   have dmm := zBp.own_rd DM
   obtain ⟨sa, sc, ro, -, -, -⟩ := dmm
   simp only [List.cons.injEq, and_true] at ro
   obtain rfl := ro
   have szd := DC.size
   have bsz := B.size
   have ksz := K.2
   have R2 := (DC.block _ (Array.getElem?_eq_some_iff.1 R).1 (fun q => by rcases q with q | q; (have := q.1; omega); omega)).trans R
   obtain ⟨z0, z1, z2, z3, z4, z5, z6, z7, z8⟩ := zAc R2
   obtain ⟨zf0, zf1, zf2, zf3, zf4, zf5, zf6, zf7, zf8⟩ := zAr R2
   have zlt := (Array.getElem?_eq_some_iff.1 R2).1
   have DG2 : wd.heap[u7w.heap.size]? = some (.cells #[.slice dga n0.1.1.length dgc, .slice dgb n0.1.2.length dgd, .slice dha n0.2.1.length dhc, .int .i64 n0.2.2.1, .int .i64 n0.2.2.2.1, .int .i64 n0.2.2.2.2.1.1, .int .i64 n0.2.2.2.2.1.2.1, .slice dia n0.2.2.2.2.1.2.2.length dic, .slice dja n0.2.2.2.2.2.length djc] 41 (0, 0)) := DG
   obtain ⟨u0_, u1_, u2_, u3_, u4_, u5_, u6_, u7_, u8_⟩ := zAc DG2
   have ult := (Array.getElem?_eq_some_iff.1 DG2).1
   have BD : Below w.heap.size w wd := DC.below B (fun k q => by rcases q with q | q; (have := q.1; omega); omega) (by omega)
   have HZ : Hid _ := And.intro DO (And.intro DM (And.intro R2 (And.intro BD (And.intro hn0 hm0))))
   clear DO DM DG DG2 DC R2 X R N F K B BD hn0 hm0
   go_wp2
   obtain ⟨DO, DM, R2, BD, hn0, hm0⟩ := HZ.out
   obtain ⟨r0, r1, r2, r3, r4, r5, r6, r7, r8⟩ := zAc (zAV (y0 := .slice dga n0.1.1.length dgc) (y1 := .slice dgb n0.1.2.length dgd) (y2 := .slice dha n0.2.1.length dhc) (y3 := .int .i64 n0.2.2.1) (y4 := .int .i64 n0.2.2.2.1) (y5 := .int .i64 n0.2.2.2.2.1.1) (y6 := .int .i64 n0.2.2.2.2.1.2.1) (y7 := .slice dia n0.2.2.2.2.1.2.2.length dic) (y8 := .slice dja n0.2.2.2.2.2.length djc) R2)
   have FS : (zAo wd (w.heap.size + 1 + 1) 0 [.slice dga n0.1.1.length dgc, .slice dgb n0.1.2.length dgd, .slice dha n0.2.1.length dhc, .int .i64 n0.2.2.1, .int .i64 n0.2.2.2.1, .int .i64 n0.2.2.2.2.1.1, .int .i64 n0.2.2.2.2.1.2.1, .slice dia n0.2.2.2.2.1.2.2.length dic, .slice dja n0.2.2.2.2.2.length djc]).heap.size = wd.heap.size := zAj _ _ _
   have FQ : GotP w (ofS b9.1, b9.2.1, b9.2.2) (.returned (.tuple #[zAM [.slice dga n0.1.1.length dgc, .slice dgb n0.1.2.length dgd, .slice dha n0.2.1.length dhc, .int .i64 n0.2.2.1, .int .i64 n0.2.2.2.1, .int .i64 n0.2.2.2.2.1.1, .int .i64 n0.2.2.2.2.1.2.1, .slice dia n0.2.2.2.2.1.2.2.length dic, .slice dja n0.2.2.2.2.2.length djc], zEc [.slice sa m0.length sc], .int .i64 b9.2.2])) (zAo wd (w.heap.size + 1 + 1) 0 [.slice dga n0.1.1.length dgc, .slice dgb n0.1.2.length dgd, .slice dha n0.2.1.length dhc, .int .i64 n0.2.2.1, .int .i64 n0.2.2.2.1, .int .i64 n0.2.2.2.2.1.1, .int .i64 n0.2.2.2.2.1.2.1, .slice dia n0.2.2.2.2.1.2.2.length dic, .slice dja n0.2.2.2.2.2.length djc]) := by
    unfold GotP
    dsimp only
    rw [← hn0, ← hm0]
    exact ⟨[.slice dga n0.1.1.length dgc, .slice dgb n0.1.2.length dgd, .slice dha n0.2.1.length dhc, .int .i64 n0.2.2.1, .int .i64 n0.2.2.2.1, .int .i64 n0.2.2.2.2.1.1, .int .i64 n0.2.2.2.2.1.2.1, .slice dia n0.2.2.2.2.1.2.2.length dic, .slice dja n0.2.2.2.2.2.length djc], [.slice sa m0.length sc], rfl, zAn.own_mono (zAs (g := w.heap.size + 1 + 1) (o := 0) (vs := [.slice dga n0.1.1.length dgc, .slice dgb n0.1.2.length dgd, .slice dha n0.2.1.length dhc, .int .i64 n0.2.2.1, .int .i64 n0.2.2.2.1, .int .i64 n0.2.2.2.2.1.1, .int .i64 n0.2.2.2.2.1.2.1, .slice dia n0.2.2.2.2.1.2.2.length dic, .slice dja n0.2.2.2.2.2.length djc]) DO (fun q => by rcases q with q | q; (have := q.1; omega); (have := q.1; omega))) (fun k q => by refine ⟨?_, ?_⟩; (rcases q with q | q; (have := q.1; omega); omega); (rw [FS]; rcases q with q | q; (have := q.2; omega); omega)), zBp.own_mono (zAs (g := w.heap.size + 1 + 1) (o := 0) (vs := [.slice dga n0.1.1.length dgc, .slice dgb n0.1.2.length dgd, .slice dha n0.2.1.length dhc, .int .i64 n0.2.2.1, .int .i64 n0.2.2.2.1, .int .i64 n0.2.2.2.2.1.1, .int .i64 n0.2.2.2.2.1.2.1, .slice dia n0.2.2.2.2.1.2.2.length dic, .slice dja n0.2.2.2.2.2.length djc]) DM (fun q => by have := q.1; omega)) (fun k q => ⟨by have := q.1; omega, by rw [FS]; exact q.2⟩), zAv (g := w.heap.size + 1 + 1) (o := 0) (vs := [.slice dga n0.1.1.length dgc, .slice dgb n0.1.2.length dgd, .slice dha n0.2.1.length dhc, .int .i64 n0.2.2.1, .int .i64 n0.2.2.2.1, .int .i64 n0.2.2.2.2.1.1, .int .i64 n0.2.2.2.2.1.2.1, .slice dia n0.2.2.2.2.1.2.2.length dic, .slice dja n0.2.2.2.2.2.length djc]) BD (by omega)⟩
   simp only [zA0, zA3, Nat.reduceAdd] at FQ
   clear DO DM R2 BD hn0 hm0 FS
   refine bodyPost_ret (v := .tuple #[.agg #[.slice dga n0.1.1.length dgc, .slice dgb n0.1.2.length dgd, .slice dha n0.2.1.length dhc, .int .i64 n0.2.2.1, .int .i64 n0.2.2.2.1, .int .i64 n0.2.2.2.2.1.1, .int .i64 n0.2.2.2.2.1.2.1, .slice dia n0.2.2.2.2.1.2.2.length dic, .slice dja n0.2.2.2.2.2.length djc], .slice sa m0.length sc, .int .i64 b9.2.2]) (by simp [results, Tryz.results6, go_sem, r0, r1, r2, r3, r4, r5, r6, r7, r8]) rfl ?_
   exact FQ
end Go.Proofs.YtoihjejenjcokaaGreatDoor
