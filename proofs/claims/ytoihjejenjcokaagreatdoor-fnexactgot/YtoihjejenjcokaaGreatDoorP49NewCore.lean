import Derived.Test.YtoihjejenjcokaaGreatDoorP00Box
import Derived.Test.YtoihjejenjcokaaGreatDoorP25Impl12
import Derived.Test.YtoihjejenjcokaaGreatDoorP42SpecGetP
import Derived.Test.YtoihjejenjcokaaGreatDoorP48GotHear
namespace Go.Proofs.YtoihjejenjcokaaGreatDoor
open Go.ChangeShapes Go.WideShapes Go.ChangeAt Go.RowKit
set_option linter.unusedVariables false
def zJC : zAE := (([], []), [], 0, 0, (0, 0, []), [])
abbrev zCells : List Value := [.slice none 0 0, .slice none 0 0, .slice none 0 0, .int .i64 0, .int .i64 0, .int .i64 0, .int .i64 0, .slice none 0 0, .slice none 0 0]
theorem zF3 {α : Type} {e : TypeId} {R : Rep α} (w : World) (S : zAX) : (slR e R).own w S [.slice none 0 0] [] := ⟨_, [], fun _ => False, rfl, World.ownsRow_nil _ _ _ _, fun g hg => by simp [Value.ownBlock] at hg, fun _ h => h.elim, rfl⟩
theorem zLx : zBk 0 := by constructor <;> omega
theorem zF4 (w : World) (S : zAX) : zAn.own w S zCells zJC :=
 zCo (x := zJC) (S0 := fun _ => False) (S1 := fun _ => False) (S4 := fun _ => False) (S5 := fun _ => False) zLx zLx (zCd (S1 := fun _ => False) (S2 := fun _ => False) (zF3 w _) (zF3 w _) (fun _ h => h.elim) (fun _ h => h.elim) (fun _ h _ => h)) (zF3 w _) (zCF zLx zLx (zF3 w _)) (zF3 w _)
  (fun _ h => h.elim) (fun _ h => h.elim) (fun _ h => h.elim) (fun _ h => h.elim) (fun _ h _ => h) (fun _ h _ => h) (fun _ h _ => h) (fun _ h _ => h) (fun _ h _ => h) (fun _ h _ => h)
theorem zJD (c : Int) (w : World) : Calls Tryz.prog 31 #[.int .i64 c] w fun e w' => e = .returned (.bool (zAQ c 0 3)) ∧ Below w.heap.size w w' := by
 go_enter Tryz.func31, Tryz.ntmps31
 go_wp2_with (go_at_call 68; refine (zBe _ _ _ _).mono ?_; rintro e w' ⟨rfl, rfl⟩)
 go_ret
 exact ⟨rfl, Below.refl _ _⟩
noncomputable def zMu (x : zAE) (id : Int) (m : zB5) : zAE × List zB5 × Int := if zAZ x && zAQ id 0 3 then (ofS (zBO (toS x) id m).1, (zBO (toS x) id m).2.1, (zBO (toS x) id m).2.2) else (zJC, [], -1)
theorem got_no {x : zAE} {id : Int} {m : zB5} (h : zAZ x = true → zAQ id 0 3 = false) : zMu x id m = (zJC, [], -1) := by
 unfold zMu
 cases hc : zAZ x
 ·rfl
 ·rw [h hc]; rfl
theorem got_go {x : zAE} {id : Int} {m : zB5} (hc : zAZ x = true) (hi : zAQ id 0 3 = true) : zMu x id m = (ofS (zBO (toS x) id m).1, (zBO (toS x) id m).2.1, (zBO (toS x) id m).2.2) := by
 unfold zMu
 rw [hc, hi]
 rfl
theorem zJE {S : zAX} {w W wd : World} {y : zAE} {l : List zB5} {cs vs : List Value} {ms : Value} {r : Nat} (B : Below w.heap.size w W) (hS : ∀ j, S j → w.heap.size ≤ j) (hl : cs.length = zAn.size) (DO : (zBP zAn zBp).own wd (fun j => S j ∨ (W.heap.size ≤ j ∧ j < wd.heap.size)) (cs ++ [ms]) (y, l)) (hlt : ∀ j, S j → j < wd.heap.size) (DC : Chg S W wd) (hr : w.heap.size ≤ r) (hr2 : r < W.heap.size) (hn : ¬ S r) :
    zAY (zBP zAn zBp) w (zAo wd r 0 vs) (cs ++ [ms]) (y, l) := by
 have FS : (zAo wd r 0 vs).heap.size = wd.heap.size := zAj _ _ _
 have b1 := B.size
 refine ⟨(zBP zAn zBp).own_mono (zAs (g := r) (o := 0) (vs := vs) DO (fun q => by rcases q with q | q; exact hn q; omega)) (fun j q => ?_), zAv (DC.below B (fun j q => hS j q) (by omega)) hr⟩
 refine ⟨?_, ?_⟩
 ·rcases q with q | q
  ·exact hS j q
  ·omega
 ·rw [FS]
  rcases q with q | q
  ·exact hlt j q
  ·exact q.2
set_option maxHeartbeats 16000000 in
set_option maxRecDepth 20000 in
theorem implGot_u (cs ns : List Value) (x : zAE) (id : Int) (m : zB5) (w : World) (hh : Hold w) (hr : zAn.rd w cs x) (hm : zBy.rd w ns m) (hml : m.2.2.2.2.2.1.length ≤ 1048576) :
    Calls Tryz.prog 9 #[zAM cs, .int .i64 id, zAM ns] w fun e w' => ∃ ds0 ds1, e = .returned (.tuple #[zAM ds0, zEc ds1, .int .i64 (zMu x id m).2.2]) ∧ ds0.length = zAn.size ∧ zAY (zBP zAn zBp) w w' (ds0 ++ ds1) ((zMu x id m).1, (zMu x id m).2.1) := by
 have HNO : Hid ((zAZ x = true → zAQ id 0 3 = false) → _) := fun e => got_no (x := x) (id := id) (m := m) e
 have HGO : Hid (zAZ x = true → zAQ id 0 3 = true → _) := fun e1 e2 => got_go (x := x) (id := id) (m := m) e1 e2
 have HOK : Hid (∀ W, Below w.heap.size w W → Calls Tryz.prog 30 #[zAM cs] W fun e w' => e = .returned (.bool (zAZ x)) ∧ Below W.heap.size W w') := fun W hb => zJz cs x W (zAN hr hb)
 have HCP : Hid (∀ W, Below w.heap.size w W → zAZ x = true → Calls Tryz.prog 32 #[zAM cs] W fun e w' => ∃ ds, e = .returned (zAM ds) ∧ zAY zAn W w' ds x) := fun W hb hk => zGf cs x W (zAN hr hb) hk
 obtain ⟨ma, mc, rfl, -, -, -, -, i4, -, -, -, -⟩ := zBB hm
 have HMR : Hid (∀ W, Below w.heap.size w W → zBy.rd W [.int .i64 m.1, .int .i64 m.2.1, .int .i64 m.2.2.1, .int .i64 m.2.2.2.1, .int .i64 m.2.2.2.2.1, .slice ma m.2.2.2.2.2.1.length mc, .int .i64 m.2.2.2.2.2.2] m) := fun W hb => zAN hm hb
 have HHE : Hid (∀ (S : zAX) (ds : List Value) (W : World), Below w.heap.size w W → zAn.own W S ds x → (∀ k, S k → k < W.heap.size) → ¬ S 0 → zAZ x = true → zAQ id 0 3 = true → zAQ m.2.2.2.2.1 0 15 = true → Calls Tryz.prog 35 #[zAM ds, .int .i64 id, zHd m ma mc] W fun e w' => zEI S W (ofS (zBO (toS x) id m).1) (zBO (toS x) id m).2.1 (zBO (toS x) id m).2.2 e w') := fun S ds W hb ho hS h0 hk hi hl => zMt S ds x id m ma mc W (hh.goes hb) ho hS hk (by simp [zAQ] at hi; constructor <;> omega) hl h0 (HMR.out W hb) hml
 have HST : Hid (∀ (S : zAX) (ds : List Value) (W : World), zAn.own W S ds x → (∀ k, S k → k < W.heap.size) → zAZ x = true → zAQ m.2.2.2.2.1 0 15 = false → Calls Tryz.prog 34 #[zAM ds] W fun e w' => zEI S W (ofS (zBO (toS x) id m).1) (zBO (toS x) id m).2.1 (zBO (toS x) id m).2.2 e w') := fun S ds W ho hS hk hl => by rw [zKC hk hl]; exact zDY S ds x W ho hS
 have HSH : Hid (∀ W, Calls Tryz.prog 36 #[.agg #[.int .i64 m.1, .int .i64 m.2.1, .int .i64 m.2.2.1, .int .i64 m.2.2.2.1, .int .i64 m.2.2.2.2.1, .slice ma m.2.2.2.2.2.1.length mc, .int .i64 m.2.2.2.2.2.2]] W fun e w' => e = .returned (zHd m ma mc) ∧ Below W.heap.size W w') := fun W => zKI m ma mc W
 generalize zHd m ma mc = sv at HHE HSH
 have HLO : Hid (∀ W, Calls Tryz.prog 33 #[.int .i64 m.2.2.2.2.1] W fun e w' => e = .returned (.bool (zAQ m.2.2.2.2.1 0 15)) ∧ Below W.heap.size W w') := fun W => (zBI m.2.2.2.2.1 W).mono fun e w' ⟨q, r⟩ => ⟨q, zFj r⟩
 generalize zAQ m.2.2.2.2.1 0 15 = lb at HHE HST HLO
 have HH0 : Hid (0 < w.heap.size) := hh.lt
 obtain ⟨g9, hg9⟩ : ∃ g9, g9 = zBO (toS x) id m := ⟨_, rfl⟩
 rw [← hg9] at HHE HST HGO
 obtain ⟨n0, hn0⟩ : ∃ n0, n0 = ofS g9.1 := ⟨_, rfl⟩
 obtain ⟨m0, hm0⟩ : ∃ m0, m0 = g9.2.1 := ⟨_, rfl⟩
 obtain ⟨k0, hk0⟩ : ∃ k0, k0 = g9.2.2 := ⟨_, rfl⟩
 rw [← hn0, ← hm0, ← hk0] at HHE HST HGO
 clear hg9 hn0 hm0 hk0
 obtain ⟨g0, g1, g2, g3, g4, g5, g6, g7, g8, g9, rfl⟩ := zCy hr
 clear hr hm hml hh i4
 obtain ⟨y9, hy9⟩ : ∃ y9, y9 = zMu x id m := ⟨_, rfl⟩
 rw [← hy9] at HNO HGO ⊢
 clear hy9
 obtain ⟨kk, hkk⟩ : ∃ kk, kk = zAZ x := ⟨_, rfl⟩
 rw [← hkk] at HNO HGO HOK HCP HHE HST
 clear hkk
 have HCI : Hid (∀ W, Calls Tryz.prog 31 #[.int .i64 id] W fun e w' => e = .returned (.bool (zAQ id 0 3)) ∧ Below W.heap.size W w') := fun W => zJD id W
 generalize zAQ id 0 3 = ki at HNO HGO HHE HCI
 rw [show zAM [.slice g0 x.1.1.length g1, .slice g2 x.1.2.length g3, .slice g4 x.2.1.length g5, .int .i64 x.2.2.1, .int .i64 x.2.2.2.1, .int .i64 x.2.2.2.2.1.1, .int .i64 x.2.2.2.2.1.2.1, .slice g6 x.2.2.2.2.1.2.2.length g7, .slice g8 x.2.2.2.2.2.length g9] = .agg #[.slice g0 x.1.1.length g1, .slice g2 x.1.2.length g3, .slice g4 x.2.1.length g5, .int .i64 x.2.2.1, .int .i64 x.2.2.2.1, .int .i64 x.2.2.2.2.1.1, .int .i64 x.2.2.2.2.1.2.1, .slice g6 x.2.2.2.2.1.2.2.length g7, .slice g8 x.2.2.2.2.2.length g9] from rfl] at HOK HCP ⊢
 rw [show zAM [.int .i64 m.1, .int .i64 m.2.1, .int .i64 m.2.2.1, .int .i64 m.2.2.2.1, .int .i64 m.2.2.2.2.1, .slice ma m.2.2.2.2.2.1.length mc, .int .i64 m.2.2.2.2.2.2] = .agg #[.int .i64 m.1, .int .i64 m.2.1, .int .i64 m.2.2.1, .int .i64 m.2.2.2.1, .int .i64 m.2.2.2.2.1, .slice ma m.2.2.2.2.2.1.length mc, .int .i64 m.2.2.2.2.2.2] from rfl]
 have B := Below.refl w.heap.size w
 go_enter Tryz.func9, Tryz.ntmps9
 go_wp2_with fail
 generalize hu1w : w.alloc _ = u1w
 have X := boxH hu1w
 have bz := boxB hu1w
 have zX := boxL hu1w
 clear hu1w
 replace B := zAb B bz
 clear bz
 have zXa := Nat.le_of_eq zX
 have zXb := Nat.le_of_eq zX.symm
 clear zX
 generalize hu2w : u1w.alloc _ = u2w
 have N := boxH hu2w
 have bz := boxB hu2w
 have zN := boxL hu2w
 clear hu2w
 rw [show u1w.heap.size = w.heap.size + 1 from by omega] at N
 replace B := zAb B bz
 replace X := zAa bz X
 clear bz
 have zNa := Nat.le_of_eq zN
 have zNb := Nat.le_of_eq zN.symm
 clear zN
 generalize hu3w : u2w.alloc _ = u3w
 have R := boxH hu3w
 have bz := boxB hu3w
 have zR := boxL hu3w
 clear hu3w
 rw [show u2w.heap.size = w.heap.size + 1 + 1 from by omega] at R
 replace B := zAb B bz
 replace X := zAa bz X
 replace N := zAa bz N
 clear bz
 have zRa := Nat.le_of_eq zR
 have zRb := Nat.le_of_eq zR.symm
 clear zR
 refine (HOK.out _ B).mono ?_
 rintro e u4w ⟨rfl, bq⟩
 have tu4w : u3w.heap.size ≤ u4w.heap.size := bq.size
 replace B := zAb B bq
 replace X := zAa bq X
 replace N := zAa bq N
 replace R := zAa bq R
 clear bq
 cases kk
 ·have hy := HNO.out (fun e => by cases e)
  subst hy
  clear HNO HGO HCP HHE HST HSH HLO
  obtain ⟨Xc0, Xc1, Xc2, Xc3, Xc4, Xc5, Xc6, Xc7, Xc8⟩ := zAc X
  have Xlt := (Array.getElem?_eq_some_iff.1 X).1
  obtain ⟨Nc0, Nc1, Nc2, Nc3, Nc4, Nc5, Nc6⟩ := zAe N
  have Nlt := (Array.getElem?_eq_some_iff.1 N).1
  obtain ⟨Rc0, Rc1, Rc2, Rc3, Rc4, Rc5, Rc6, Rc7, Rc8⟩ := zAc R
  have Rlt := (Array.getElem?_eq_some_iff.1 R).1
  obtain ⟨Rf0, Rf1, Rf2, Rf3, Rf4, Rf5, Rf6, Rf7, Rf8⟩ := zAr R
  have HK : Hid _ := And.intro B (And.intro X (And.intro N (R)))
  clear B X N R
  go_wp2
  clear Xc0 Xc1 Xc2 Xc3 Xc4 Xc5 Xc6 Xc7 Xc8 Xlt Nc0 Nc1 Nc2 Nc3 Nc4 Nc5 Nc6 Nlt Rc0 Rc1 Rc2 Rc3 Rc4 Rc5 Rc6 Rc7 Rc8 Rlt Rf0 Rf1 Rf2 Rf3 Rf4 Rf5 Rf6 Rf7 Rf8
  obtain ⟨B, X, N, R⟩ := HK.out
  clear HK
  have V2 := zAa (zAf _ (.cells #[] 46)) (zAV (y0 := .slice none 0 0) (y1 := .slice none 0 0) (y2 := .slice none 0 0) (y3 := .int .i64 0) (y4 := .int .i64 0) (y5 := .int .i64 0) (y6 := .int .i64 0) (y7 := .slice none 0 0) (y8 := .slice none 0 0) R)
  obtain ⟨r0, r1, r2, r3, r4, r5, r6, r7, r8⟩ := zAc V2
  have bsz := B.size
  have FS : (zAo u4w (w.heap.size + 1 + 1) 0 [.slice none 0 0, .slice none 0 0, .slice none 0 0, .int .i64 0, .int .i64 0, .int .i64 0, .int .i64 0, .slice none 0 0, .slice none 0 0]).heap.size = u4w.heap.size := zAj _ _ _
  have CO := zJA (w := w) (zF4 (zAo u4w (w.heap.size + 1 + 1) 0 [.slice none 0 0, .slice none 0 0, .slice none 0 0, .int .i64 0, .int .i64 0, .int .i64 0, .int .i64 0, .slice none 0 0, .slice none 0 0]) (fun _ => False)) (fun k q => q.elim)
  rw [FS] at CO
  have FM : zAY (zBP zAn zBp) w ((zAo u4w (w.heap.size + 1 + 1) 0 [.slice none 0 0, .slice none 0 0, .slice none 0 0, .int .i64 0, .int .i64 0, .int .i64 0, .int .i64 0, .slice none 0 0, .slice none 0 0]).alloc (.cells #[] 46)) ([.slice none 0 0, .slice none 0 0, .slice none 0 0, .int .i64 0, .int .i64 0, .int .i64 0, .int .i64 0, .slice none 0 0, .slice none 0 0] ++ [.slice (some ⟨u4w.heap.size, 0, none⟩) 0 0]) (zJC, []) := ⟨(zBP zAn zBp).own_mono CO (fun k q => by rcases q with q | q; exact q.elim; exact ⟨by have := q.1; omega, q.2⟩), zAb (zAv (g := w.heap.size + 1 + 1) (o := 0) (vs := [.slice none 0 0, .slice none 0 0, .slice none 0 0, .int .i64 0, .int .i64 0, .int .i64 0, .int .i64 0, .slice none 0 0, .slice none 0 0]) B (by omega)) (zAf _ _)⟩
  simp only [zA0, zA3, Nat.reduceAdd] at FM
  clear B X N R V2 CO FS
  exact bodyPost_ret (v := .tuple #[.agg #[.slice none 0 0, .slice none 0 0, .slice none 0 0, .int .i64 0, .int .i64 0, .int .i64 0, .int .i64 0, .slice none 0 0, .slice none 0 0], .slice (some ⟨u4w.heap.size, 0, none⟩) 0 0, .int .i64 (-1)]) (by simp [results, Tryz.results9, go_sem, r0, r1, r2, r3, r4, r5, r6, r7, r8]) rfl ⟨[.slice none 0 0, .slice none 0 0, .slice none 0 0, .int .i64 0, .int .i64 0, .int .i64 0, .int .i64 0, .slice none 0 0, .slice none 0 0], [.slice (some ⟨u4w.heap.size, 0, none⟩) 0 0], rfl, rfl, FM⟩
 ·cases ki
  ·have hy := HNO.out (fun _ => rfl)
   subst hy
   clear HNO HGO HCP HHE HST HSH HLO
   obtain ⟨Xc0, Xc1, Xc2, Xc3, Xc4, Xc5, Xc6, Xc7, Xc8⟩ := zAc X
   have Xlt := (Array.getElem?_eq_some_iff.1 X).1
   obtain ⟨Nc0, Nc1, Nc2, Nc3, Nc4, Nc5, Nc6⟩ := zAe N
   have Nlt := (Array.getElem?_eq_some_iff.1 N).1
   obtain ⟨Rc0, Rc1, Rc2, Rc3, Rc4, Rc5, Rc6, Rc7, Rc8⟩ := zAc R
   have Rlt := (Array.getElem?_eq_some_iff.1 R).1
   go_wp2_with fail
   clear Xc0 Xc1 Xc2 Xc3 Xc4 Xc5 Xc6 Xc7 Xc8 Xlt Nc0 Nc1 Nc2 Nc3 Nc4 Nc5 Nc6 Nlt Rc0 Rc1 Rc2 Rc3 Rc4 Rc5 Rc6 Rc7 Rc8 Rlt
   refine (HCI.out _).mono ?_
   rintro e u5w ⟨rfl, bq⟩
   have tu5w : u4w.heap.size ≤ u5w.heap.size := bq.size
   replace B := zAb B bq
   replace X := zAa bq X
   replace N := zAa bq N
   replace R := zAa bq R
   clear bq
   obtain ⟨Xc0, Xc1, Xc2, Xc3, Xc4, Xc5, Xc6, Xc7, Xc8⟩ := zAc X
   have Xlt := (Array.getElem?_eq_some_iff.1 X).1
   obtain ⟨Nc0, Nc1, Nc2, Nc3, Nc4, Nc5, Nc6⟩ := zAe N
   have Nlt := (Array.getElem?_eq_some_iff.1 N).1
   obtain ⟨Rc0, Rc1, Rc2, Rc3, Rc4, Rc5, Rc6, Rc7, Rc8⟩ := zAc R
   have Rlt := (Array.getElem?_eq_some_iff.1 R).1
   obtain ⟨Rf0, Rf1, Rf2, Rf3, Rf4, Rf5, Rf6, Rf7, Rf8⟩ := zAr R
   have HK : Hid _ := And.intro B (And.intro X (And.intro N (R)))
   clear B X N R
   go_wp2
   clear Xc0 Xc1 Xc2 Xc3 Xc4 Xc5 Xc6 Xc7 Xc8 Xlt Nc0 Nc1 Nc2 Nc3 Nc4 Nc5 Nc6 Nlt Rc0 Rc1 Rc2 Rc3 Rc4 Rc5 Rc6 Rc7 Rc8 Rlt Rf0 Rf1 Rf2 Rf3 Rf4 Rf5 Rf6 Rf7 Rf8
   obtain ⟨B, X, N, R⟩ := HK.out
   clear HK
   have V2 := zAa (zAf _ (.cells #[] 46)) (zAV (y0 := .slice none 0 0) (y1 := .slice none 0 0) (y2 := .slice none 0 0) (y3 := .int .i64 0) (y4 := .int .i64 0) (y5 := .int .i64 0) (y6 := .int .i64 0) (y7 := .slice none 0 0) (y8 := .slice none 0 0) R)
   obtain ⟨r0, r1, r2, r3, r4, r5, r6, r7, r8⟩ := zAc V2
   have bsz := B.size
   have FS : (zAo u5w (w.heap.size + 1 + 1) 0 [.slice none 0 0, .slice none 0 0, .slice none 0 0, .int .i64 0, .int .i64 0, .int .i64 0, .int .i64 0, .slice none 0 0, .slice none 0 0]).heap.size = u5w.heap.size := zAj _ _ _
   have CO := zJA (w := w) (zF4 (zAo u5w (w.heap.size + 1 + 1) 0 [.slice none 0 0, .slice none 0 0, .slice none 0 0, .int .i64 0, .int .i64 0, .int .i64 0, .int .i64 0, .slice none 0 0, .slice none 0 0]) (fun _ => False)) (fun k q => q.elim)
   rw [FS] at CO
   have FM : zAY (zBP zAn zBp) w ((zAo u5w (w.heap.size + 1 + 1) 0 [.slice none 0 0, .slice none 0 0, .slice none 0 0, .int .i64 0, .int .i64 0, .int .i64 0, .int .i64 0, .slice none 0 0, .slice none 0 0]).alloc (.cells #[] 46)) ([.slice none 0 0, .slice none 0 0, .slice none 0 0, .int .i64 0, .int .i64 0, .int .i64 0, .int .i64 0, .slice none 0 0, .slice none 0 0] ++ [.slice (some ⟨u5w.heap.size, 0, none⟩) 0 0]) (zJC, []) := ⟨(zBP zAn zBp).own_mono CO (fun k q => by rcases q with q | q; exact q.elim; exact ⟨by have := q.1; omega, q.2⟩), zAb (zAv (g := w.heap.size + 1 + 1) (o := 0) (vs := [.slice none 0 0, .slice none 0 0, .slice none 0 0, .int .i64 0, .int .i64 0, .int .i64 0, .int .i64 0, .slice none 0 0, .slice none 0 0]) B (by omega)) (zAf _ _)⟩
   simp only [zA0, zA3, Nat.reduceAdd] at FM
   clear B X N R V2 CO FS
   exact bodyPost_ret (v := .tuple #[.agg #[.slice none 0 0, .slice none 0 0, .slice none 0 0, .int .i64 0, .int .i64 0, .int .i64 0, .int .i64 0, .slice none 0 0, .slice none 0 0], .slice (some ⟨u5w.heap.size, 0, none⟩) 0 0, .int .i64 (-1)]) (by simp [results, Tryz.results9, go_sem, r0, r1, r2, r3, r4, r5, r6, r7, r8]) rfl ⟨[.slice none 0 0, .slice none 0 0, .slice none 0 0, .int .i64 0, .int .i64 0, .int .i64 0, .int .i64 0, .slice none 0 0, .slice none 0 0], [.slice (some ⟨u5w.heap.size, 0, none⟩) 0 0], rfl, rfl, FM⟩
  ·have hy := HGO.out (by first | rfl | trivial) (by first | rfl | trivial)
   subst hy
   clear HNO HGO
   obtain ⟨Xc0, Xc1, Xc2, Xc3, Xc4, Xc5, Xc6, Xc7, Xc8⟩ := zAc X
   have Xlt := (Array.getElem?_eq_some_iff.1 X).1
   obtain ⟨Nc0, Nc1, Nc2, Nc3, Nc4, Nc5, Nc6⟩ := zAe N
   have Nlt := (Array.getElem?_eq_some_iff.1 N).1
   obtain ⟨Rc0, Rc1, Rc2, Rc3, Rc4, Rc5, Rc6, Rc7, Rc8⟩ := zAc R
   have Rlt := (Array.getElem?_eq_some_iff.1 R).1
   go_wp2_with fail
   clear Xc0 Xc1 Xc2 Xc3 Xc4 Xc5 Xc6 Xc7 Xc8 Xlt Nc0 Nc1 Nc2 Nc3 Nc4 Nc5 Nc6 Nlt Rc0 Rc1 Rc2 Rc3 Rc4 Rc5 Rc6 Rc7 Rc8 Rlt
   refine (HCI.out _).mono ?_
   rintro e u6w ⟨rfl, bq⟩
   have tu6w : u4w.heap.size ≤ u6w.heap.size := bq.size
   replace B := zAb B bq
   replace X := zAa bq X
   replace N := zAa bq N
   replace R := zAa bq R
   clear bq
   obtain ⟨Xc0, Xc1, Xc2, Xc3, Xc4, Xc5, Xc6, Xc7, Xc8⟩ := zAc X
   have Xlt := (Array.getElem?_eq_some_iff.1 X).1
   obtain ⟨Nc0, Nc1, Nc2, Nc3, Nc4, Nc5, Nc6⟩ := zAe N
   have Nlt := (Array.getElem?_eq_some_iff.1 N).1
   obtain ⟨Rc0, Rc1, Rc2, Rc3, Rc4, Rc5, Rc6, Rc7, Rc8⟩ := zAc R
   have Rlt := (Array.getElem?_eq_some_iff.1 R).1
   go_wp2_with fail
   clear Xc0 Xc1 Xc2 Xc3 Xc4 Xc5 Xc6 Xc7 Xc8 Xlt Nc0 Nc1 Nc2 Nc3 Nc4 Nc5 Nc6 Nlt Rc0 Rc1 Rc2 Rc3 Rc4 Rc5 Rc6 Rc7 Rc8 Rlt
   refine (HCP.out _ B (by first | rfl | trivial)).mono ?_
   rintro e u7w ⟨ds, rfl, mm⟩
   obtain ⟨kz0, kz1, kz2, kz3, kz4, kz5, kz6, kz7, kz8, kz9, rfl⟩ := zCy (zAn.own_rd mm.1)
   rw [show zAM [.slice kz0 x.1.1.length kz1, .slice kz2 x.1.2.length kz3, .slice kz4 x.2.1.length kz5, .int .i64 x.2.2.1, .int .i64 x.2.2.2.1, .int .i64 x.2.2.2.2.1.1, .int .i64 x.2.2.2.2.1.2.1, .slice kz6 x.2.2.2.2.1.2.2.length kz7, .slice kz8 x.2.2.2.2.2.length kz9] = .agg #[.slice kz0 x.1.1.length kz1, .slice kz2 x.1.2.length kz3, .slice kz4 x.2.1.length kz5, .int .i64 x.2.2.1, .int .i64 x.2.2.2.1, .int .i64 x.2.2.2.2.1.1, .int .i64 x.2.2.2.2.1.2.1, .slice kz6 x.2.2.2.2.1.2.2.length kz7, .slice kz8 x.2.2.2.2.2.length kz9] from rfl]
   have K := zAR (R := zAn) mm
   have mb := mm.2
   have tu7w : u6w.heap.size ≤ u7w.heap.size := mb.size
   replace B := zAb B mb
   replace X := zAa mb X
   replace N := zAa mb N
   replace R := zAa mb R
   clear mb mm
   obtain ⟨Xc0, Xc1, Xc2, Xc3, Xc4, Xc5, Xc6, Xc7, Xc8⟩ := zAc X
   have Xlt := (Array.getElem?_eq_some_iff.1 X).1
   obtain ⟨Nc0, Nc1, Nc2, Nc3, Nc4, Nc5, Nc6⟩ := zAe N
   have Nlt := (Array.getElem?_eq_some_iff.1 N).1
   obtain ⟨Rc0, Rc1, Rc2, Rc3, Rc4, Rc5, Rc6, Rc7, Rc8⟩ := zAc R
   have Rlt := (Array.getElem?_eq_some_iff.1 R).1
   go_upto_region 4 with fail
   clear Xc0 Xc1 Xc2 Xc3 Xc4 Xc5 Xc6 Xc7 Xc8 Xlt Nc0 Nc1 Nc2 Nc3 Nc4 Nc5 Nc6 Nlt Rc0 Rc1 Rc2 Rc3 Rc4 Rc5 Rc6 Rc7 Rc8 Rlt
   generalize hu8w : u7w.alloc _ = u8w
   have F := boxH hu8w
   have bz := boxB hu8w
   have zF := boxL hu8w
   clear hu8w
   replace B := zAb B bz
   replace X := zAa bz X
   replace N := zAa bz N
   replace R := zAa bz R
   replace K := zA6 K bz
   clear bz
   have zFa := Nat.le_of_eq zF
   have zFb := Nat.le_of_eq zF.symm
   clear zF
   obtain ⟨Xc0, Xc1, Xc2, Xc3, Xc4, Xc5, Xc6, Xc7, Xc8⟩ := zAc X
   have Xlt := (Array.getElem?_eq_some_iff.1 X).1
   obtain ⟨Nc0, Nc1, Nc2, Nc3, Nc4, Nc5, Nc6⟩ := zAe N
   have Nlt := (Array.getElem?_eq_some_iff.1 N).1
   obtain ⟨Rc0, Rc1, Rc2, Rc3, Rc4, Rc5, Rc6, Rc7, Rc8⟩ := zAc R
   have Rlt := (Array.getElem?_eq_some_iff.1 R).1
   obtain ⟨Fc0, Fc1, Fc2, Fc3, Fc4, Fc5, Fc6, Fc7, Fc8⟩ := zAc F
   have Flt := (Array.getElem?_eq_some_iff.1 F).1
   go_wp2_with fail
   clear Xc0 Xc1 Xc2 Xc3 Xc4 Xc5 Xc6 Xc7 Xc8 Xlt Nc0 Nc1 Nc2 Nc3 Nc4 Nc5 Nc6 Nlt Rc0 Rc1 Rc2 Rc3 Rc4 Rc5 Rc6 Rc7 Rc8 Rlt Fc0 Fc1 Fc2 Fc3 Fc4 Fc5 Fc6 Fc7 Fc8 Flt
   refine (HLO.out _).mono ?_
   rintro e u9w ⟨rfl, bq⟩
   have tu9w : u8w.heap.size ≤ u9w.heap.size := bq.size
   replace B := zAb B bq
   replace X := zAa bq X
   replace N := zAa bq N
   replace R := zAa bq R
   replace F := zAa bq F
   replace K := zA6 K bq
   clear bq
   have ksz := K.2
   cases lb
   ·skip
    obtain ⟨Xc0, Xc1, Xc2, Xc3, Xc4, Xc5, Xc6, Xc7, Xc8⟩ := zAc X
    have Xlt := (Array.getElem?_eq_some_iff.1 X).1
    obtain ⟨Nc0, Nc1, Nc2, Nc3, Nc4, Nc5, Nc6⟩ := zAe N
    have Nlt := (Array.getElem?_eq_some_iff.1 N).1
    obtain ⟨Rc0, Rc1, Rc2, Rc3, Rc4, Rc5, Rc6, Rc7, Rc8⟩ := zAc R
    have Rlt := (Array.getElem?_eq_some_iff.1 R).1
    obtain ⟨Fc0, Fc1, Fc2, Fc3, Fc4, Fc5, Fc6, Fc7, Fc8⟩ := zAc F
    have Flt := (Array.getElem?_eq_some_iff.1 F).1
    go_wp2_with fail
    clear Xc0 Xc1 Xc2 Xc3 Xc4 Xc5 Xc6 Xc7 Xc8 Xlt Nc0 Nc1 Nc2 Nc3 Nc4 Nc5 Nc6 Nlt Rc0 Rc1 Rc2 Rc3 Rc4 Rc5 Rc6 Rc7 Rc8 Rlt Fc0 Fc1 Fc2 Fc3 Fc4 Fc5 Fc6 Fc7 Fc8 Flt
    refine (HST.out (rng (u6w.heap.size) (u7w.heap.size)) [.slice kz0 x.1.1.length kz1, .slice kz2 x.1.2.length kz3, .slice kz4 x.2.1.length kz5, .int .i64 x.2.2.1, .int .i64 x.2.2.2.1, .int .i64 x.2.2.2.2.1.1, .int .i64 x.2.2.2.2.1.2.1, .slice kz6 x.2.2.2.2.1.2.2.length kz7, .slice kz8 x.2.2.2.2.2.length kz9] _ K.1 (fun k q => by have := q.2; have := K.2; omega) (by first | rfl | trivial) (by first | rfl | trivial)).mono ?_
    rintro e wd hq
    obtain ⟨d0, d1, d2, d3, d4, d5, d6, d7, d8, d9, sa, sc, rfl, DO, DC⟩ := zCa hq
    clear hq
    have szd := DC.size
    have bsz := B.size
    have R2 := (DC.block _ (Array.getElem?_eq_some_iff.1 R).1 (fun q => by have := q.1; omega)).trans R
    obtain ⟨z0, z1, z2, z3, z4, z5, z6, z7, z8⟩ := zAc R2
    obtain ⟨zf0, zf1, zf2, zf3, zf4, zf5, zf6, zf7, zf8⟩ := zAr R2
    have zlt := (Array.getElem?_eq_some_iff.1 R2).1
    have rlt := (Array.getElem?_eq_some_iff.1 R).1
    have HZ : Hid _ := And.intro DO (And.intro DC (And.intro R2 B))
    clear DO DC R2 B X N R F K
    go_wp2
    obtain ⟨DO, DC, R2, B⟩ := HZ.out
    obtain ⟨r0, r1, r2, r3, r4, r5, r6, r7, r8⟩ := zAc (zAV (y0 := .slice d0 n0.1.1.length d1) (y1 := .slice d2 n0.1.2.length d3) (y2 := .slice d4 n0.2.1.length d5) (y3 := .int .i64 n0.2.2.1) (y4 := .int .i64 n0.2.2.2.1) (y5 := .int .i64 n0.2.2.2.2.1.1) (y6 := .int .i64 n0.2.2.2.2.1.2.1) (y7 := .slice d6 n0.2.2.2.2.1.2.2.length d7) (y8 := .slice d8 n0.2.2.2.2.2.length d9) R2)
    have FM := zJE (vs := [.slice d0 n0.1.1.length d1, .slice d2 n0.1.2.length d3, .slice d4 n0.2.1.length d5, .int .i64 n0.2.2.1, .int .i64 n0.2.2.2.1, .int .i64 n0.2.2.2.2.1.1, .int .i64 n0.2.2.2.2.1.2.1, .slice d6 n0.2.2.2.2.1.2.2.length d7, .slice d8 n0.2.2.2.2.2.length d9]) (r := w.heap.size + 1 + 1) (S := (rng (u6w.heap.size) (u7w.heap.size))) B (fun j q => by have := q.1; omega) rfl DO (fun j q => by have := q.2; omega) DC (by omega) rlt (fun q => by have := q.1; omega)
    simp only [zA0, zA3, Nat.reduceAdd] at FM
    clear DO DC R2 B HZ
    exact bodyPost_ret (v := .tuple #[.agg #[.slice d0 n0.1.1.length d1, .slice d2 n0.1.2.length d3, .slice d4 n0.2.1.length d5, .int .i64 n0.2.2.1, .int .i64 n0.2.2.2.1, .int .i64 n0.2.2.2.2.1.1, .int .i64 n0.2.2.2.2.1.2.1, .slice d6 n0.2.2.2.2.1.2.2.length d7, .slice d8 n0.2.2.2.2.2.length d9], .slice sa m0.length sc, .int .i64 k0]) (by simp [results, Tryz.results9, go_sem, r0, r1, r2, r3, r4, r5, r6, r7, r8]) rfl ⟨[.slice d0 n0.1.1.length d1, .slice d2 n0.1.2.length d3, .slice d4 n0.2.1.length d5, .int .i64 n0.2.2.1, .int .i64 n0.2.2.2.1, .int .i64 n0.2.2.2.2.1.1, .int .i64 n0.2.2.2.2.1.2.1, .slice d6 n0.2.2.2.2.1.2.2.length d7, .slice d8 n0.2.2.2.2.2.length d9], [.slice sa m0.length sc], rfl, rfl, FM⟩
   ·skip
    obtain ⟨Xc0, Xc1, Xc2, Xc3, Xc4, Xc5, Xc6, Xc7, Xc8⟩ := zAc X
    have Xlt := (Array.getElem?_eq_some_iff.1 X).1
    obtain ⟨Nc0, Nc1, Nc2, Nc3, Nc4, Nc5, Nc6⟩ := zAe N
    have Nlt := (Array.getElem?_eq_some_iff.1 N).1
    obtain ⟨Rc0, Rc1, Rc2, Rc3, Rc4, Rc5, Rc6, Rc7, Rc8⟩ := zAc R
    have Rlt := (Array.getElem?_eq_some_iff.1 R).1
    obtain ⟨Fc0, Fc1, Fc2, Fc3, Fc4, Fc5, Fc6, Fc7, Fc8⟩ := zAc F
    have Flt := (Array.getElem?_eq_some_iff.1 F).1
    go_upto_region 6 with fail
    clear Xc0 Xc1 Xc2 Xc3 Xc4 Xc5 Xc6 Xc7 Xc8 Xlt Nc0 Nc1 Nc2 Nc3 Nc4 Nc5 Nc6 Nlt Rc0 Rc1 Rc2 Rc3 Rc4 Rc5 Rc6 Rc7 Rc8 Rlt Fc0 Fc1 Fc2 Fc3 Fc4 Fc5 Fc6 Fc7 Fc8 Flt
    replace B := B.drew
    replace K := zCJ K
    obtain ⟨Xc0, Xc1, Xc2, Xc3, Xc4, Xc5, Xc6, Xc7, Xc8⟩ := zAc X
    have Xlt := (Array.getElem?_eq_some_iff.1 X).1
    obtain ⟨Nc0, Nc1, Nc2, Nc3, Nc4, Nc5, Nc6⟩ := zAe N
    have Nlt := (Array.getElem?_eq_some_iff.1 N).1
    obtain ⟨Rc0, Rc1, Rc2, Rc3, Rc4, Rc5, Rc6, Rc7, Rc8⟩ := zAc R
    have Rlt := (Array.getElem?_eq_some_iff.1 R).1
    obtain ⟨Rf0, Rf1, Rf2, Rf3, Rf4, Rf5, Rf6, Rf7, Rf8⟩ := zAr R
    obtain ⟨Fc0, Fc1, Fc2, Fc3, Fc4, Fc5, Fc6, Fc7, Fc8⟩ := zAc F
    have Flt := (Array.getElem?_eq_some_iff.1 F).1
    go_region_with (first | (go_at_call 36; refine (HSH.out _).mono ?_; rintro e ws ⟨rfl, mb⟩; have ts : u9w.heap.size ≤ ws.heap.size := mb.size; replace B := zAb B mb; replace X := zAa mb X; replace N := zAa mb N; replace R := zAa mb R; replace F := zAa mb F; replace K := zA6 K mb; clear mb; clear Xc0 Xc1 Xc2 Xc3 Xc4 Xc5 Xc6 Xc7 Xc8 Xlt Nc0 Nc1 Nc2 Nc3 Nc4 Nc5 Nc6 Nlt Rc0 Rc1 Rc2 Rc3 Rc4 Rc5 Rc6 Rc7 Rc8 Rlt Rf0 Rf1 Rf2 Rf3 Rf4 Rf5 Rf6 Rf7 Rf8 Fc0 Fc1 Fc2 Fc3 Fc4 Fc5 Fc6 Fc7 Fc8 Flt; obtain ⟨Xc0, Xc1, Xc2, Xc3, Xc4, Xc5, Xc6, Xc7, Xc8⟩ := zAc X; have Xlt := (Array.getElem?_eq_some_iff.1 X).1; obtain ⟨Nc0, Nc1, Nc2, Nc3, Nc4, Nc5, Nc6⟩ := zAe N; have Nlt := (Array.getElem?_eq_some_iff.1 N).1; obtain ⟨Rc0, Rc1, Rc2, Rc3, Rc4, Rc5, Rc6, Rc7, Rc8⟩ := zAc R; have Rlt := (Array.getElem?_eq_some_iff.1 R).1; obtain ⟨Rf0, Rf1, Rf2, Rf3, Rf4, Rf5, Rf6, Rf7, Rf8⟩ := zAr R; obtain ⟨Fc0, Fc1, Fc2, Fc3, Fc4, Fc5, Fc6, Fc7, Fc8⟩ := zAc F; have Flt := (Array.getElem?_eq_some_iff.1 F).1) | (go_at_call 35; refine (HHE.out (rng (u6w.heap.size) (u7w.heap.size)) [.slice kz0 x.1.1.length kz1, .slice kz2 x.1.2.length kz3, .slice kz4 x.2.1.length kz5, .int .i64 x.2.2.1, .int .i64 x.2.2.2.1, .int .i64 x.2.2.2.2.1.1, .int .i64 x.2.2.2.2.1.2.1, .slice kz6 x.2.2.2.2.1.2.2.length kz7, .slice kz8 x.2.2.2.2.2.length kz9] _ B K.1 (fun k q => by have := q.2; have := K.2; omega) (fun q => by have := q.1; have := HH0.out; omega) (by first | rfl | trivial) (by first | rfl | trivial) (by first | rfl | trivial)).mono ?_; rintro e wd hq; clear Xc0 Xc1 Xc2 Xc3 Xc4 Xc5 Xc6 Xc7 Xc8 Xlt Nc0 Nc1 Nc2 Nc3 Nc4 Nc5 Nc6 Nlt Rc0 Rc1 Rc2 Rc3 Rc4 Rc5 Rc6 Rc7 Rc8 Rlt Rf0 Rf1 Rf2 Rf3 Rf4 Rf5 Rf6 Rf7 Rf8 Fc0 Fc1 Fc2 Fc3 Fc4 Fc5 Fc6 Fc7 Fc8 Flt; obtain ⟨d0, d1, d2, d3, d4, d5, d6, d7, d8, d9, sa, sc, rfl, DO, DC⟩ := zCa hq; clear hq; have szd := DC.size; have bsz := B.size; have R2 := (DC.block _ (Array.getElem?_eq_some_iff.1 R).1 (fun q => by have := q.1; omega)).trans R; obtain ⟨z0, z1, z2, z3, z4, z5, z6, z7, z8⟩ := zAc R2; obtain ⟨zf0, zf1, zf2, zf3, zf4, zf5, zf6, zf7, zf8⟩ := zAr R2; have zlt := (Array.getElem?_eq_some_iff.1 R2).1; have rlt := (Array.getElem?_eq_some_iff.1 R).1; have HZ : Hid _ := And.intro DO (And.intro DC (And.intro R2 B)); clear DO DC R2 B X N R F K))
    all_goals go_wp2
    all_goals
     obtain ⟨DO, DC, R2, B⟩ := HZ.out
     obtain ⟨r0, r1, r2, r3, r4, r5, r6, r7, r8⟩ := zAc (zAV (y0 := .slice d0 n0.1.1.length d1) (y1 := .slice d2 n0.1.2.length d3) (y2 := .slice d4 n0.2.1.length d5) (y3 := .int .i64 n0.2.2.1) (y4 := .int .i64 n0.2.2.2.1) (y5 := .int .i64 n0.2.2.2.2.1.1) (y6 := .int .i64 n0.2.2.2.2.1.2.1) (y7 := .slice d6 n0.2.2.2.2.1.2.2.length d7) (y8 := .slice d8 n0.2.2.2.2.2.length d9) R2)
     have FM := zJE (vs := [.slice d0 n0.1.1.length d1, .slice d2 n0.1.2.length d3, .slice d4 n0.2.1.length d5, .int .i64 n0.2.2.1, .int .i64 n0.2.2.2.1, .int .i64 n0.2.2.2.2.1.1, .int .i64 n0.2.2.2.2.1.2.1, .slice d6 n0.2.2.2.2.1.2.2.length d7, .slice d8 n0.2.2.2.2.2.length d9]) (r := w.heap.size + 1 + 1) (S := (rng (u6w.heap.size) (u7w.heap.size))) B (fun j q => by have := q.1; omega) rfl DO (fun j q => by have := q.2; omega) DC (by omega) rlt (fun q => by have := q.1; omega)
     simp only [zA0, zA3, Nat.reduceAdd] at FM
     clear DO DC R2 B HZ
     exact bodyPost_ret (v := .tuple #[.agg #[.slice d0 n0.1.1.length d1, .slice d2 n0.1.2.length d3, .slice d4 n0.2.1.length d5, .int .i64 n0.2.2.1, .int .i64 n0.2.2.2.1, .int .i64 n0.2.2.2.2.1.1, .int .i64 n0.2.2.2.2.1.2.1, .slice d6 n0.2.2.2.2.1.2.2.length d7, .slice d8 n0.2.2.2.2.2.length d9], .slice sa m0.length sc, .int .i64 k0]) (by simp [results, Tryz.results9, go_sem, r0, r1, r2, r3, r4, r5, r6, r7, r8]) rfl ⟨[.slice d0 n0.1.1.length d1, .slice d2 n0.1.2.length d3, .slice d4 n0.2.1.length d5, .int .i64 n0.2.2.1, .int .i64 n0.2.2.2.1, .int .i64 n0.2.2.2.2.1.1, .int .i64 n0.2.2.2.2.1.2.1, .slice d6 n0.2.2.2.2.1.2.2.length d7, .slice d8 n0.2.2.2.2.2.length d9], [.slice sa m0.length sc], rfl, rfl, FM⟩
end Go.Proofs.YtoihjejenjcokaaGreatDoor
