
/- BegunS. -/
import Derived.Test.YthbclkpmgcfdnaaGreatDoorSpecBegin
import Derived.Test.YthbclkpmgcfdnaaGreatDoorBegun
import Derived.Test.YthbclkpmgcfdnaaGreatDoorCoreOk
import Derived.BigQuiet
import Derived.Deep.QuietTactic
/- A core begins, of the specification: the face. Conditions: none. -/
namespace Go.Proofs.YthbclkpmgcfdnaaGreatDoor
open Go.ChangeShapes Go.WideShapes Go.ChangeAt Go.RowKit
set_option linter.unusedVariables false
theorem begin_no {x : CoreD} {id : Int} (hc : coreB x = true) (h : x.2.2.2.1 ≠ 0 ∨ ¬ x.2.2.1 < (x.2.1.length : Int)) : beginS (toS x) id = (toS x, [], 0) := by
  unfold beginS
  rw [if_pos]
  rcases h with h | h
  · exact .inl h
  · refine .inr ?_
    have h1 : x.2.2.1 ≤ (x.2.1.length : Int) := (core_p hc).at1
    show x.2.2.1 = (x.2.1.length : Int)
    omega
def BegP (S : Foot) (g : Nat) (x : CoreD) (id : Int) (w : World) (e : Ending) (w' : World) : Prop := ∃ ds ms, e = .returned (.tuple #[ms, .int .i64 (beginS (toS x) id).2.2]) ∧ coreR.own w' (fun k => S k ∨ (w.heap.size ≤ k ∧ k < w'.heap.size)) ds (ofS (beginS (toS x) id).1) ∧ msgsR.own w' (rng w.heap.size w'.heap.size) [ms] (beginS (toS x) id).2.1 ∧ w'.heap[g]? = some (.cells ds.toArray 32 (0, 0)) ∧ Chg (fun k => S k ∨ k = g) w w'
theorem begEnd {S : Foot} {g : Nat} {x : CoreD} {id : Int} {w W : World} {cs : List Value} (hb : beginS (toS x) id = (toS x, [], 0)) (ho : coreR.own w S cs x) (hbox : w.heap[g]? = some (.cells cs.toArray 32 (0, 0))) (hW : Below w.heap.size w W) :
    BegP S g x id w (.returned (.tuple #[.slice (some ⟨W.heap.size, 0, none⟩) 0 0, .int .i64 0])) (W.alloc (.cells #[] 50)) := by
  have bb := below_step hW (box_below W (.cells #[] 50))
  unfold BegP
  rw [hb]
  exact ⟨cs, _, rfl, coreR.own_mono (coreR.own_keep ho (keeps_below bb)) (fun k q => .inl q), msgsR.own_mono (own_nil W) (fun k q => ⟨by have q' : k = W.heap.size := q; have := hW.size; omega, by have q' : k = W.heap.size := q; rw [alloc_len]; omega⟩), row_keep bb hbox, chg_below bb⟩
set_option maxHeartbeats 4000000 in
set_option maxRecDepth 20000 in
theorem l12Begin_no (S : Foot) (g : Nat) (cs : List Value) (x : CoreD) (id : Int) (w : World) (ho : coreR.own w S cs x) (hbox : w.heap[g]? = some (.cells cs.toArray 32 (0, 0))) (hk : coreB x = true) (h : x.2.2.2.1 ≠ 0 ∨ ¬ x.2.2.1 < (x.2.1.length : Int)) :
    Calls Tryz.prog 56 #[.pointer (some ⟨g, 0, none⟩), .int .i64 id] w fun e w' => BegP S g x id w e w' := by
  have hat : x.2.2.1 ≤ (x.2.1.length : Int) := (core_p hk).at1
  have hpl : x.2.1.length ≤ 30 := (core_p hk).len
  have HE : Hid (∀ W, Below w.heap.size w W → BegP S g x id w (.returned (.tuple #[.slice (some ⟨W.heap.size, 0, none⟩) 0 0, .int .i64 0])) (W.alloc (.cells #[] 50))) := fun W hb => begEnd (begin_no hk h) ho hbox hb
  generalize hP : BegP S g x id w = P at HE ⊢
  clear hP
  obtain ⟨v0, v1, v2, v5, v6, v7, v8, rfl, r0, r1, i2, i3, r4, r5⟩ := core_rd (coreR.own_rd ho)
  obtain ⟨a0, c0, b0, d0, e0, -⟩ := cache_rd r0
  simp only [List.cons.injEq, and_true] at e0
  obtain ⟨rfl, rfl⟩ := e0
  obtain ⟨a1, c1, e1, -⟩ := r1
  simp only [List.cons.injEq, and_true] at e1
  obtain rfl := e1
  obtain ⟨a4, c4, e4, -⟩ := way_rd r4
  simp only [List.cons.injEq, and_true] at e4
  obtain ⟨rfl, rfl, rfl⟩ := e4
  obtain ⟨a5, c5, e5, -, -, -⟩ := r5
  simp only [List.cons.injEq, and_true] at e5
  obtain rfl := e5
  have G : w.heap[g]? = some (.cells #[.slice a0 x.1.1.length c0, .slice b0 x.1.2.length d0, .slice a1 x.2.1.length c1, .int .i64 x.2.2.1, .int .i64 x.2.2.2.1, .int .i64 x.2.2.2.2.1.1, .int .i64 x.2.2.2.2.1.2.1, .slice a4 x.2.2.2.2.1.2.2.length c4, .slice a5 x.2.2.2.2.2.length c5] 32 (0, 0)) := hbox
  clear r0 r4 hbox ho hk i2 i3
  obtain ⟨c, p, at_, ph, hh, t⟩ := x
  simp only at *
  obtain ⟨y0, y1, y2, y3, y4, y5, y6, y7, y8⟩ := cells_core G
  have gl := (Array.getElem?_eq_some_iff.1 G).1
  clear G
  by_cases hz : ph = 0
  · have hz2 : (ph != 0) = false := by simp [hz]
    have he : at_ = (p.length : Int) := by omega
    have he2 : (at_ == (p.length : Int)) = true := by simp [he]
    clear h hz he hat
    go_enter Tryz.func56, Tryz.ntmps56
    go_upto_region 1 with fail
    go_quiet (fail)
    go_wp2
    exact HE.out _ (be_drewN (Below.refl _ _) _)
  · have hz2 : (ph != 0) = true := by simp [hz]
    clear h hz hat
    go_enter Tryz.func56, Tryz.ntmps56
    go_upto_region 1 with fail
    go_quiet (fail)
    go_wp2
    exact HE.out _ (be_drewN (Below.refl _ _) _)
theorem l12Begin_u (S : Foot) (g : Nat) (cs : List Value) (x : CoreD) (id : Int) (w : World) (ho : coreR.own w S cs x) (hS : ∀ k, S k → k < w.heap.size) (hg : ¬ S g) (hbox : w.heap[g]? = some (.cells cs.toArray 32 (0, 0))) (hk : coreB x = true) (hid : In64 id) :
    Calls Tryz.prog 56 #[.pointer (some ⟨g, 0, none⟩), .int .i64 id] w fun e w' => BegP S g x id w e w' := by
  by_cases h0 : x.2.2.2.1 = 0
  · by_cases h1 : x.2.2.1 < (x.2.1.length : Int)
    · exact l12Begin_go S g cs x id w ho hS hg hbox hk hid h0 h1
    · exact l12Begin_no S g cs x id w ho hbox hk (.inr h1)
  · exact l12Begin_no S g cs x id w ho hbox hk (.inl h0)
set_option maxHeartbeats 16000000 in
set_option maxRecDepth 20000 in
theorem specBegun_u (cs : List Value) (x : CoreD) (id : Int) (w : World) (hr : coreR.rd w cs x) :
    Calls Tryz.prog 12 #[aggV cs, .int .i64 id] w fun e w' => ∃ ds0 ds1, e = .returned (.tuple #[aggV ds0, cell1 ds1, .int .i64 (begunI x id).2.2]) ∧ coreR.rd w' ds0 (begunI x id).1 ∧ msgsR.rd w' ds1 (begunI x id).2.1 ∧ Below w.heap.size w w' := by
  have HNO : Hid ((coreB x = true → betw id 0 3 = false) → _) := fun e => begun_no (x := x) (id := id) e
  have HGO : Hid (coreB x = true → betw id 0 3 = true → _) := fun e1 e2 => begun_go (x := x) (id := id) e1 e2
  have HOK : Hid (∀ W, Below w.heap.size w W → Calls Tryz.prog 16 #[aggV cs] W fun e w' => e = .returned (.bool (coreB x)) ∧ Below W.heap.size W w') := fun W hb => specCoreOk_u cs x W (rd_next hr hb)
  have HCP : Hid (∀ W, Below w.heap.size w W → coreB x = true → Calls Tryz.prog 55 #[aggV cs] W fun e w' => ∃ ds, e = .returned (aggV ds) ∧ MadeR coreR W w' ds x) := fun W hb hk => l12Copy_u cs x W (rd_next hr hb) hk
  have HBG : Hid (∀ (S : Foot) (g : Nat) (ds : List Value) (W : World), coreR.own W S ds x → (∀ k, S k → k < W.heap.size) → ¬ S g → W.heap[g]? = some (.cells ds.toArray 32 (0, 0)) → coreB x = true → betw id 0 3 = true → Calls Tryz.prog 56 #[.pointer (some ⟨g, 0, none⟩), .int .i64 id] W fun e w' => BegP S g x id W e w') := fun S g ds W ho hS hg hb hk hi => l12Begin_u S g ds x id W ho hS hg hb hk (by simp [betw] at hi; constructor <;> omega)
  obtain ⟨v0, v1, v2, v5, v6, v7, v8, rfl, r0, r1, i2, i3, r4, r5⟩ := core_rd hr
  obtain ⟨a0, c0, b0, d0, e0, -⟩ := cache_rd r0
  simp only [List.cons.injEq, and_true] at e0
  obtain ⟨rfl, rfl⟩ := e0
  obtain ⟨a1, c1, e1, -⟩ := r1
  simp only [List.cons.injEq, and_true] at e1
  obtain rfl := e1
  obtain ⟨a4, c4, e4, -⟩ := way_rd r4
  simp only [List.cons.injEq, and_true] at e4
  obtain ⟨rfl, rfl, rfl⟩ := e4
  obtain ⟨a5, c5, e5, -, -, -⟩ := r5
  simp only [List.cons.injEq, and_true] at e5
  obtain rfl := e5
  clear r0 r4 hr i2 i3
  obtain ⟨y9, hy9⟩ : ∃ y9, y9 = begunI x id := ⟨_, rfl⟩
  rw [← hy9] at HNO HGO ⊢
  clear hy9
  unfold BegP at HBG
  obtain ⟨b9, hb9⟩ : ∃ b9, b9 = beginS (toS x) id := ⟨_, rfl⟩
  rw [← hb9] at HBG HGO
  clear hb9
  obtain ⟨kk, hkk⟩ : ∃ kk, kk = coreB x := ⟨_, rfl⟩
  rw [← hkk] at HNO HGO HOK HCP HBG
  clear hkk
  have HCI : Hid (∀ W, Calls Tryz.prog 54 #[.int .i64 id, .int .i64 0, .int .i64 3] W fun e w' => e = .returned (.bool (betw id 0 3)) ∧ Below W.heap.size W w') := fun W => (l1In_any id 0 3 W).mono fun e w' ⟨q, r⟩ => ⟨q, be_eq r⟩
  generalize betw id 0 3 = ki at HNO HGO HBG HCI
  obtain ⟨c, p, at_, ph, h, t⟩ := x
  simp only at *
  rw [show aggV [.slice a0 c.1.length c0, .slice b0 c.2.length d0, .slice a1 p.length c1, .int .i64 at_, .int .i64 ph, .int .i64 h.1, .int .i64 h.2.1, .slice a4 h.2.2.length c4, .slice a5 t.length c5] = .agg #[.slice a0 c.1.length c0, .slice b0 c.2.length d0, .slice a1 p.length c1, .int .i64 at_, .int .i64 ph, .int .i64 h.1, .int .i64 h.2.1, .slice a4 h.2.2.length c4, .slice a5 t.length c5] from rfl] at HOK HCP ⊢
  have B := Below.refl w.heap.size w
  go_enter Tryz.func12, Tryz.ntmps12
  go_wp2_with fail
  have X := heap_at w (.cells #[.slice a0 c.1.length c0, .slice b0 c.2.length d0, .slice a1 p.length c1, .int .i64 at_, .int .i64 ph, .int .i64 h.1, .int .i64 h.2.1, .slice a4 h.2.2.length c4, .slice a5 t.length c5] 32)
  have bz := box_below w (.cells #[.slice a0 c.1.length c0, .slice b0 c.2.length d0, .slice a1 p.length c1, .int .i64 at_, .int .i64 ph, .int .i64 h.1, .int .i64 h.2.1, .slice a4 h.2.2.length c4, .slice a5 t.length c5] 32)
  have zX := alloc_len w (.cells #[.slice a0 c.1.length c0, .slice b0 c.2.length d0, .slice a1 p.length c1, .int .i64 at_, .int .i64 ph, .int .i64 h.1, .int .i64 h.2.1, .slice a4 h.2.2.length c4, .slice a5 t.length c5] 32)
  replace B := below_step B bz
  clear bz
  generalize w.alloc (.cells #[.slice a0 c.1.length c0, .slice b0 c.2.length d0, .slice a1 p.length c1, .int .i64 at_, .int .i64 ph, .int .i64 h.1, .int .i64 h.2.1, .slice a4 h.2.2.length c4, .slice a5 t.length c5] 32) = u1w at B X zX ⊢
  have zXa := Nat.le_of_eq zX
  have zXb := Nat.le_of_eq zX.symm
  clear zX
  have R := heap_at u1w (.cells #[.slice none 0 0, .slice none 0 0, .slice none 0 0, .int .i64 0, .int .i64 0, .int .i64 0, .int .i64 0, .slice none 0 0, .slice none 0 0] 32)
  have bz := box_below u1w (.cells #[.slice none 0 0, .slice none 0 0, .slice none 0 0, .int .i64 0, .int .i64 0, .int .i64 0, .int .i64 0, .slice none 0 0, .slice none 0 0] 32)
  have zR := alloc_len u1w (.cells #[.slice none 0 0, .slice none 0 0, .slice none 0 0, .int .i64 0, .int .i64 0, .int .i64 0, .int .i64 0, .slice none 0 0, .slice none 0 0] 32)
  rw [show u1w.heap.size = w.heap.size + 1 from by omega] at R
  replace B := below_step B bz
  replace X := row_keep bz X
  clear bz
  generalize u1w.alloc (.cells #[.slice none 0 0, .slice none 0 0, .slice none 0 0, .int .i64 0, .int .i64 0, .int .i64 0, .int .i64 0, .slice none 0 0, .slice none 0 0] 32) = u2w at B X R zR ⊢
  have zRa := Nat.le_of_eq zR
  have zRb := Nat.le_of_eq zR.symm
  clear zR
  refine (HOK.out _ B).mono ?_
  rintro e u3w ⟨rfl, bq⟩
  have tu3w : u2w.heap.size ≤ u3w.heap.size := bq.size
  replace B := below_step B bq
  replace X := row_keep bq X
  replace R := row_keep bq R
  clear bq
  cases kk
  · have hy := HNO.out (fun e => by cases e)
    subst hy
    clear HNO HGO HBG HCP
    obtain ⟨Xc0, Xc1, Xc2, Xc3, Xc4, Xc5, Xc6, Xc7, Xc8⟩ := cells_core X
    have Xlt := (Array.getElem?_eq_some_iff.1 X).1
    obtain ⟨Rc0, Rc1, Rc2, Rc3, Rc4, Rc5, Rc6, Rc7, Rc8⟩ := cells_core R
    have Rlt := (Array.getElem?_eq_some_iff.1 R).1
    obtain ⟨Rf0, Rf1, Rf2, Rf3, Rf4, Rf5, Rf6, Rf7, Rf8⟩ := froz_core R
    have HK : Hid _ := And.intro B (And.intro X (R))
    clear B X R
    go_wp2
    clear Xc0 Xc1 Xc2 Xc3 Xc4 Xc5 Xc6 Xc7 Xc8 Xlt Rc0 Rc1 Rc2 Rc3 Rc4 Rc5 Rc6 Rc7 Rc8 Rlt Rf0 Rf1 Rf2 Rf3 Rf4 Rf5 Rf6 Rf7 Rf8
    obtain ⟨B, X, R⟩ := HK.out
    clear HK
    have V2 := row_keep (box_below _ (.cells #[] 50)) (put_core (y0 := .slice none 0 0) (y1 := .slice none 0 0) (y2 := .slice none 0 0) (y3 := .int .i64 0) (y4 := .int .i64 0) (y5 := .int .i64 0) (y6 := .int .i64 0) (y7 := .slice none 0 0) (y8 := .slice none 0 0) R)
    obtain ⟨r0, r1, r2, r3, r4, r5, r6, r7, r8⟩ := cells_core V2
    have bsz := B.size
    have FB := below_step (below_setCs0 (g := w.heap.size + 1) (o := 0) (vs := [.slice none 0 0, .slice none 0 0, .slice none 0 0, .int .i64 0, .int .i64 0, .int .i64 0, .int .i64 0, .slice none 0 0, .slice none 0 0]) B (by omega)) (box_below _ (.cells #[] 50))
    simp only [setCs_cons, setCs_nil, Nat.reduceAdd] at FB
    clear B X R V2
    exact bodyPost_ret (v := .tuple #[.agg #[.slice none 0 0, .slice none 0 0, .slice none 0 0, .int .i64 0, .int .i64 0, .int .i64 0, .int .i64 0, .slice none 0 0, .slice none 0 0], .slice (some ⟨u3w.heap.size, 0, none⟩) 0 0, .int .i64 (-1)]) (by simp [results, Tryz.results12, go_sem, r0, r1, r2, r3, r4, r5, r6, r7, r8]) rfl ⟨[.slice none 0 0, .slice none 0 0, .slice none 0 0, .int .i64 0, .int .i64 0, .int .i64 0, .int .i64 0, .slice none 0 0, .slice none 0 0], [.slice (some ⟨u3w.heap.size, 0, none⟩) 0 0], rfl, coreR.own_rd (own_zero _ (fun _ => False)), rd_nothing _ _, FB⟩
  · cases ki
    · have hy := HNO.out (fun _ => rfl)
      subst hy
      clear HNO HGO HBG HCP
      obtain ⟨Xc0, Xc1, Xc2, Xc3, Xc4, Xc5, Xc6, Xc7, Xc8⟩ := cells_core X
      have Xlt := (Array.getElem?_eq_some_iff.1 X).1
      obtain ⟨Rc0, Rc1, Rc2, Rc3, Rc4, Rc5, Rc6, Rc7, Rc8⟩ := cells_core R
      have Rlt := (Array.getElem?_eq_some_iff.1 R).1
      go_wp2_with fail
      clear Xc0 Xc1 Xc2 Xc3 Xc4 Xc5 Xc6 Xc7 Xc8 Xlt Rc0 Rc1 Rc2 Rc3 Rc4 Rc5 Rc6 Rc7 Rc8 Rlt
      refine (HCI.out _).mono ?_
      rintro e u4w ⟨rfl, bq⟩
      have tu4w : u3w.heap.size ≤ u4w.heap.size := bq.size
      replace B := below_step B bq
      replace X := row_keep bq X
      replace R := row_keep bq R
      clear bq
      obtain ⟨Xc0, Xc1, Xc2, Xc3, Xc4, Xc5, Xc6, Xc7, Xc8⟩ := cells_core X
      have Xlt := (Array.getElem?_eq_some_iff.1 X).1
      obtain ⟨Rc0, Rc1, Rc2, Rc3, Rc4, Rc5, Rc6, Rc7, Rc8⟩ := cells_core R
      have Rlt := (Array.getElem?_eq_some_iff.1 R).1
      obtain ⟨Rf0, Rf1, Rf2, Rf3, Rf4, Rf5, Rf6, Rf7, Rf8⟩ := froz_core R
      have HK : Hid _ := And.intro B (And.intro X (R))
      clear B X R
      go_wp2
      clear Xc0 Xc1 Xc2 Xc3 Xc4 Xc5 Xc6 Xc7 Xc8 Xlt Rc0 Rc1 Rc2 Rc3 Rc4 Rc5 Rc6 Rc7 Rc8 Rlt Rf0 Rf1 Rf2 Rf3 Rf4 Rf5 Rf6 Rf7 Rf8
      obtain ⟨B, X, R⟩ := HK.out
      clear HK
      have V2 := row_keep (box_below _ (.cells #[] 50)) (put_core (y0 := .slice none 0 0) (y1 := .slice none 0 0) (y2 := .slice none 0 0) (y3 := .int .i64 0) (y4 := .int .i64 0) (y5 := .int .i64 0) (y6 := .int .i64 0) (y7 := .slice none 0 0) (y8 := .slice none 0 0) R)
      obtain ⟨r0, r1, r2, r3, r4, r5, r6, r7, r8⟩ := cells_core V2
      have bsz := B.size
      have FB := below_step (below_setCs0 (g := w.heap.size + 1) (o := 0) (vs := [.slice none 0 0, .slice none 0 0, .slice none 0 0, .int .i64 0, .int .i64 0, .int .i64 0, .int .i64 0, .slice none 0 0, .slice none 0 0]) B (by omega)) (box_below _ (.cells #[] 50))
      simp only [setCs_cons, setCs_nil, Nat.reduceAdd] at FB
      clear B X R V2
      exact bodyPost_ret (v := .tuple #[.agg #[.slice none 0 0, .slice none 0 0, .slice none 0 0, .int .i64 0, .int .i64 0, .int .i64 0, .int .i64 0, .slice none 0 0, .slice none 0 0], .slice (some ⟨u4w.heap.size, 0, none⟩) 0 0, .int .i64 (-1)]) (by simp [results, Tryz.results12, go_sem, r0, r1, r2, r3, r4, r5, r6, r7, r8]) rfl ⟨[.slice none 0 0, .slice none 0 0, .slice none 0 0, .int .i64 0, .int .i64 0, .int .i64 0, .int .i64 0, .slice none 0 0, .slice none 0 0], [.slice (some ⟨u4w.heap.size, 0, none⟩) 0 0], rfl, coreR.own_rd (own_zero _ (fun _ => False)), rd_nothing _ _, FB⟩
    · have hy := HGO.out (by first | rfl | trivial) (by first | rfl | trivial)
      subst hy
      clear HNO HGO
      obtain ⟨Xc0, Xc1, Xc2, Xc3, Xc4, Xc5, Xc6, Xc7, Xc8⟩ := cells_core X
      have Xlt := (Array.getElem?_eq_some_iff.1 X).1
      obtain ⟨Rc0, Rc1, Rc2, Rc3, Rc4, Rc5, Rc6, Rc7, Rc8⟩ := cells_core R
      have Rlt := (Array.getElem?_eq_some_iff.1 R).1
      go_wp2_with fail
      clear Xc0 Xc1 Xc2 Xc3 Xc4 Xc5 Xc6 Xc7 Xc8 Xlt Rc0 Rc1 Rc2 Rc3 Rc4 Rc5 Rc6 Rc7 Rc8 Rlt
      refine (HCI.out _).mono ?_
      rintro e u5w ⟨rfl, bq⟩
      have tu5w : u3w.heap.size ≤ u5w.heap.size := bq.size
      replace B := below_step B bq
      replace X := row_keep bq X
      replace R := row_keep bq R
      clear bq
      obtain ⟨Xc0, Xc1, Xc2, Xc3, Xc4, Xc5, Xc6, Xc7, Xc8⟩ := cells_core X
      have Xlt := (Array.getElem?_eq_some_iff.1 X).1
      obtain ⟨Rc0, Rc1, Rc2, Rc3, Rc4, Rc5, Rc6, Rc7, Rc8⟩ := cells_core R
      have Rlt := (Array.getElem?_eq_some_iff.1 R).1
      go_wp2_with fail
      clear Xc0 Xc1 Xc2 Xc3 Xc4 Xc5 Xc6 Xc7 Xc8 Xlt Rc0 Rc1 Rc2 Rc3 Rc4 Rc5 Rc6 Rc7 Rc8 Rlt
      refine (HCP.out _ B (by first | rfl | trivial)).mono ?_
      rintro e u6w ⟨ds, rfl, mm⟩
      obtain ⟨ka, kc, kb, kd, la, lc, ma, mc, na, nc, rfl⟩ := core_shape (coreR.own_rd mm.1)
      simp only
      rw [show aggV [.slice ka c.1.length kc, .slice kb c.2.length kd, .slice la p.length lc, .int .i64 at_, .int .i64 ph, .int .i64 h.1, .int .i64 h.2.1, .slice ma h.2.2.length mc, .slice na t.length nc] = .agg #[.slice ka c.1.length kc, .slice kb c.2.length kd, .slice la p.length lc, .int .i64 at_, .int .i64 ph, .int .i64 h.1, .int .i64 h.2.1, .slice ma h.2.2.length mc, .slice na t.length nc] from rfl]
      have K := owned_made (R := coreR) mm
      have mb := mm.2
      have tu6w : u5w.heap.size ≤ u6w.heap.size := mb.size
      replace B := below_step B mb
      replace X := row_keep mb X
      replace R := row_keep mb R
      clear mb mm
      obtain ⟨Xc0, Xc1, Xc2, Xc3, Xc4, Xc5, Xc6, Xc7, Xc8⟩ := cells_core X
      have Xlt := (Array.getElem?_eq_some_iff.1 X).1
      obtain ⟨Rc0, Rc1, Rc2, Rc3, Rc4, Rc5, Rc6, Rc7, Rc8⟩ := cells_core R
      have Rlt := (Array.getElem?_eq_some_iff.1 R).1
      go_upto_region 4 with fail
      clear Xc0 Xc1 Xc2 Xc3 Xc4 Xc5 Xc6 Xc7 Xc8 Xlt Rc0 Rc1 Rc2 Rc3 Rc4 Rc5 Rc6 Rc7 Rc8 Rlt
      have F := heap_at u6w (.cells #[.slice ka c.1.length kc, .slice kb c.2.length kd, .slice la p.length lc, .int .i64 at_, .int .i64 ph, .int .i64 h.1, .int .i64 h.2.1, .slice ma h.2.2.length mc, .slice na t.length nc] 32)
      have bz := box_below u6w (.cells #[.slice ka c.1.length kc, .slice kb c.2.length kd, .slice la p.length lc, .int .i64 at_, .int .i64 ph, .int .i64 h.1, .int .i64 h.2.1, .slice ma h.2.2.length mc, .slice na t.length nc] 32)
      have zF := alloc_len u6w (.cells #[.slice ka c.1.length kc, .slice kb c.2.length kd, .slice la p.length lc, .int .i64 at_, .int .i64 ph, .int .i64 h.1, .int .i64 h.2.1, .slice ma h.2.2.length mc, .slice na t.length nc] 32)
      replace B := below_step B bz
      replace X := row_keep bz X
      replace R := row_keep bz R
      replace K := owned_next K bz
      clear bz
      generalize u6w.alloc (.cells #[.slice ka c.1.length kc, .slice kb c.2.length kd, .slice la p.length lc, .int .i64 at_, .int .i64 ph, .int .i64 h.1, .int .i64 h.2.1, .slice ma h.2.2.length mc, .slice na t.length nc] 32) = u7w at B X R F K zF ⊢
      have zFa := Nat.le_of_eq zF
      have zFb := Nat.le_of_eq zF.symm
      clear zF
      obtain ⟨Xc0, Xc1, Xc2, Xc3, Xc4, Xc5, Xc6, Xc7, Xc8⟩ := cells_core X
      have Xlt := (Array.getElem?_eq_some_iff.1 X).1
      obtain ⟨Rc0, Rc1, Rc2, Rc3, Rc4, Rc5, Rc6, Rc7, Rc8⟩ := cells_core R
      have Rlt := (Array.getElem?_eq_some_iff.1 R).1
      obtain ⟨Fc0, Fc1, Fc2, Fc3, Fc4, Fc5, Fc6, Fc7, Fc8⟩ := cells_core F
      have Flt := (Array.getElem?_eq_some_iff.1 F).1
      go_wp2_with fail
      clear Xc0 Xc1 Xc2 Xc3 Xc4 Xc5 Xc6 Xc7 Xc8 Xlt Rc0 Rc1 Rc2 Rc3 Rc4 Rc5 Rc6 Rc7 Rc8 Rlt Fc0 Fc1 Fc2 Fc3 Fc4 Fc5 Fc6 Fc7 Fc8 Flt
      refine (HBG.out (rng (u5w.heap.size) (u6w.heap.size)) u6w.heap.size [.slice ka c.1.length kc, .slice kb c.2.length kd, .slice la p.length lc, .int .i64 at_, .int .i64 ph, .int .i64 h.1, .int .i64 h.2.1, .slice ma h.2.2.length mc, .slice na t.length nc] _ K.1 (fun k q => by have := q.2; have := K.2; omega) (fun q => by have := q.2; omega) F (by first | rfl | trivial) (by first | rfl | trivial)).mono ?_
      rintro e wd ⟨ds, ms, rfl, DO, DM, DG, DC⟩
      obtain ⟨n0, hn0⟩ : ∃ n0, n0 = ofS b9.1 := ⟨_, rfl⟩
      obtain ⟨m0, hm0⟩ : ∃ m0, m0 = b9.2.1 := ⟨_, rfl⟩
      rw [← hn0] at DO
      rw [← hm0] at DM
      obtain ⟨dga, dgc, dgb, dgd, dha, dhc, dia, dic, dja, djc, rfl⟩ := core_shape (coreR.own_rd DO)
      have dmm := msgsR.own_rd DM
      obtain ⟨sa, sc, ro, -, -, -⟩ := dmm
      simp only [List.cons.injEq, and_true] at ro
      obtain rfl := ro
      have szd := DC.size
      have bsz := B.size
      have ksz := K.2
      have R2 := (DC.block _ (Array.getElem?_eq_some_iff.1 R).1 (fun q => by rcases q with q | q; (have := q.1; omega); omega)).trans R
      obtain ⟨z0, z1, z2, z3, z4, z5, z6, z7, z8⟩ := cells_core R2
      obtain ⟨zf0, zf1, zf2, zf3, zf4, zf5, zf6, zf7, zf8⟩ := froz_core R2
      have zlt := (Array.getElem?_eq_some_iff.1 R2).1
      have DG2 : wd.heap[u6w.heap.size]? = some (.cells #[.slice dga n0.1.1.length dgc, .slice dgb n0.1.2.length dgd, .slice dha n0.2.1.length dhc, .int .i64 n0.2.2.1, .int .i64 n0.2.2.2.1, .int .i64 n0.2.2.2.2.1.1, .int .i64 n0.2.2.2.2.1.2.1, .slice dia n0.2.2.2.2.1.2.2.length dic, .slice dja n0.2.2.2.2.2.length djc] 32 (0, 0)) := DG
      obtain ⟨u0_, u1_, u2_, u3_, u4_, u5_, u6_, u7_, u8_⟩ := cells_core DG2
      have ult := (Array.getElem?_eq_some_iff.1 DG2).1
      have BD : Below w.heap.size w wd := DC.below B (fun k q => by rcases q with q | q; (have := q.1; omega); omega) (by omega)
      have HZ : Hid _ := And.intro DO (And.intro DM (And.intro R2 (And.intro BD (And.intro hn0 hm0))))
      clear DO DM DG DG2 DC R2 X R F K B BD hn0 hm0
      go_wp2
      obtain ⟨DO, DM, R2, BD, hn0, hm0⟩ := HZ.out
      obtain ⟨r0, r1, r2, r3, r4, r5, r6, r7, r8⟩ := cells_core (put_core (y0 := .slice dga n0.1.1.length dgc) (y1 := .slice dgb n0.1.2.length dgd) (y2 := .slice dha n0.2.1.length dhc) (y3 := .int .i64 n0.2.2.1) (y4 := .int .i64 n0.2.2.2.1) (y5 := .int .i64 n0.2.2.2.2.1.1) (y6 := .int .i64 n0.2.2.2.2.1.2.1) (y7 := .slice dia n0.2.2.2.2.1.2.2.length dic) (y8 := .slice dja n0.2.2.2.2.2.length djc) R2)
      have FO := coreR.own_rd (own_setCs (g := w.heap.size + 1) (o := 0) (vs := [.slice dga n0.1.1.length dgc, .slice dgb n0.1.2.length dgd, .slice dha n0.2.1.length dhc, .int .i64 n0.2.2.1, .int .i64 n0.2.2.2.1, .int .i64 n0.2.2.2.2.1.1, .int .i64 n0.2.2.2.2.1.2.1, .slice dia n0.2.2.2.2.1.2.2.length dic, .slice dja n0.2.2.2.2.2.length djc]) DO (fun q => by rcases q with q | q; (have := q.1; omega); (have := q.1; omega)))
      have FM := msgsR.own_rd (own_setCs (g := w.heap.size + 1) (o := 0) (vs := [.slice dga n0.1.1.length dgc, .slice dgb n0.1.2.length dgd, .slice dha n0.2.1.length dhc, .int .i64 n0.2.2.1, .int .i64 n0.2.2.2.1, .int .i64 n0.2.2.2.2.1.1, .int .i64 n0.2.2.2.2.1.2.1, .slice dia n0.2.2.2.2.1.2.2.length dic, .slice dja n0.2.2.2.2.2.length djc]) DM (fun q => by have := q.1; omega))
      have FB := below_setCs0 (g := w.heap.size + 1) (o := 0) (vs := [.slice dga n0.1.1.length dgc, .slice dgb n0.1.2.length dgd, .slice dha n0.2.1.length dhc, .int .i64 n0.2.2.1, .int .i64 n0.2.2.2.1, .int .i64 n0.2.2.2.2.1.1, .int .i64 n0.2.2.2.2.1.2.1, .slice dia n0.2.2.2.2.1.2.2.length dic, .slice dja n0.2.2.2.2.2.length djc]) BD (by omega)
      simp only [setCs_cons, setCs_nil, Nat.reduceAdd] at FO FB FM
      refine bodyPost_ret (v := .tuple #[.agg #[.slice dga n0.1.1.length dgc, .slice dgb n0.1.2.length dgd, .slice dha n0.2.1.length dhc, .int .i64 n0.2.2.1, .int .i64 n0.2.2.2.1, .int .i64 n0.2.2.2.2.1.1, .int .i64 n0.2.2.2.2.1.2.1, .slice dia n0.2.2.2.2.1.2.2.length dic, .slice dja n0.2.2.2.2.2.length djc], .slice sa m0.length sc, .int .i64 b9.2.2]) (by simp [results, Tryz.results12, go_sem, r0, r1, r2, r3, r4, r5, r6, r7, r8]) rfl ⟨[.slice dga n0.1.1.length dgc, .slice dgb n0.1.2.length dgd, .slice dha n0.2.1.length dhc, .int .i64 n0.2.2.1, .int .i64 n0.2.2.2.1, .int .i64 n0.2.2.2.2.1.1, .int .i64 n0.2.2.2.2.1.2.1, .slice dia n0.2.2.2.2.1.2.2.length dic, .slice dja n0.2.2.2.2.2.length djc], [.slice sa m0.length sc], rfl, ?_, ?_, FB⟩
      · show coreR.rd _ _ (ofS b9.1)
        rw [← hn0]
        exact FO
      · show msgsR.rd _ _ b9.2.1
        rw [← hm0]
        exact FM
end Go.Proofs.YthbclkpmgcfdnaaGreatDoor
