
/- Begun. -/
import Derived.Test.YthbclkpmgcfdnaaGreatDoorCoreBegin
import Derived.Test.YthbclkpmgcfdnaaGreatDoorNewCore
/- A core begins, of the program: the face. No condition but the table. -/
namespace Go.Proofs.YthbclkpmgcfdnaaGreatDoor
open Go.ChangeShapes Go.WideShapes Go.ChangeAt Go.RowKit
set_option linter.unusedVariables false
noncomputable def begunI (x : CoreD) (id : Int) : CoreD × List MsgD × Int := if coreB x && betw id 0 3 then (ofS (beginS (toS x) id).1, (beginS (toS x) id).2.1, (beginS (toS x) id).2.2) else (zeroC, [], -1)
theorem coreOk12_any (c : Int) (w : World) : Calls Tryz.prog 42 #[.int .i64 c] w fun e w' => e = .returned (.bool (betw c 0 3)) ∧ Below w.heap.size w w' := by
  go_enter Tryz.func42, Tryz.ntmps42
  go_wp2_with (go_at_call 104; refine (between_any _ _ _ _).mono ?_; rintro e w' ⟨rfl, rfl⟩)
  go_ret
  exact ⟨rfl, Below.refl _ _⟩
theorem begun_no {x : CoreD} {id : Int} (h : coreB x = true → betw id 0 3 = false) : begunI x id = (zeroC, [], -1) := by
  unfold begunI
  cases hc : coreB x
  · rfl
  · rw [h hc]; rfl
theorem begun_idle {x : CoreD} {id : Int} (hc : coreB x = true) (hi : betw id 0 3 = true) (h : x.2.2.2.1 ≠ 0 ∨ ¬ x.2.2.1 < (x.2.1.length : Int)) : begunI x id = (x, [], 0) := by
  unfold begunI
  rw [hc, hi]
  have hb : beginS (toS x) id = (toS x, [], 0) := by
    unfold beginS
    rw [if_pos]
    rcases h with h | h
    · exact .inl h
    · refine .inr ?_
      have h1 : x.2.2.1 ≤ (x.2.1.length : Int) := (core_p hc).at1
      show x.2.2.1 = (x.2.1.length : Int)
      omega
  rw [hb]
  rfl
theorem begun_go {x : CoreD} {id : Int} (hc : coreB x = true) (hi : betw id 0 3 = true) : begunI x id = (ofS (beginS (toS x) id).1, (beginS (toS x) id).2.1, (beginS (toS x) id).2.2) := by
  unfold begunI
  rw [hc, hi]
  rfl
set_option maxHeartbeats 16000000 in
set_option maxRecDepth 20000 in
theorem implBegun_u (cs : List Value) (x : CoreD) (id : Int) (w : World) (hh : Hold w) (hr : coreR.rd w cs x) :
    Calls Tryz.prog 9 #[aggV cs, .int .i64 id] w fun e w' => ∃ ds0 ds1, e = .returned (.tuple #[aggV ds0, cell1 ds1, .int .i64 (begunI x id).2.2]) ∧ ds0.length = coreR.size ∧ MadeR (prodR coreR msgsR) w w' (ds0 ++ ds1) ((begunI x id).1, (begunI x id).2.1) := by
  have HNO : Hid ((coreB x = true → betw id 0 3 = false) → _) := fun e => begun_no (x := x) (id := id) e
  have HID : Hid (coreB x = true → betw id 0 3 = true → _ → _) := fun e1 e2 e3 => begun_idle (x := x) (id := id) e1 e2 e3
  have HGO : Hid (coreB x = true → betw id 0 3 = true → _) := fun e1 e2 => begun_go (x := x) (id := id) e1 e2
  have HOK : Hid (∀ W, Below w.heap.size w W → Calls Tryz.prog 15 #[aggV cs] W fun e w' => e = .returned (.bool (coreB x)) ∧ Below W.heap.size W w') := fun W hb => implCoreOk_u cs x W (rd_next hr hb)
  have HCP : Hid (∀ W, Below w.heap.size w W → coreB x = true → Calls Tryz.prog 43 #[aggV cs] W fun e w' => ∃ ds, e = .returned (aggV ds) ∧ MadeR coreR W w' ds x) := fun W hb hk => implCoreCopied_u cs x W (rd_next hr hb) hk
  have HHO : Hid (∀ W, Below w.heap.size w W → Calls Tryz.prog 44 #[aggV cs] W fun e w' => e = .returned (.bool (decide (x.2.2.1 < (x.2.1.length : Int)))) ∧ Below W.heap.size W w') := fun W hb => implHasOp_u cs x W (rd_next hr hb)
  have HBG : Hid (∀ (S : Foot) (ds : List Value) (W : World), Below w.heap.size w W → coreR.own W S ds x → (∀ k, S k → k < W.heap.size) → coreB x = true → betw id 0 3 = true → x.2.2.2.1 = 0 → x.2.2.1 < x.2.1.length → Calls Tryz.prog 45 #[aggV ds, .int .i64 id] W fun e w' => ∃ es ms, e = .returned (.tuple #[aggV es, ms, .int .i64 (beginS (toS x) id).2.2]) ∧ es.length = coreR.size ∧ (prodR coreR msgsR).own w' (fun k => S k ∨ (W.heap.size ≤ k ∧ k < w'.heap.size)) (es ++ [ms]) (ofS (beginS (toS x) id).1, (beginS (toS x) id).2.1) ∧ Chg S W w') := fun S ds W hb ho hS hk hi h0 h1 => implBegin_u S ds x id W (hh.to hb) ho hS hk (by simp [betw] at hi; constructor <;> omega) h0 h1
  obtain ⟨v0, v1, v2, v5, v6, v7, v8, rfl, r0, r1, i2, i3, r4, r5⟩ := core_rd hr
  obtain ⟨a0, c0, b0, d0, e0, -⟩ := cache_rd r0
  simp only [List.cons.injEq, and_true] at e0
  obtain ⟨rfl, rfl⟩ := e0
  obtain ⟨a1, c1, e1, -⟩ := r1
  simp only [List.cons.injEq, and_true] at e1
  obtain rfl := e1
  obtain ⟨a4, c4, e4, -⟩ := way_rd r4
  simp only [List.cons.injEq, and_true] at e4
  obtain ⟨rfl, rfl, rfl⟩ := e4
  obtain ⟨a5, c5, e5, -⟩ := r5
  simp only [List.cons.injEq, and_true] at e5
  obtain rfl := e5
  clear r0 r4 hr i2 i3
  obtain ⟨y9, hy9⟩ : ∃ y9, y9 = begunI x id := ⟨_, rfl⟩
  rw [← hy9] at HNO HID HGO ⊢
  clear hy9
  obtain ⟨b9, hb9⟩ : ∃ b9, b9 = beginS (toS x) id := ⟨_, rfl⟩
  rw [← hb9] at HBG HGO
  clear hb9
  obtain ⟨kk, hkk⟩ : ∃ kk, kk = coreB x := ⟨_, rfl⟩
  rw [← hkk] at HNO HID HGO HOK HCP HBG
  clear hkk
  have HCI : Hid (∀ W, Calls Tryz.prog 42 #[.int .i64 id] W fun e w' => e = .returned (.bool (betw id 0 3)) ∧ Below W.heap.size W w') := fun W => coreOk12_any id W
  generalize betw id 0 3 = ki at HNO HID HGO HBG HCI
  obtain ⟨c, p, at_, ph, h, t⟩ := x
  simp only at *
  rw [show aggV [.slice a0 c.1.length c0, .slice b0 c.2.length d0, .slice a1 p.length c1, .int .i64 at_, .int .i64 ph, .int .i64 h.1, .int .i64 h.2.1, .slice a4 h.2.2.length c4, .slice a5 t.length c5] = .agg #[.slice a0 c.1.length c0, .slice b0 c.2.length d0, .slice a1 p.length c1, .int .i64 at_, .int .i64 ph, .int .i64 h.1, .int .i64 h.2.1, .slice a4 h.2.2.length c4, .slice a5 t.length c5] from rfl] at HOK HCP HHO ⊢
  have B := Below.refl w.heap.size w
  go_enter Tryz.func9, Tryz.ntmps9
  go_wp2_with fail
  have X := heap_at w (.cells #[.slice a0 c.1.length c0, .slice b0 c.2.length d0, .slice a1 p.length c1, .int .i64 at_, .int .i64 ph, .int .i64 h.1, .int .i64 h.2.1, .slice a4 h.2.2.length c4, .slice a5 t.length c5] 32)
  have bz := box_below w (.cells #[.slice a0 c.1.length c0, .slice b0 c.2.length d0, .slice a1 p.length c1, .int .i64 at_, .int .i64 ph, .int .i64 h.1, .int .i64 h.2.1, .slice a4 h.2.2.length c4, .slice a5 t.length c5] 32)
  have zX := alloc_len w (.cells #[.slice a0 c.1.length c0, .slice b0 c.2.length d0, .slice a1 p.length c1, .int .i64 at_, .int .i64 ph, .int .i64 h.1, .int .i64 h.2.1, .slice a4 h.2.2.length c4, .slice a5 t.length c5] 32)
  replace B := below_step B bz
  clear bz
  generalize w.alloc (.cells #[.slice a0 c.1.length c0, .slice b0 c.2.length d0, .slice a1 p.length c1, .int .i64 at_, .int .i64 ph, .int .i64 h.1, .int .i64 h.2.1, .slice a4 h.2.2.length c4, .slice a5 t.length c5] 32) = u1w at B X zX ⊢
  have zXa := Nat.le_of_eq zX
  have zXb := Nat.le_of_eq zX.symm
  clear zX
  have R := heap_at u1w (.cells #[.slice none 0 0, .slice none 0 0, .slice none 0 0, .int .i64 0, .int .i64 0, .int .i64 0, .int .i64 0, .slice none 0 0, .slice none 0 0] 32)
  have bz := box_below u1w (.cells #[.slice none 0 0, .slice none 0 0, .slice none 0 0, .int .i64 0, .int .i64 0, .int .i64 0, .int .i64 0, .slice none 0 0, .slice none 0 0] 32)
  have zR := alloc_len u1w (.cells #[.slice none 0 0, .slice none 0 0, .slice none 0 0, .int .i64 0, .int .i64 0, .int .i64 0, .int .i64 0, .slice none 0 0, .slice none 0 0] 32)
  rw [show u1w.heap.size = w.heap.size + 1 from by omega] at R
  replace B := below_step B bz
  replace X := row_keep bz X
  clear bz
  generalize u1w.alloc (.cells #[.slice none 0 0, .slice none 0 0, .slice none 0 0, .int .i64 0, .int .i64 0, .int .i64 0, .int .i64 0, .slice none 0 0, .slice none 0 0] 32) = u2w at B X R zR ⊢
  have zRa := Nat.le_of_eq zR
  have zRb := Nat.le_of_eq zR.symm
  clear zR
  refine (HOK.out _ B).mono ?_
  rintro e u3w ⟨rfl, bq⟩
  have tu3w : u2w.heap.size ≤ u3w.heap.size := bq.size
  replace B := below_step B bq
  replace X := row_keep bq X
  replace R := row_keep bq R
  clear bq
  cases kk
  · have hy := HNO.out (fun e => by cases e)
    subst hy
    clear HNO HID HGO HBG HCP HHO
    obtain ⟨Xc0, Xc1, Xc2, Xc3, Xc4, Xc5, Xc6, Xc7, Xc8⟩ := cells_core X
    have Xlt := (Array.getElem?_eq_some_iff.1 X).1
    obtain ⟨Rc0, Rc1, Rc2, Rc3, Rc4, Rc5, Rc6, Rc7, Rc8⟩ := cells_core R
    have Rlt := (Array.getElem?_eq_some_iff.1 R).1
    obtain ⟨Rf0, Rf1, Rf2, Rf3, Rf4, Rf5, Rf6, Rf7, Rf8⟩ := froz_core R
    have HK : Hid _ := And.intro B (And.intro X (R))
    clear B X R
    go_wp2
    clear Xc0 Xc1 Xc2 Xc3 Xc4 Xc5 Xc6 Xc7 Xc8 Xlt Rc0 Rc1 Rc2 Rc3 Rc4 Rc5 Rc6 Rc7 Rc8 Rlt Rf0 Rf1 Rf2 Rf3 Rf4 Rf5 Rf6 Rf7 Rf8
    obtain ⟨B, X, R⟩ := HK.out
    clear HK
    have V2 := row_keep (box_below _ (.cells #[] 50)) (put_core (y0 := .slice none 0 0) (y1 := .slice none 0 0) (y2 := .slice none 0 0) (y3 := .int .i64 0) (y4 := .int .i64 0) (y5 := .int .i64 0) (y6 := .int .i64 0) (y7 := .slice none 0 0) (y8 := .slice none 0 0) R)
    obtain ⟨r0, r1, r2, r3, r4, r5, r6, r7, r8⟩ := cells_core V2
    have bsz := B.size
    have FS : (setCs u3w (w.heap.size + 1) 0 [.slice none 0 0, .slice none 0 0, .slice none 0 0, .int .i64 0, .int .i64 0, .int .i64 0, .int .i64 0, .slice none 0 0, .slice none 0 0]).heap.size = u3w.heap.size := setCs_size _ _ _
    have CO := core_none (w := w) (own_zero (setCs u3w (w.heap.size + 1) 0 [.slice none 0 0, .slice none 0 0, .slice none 0 0, .int .i64 0, .int .i64 0, .int .i64 0, .int .i64 0, .slice none 0 0, .slice none 0 0]) (fun _ => False)) (fun k q => q.elim)
    rw [FS] at CO
    have FM : MadeR (prodR coreR msgsR) w ((setCs u3w (w.heap.size + 1) 0 [.slice none 0 0, .slice none 0 0, .slice none 0 0, .int .i64 0, .int .i64 0, .int .i64 0, .int .i64 0, .slice none 0 0, .slice none 0 0]).alloc (.cells #[] 50)) ([.slice none 0 0, .slice none 0 0, .slice none 0 0, .int .i64 0, .int .i64 0, .int .i64 0, .int .i64 0, .slice none 0 0, .slice none 0 0] ++ [.slice (some ⟨u3w.heap.size, 0, none⟩) 0 0]) (zeroC, []) := ⟨(prodR coreR msgsR).own_mono CO (fun k q => by rcases q with q | q; exact q.elim; exact ⟨by have := q.1; omega, q.2⟩), below_step (below_setCs0 (g := w.heap.size + 1) (o := 0) (vs := [.slice none 0 0, .slice none 0 0, .slice none 0 0, .int .i64 0, .int .i64 0, .int .i64 0, .int .i64 0, .slice none 0 0, .slice none 0 0]) B (by omega)) (box_below _ _)⟩
    simp only [setCs_cons, setCs_nil, Nat.reduceAdd] at FM
    clear B X R V2 CO FS
    exact bodyPost_ret (v := .tuple #[.agg #[.slice none 0 0, .slice none 0 0, .slice none 0 0, .int .i64 0, .int .i64 0, .int .i64 0, .int .i64 0, .slice none 0 0, .slice none 0 0], .slice (some ⟨u3w.heap.size, 0, none⟩) 0 0, .int .i64 (-1)]) (by simp [results, Tryz.results9, go_sem, r0, r1, r2, r3, r4, r5, r6, r7, r8]) rfl ⟨[.slice none 0 0, .slice none 0 0, .slice none 0 0, .int .i64 0, .int .i64 0, .int .i64 0, .int .i64 0, .slice none 0 0, .slice none 0 0], [.slice (some ⟨u3w.heap.size, 0, none⟩) 0 0], rfl, rfl, FM⟩
  · cases ki
    · have hy := HNO.out (fun _ => rfl)
      subst hy
      clear HNO HID HGO HBG HCP HHO
      obtain ⟨Xc0, Xc1, Xc2, Xc3, Xc4, Xc5, Xc6, Xc7, Xc8⟩ := cells_core X
      have Xlt := (Array.getElem?_eq_some_iff.1 X).1
      obtain ⟨Rc0, Rc1, Rc2, Rc3, Rc4, Rc5, Rc6, Rc7, Rc8⟩ := cells_core R
      have Rlt := (Array.getElem?_eq_some_iff.1 R).1
      go_wp2_with fail
      clear Xc0 Xc1 Xc2 Xc3 Xc4 Xc5 Xc6 Xc7 Xc8 Xlt Rc0 Rc1 Rc2 Rc3 Rc4 Rc5 Rc6 Rc7 Rc8 Rlt
      refine (HCI.out _).mono ?_
      rintro e u4w ⟨rfl, bq⟩
      have tu4w : u3w.heap.size ≤ u4w.heap.size := bq.size
      replace B := below_step B bq
      replace X := row_keep bq X
      replace R := row_keep bq R
      clear bq
      obtain ⟨Xc0, Xc1, Xc2, Xc3, Xc4, Xc5, Xc6, Xc7, Xc8⟩ := cells_core X
      have Xlt := (Array.getElem?_eq_some_iff.1 X).1
      obtain ⟨Rc0, Rc1, Rc2, Rc3, Rc4, Rc5, Rc6, Rc7, Rc8⟩ := cells_core R
      have Rlt := (Array.getElem?_eq_some_iff.1 R).1
      obtain ⟨Rf0, Rf1, Rf2, Rf3, Rf4, Rf5, Rf6, Rf7, Rf8⟩ := froz_core R
      have HK : Hid _ := And.intro B (And.intro X (R))
      clear B X R
      go_wp2
      clear Xc0 Xc1 Xc2 Xc3 Xc4 Xc5 Xc6 Xc7 Xc8 Xlt Rc0 Rc1 Rc2 Rc3 Rc4 Rc5 Rc6 Rc7 Rc8 Rlt Rf0 Rf1 Rf2 Rf3 Rf4 Rf5 Rf6 Rf7 Rf8
      obtain ⟨B, X, R⟩ := HK.out
      clear HK
      have V2 := row_keep (box_below _ (.cells #[] 50)) (put_core (y0 := .slice none 0 0) (y1 := .slice none 0 0) (y2 := .slice none 0 0) (y3 := .int .i64 0) (y4 := .int .i64 0) (y5 := .int .i64 0) (y6 := .int .i64 0) (y7 := .slice none 0 0) (y8 := .slice none 0 0) R)
      obtain ⟨r0, r1, r2, r3, r4, r5, r6, r7, r8⟩ := cells_core V2
      have bsz := B.size
      have FS : (setCs u4w (w.heap.size + 1) 0 [.slice none 0 0, .slice none 0 0, .slice none 0 0, .int .i64 0, .int .i64 0, .int .i64 0, .int .i64 0, .slice none 0 0, .slice none 0 0]).heap.size = u4w.heap.size := setCs_size _ _ _
      have CO := core_none (w := w) (own_zero (setCs u4w (w.heap.size + 1) 0 [.slice none 0 0, .slice none 0 0, .slice none 0 0, .int .i64 0, .int .i64 0, .int .i64 0, .int .i64 0, .slice none 0 0, .slice none 0 0]) (fun _ => False)) (fun k q => q.elim)
      rw [FS] at CO
      have FM : MadeR (prodR coreR msgsR) w ((setCs u4w (w.heap.size + 1) 0 [.slice none 0 0, .slice none 0 0, .slice none 0 0, .int .i64 0, .int .i64 0, .int .i64 0, .int .i64 0, .slice none 0 0, .slice none 0 0]).alloc (.cells #[] 50)) ([.slice none 0 0, .slice none 0 0, .slice none 0 0, .int .i64 0, .int .i64 0, .int .i64 0, .int .i64 0, .slice none 0 0, .slice none 0 0] ++ [.slice (some ⟨u4w.heap.size, 0, none⟩) 0 0]) (zeroC, []) := ⟨(prodR coreR msgsR).own_mono CO (fun k q => by rcases q with q | q; exact q.elim; exact ⟨by have := q.1; omega, q.2⟩), below_step (below_setCs0 (g := w.heap.size + 1) (o := 0) (vs := [.slice none 0 0, .slice none 0 0, .slice none 0 0, .int .i64 0, .int .i64 0, .int .i64 0, .int .i64 0, .slice none 0 0, .slice none 0 0]) B (by omega)) (box_below _ _)⟩
      simp only [setCs_cons, setCs_nil, Nat.reduceAdd] at FM
      clear B X R V2 CO FS
      exact bodyPost_ret (v := .tuple #[.agg #[.slice none 0 0, .slice none 0 0, .slice none 0 0, .int .i64 0, .int .i64 0, .int .i64 0, .int .i64 0, .slice none 0 0, .slice none 0 0], .slice (some ⟨u4w.heap.size, 0, none⟩) 0 0, .int .i64 (-1)]) (by simp [results, Tryz.results9, go_sem, r0, r1, r2, r3, r4, r5, r6, r7, r8]) rfl ⟨[.slice none 0 0, .slice none 0 0, .slice none 0 0, .int .i64 0, .int .i64 0, .int .i64 0, .int .i64 0, .slice none 0 0, .slice none 0 0], [.slice (some ⟨u4w.heap.size, 0, none⟩) 0 0], rfl, rfl, FM⟩
    · clear HNO
      obtain ⟨Xc0, Xc1, Xc2, Xc3, Xc4, Xc5, Xc6, Xc7, Xc8⟩ := cells_core X
      have Xlt := (Array.getElem?_eq_some_iff.1 X).1
      obtain ⟨Rc0, Rc1, Rc2, Rc3, Rc4, Rc5, Rc6, Rc7, Rc8⟩ := cells_core R
      have Rlt := (Array.getElem?_eq_some_iff.1 R).1
      go_wp2_with fail
      clear Xc0 Xc1 Xc2 Xc3 Xc4 Xc5 Xc6 Xc7 Xc8 Xlt Rc0 Rc1 Rc2 Rc3 Rc4 Rc5 Rc6 Rc7 Rc8 Rlt
      refine (HCI.out _).mono ?_
      rintro e u5w ⟨rfl, bq⟩
      have tu5w : u3w.heap.size ≤ u5w.heap.size := bq.size
      replace B := below_step B bq
      replace X := row_keep bq X
      replace R := row_keep bq R
      clear bq
      obtain ⟨Xc0, Xc1, Xc2, Xc3, Xc4, Xc5, Xc6, Xc7, Xc8⟩ := cells_core X
      have Xlt := (Array.getElem?_eq_some_iff.1 X).1
      obtain ⟨Rc0, Rc1, Rc2, Rc3, Rc4, Rc5, Rc6, Rc7, Rc8⟩ := cells_core R
      have Rlt := (Array.getElem?_eq_some_iff.1 R).1
      go_wp2_with fail
      clear Xc0 Xc1 Xc2 Xc3 Xc4 Xc5 Xc6 Xc7 Xc8 Xlt Rc0 Rc1 Rc2 Rc3 Rc4 Rc5 Rc6 Rc7 Rc8 Rlt
      refine (HCP.out _ B (by first | rfl | trivial)).mono ?_
      rintro e u6w ⟨ds, rfl, mm⟩
      obtain ⟨ka, kc, kb, kd, la, lc, ma, mc, na, nc, rfl⟩ := core_shape (coreR.own_rd mm.1)
      simp only
      rw [show aggV [.slice ka c.1.length kc, .slice kb c.2.length kd, .slice la p.length lc, .int .i64 at_, .int .i64 ph, .int .i64 h.1, .int .i64 h.2.1, .slice ma h.2.2.length mc, .slice na t.length nc] = .agg #[.slice ka c.1.length kc, .slice kb c.2.length kd, .slice la p.length lc, .int .i64 at_, .int .i64 ph, .int .i64 h.1, .int .i64 h.2.1, .slice ma h.2.2.length mc, .slice na t.length nc] from rfl]
      have K := owned_made (R := coreR) mm
      have mb := mm.2
      have tu6w : u5w.heap.size ≤ u6w.heap.size := mb.size
      replace B := below_step B mb
      replace X := row_keep mb X
      replace R := row_keep mb R
      clear mb mm
      obtain ⟨Xc0, Xc1, Xc2, Xc3, Xc4, Xc5, Xc6, Xc7, Xc8⟩ := cells_core X
      have Xlt := (Array.getElem?_eq_some_iff.1 X).1
      obtain ⟨Rc0, Rc1, Rc2, Rc3, Rc4, Rc5, Rc6, Rc7, Rc8⟩ := cells_core R
      have Rlt := (Array.getElem?_eq_some_iff.1 R).1
      go_upto_region 4 with fail
      clear Xc0 Xc1 Xc2 Xc3 Xc4 Xc5 Xc6 Xc7 Xc8 Xlt Rc0 Rc1 Rc2 Rc3 Rc4 Rc5 Rc6 Rc7 Rc8 Rlt
      have F := heap_at u6w (.cells #[.slice ka c.1.length kc, .slice kb c.2.length kd, .slice la p.length lc, .int .i64 at_, .int .i64 ph, .int .i64 h.1, .int .i64 h.2.1, .slice ma h.2.2.length mc, .slice na t.length nc] 32)
      have bz := box_below u6w (.cells #[.slice ka c.1.length kc, .slice kb c.2.length kd, .slice la p.length lc, .int .i64 at_, .int .i64 ph, .int .i64 h.1, .int .i64 h.2.1, .slice ma h.2.2.length mc, .slice na t.length nc] 32)
      have zF := alloc_len u6w (.cells #[.slice ka c.1.length kc, .slice kb c.2.length kd, .slice la p.length lc, .int .i64 at_, .int .i64 ph, .int .i64 h.1, .int .i64 h.2.1, .slice ma h.2.2.length mc, .slice na t.length nc] 32)
      replace B := below_step B bz
      replace X := row_keep bz X
      replace R := row_keep bz R
      replace K := owned_next K bz
      clear bz
      generalize u6w.alloc (.cells #[.slice ka c.1.length kc, .slice kb c.2.length kd, .slice la p.length lc, .int .i64 at_, .int .i64 ph, .int .i64 h.1, .int .i64 h.2.1, .slice ma h.2.2.length mc, .slice na t.length nc] 32) = u7w at B X R F K zF ⊢
      have zFa := Nat.le_of_eq zF
      have zFb := Nat.le_of_eq zF.symm
      clear zF
      by_cases hz : ph = 0
      · have hz2 : (ph != 0) = false := by simp [hz]
        have HZ0 : Hid (ph = 0) := hz
        clear hz
        obtain ⟨Xc0, Xc1, Xc2, Xc3, Xc4, Xc5, Xc6, Xc7, Xc8⟩ := cells_core X
        have Xlt := (Array.getElem?_eq_some_iff.1 X).1
        obtain ⟨Rc0, Rc1, Rc2, Rc3, Rc4, Rc5, Rc6, Rc7, Rc8⟩ := cells_core R
        have Rlt := (Array.getElem?_eq_some_iff.1 R).1
        obtain ⟨Fc0, Fc1, Fc2, Fc3, Fc4, Fc5, Fc6, Fc7, Fc8⟩ := cells_core F
        have Flt := (Array.getElem?_eq_some_iff.1 F).1
        go_wp2_with fail
        clear Xc0 Xc1 Xc2 Xc3 Xc4 Xc5 Xc6 Xc7 Xc8 Xlt Rc0 Rc1 Rc2 Rc3 Rc4 Rc5 Rc6 Rc7 Rc8 Rlt Fc0 Fc1 Fc2 Fc3 Fc4 Fc5 Fc6 Fc7 Fc8 Flt
        refine (HHO.out _ B).mono ?_
        rintro e u8w ⟨rfl, bq⟩
        have tu8w : u7w.heap.size ≤ u8w.heap.size := bq.size
        replace B := below_step B bq
        replace X := row_keep bq X
        replace R := row_keep bq R
        replace F := row_keep bq F
        replace K := owned_next K bq
        clear bq
        by_cases ho : at_ < (p.length : Int)
        · rw [decide_eq_true ho]
          have hy := HGO.out (by first | rfl | trivial) (by first | rfl | trivial)
          subst hy
          clear HGO HID
          obtain ⟨Xc0, Xc1, Xc2, Xc3, Xc4, Xc5, Xc6, Xc7, Xc8⟩ := cells_core X
          have Xlt := (Array.getElem?_eq_some_iff.1 X).1
          obtain ⟨Rc0, Rc1, Rc2, Rc3, Rc4, Rc5, Rc6, Rc7, Rc8⟩ := cells_core R
          have Rlt := (Array.getElem?_eq_some_iff.1 R).1
          obtain ⟨Fc0, Fc1, Fc2, Fc3, Fc4, Fc5, Fc6, Fc7, Fc8⟩ := cells_core F
          have Flt := (Array.getElem?_eq_some_iff.1 F).1
          go_wp2_with fail
          clear Xc0 Xc1 Xc2 Xc3 Xc4 Xc5 Xc6 Xc7 Xc8 Xlt Rc0 Rc1 Rc2 Rc3 Rc4 Rc5 Rc6 Rc7 Rc8 Rlt Fc0 Fc1 Fc2 Fc3 Fc4 Fc5 Fc6 Fc7 Fc8 Flt
          refine (HBG.out (rng (u5w.heap.size) (u6w.heap.size)) [.slice ka c.1.length kc, .slice kb c.2.length kd, .slice la p.length lc, .int .i64 at_, .int .i64 ph, .int .i64 h.1, .int .i64 h.2.1, .slice ma h.2.2.length mc, .slice na t.length nc] _ B K.1 (fun k q => by have := q.2; have := K.2; omega) (by first | rfl | trivial) (by first | rfl | trivial) HZ0.out ho).mono ?_
          rintro e wd ⟨es, ms, rfl, hlen, DO, DC⟩
          have pr := pair_rd ((prodR coreR msgsR).own_rd DO) hlen
          obtain ⟨n0, hn0⟩ : ∃ n0, n0 = ofS b9.1 := ⟨_, rfl⟩
          obtain ⟨m0, hm0⟩ : ∃ m0, m0 = b9.2.1 := ⟨_, rfl⟩
          rw [← hn0, ← hm0] at DO pr
          obtain ⟨dga, dgc, dgb, dgd, dha, dhc, dia, dic, dja, djc, rfl⟩ := core_shape pr.1
          obtain ⟨sa, sc, ro, -, -, -⟩ := pr.2
          simp only [List.cons.injEq, and_true] at ro
          obtain rfl := ro
          rw [show aggV [.slice dga n0.1.1.length dgc, .slice dgb n0.1.2.length dgd, .slice dha n0.2.1.length dhc, .int .i64 n0.2.2.1, .int .i64 n0.2.2.2.1, .int .i64 n0.2.2.2.2.1.1, .int .i64 n0.2.2.2.2.1.2.1, .slice dia n0.2.2.2.2.1.2.2.length dic, .slice dja n0.2.2.2.2.2.length djc] = .agg #[.slice dga n0.1.1.length dgc, .slice dgb n0.1.2.length dgd, .slice dha n0.2.1.length dhc, .int .i64 n0.2.2.1, .int .i64 n0.2.2.2.1, .int .i64 n0.2.2.2.2.1.1, .int .i64 n0.2.2.2.2.1.2.1, .slice dia n0.2.2.2.2.1.2.2.length dic, .slice dja n0.2.2.2.2.2.length djc] from rfl]
          have szd := DC.size
          have bsz := B.size
          have ksz := K.2
          have R2 := (DC.block _ (Array.getElem?_eq_some_iff.1 R).1 (fun q => by have := q.1; omega)).trans R
          obtain ⟨z0, z1, z2, z3, z4, z5, z6, z7, z8⟩ := cells_core R2
          obtain ⟨zf0, zf1, zf2, zf3, zf4, zf5, zf6, zf7, zf8⟩ := froz_core R2
          have zlt := (Array.getElem?_eq_some_iff.1 R2).1
          have HZ : Hid _ := And.intro DO (And.intro DC (And.intro R2 (And.intro B (And.intro hn0 hm0))))
          clear DO DC R2 X R F K B hn0 hm0 pr
          go_wp2
          obtain ⟨DO, DC, R2, B, hn0, hm0⟩ := HZ.out
          obtain ⟨r0, r1, r2, r3, r4, r5, r6, r7, r8⟩ := cells_core (put_core (y0 := .slice dga n0.1.1.length dgc) (y1 := .slice dgb n0.1.2.length dgd) (y2 := .slice dha n0.2.1.length dhc) (y3 := .int .i64 n0.2.2.1) (y4 := .int .i64 n0.2.2.2.1) (y5 := .int .i64 n0.2.2.2.2.1.1) (y6 := .int .i64 n0.2.2.2.2.1.2.1) (y7 := .slice dia n0.2.2.2.2.1.2.2.length dic) (y8 := .slice dja n0.2.2.2.2.2.length djc) R2)
          have FS : (setCs wd (w.heap.size + 1) 0 [.slice dga n0.1.1.length dgc, .slice dgb n0.1.2.length dgd, .slice dha n0.2.1.length dhc, .int .i64 n0.2.2.1, .int .i64 n0.2.2.2.1, .int .i64 n0.2.2.2.2.1.1, .int .i64 n0.2.2.2.2.1.2.1, .slice dia n0.2.2.2.2.1.2.2.length dic, .slice dja n0.2.2.2.2.2.length djc]).heap.size = wd.heap.size := setCs_size _ _ _
          have FM : MadeR (prodR coreR msgsR) w (setCs wd (w.heap.size + 1) 0 [.slice dga n0.1.1.length dgc, .slice dgb n0.1.2.length dgd, .slice dha n0.2.1.length dhc, .int .i64 n0.2.2.1, .int .i64 n0.2.2.2.1, .int .i64 n0.2.2.2.2.1.1, .int .i64 n0.2.2.2.2.1.2.1, .slice dia n0.2.2.2.2.1.2.2.length dic, .slice dja n0.2.2.2.2.2.length djc]) ([.slice dga n0.1.1.length dgc, .slice dgb n0.1.2.length dgd, .slice dha n0.2.1.length dhc, .int .i64 n0.2.2.1, .int .i64 n0.2.2.2.1, .int .i64 n0.2.2.2.2.1.1, .int .i64 n0.2.2.2.2.1.2.1, .slice dia n0.2.2.2.2.1.2.2.length dic, .slice dja n0.2.2.2.2.2.length djc] ++ [.slice sa m0.length sc]) (n0, m0) := ⟨(prodR coreR msgsR).own_mono (own_setCs (g := w.heap.size + 1) (o := 0) (vs := [.slice dga n0.1.1.length dgc, .slice dgb n0.1.2.length dgd, .slice dha n0.2.1.length dhc, .int .i64 n0.2.2.1, .int .i64 n0.2.2.2.1, .int .i64 n0.2.2.2.2.1.1, .int .i64 n0.2.2.2.2.1.2.1, .slice dia n0.2.2.2.2.1.2.2.length dic, .slice dja n0.2.2.2.2.2.length djc]) DO (fun q => by rcases q with q | q; (have := q.1; omega); (have := q.1; omega))) (fun k q => by refine ⟨?_, ?_⟩; (rcases q with q | q; (have := q.1; omega); (have := q.1; omega)); (rw [FS]; rcases q with q | q; (have := q.2; omega); exact q.2)), below_setCs0 (g := w.heap.size + 1) (o := 0) (vs := [.slice dga n0.1.1.length dgc, .slice dgb n0.1.2.length dgd, .slice dha n0.2.1.length dhc, .int .i64 n0.2.2.1, .int .i64 n0.2.2.2.1, .int .i64 n0.2.2.2.2.1.1, .int .i64 n0.2.2.2.2.1.2.1, .slice dia n0.2.2.2.2.1.2.2.length dic, .slice dja n0.2.2.2.2.2.length djc]) (DC.below B (fun k q => by have := q.1; omega) (by omega)) (by omega)⟩
          simp only [setCs_cons, setCs_nil, Nat.reduceAdd] at FM
          clear DO DC R2 B FS HZ
          refine bodyPost_ret (v := .tuple #[.agg #[.slice dga n0.1.1.length dgc, .slice dgb n0.1.2.length dgd, .slice dha n0.2.1.length dhc, .int .i64 n0.2.2.1, .int .i64 n0.2.2.2.1, .int .i64 n0.2.2.2.2.1.1, .int .i64 n0.2.2.2.2.1.2.1, .slice dia n0.2.2.2.2.1.2.2.length dic, .slice dja n0.2.2.2.2.2.length djc], .slice sa m0.length sc, .int .i64 b9.2.2]) (by simp [results, Tryz.results9, go_sem, r0, r1, r2, r3, r4, r5, r6, r7, r8]) rfl ⟨[.slice dga n0.1.1.length dgc, .slice dgb n0.1.2.length dgd, .slice dha n0.2.1.length dhc, .int .i64 n0.2.2.1, .int .i64 n0.2.2.2.1, .int .i64 n0.2.2.2.2.1.1, .int .i64 n0.2.2.2.2.1.2.1, .slice dia n0.2.2.2.2.1.2.2.length dic, .slice dja n0.2.2.2.2.2.length djc], [.slice sa m0.length sc], rfl, rfl, ?_⟩
          show MadeR (prodR coreR msgsR) w _ _ (ofS b9.1, b9.2.1)
          rw [← hn0, ← hm0]
          exact FM
        · rw [decide_eq_false ho]
          have hy := HID.out (by first | rfl | trivial) (by first | rfl | trivial) (.inr (by omega))
          subst hy
          clear HGO HID HBG
          obtain ⟨Xc0, Xc1, Xc2, Xc3, Xc4, Xc5, Xc6, Xc7, Xc8⟩ := cells_core X
          have Xlt := (Array.getElem?_eq_some_iff.1 X).1
          obtain ⟨Rc0, Rc1, Rc2, Rc3, Rc4, Rc5, Rc6, Rc7, Rc8⟩ := cells_core R
          have Rlt := (Array.getElem?_eq_some_iff.1 R).1
          obtain ⟨Rf0, Rf1, Rf2, Rf3, Rf4, Rf5, Rf6, Rf7, Rf8⟩ := froz_core R
          obtain ⟨Fc0, Fc1, Fc2, Fc3, Fc4, Fc5, Fc6, Fc7, Fc8⟩ := cells_core F
          have Flt := (Array.getElem?_eq_some_iff.1 F).1
          have HK : Hid _ := And.intro B (And.intro X (And.intro R (And.intro F (K))))
          clear B X R F K
          go_wp2
          clear Xc0 Xc1 Xc2 Xc3 Xc4 Xc5 Xc6 Xc7 Xc8 Xlt Rc0 Rc1 Rc2 Rc3 Rc4 Rc5 Rc6 Rc7 Rc8 Rlt Rf0 Rf1 Rf2 Rf3 Rf4 Rf5 Rf6 Rf7 Rf8 Fc0 Fc1 Fc2 Fc3 Fc4 Fc5 Fc6 Fc7 Fc8 Flt
          obtain ⟨B, X, R, F, K⟩ := HK.out
          clear HK
          have V2 := row_keep (box_below _ (.cells #[] 50)) (put_core (y0 := .slice ka c.1.length kc) (y1 := .slice kb c.2.length kd) (y2 := .slice la p.length lc) (y3 := .int .i64 at_) (y4 := .int .i64 ph) (y5 := .int .i64 h.1) (y6 := .int .i64 h.2.1) (y7 := .slice ma h.2.2.length mc) (y8 := .slice na t.length nc) R)
          obtain ⟨r0, r1, r2, r3, r4, r5, r6, r7, r8⟩ := cells_core V2
          have bsz := B.size
          have ksz := K.2
          have FS : (setCs u8w (w.heap.size + 1) 0 [.slice ka c.1.length kc, .slice kb c.2.length kd, .slice la p.length lc, .int .i64 at_, .int .i64 ph, .int .i64 h.1, .int .i64 h.2.1, .slice ma h.2.2.length mc, .slice na t.length nc]).heap.size = u8w.heap.size := setCs_size _ _ _
          have CO := core_none (w := w) (own_setCs (g := w.heap.size + 1) (o := 0) (vs := [.slice ka c.1.length kc, .slice kb c.2.length kd, .slice la p.length lc, .int .i64 at_, .int .i64 ph, .int .i64 h.1, .int .i64 h.2.1, .slice ma h.2.2.length mc, .slice na t.length nc]) K.1 (fun q => by have := q.1; omega)) (fun k q => by rw [FS]; have := q.2; omega)
          rw [FS] at CO
          have FM : MadeR (prodR coreR msgsR) w ((setCs u8w (w.heap.size + 1) 0 [.slice ka c.1.length kc, .slice kb c.2.length kd, .slice la p.length lc, .int .i64 at_, .int .i64 ph, .int .i64 h.1, .int .i64 h.2.1, .slice ma h.2.2.length mc, .slice na t.length nc]).alloc (.cells #[] 50)) ([.slice ka c.1.length kc, .slice kb c.2.length kd, .slice la p.length lc, .int .i64 at_, .int .i64 ph, .int .i64 h.1, .int .i64 h.2.1, .slice ma h.2.2.length mc, .slice na t.length nc] ++ [.slice (some ⟨u8w.heap.size, 0, none⟩) 0 0]) ((c, p, at_, ph, h, t), []) := ⟨(prodR coreR msgsR).own_mono CO (fun k q => by rcases q with q | q; exact ⟨by have := q.1; omega, by rw [alloc_len, FS]; have := q.2; omega⟩; exact ⟨by have := q.1; omega, q.2⟩), below_step (below_setCs0 (g := w.heap.size + 1) (o := 0) (vs := [.slice ka c.1.length kc, .slice kb c.2.length kd, .slice la p.length lc, .int .i64 at_, .int .i64 ph, .int .i64 h.1, .int .i64 h.2.1, .slice ma h.2.2.length mc, .slice na t.length nc]) B (by omega)) (box_below _ _)⟩
          simp only [setCs_cons, setCs_nil, Nat.reduceAdd] at FM
          clear B X R F K V2 CO FS
          exact bodyPost_ret (v := .tuple #[.agg #[.slice ka c.1.length kc, .slice kb c.2.length kd, .slice la p.length lc, .int .i64 at_, .int .i64 ph, .int .i64 h.1, .int .i64 h.2.1, .slice ma h.2.2.length mc, .slice na t.length nc], .slice (some ⟨u8w.heap.size, 0, none⟩) 0 0, .int .i64 0]) (by simp [results, Tryz.results9, go_sem, r0, r1, r2, r3, r4, r5, r6, r7, r8]) rfl ⟨[.slice ka c.1.length kc, .slice kb c.2.length kd, .slice la p.length lc, .int .i64 at_, .int .i64 ph, .int .i64 h.1, .int .i64 h.2.1, .slice ma h.2.2.length mc, .slice na t.length nc], [.slice (some ⟨u8w.heap.size, 0, none⟩) 0 0], rfl, rfl, FM⟩
      · have hz2 : (ph != 0) = true := by simp [hz]
        have hy := HID.out (by first | rfl | trivial) (by first | rfl | trivial) (.inl hz)
        subst hy
        clear HGO HID HBG HHO hz
        obtain ⟨Xc0, Xc1, Xc2, Xc3, Xc4, Xc5, Xc6, Xc7, Xc8⟩ := cells_core X
        have Xlt := (Array.getElem?_eq_some_iff.1 X).1
        obtain ⟨Rc0, Rc1, Rc2, Rc3, Rc4, Rc5, Rc6, Rc7, Rc8⟩ := cells_core R
        have Rlt := (Array.getElem?_eq_some_iff.1 R).1
        obtain ⟨Rf0, Rf1, Rf2, Rf3, Rf4, Rf5, Rf6, Rf7, Rf8⟩ := froz_core R
        obtain ⟨Fc0, Fc1, Fc2, Fc3, Fc4, Fc5, Fc6, Fc7, Fc8⟩ := cells_core F
        have Flt := (Array.getElem?_eq_some_iff.1 F).1
        have HK : Hid _ := And.intro B (And.intro X (And.intro R (And.intro F (K))))
        clear B X R F K
        go_wp2
        clear Xc0 Xc1 Xc2 Xc3 Xc4 Xc5 Xc6 Xc7 Xc8 Xlt Rc0 Rc1 Rc2 Rc3 Rc4 Rc5 Rc6 Rc7 Rc8 Rlt Rf0 Rf1 Rf2 Rf3 Rf4 Rf5 Rf6 Rf7 Rf8 Fc0 Fc1 Fc2 Fc3 Fc4 Fc5 Fc6 Fc7 Fc8 Flt
        obtain ⟨B, X, R, F, K⟩ := HK.out
        clear HK
        have V2 := row_keep (box_below _ (.cells #[] 50)) (put_core (y0 := .slice ka c.1.length kc) (y1 := .slice kb c.2.length kd) (y2 := .slice la p.length lc) (y3 := .int .i64 at_) (y4 := .int .i64 ph) (y5 := .int .i64 h.1) (y6 := .int .i64 h.2.1) (y7 := .slice ma h.2.2.length mc) (y8 := .slice na t.length nc) R)
        obtain ⟨r0, r1, r2, r3, r4, r5, r6, r7, r8⟩ := cells_core V2
        have bsz := B.size
        have ksz := K.2
        have FS : (setCs u7w (w.heap.size + 1) 0 [.slice ka c.1.length kc, .slice kb c.2.length kd, .slice la p.length lc, .int .i64 at_, .int .i64 ph, .int .i64 h.1, .int .i64 h.2.1, .slice ma h.2.2.length mc, .slice na t.length nc]).heap.size = u7w.heap.size := setCs_size _ _ _
        have CO := core_none (w := w) (own_setCs (g := w.heap.size + 1) (o := 0) (vs := [.slice ka c.1.length kc, .slice kb c.2.length kd, .slice la p.length lc, .int .i64 at_, .int .i64 ph, .int .i64 h.1, .int .i64 h.2.1, .slice ma h.2.2.length mc, .slice na t.length nc]) K.1 (fun q => by have := q.1; omega)) (fun k q => by rw [FS]; have := q.2; omega)
        rw [FS] at CO
        have FM : MadeR (prodR coreR msgsR) w ((setCs u7w (w.heap.size + 1) 0 [.slice ka c.1.length kc, .slice kb c.2.length kd, .slice la p.length lc, .int .i64 at_, .int .i64 ph, .int .i64 h.1, .int .i64 h.2.1, .slice ma h.2.2.length mc, .slice na t.length nc]).alloc (.cells #[] 50)) ([.slice ka c.1.length kc, .slice kb c.2.length kd, .slice la p.length lc, .int .i64 at_, .int .i64 ph, .int .i64 h.1, .int .i64 h.2.1, .slice ma h.2.2.length mc, .slice na t.length nc] ++ [.slice (some ⟨u7w.heap.size, 0, none⟩) 0 0]) ((c, p, at_, ph, h, t), []) := ⟨(prodR coreR msgsR).own_mono CO (fun k q => by rcases q with q | q; exact ⟨by have := q.1; omega, by rw [alloc_len, FS]; have := q.2; omega⟩; exact ⟨by have := q.1; omega, q.2⟩), below_step (below_setCs0 (g := w.heap.size + 1) (o := 0) (vs := [.slice ka c.1.length kc, .slice kb c.2.length kd, .slice la p.length lc, .int .i64 at_, .int .i64 ph, .int .i64 h.1, .int .i64 h.2.1, .slice ma h.2.2.length mc, .slice na t.length nc]) B (by omega)) (box_below _ _)⟩
        simp only [setCs_cons, setCs_nil, Nat.reduceAdd] at FM
        clear B X R F K V2 CO FS
        exact bodyPost_ret (v := .tuple #[.agg #[.slice ka c.1.length kc, .slice kb c.2.length kd, .slice la p.length lc, .int .i64 at_, .int .i64 ph, .int .i64 h.1, .int .i64 h.2.1, .slice ma h.2.2.length mc, .slice na t.length nc], .slice (some ⟨u7w.heap.size, 0, none⟩) 0 0, .int .i64 0]) (by simp [results, Tryz.results9, go_sem, r0, r1, r2, r3, r4, r5, r6, r7, r8]) rfl ⟨[.slice ka c.1.length kc, .slice kb c.2.length kd, .slice la p.length lc, .int .i64 at_, .int .i64 ph, .int .i64 h.1, .int .i64 h.2.1, .slice ma h.2.2.length mc, .slice na t.length nc], [.slice (some ⟨u7w.heap.size, 0, none⟩) 0 0], rfl, rfl, FM⟩
end Go.Proofs.YthbclkpmgcfdnaaGreatDoor
