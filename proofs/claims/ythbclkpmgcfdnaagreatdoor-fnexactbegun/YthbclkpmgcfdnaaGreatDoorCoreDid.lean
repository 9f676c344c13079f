
/- CoreDid. -/
import Derived.Test.YthbclkpmgcfdnaaGreatDoorCoreSmall
import Derived.Test.YthbclkpmgcfdnaaGreatDoorJLines614Iters
import Derived.Test.YthbclkpmgcfdnaaGreatDoorJChange8Own
import Derived.BigRegion
import Derived.Deep.DeepCutAuto
/- The next op is done to what is there, of the program. Conditions: a right core with an op left, a way that is whole and in a state that lets it be done. -/
namespace Go.Proofs.YthbclkpmgcfdnaaGreatDoor
open Go.ChangeShapes Go.WideShapes Go.ChangeAt Go.RowKit
set_option linter.unusedVariables false
theorem froz_3 {w : World} {g : Nat} {cs : Array Value} {t : TypeId} (h : w.heap[g]? = some (.cells cs t (0, 0))) : w.frozen? ⟨g, 0, none⟩ = false ∧ w.frozen? ⟨g, 1, none⟩ = false ∧ w.frozen? ⟨g, 2, none⟩ = false :=
  ⟨frozen_of_row w g 0 _ _ h, frozen_of_row w g 1 _ _ h, frozen_of_row w g 2 _ _ h⟩
theorem chg_setNew {S : Foot} {w W : World} {g o : Nat} {vs : List Value} (h : Chg S w W) (hg : w.heap.size ≤ g) : Chg S w (setCs W g o vs) := by
  have c := chg_setCs vs o W (g := g)
  exact ⟨c.os.trans h.os, c.tape.trans h.tape, c.output.trans h.output, Nat.le_trans h.size c.size, fun k hk hn => (c.block k (Nat.lt_of_lt_of_le hk h.size) (fun e => by have : k = g := e; omega)).trans (h.block k hk hn)⟩
noncomputable def didU (o : OpD) (u : WayD) : WayD := (u.1, (if opWr o then 3 else u.2.1), u.2.2.set (o.2.1 % 2).toNat (opDo o (u.2.2.getD (o.2.1 % 2).toNat 0)).1)
noncomputable def didX (x : CoreD) (u : WayD) : CoreD := ((fillI x.1 (didU (opAt (toS x)) u)).1, x.2.1, x.2.2.1 + 1, x.2.2.2.1, x.2.2.2.2.1, x.2.2.2.2.2 ++ [(opDo (opAt (toS x)) (u.2.2.getD ((opAt (toS x)).2.1 % 2).toNat 0)).2])
theorem isL_64 {d : List Int} (h : isL d = true) : ∀ x ∈ d, In64 x := by
  obtain ⟨a, b, rfl, h1, h2⟩ := line_two h
  intro x hx
  simp only [List.mem_cons, List.not_mem_nil, or_false] at hx
  rcases hx with rfl | rfl <;> constructor <;> omega
theorem isL_get {d : List Int} (h : isL d = true) (k : Nat) : okW (d.getD k 0) = true := by
  obtain ⟨a, b, rfl, h1, h2⟩ := line_two h
  match k with
  | 0 => simp [okW, betw]; omega
  | 1 => simp [okW, betw]; omega
  | k + 2 => simp [okW, betw]
set_option maxHeartbeats 16000000 in
set_option maxRecDepth 20000 in
theorem implDid_u (S : Foot) (cs us : List Value) (x : CoreD) (u : WayD) (w : World) (ho : coreR.own w S cs x) (hS : ∀ k, S k → k < w.heap.size) (hu : wayR.rd w us u) (hk : coreB x = true) (h1 : x.2.2.1 < x.2.1.length) (hf : fullB isL u = true) (ha : asksI u.2.1 (opWr (opAt (toS x))) = 0) :
    Calls Tryz.prog 113 #[aggV cs, aggV us] w fun e w' => ∃ ds, e = .returned (aggV ds) ∧ coreR.own w' (fun k => S k ∨ (w.heap.size ≤ k ∧ k < w'.heap.size)) ds (didX x u) ∧ Chg S w w' := by
  have hp := core_p hk
  have hia := i64_at hk
  have hat0 : 0 ≤ x.2.2.1 := hp.at0
  have hok : OkC isL treeB x.1 := hp.ok
  have hlp : x.2.1.length ≤ 30 := hp.len
  have hlt := told_len hk
  have hoo : opOkD (opAt (toS x)) = true := hp.ops _ (op_mem hp.at0 h1)
  have KO : Hid (∀ W, Below w.heap.size w W → Calls Tryz.prog 108 #[aggV cs] W fun e w' => e = .returned (.agg #[.int .i64 (opAt (toS x)).1, .int .i64 (opAt (toS x)).2.1, .int .i64 (opAt (toS x)).2.2.1, .int .i64 (opAt (toS x)).2.2.2]) ∧ Below W.heap.size W w') := fun W hb => implOp_u cs x W (rd_next (coreR.own_rd ho) hb) hat0 h1
  unfold didX didU
  obtain ⟨o, hoe⟩ : ∃ o, o = opAt (toS x) := ⟨_, rfl⟩
  rw [← hoe] at KO hoo ha ⊢
  clear hp hk hoe
  obtain ⟨fu1, fu2, fu3⟩ := full_parts hf
  obtain ⟨hq0, hq1⟩ := addr_in hoo
  obtain ⟨kq, hkq⟩ : ∃ kq, kq = o.2.1 % 2 := ⟨_, rfl⟩
  have hkb : betw kq 0 1 = true := by simp [betw]; omega
  obtain ⟨z, hz⟩ : ∃ z, z = u.2.2.getD kq.toNat 0 := ⟨_, rfl⟩
  have hzo : okW z = true := by rw [hz]; exact isL_get fu3 _
  have hzw : wordI u.2.2 kq = z := by unfold wordI; rw [if_pos fu3, if_pos hkb, hz]
  obtain ⟨th, hth⟩ : ∃ th, th = (opDo o z).1 := ⟨_, rfl⟩
  obtain ⟨td, htd⟩ : ∃ td, td = (opDo o z).2 := ⟨_, rfl⟩
  have hzr : 0 ≤ z ∧ z ≤ 9999 := by simpa [okW, betw] using hzo
  have htr := then_ok hoo hzr
  have hto : okW th = true := by rw [hth]; simp [okW, betw]; omega
  have htd64 : In64 td := by rw [htd]; unfold opDo opTold; constructor <;> (simp only; split <;> omega)
  have hdk : doneOk o.1 o.2.1 o.2.2.1 o.2.2.2 z = true := by unfold doneOk; rw [hzo, Bool.and_true]; exact hoo
  rw [← hkq, ← hz, ← hth, ← htd]
  obtain ⟨d2, hd2⟩ : ∃ d2, d2 = u.2.2.set kq.toNat th := ⟨_, rfl⟩
  have hdl : d2.length = u.2.2.length := by rw [hd2]; simp
  have hd2L : isL d2 = true := by rw [hd2, hth, hz, hkq]; exact lineDo_ok hoo fu3
  have hd2l : d2.length = 2 := isL_len hd2L
  obtain ⟨s2, hs2⟩ : ∃ s2 : Int, s2 = (if opWr o then 3 else u.2.1) := ⟨_, rfl⟩
  have hs2n : nextI u.2.1 (if opWr o then 2 else 1) = some s2 := by
    rw [hs2]
    unfold asksI at ha
    rw [if_pos (by simp [betw]; omega)] at ha
    have h123 : u.2.1 = 1 ∨ u.2.1 = 2 ∨ u.2.1 = 3 := by omega
    cases hw : opWr o
    · rcases h123 with e | e | e <;> rw [e] <;> decide
    · rw [hw] at ha
      rcases h123 with e | e | e
      · rw [e] at ha; exact absurd ha (by decide)
      · rw [e]; decide
      · rw [e]; decide
  have hs2r : In64 s2 := by rw [hs2]; split <;> constructor <;> omega
  rw [← hd2, ← hs2]
  obtain ⟨v0, v1, v2, v5, v6, v7, v8, S0, S1, S4, S5, rfl, i2, i3, o0, o1, o4, o5, sb0, sb1, sb4, sb5, d01, d04, d05, d14, d15, d45⟩ := core_own ho
  have r0 := cacheR.own_rd o0
  obtain ⟨a0, c0, b0, d0, e0, -⟩ := cache_rd r0
  simp only [List.cons.injEq, and_true] at e0
  obtain ⟨rfl, rfl⟩ := e0
  obtain ⟨a1, c1, e1, -⟩ := opsR.own_rd o1
  simp only [List.cons.injEq, and_true] at e1
  obtain rfl := e1
  obtain ⟨a4, c4, e4, -⟩ := way_rd (wayR.own_rd o4)
  simp only [List.cons.injEq, and_true] at e4
  obtain ⟨rfl, rfl, rfl⟩ := e4
  obtain ⟨a5, c5, e5, -⟩ := intsR.own_rd o5
  simp only [List.cons.injEq, and_true] at e5
  obtain rfl := e5
  obtain ⟨au, cu, rfl, iu1, iu2, -, -, qu⟩ := way_rd hu
  obtain ⟨c, p, at_, ph, h, t⟩ := x
  simp only at *
  rw [show aggV [.slice a0 c.1.length c0, .slice b0 c.2.length d0, .slice a1 p.length c1, .int .i64 at_, .int .i64 ph, .int .i64 h.1, .int .i64 h.2.1, .slice a4 h.2.2.length c4, .slice a5 t.length c5] = .agg #[.slice a0 c.1.length c0, .slice b0 c.2.length d0, .slice a1 p.length c1, .int .i64 at_, .int .i64 ph, .int .i64 h.1, .int .i64 h.2.1, .slice a4 h.2.2.length c4, .slice a5 t.length c5] from rfl] at KO ⊢
  rw [show aggV [.int .i64 u.1, .int .i64 u.2.1, .slice au u.2.2.length cu] = .agg #[.int .i64 u.1, .int .i64 u.2.1, .slice au u.2.2.length cu] from rfl]
  have HW1 : Hid (∀ W, Calls Tryz.prog 158 #[.agg #[.int .i64 o.1, .int .i64 o.2.1, .int .i64 o.2.2.1, .int .i64 o.2.2.2]] W fun e w' => e = .returned (.int .i64 kq) ∧ Below W.heap.size W w') := fun W => by rw [hkq]; exact implWord_u o W hoo
  have HW2 : Hid (∀ W, Below w.heap.size w W → Calls Tryz.prog 157 #[.slice au u.2.2.length cu, .int .i64 kq] W fun e w' => e = .returned (.int .i64 z) ∧ Below W.heap.size W w') := fun W hb => by rw [← hzw]; exact implWordAt_any au u.2.2 cu kq W (reads_of (slrd_next qu hb))
  have HD : Hid (∀ W, Calls Tryz.prog 156 #[.agg #[.int .i64 o.1, .int .i64 o.2.1, .int .i64 o.2.2.1, .int .i64 o.2.2.2], .int .i64 z] W fun e w' => e = .returned (.tuple #[.int .i64 th, .int .i64 td]) ∧ Below W.heap.size W w') := fun W => by have := implDone_any o.1 o.2.1 o.2.2.1 o.2.2.2 z W; unfold opThenD opToldD at this; rw [if_pos hdk, if_pos hdk] at this; rw [hth, htd]; exact this
  have HP : Hid (∀ W, Below w.heap.size w W → Calls Tryz.prog 159 #[.slice au u.2.2.length cu, .int .i64 kq, .int .i64 th] W fun e w' => ∃ pa pc, e = .returned (.tuple #[.slice pa d2.length pc, .bool true]) ∧ MadeR intsR W w' [.slice pa d2.length pc] d2) := fun W hb => by
    have e1 : putL u.2.2 kq th = d2 := by unfold putL; rw [if_pos fu3, if_pos hkb, if_pos hto, hd2]
    have e2 : putB u.2.2 kq th = true := by unfold putB; rw [fu3, hkb, hto]; rfl
    refine (implPut_any au u.2.2 cu kq th W (reads_of (slrd_next qu hb))).mono ?_
    rintro e w' ⟨v, rfl, m⟩
    rw [e1] at m
    rw [e2]
    have M := madeR_ints m (isL_64 hd2L)
    obtain ⟨pa, pc, rfl⟩ := slown_val M.1
    exact ⟨pa, pc, rfl, M⟩
  have HE : Hid (∀ W, Calls Tryz.prog 161 #[.agg #[.int .i64 o.1, .int .i64 o.2.1, .int .i64 o.2.2.1, .int .i64 o.2.2.2]] W fun e w' => e = .returned (.int .i64 (if opWr o then 2 else 1)) ∧ Below W.heap.size W w') := fun W => implEvent_u o W
  obtain ⟨ev, hev⟩ : ∃ ev : Int, ev = (if opWr o then 2 else 1) := ⟨_, rfl⟩
  rw [← hev] at HE hs2n
  have HN : Hid (∀ W, Calls Tryz.prog 160 #[.int .i64 u.2.1, .int .i64 ev] W fun e w' => e = .returned (.tuple #[.int .i64 s2, .bool true]) ∧ Below W.heap.size W w') := fun W => by have := implNext_any u.2.1 ev W (WalkArith.wf_i64 (by omega)) (by rw [hev]; split <;> exact WalkArith.wf_i64 (by omega)); unfold nextV at this; rw [hs2n] at this; exact this
  have HF : Hid (∀ W pa pc, Below w.heap.size w W → intsR.rd W [.slice pa d2.length pc] d2 → Calls Tryz.prog 162 #[.agg #[.slice a0 c.1.length c0, .slice b0 c.2.length d0], .agg #[.int .i64 u.1, .int .i64 s2, .slice pa d2.length pc]] W fun e w' => ∃ ds, e = .returned (.tuple #[aggV ds, .bool (fillI c (u.1, s2, d2)).2]) ∧ MadeR cacheR W w' ds (fillI c (u.1, s2, d2)).1) := fun W pa pc hb hr => implFilled_u [.slice a0 c.1.length c0, .slice b0 c.2.length d0] [.int .i64 u.1, .int .i64 s2, .slice pa d2.length pc] c (u.1, s2, d2) W (rd_next r0 hb) ⟨[_], [_, _], rfl, ⟨rfl, iu1⟩, [_], [_], rfl, ⟨rfl, hs2r⟩, hr⟩ (by show d2.length ≤ 1048576; omega)
  generalize fillI c (u.1, s2, d2) = fc at HF ⊢
  have HOW : Hid _ := And.intro o1 (And.intro o4 (And.intro o5 (And.intro sb0 (And.intro sb1 (And.intro sb4 (And.intro sb5 (And.intro d01 (And.intro d04 (And.intro d05 (And.intro d14 (And.intro d15 d45)))))))))))
  have HSS : Hid _ := hS
  have HDL : Hid (d2.length = 2) := hd2l
  clear hdl hd2l
  clear ho hu r0 qu o0 o1 o4 o5 sb0 sb1 sb4 sb5 d01 d04 d05 d14 d15 d45 hS ha hf hs2n hoo hok hzw hdk fu3 hd2L hkq hz hth htd hd2 hs2 hev hq0 hq1 hkb hzo hto htr hzr fu1 fu2
  have B := Below.refl w.heap.size w
  go_enter Tryz.func113, Tryz.ntmps113
  go_wp2_with fail
  have X := heap_at w (.cells #[.slice a0 c.1.length c0, .slice b0 c.2.length d0, .slice a1 p.length c1, .int .i64 at_, .int .i64 ph, .int .i64 h.1, .int .i64 h.2.1, .slice a4 h.2.2.length c4, .slice a5 t.length c5] 32)
  have bz := box_below w (.cells #[.slice a0 c.1.length c0, .slice b0 c.2.length d0, .slice a1 p.length c1, .int .i64 at_, .int .i64 ph, .int .i64 h.1, .int .i64 h.2.1, .slice a4 h.2.2.length c4, .slice a5 t.length c5] 32)
  have zX := alloc_len w (.cells #[.slice a0 c.1.length c0, .slice b0 c.2.length d0, .slice a1 p.length c1, .int .i64 at_, .int .i64 ph, .int .i64 h.1, .int .i64 h.2.1, .slice a4 h.2.2.length c4, .slice a5 t.length c5] 32)
  replace B := below_step B bz
  clear bz
  generalize w.alloc (.cells #[.slice a0 c.1.length c0, .slice b0 c.2.length d0, .slice a1 p.length c1, .int .i64 at_, .int .i64 ph, .int .i64 h.1, .int .i64 h.2.1, .slice a4 h.2.2.length c4, .slice a5 t.length c5] 32) = u1w at B X zX ⊢
  have zXa := Nat.le_of_eq zX
  have zXb := Nat.le_of_eq zX.symm
  clear zX
  have V := heap_at u1w (.cells #[.int .i64 u.1, .int .i64 u.2.1, .slice au u.2.2.length cu] 30)
  have bz := box_below u1w (.cells #[.int .i64 u.1, .int .i64 u.2.1, .slice au u.2.2.length cu] 30)
  have zV := alloc_len u1w (.cells #[.int .i64 u.1, .int .i64 u.2.1, .slice au u.2.2.length cu] 30)
  rw [show u1w.heap.size = w.heap.size + 1 from by omega] at V
  replace B := below_step B bz
  replace X := row_keep bz X
  clear bz
  generalize u1w.alloc (.cells #[.int .i64 u.1, .int .i64 u.2.1, .slice au u.2.2.length cu] 30) = u2w at B X V zV ⊢
  have zVa := Nat.le_of_eq zV
  have zVb := Nat.le_of_eq zV.symm
  clear zV
  have R := heap_at u2w (.cells #[.slice none 0 0, .slice none 0 0, .slice none 0 0, .int .i64 0, .int .i64 0, .int .i64 0, .int .i64 0, .slice none 0 0, .slice none 0 0] 32)
  have bz := box_below u2w (.cells #[.slice none 0 0, .slice none 0 0, .slice none 0 0, .int .i64 0, .int .i64 0, .int .i64 0, .int .i64 0, .slice none 0 0, .slice none 0 0] 32)
  have zR := alloc_len u2w (.cells #[.slice none 0 0, .slice none 0 0, .slice none 0 0, .int .i64 0, .int .i64 0, .int .i64 0, .int .i64 0, .slice none 0 0, .slice none 0 0] 32)
  rw [show u2w.heap.size = w.heap.size + 2 from by omega] at R
  replace B := below_step B bz
  replace X := row_keep bz X
  replace V := row_keep bz V
  clear bz
  generalize u2w.alloc (.cells #[.slice none 0 0, .slice none 0 0, .slice none 0 0, .int .i64 0, .int .i64 0, .int .i64 0, .int .i64 0, .slice none 0 0, .slice none 0 0] 32) = u3w at B X V R zR ⊢
  have zRa := Nat.le_of_eq zR
  have zRb := Nat.le_of_eq zR.symm
  clear zR
  refine (KO.out _ B).mono ?_
  rintro e u4w ⟨rfl, bq⟩
  have tu4w : u3w.heap.size ≤ u4w.heap.size := bq.size
  replace B := below_step B bq
  replace X := row_keep bq X
  replace V := row_keep bq V
  replace R := row_keep bq R
  clear bq
  obtain ⟨Xc0, Xc1, Xc2, Xc3, Xc4, Xc5, Xc6, Xc7, Xc8⟩ := cells_core X
  have Xlt := (Array.getElem?_eq_some_iff.1 X).1
  obtain ⟨Vc0, Vc1, Vc2⟩ := cells_three V
  have Vlt := (Array.getElem?_eq_some_iff.1 V).1
  obtain ⟨Rc0, Rc1, Rc2, Rc3, Rc4, Rc5, Rc6, Rc7, Rc8⟩ := cells_core R
  have Rlt := (Array.getElem?_eq_some_iff.1 R).1
  go_upto_region 2 with fail
  clear Xc0 Xc1 Xc2 Xc3 Xc4 Xc5 Xc6 Xc7 Xc8 Xlt Vc0 Vc1 Vc2 Vlt Rc0 Rc1 Rc2 Rc3 Rc4 Rc5 Rc6 Rc7 Rc8 Rlt
  have O := heap_at u4w (.cells #[.int .i64 o.1, .int .i64 o.2.1, .int .i64 o.2.2.1, .int .i64 o.2.2.2] 54)
  have bz := box_below u4w (.cells #[.int .i64 o.1, .int .i64 o.2.1, .int .i64 o.2.2.1, .int .i64 o.2.2.2] 54)
  have zO := alloc_len u4w (.cells #[.int .i64 o.1, .int .i64 o.2.1, .int .i64 o.2.2.1, .int .i64 o.2.2.2] 54)
  replace B := below_step B bz
  replace X := row_keep bz X
  replace V := row_keep bz V
  replace R := row_keep bz R
  clear bz
  generalize u4w.alloc (.cells #[.int .i64 o.1, .int .i64 o.2.1, .int .i64 o.2.2.1, .int .i64 o.2.2.2] 54) = u5w at B X V R O zO ⊢
  have zOa := Nat.le_of_eq zO
  have zOb := Nat.le_of_eq zO.symm
  clear zO
  have HW2c : Hid (∀ n' : Cls (fun wx => Below u5w.heap.size u5w wx), Calls Tryz.prog 157 #[.slice au u.2.2.length cu, .int .i64 kq] n'.w fun e w' => e = .returned (.int .i64 z) ∧ Below n'.w.heap.size n'.w w') := fun n' => HW2.out _ (below_step B n'.h)
  obtain ⟨Xc0, Xc1, Xc2, Xc3, Xc4, Xc5, Xc6, Xc7, Xc8⟩ := cells_core X
  have Xlt := (Array.getElem?_eq_some_iff.1 X).1
  obtain ⟨Vc0, Vc1, Vc2⟩ := cells_three V
  have Vlt := (Array.getElem?_eq_some_iff.1 V).1
  obtain ⟨Rc0, Rc1, Rc2, Rc3, Rc4, Rc5, Rc6, Rc7, Rc8⟩ := cells_core R
  have Rlt := (Array.getElem?_eq_some_iff.1 R).1
  obtain ⟨Oc0, Oc1, Oc2, Oc3⟩ := cells_4 O
  have Olt := (Array.getElem?_eq_some_iff.1 O).1
  go_upto_region 2 with fail
  clear Xc0 Xc1 Xc2 Xc3 Xc4 Xc5 Xc6 Xc7 Xc8 Xlt Vc0 Vc1 Vc2 Vlt Rc0 Rc1 Rc2 Rc3 Rc4 Rc5 Rc6 Rc7 Rc8 Rlt Oc0 Oc1 Oc2 Oc3 Olt
  obtain ⟨Vc0, Vc1, Vc2⟩ := cells_three V
  have Vk0 : ∀ n' : Cls (fun wx => Below u5w.heap.size u5w wx), n'.w.cell? ⟨w.heap.size + 1, 0, none⟩ = some (.int .i64 u.1) := fun n' => cell_keep n'.h Vc0 (cell_lt Vc0)
  have Vk1 : ∀ n' : Cls (fun wx => Below u5w.heap.size u5w wx), n'.w.cell? ⟨w.heap.size + 1, 1, none⟩ = some (.int .i64 u.2.1) := fun n' => cell_keep n'.h Vc1 (cell_lt Vc1)
  have Vk2 : ∀ n' : Cls (fun wx => Below u5w.heap.size u5w wx), n'.w.cell? ⟨w.heap.size + 1, 2, none⟩ = some (.slice au u.2.2.length cu) := fun n' => cell_keep n'.h Vc2 (cell_lt Vc2)
  clear Vc0 Vc1 Vc2
  obtain ⟨Oc0, Oc1, Oc2, Oc3⟩ := cells_4 O
  have Ok0 : ∀ n' : Cls (fun wx => Below u5w.heap.size u5w wx), n'.w.cell? ⟨u4w.heap.size, 0, none⟩ = some (.int .i64 o.1) := fun n' => cell_keep n'.h Oc0 (cell_lt Oc0)
  have Ok1 : ∀ n' : Cls (fun wx => Below u5w.heap.size u5w wx), n'.w.cell? ⟨u4w.heap.size, 1, none⟩ = some (.int .i64 o.2.1) := fun n' => cell_keep n'.h Oc1 (cell_lt Oc1)
  have Ok2 : ∀ n' : Cls (fun wx => Below u5w.heap.size u5w wx), n'.w.cell? ⟨u4w.heap.size, 2, none⟩ = some (.int .i64 o.2.2.1) := fun n' => cell_keep n'.h Oc2 (cell_lt Oc2)
  have Ok3 : ∀ n' : Cls (fun wx => Below u5w.heap.size u5w wx), n'.w.cell? ⟨u4w.heap.size, 3, none⟩ = some (.int .i64 o.2.2.2) := fun n' => cell_keep n'.h Oc3 (cell_lt Oc3)
  clear Oc0 Oc1 Oc2 Oc3
  have HFX : Hid _ := And.intro B (And.intro X (And.intro V (And.intro R (O))))
  clear B X V R O
  refine region_class (fun wx => Below u5w.heap.size u5w wx) (by kernel_rfl) (by kernel_rfl) ((Below.refl _ u5w).drew) ?_
  intro hne
  repeat (quiet_step (first | (go_at_call 158; exact calls_class (HW1.out _) (fun w' hc bb => below_step hc bb)) | (go_at_call 157; exact calls_class (HW2c.out _) (fun w' hc bb => below_step hc bb)) | (go_at_call 156; exact calls_class (HD.out _) (fun w' hc bb => below_step hc bb))))
  refine wpQuiet_nil ?_
  intro u6w bq
  clear Vk0 Vk1 Vk2 Ok0 Ok1 Ok2 Ok3 hne
  obtain ⟨B, X, V, R, O⟩ := HFX.out
  clear HFX
  have tu6w : u5w.heap.size ≤ u6w.heap.size := bq.size
  replace B := below_step B bq
  replace X := row_keep bq X
  replace V := row_keep bq V
  replace R := row_keep bq R
  replace O := row_keep bq O
  clear bq
  clear HW2c
  obtain ⟨Xc0, Xc1, Xc2, Xc3, Xc4, Xc5, Xc6, Xc7, Xc8⟩ := cells_core X
  have Xlt := (Array.getElem?_eq_some_iff.1 X).1
  obtain ⟨Vc0, Vc1, Vc2⟩ := cells_three V
  have Vlt := (Array.getElem?_eq_some_iff.1 V).1
  obtain ⟨Rc0, Rc1, Rc2, Rc3, Rc4, Rc5, Rc6, Rc7, Rc8⟩ := cells_core R
  have Rlt := (Array.getElem?_eq_some_iff.1 R).1
  obtain ⟨Oc0, Oc1, Oc2, Oc3⟩ := cells_4 O
  have Olt := (Array.getElem?_eq_some_iff.1 O).1
  go_upto_region 3 with fail
  clear Xc0 Xc1 Xc2 Xc3 Xc4 Xc5 Xc6 Xc7 Xc8 Xlt Vc0 Vc1 Vc2 Vlt Rc0 Rc1 Rc2 Rc3 Rc4 Rc5 Rc6 Rc7 Rc8 Rlt Oc0 Oc1 Oc2 Oc3 Olt
  go_cut [27] (fun q27 wx => ∃ (nlo nhi : Nat) (pa : Option Addr) (pc : Nat), u6w.heap.size ≤ nlo ∧ nlo ≤ nhi ∧ Owned intsR nlo nhi wx [.slice pa d2.length pc] (d2) ∧ Below w.heap.size w wx ∧ wx.heap[w.heap.size]? = some (.cells #[.slice a0 c.1.length c0, .slice b0 c.2.length d0, .slice a1 p.length c1, .int .i64 at_, .int .i64 ph, .int .i64 h.1, .int .i64 h.2.1, .slice a4 h.2.2.length c4, .slice a5 t.length c5] 32 (0, 0)) ∧ wx.heap[w.heap.size + 1]? = some (.cells #[.int .i64 u.1, .int .i64 u.2.1, .slice pa d2.length pc] 30 (0, 0)) ∧ wx.heap[w.heap.size + 2]? = some (.cells #[.slice none 0 0, .slice none 0 0, .slice none 0 0, .int .i64 0, .int .i64 0, .int .i64 0, .int .i64 0, .slice none 0 0, .slice none 0 0] 32 (0, 0)) ∧ wx.heap[u4w.heap.size]? = some (.cells #[.int .i64 o.1, .int .i64 o.2.1, .int .i64 o.2.2.1, .int .i64 o.2.2.2] 54 (0, 0)) ∧ u6w.heap.size ≤ wx.heap.size)
  case first =>
    have sz0 := Nat.le_refl u6w.heap.size
    replace B := B.drew
    obtain ⟨Vc0, Vc1, Vc2⟩ := cells_three V
    have Vlt := (Array.getElem?_eq_some_iff.1 V).1
    obtain ⟨Vf0, Vf1, Vf2⟩ := froz_3 V
    obtain ⟨Oc0, Oc1, Oc2, Oc3⟩ := cells_4 O
    have Olt := (Array.getElem?_eq_some_iff.1 O).1
    go_region_with (first | (go_at_call 158; refine (HW1.out _).mono ?_; rintro e wq ⟨rfl, mb⟩; replace sz0 := Nat.le_trans sz0 mb.size; replace B := below_step B mb; replace X := row_keep mb X; replace V := row_keep mb V; replace R := row_keep mb R; replace O := row_keep mb O; clear mb; clear Vc0 Vc1 Vc2 Vlt Vf0 Vf1 Vf2 Oc0 Oc1 Oc2 Oc3 Olt; obtain ⟨Vc0, Vc1, Vc2⟩ := cells_three V; have Vlt := (Array.getElem?_eq_some_iff.1 V).1; obtain ⟨Vf0, Vf1, Vf2⟩ := froz_3 V; obtain ⟨Oc0, Oc1, Oc2, Oc3⟩ := cells_4 O; have Olt := (Array.getElem?_eq_some_iff.1 O).1) | (go_at_call 159; refine (HP.out _ B).mono ?_; rintro e wq ⟨pa, pc, rfl, mm⟩; have D := owned_made (R := intsR) mm; have mb := mm.2; have nlo := sz0; have nhi := mb.size; replace sz0 := Nat.le_trans sz0 mb.size; replace B := below_step B mb; replace X := row_keep mb X; replace V := row_keep mb V; replace R := row_keep mb R; replace O := row_keep mb O; clear mb mm; clear Vc0 Vc1 Vc2 Vlt Vf0 Vf1 Vf2 Oc0 Oc1 Oc2 Oc3 Olt; obtain ⟨Vc0, Vc1, Vc2⟩ := cells_three V; have Vlt := (Array.getElem?_eq_some_iff.1 V).1; obtain ⟨Vf0, Vf1, Vf2⟩ := froz_3 V; obtain ⟨Oc0, Oc1, Oc2, Oc3⟩ := cells_4 O; have Olt := (Array.getElem?_eq_some_iff.1 O).1))
    all_goals
      go_wp2_with fail
      go_meet
      exact ⟨_, _, _, _, nlo, nhi, owned_setCs (g := w.heap.size + 1) (o := 2) (vs := [.slice pa d2.length pc]) D (by omega), below_setCs0 (g := w.heap.size + 1) (o := 2) (vs := [.slice pa d2.length pc]) B (by omega), row_otherCs (g := w.heap.size + 1) (o := 2) (vs := [.slice pa d2.length pc]) X (by omega), row_setCs (g := w.heap.size + 1) [.slice pa d2.length pc] 2 V, row_otherCs (g := w.heap.size + 1) (o := 2) (vs := [.slice pa d2.length pc]) R (by omega), row_otherCs (g := w.heap.size + 1) (o := 2) (vs := [.slice pa d2.length pc]) O (by omega), Nat.le_trans sz0 (Nat.le_of_eq (setCs_size (g := w.heap.size + 1) [.slice pa d2.length pc] 2 _).symm)⟩
  case rest =>
    clear B X V R O
    obtain ⟨nlo, nhi, pa, pc, nl1, nl2, D, B, X, V, R, O, tu7w⟩ := hcut
    generalize wc = u7w at B X V R O tu7w D ⊢
    obtain ⟨Xc0, Xc1, Xc2, Xc3, Xc4, Xc5, Xc6, Xc7, Xc8⟩ := cells_core X
    have Xlt := (Array.getElem?_eq_some_iff.1 X).1
    obtain ⟨Vc0, Vc1, Vc2⟩ := cells_three V
    have Vlt := (Array.getElem?_eq_some_iff.1 V).1
    obtain ⟨Rc0, Rc1, Rc2, Rc3, Rc4, Rc5, Rc6, Rc7, Rc8⟩ := cells_core R
    have Rlt := (Array.getElem?_eq_some_iff.1 R).1
    obtain ⟨Oc0, Oc1, Oc2, Oc3⟩ := cells_4 O
    have Olt := (Array.getElem?_eq_some_iff.1 O).1
    go_upto_region 4 with fail
    clear Xc0 Xc1 Xc2 Xc3 Xc4 Xc5 Xc6 Xc7 Xc8 Xlt Vc0 Vc1 Vc2 Vlt Rc0 Rc1 Rc2 Rc3 Rc4 Rc5 Rc6 Rc7 Rc8 Rlt Oc0 Oc1 Oc2 Oc3 Olt
    go_cut [36] (fun q36 wx => Below w.heap.size w wx ∧ wx.heap[w.heap.size]? = some (.cells #[.slice a0 c.1.length c0, .slice b0 c.2.length d0, .slice a1 p.length c1, .int .i64 at_, .int .i64 ph, .int .i64 h.1, .int .i64 h.2.1, .slice a4 h.2.2.length c4, .slice a5 t.length c5] 32 (0, 0)) ∧ wx.heap[w.heap.size + 1]? = some (.cells #[.int .i64 u.1, .int .i64 s2, .slice pa d2.length pc] 30 (0, 0)) ∧ wx.heap[w.heap.size + 2]? = some (.cells #[.slice none 0 0, .slice none 0 0, .slice none 0 0, .int .i64 0, .int .i64 0, .int .i64 0, .int .i64 0, .slice none 0 0, .slice none 0 0] 32 (0, 0)) ∧ wx.heap[u4w.heap.size]? = some (.cells #[.int .i64 o.1, .int .i64 o.2.1, .int .i64 o.2.2.1, .int .i64 o.2.2.2] 54 (0, 0)) ∧ Owned intsR (nlo) (nhi) wx [.slice pa d2.length pc] (d2) ∧ u7w.heap.size ≤ wx.heap.size)
    case first =>
      have sz0 := Nat.le_refl u7w.heap.size
      replace B := B.drew
      replace D := owned_drew D
      obtain ⟨Vc0, Vc1, Vc2⟩ := cells_three V
      have Vlt := (Array.getElem?_eq_some_iff.1 V).1
      obtain ⟨Vf0, Vf1, Vf2⟩ := froz_3 V
      obtain ⟨Oc0, Oc1, Oc2, Oc3⟩ := cells_4 O
      have Olt := (Array.getElem?_eq_some_iff.1 O).1
      go_region_with (first | (go_at_call 161; refine (HE.out _).mono ?_; rintro e wq ⟨rfl, mb⟩; replace sz0 := Nat.le_trans sz0 mb.size; replace B := below_step B mb; replace X := row_keep mb X; replace V := row_keep mb V; replace R := row_keep mb R; replace O := row_keep mb O; replace D := owned_next D mb; clear mb; clear Vc0 Vc1 Vc2 Vlt Vf0 Vf1 Vf2 Oc0 Oc1 Oc2 Oc3 Olt; obtain ⟨Vc0, Vc1, Vc2⟩ := cells_three V; have Vlt := (Array.getElem?_eq_some_iff.1 V).1; obtain ⟨Vf0, Vf1, Vf2⟩ := froz_3 V; obtain ⟨Oc0, Oc1, Oc2, Oc3⟩ := cells_4 O; have Olt := (Array.getElem?_eq_some_iff.1 O).1) | (go_at_call 160; refine (HN.out _).mono ?_; rintro e wq ⟨rfl, mb⟩; replace sz0 := Nat.le_trans sz0 mb.size; replace B := below_step B mb; replace X := row_keep mb X; replace V := row_keep mb V; replace R := row_keep mb R; replace O := row_keep mb O; replace D := owned_next D mb; clear mb; clear Vc0 Vc1 Vc2 Vlt Vf0 Vf1 Vf2 Oc0 Oc1 Oc2 Oc3 Olt; obtain ⟨Vc0, Vc1, Vc2⟩ := cells_three V; have Vlt := (Array.getElem?_eq_some_iff.1 V).1; obtain ⟨Vf0, Vf1, Vf2⟩ := froz_3 V; obtain ⟨Oc0, Oc1, Oc2, Oc3⟩ := cells_4 O; have Olt := (Array.getElem?_eq_some_iff.1 O).1))
      all_goals
        go_wp2_with fail
        go_meet
        exact ⟨below_setCs0 (g := w.heap.size + 1) (o := 1) (vs := [.int .i64 s2]) B (by omega), row_otherCs (g := w.heap.size + 1) (o := 1) (vs := [.int .i64 s2]) X (by omega), row_setCs (g := w.heap.size + 1) [.int .i64 s2] 1 V, row_otherCs (g := w.heap.size + 1) (o := 1) (vs := [.int .i64 s2]) R (by omega), row_otherCs (g := w.heap.size + 1) (o := 1) (vs := [.int .i64 s2]) O (by omega), owned_setCs (g := w.heap.size + 1) (o := 1) (vs := [.int .i64 s2]) D (by omega), Nat.le_trans sz0 (Nat.le_of_eq (setCs_size (g := w.heap.size + 1) [.int .i64 s2] 1 _).symm)⟩
    case rest =>
      clear B X V R O D
      obtain ⟨B, X, V, R, O, D, tu8w⟩ := hcut
      generalize wc = u8w at B X V R O D tu8w ⊢
      obtain ⟨Xc0, Xc1, Xc2, Xc3, Xc4, Xc5, Xc6, Xc7, Xc8⟩ := cells_core X
      have Xlt := (Array.getElem?_eq_some_iff.1 X).1
      obtain ⟨Vc0, Vc1, Vc2⟩ := cells_three V
      have Vlt := (Array.getElem?_eq_some_iff.1 V).1
      obtain ⟨Rc0, Rc1, Rc2, Rc3, Rc4, Rc5, Rc6, Rc7, Rc8⟩ := cells_core R
      have Rlt := (Array.getElem?_eq_some_iff.1 R).1
      obtain ⟨Oc0, Oc1, Oc2, Oc3⟩ := cells_4 O
      have Olt := (Array.getElem?_eq_some_iff.1 O).1
      go_wp2_with fail
      clear Xc0 Xc1 Xc2 Xc3 Xc4 Xc5 Xc6 Xc7 Xc8 Xlt Vc0 Vc1 Vc2 Vlt Rc0 Rc1 Rc2 Rc3 Rc4 Rc5 Rc6 Rc7 Rc8 Rlt Oc0 Oc1 Oc2 Oc3 Olt
      refine (HF.out _ pa pc B (intsR.own_rd D.1)).mono ?_
      rintro e u9w ⟨ds, rfl, mm⟩
      obtain ⟨na, nb, nc, nd, rfl, -, -, -, -, -, -⟩ := cache_rd (cacheR.own_rd mm.1)
      rw [show aggV [.slice na fc.1.1.length nb, .slice nc fc.1.2.length nd] = .agg #[.slice na fc.1.1.length nb, .slice nc fc.1.2.length nd] from rfl]
      have P := owned_made (R := cacheR) mm
      have mb := mm.2
      have tu9w : u8w.heap.size ≤ u9w.heap.size := mb.size
      replace B := below_step B mb
      replace X := row_keep mb X
      replace V := row_keep mb V
      replace R := row_keep mb R
      replace O := row_keep mb O
      replace D := owned_next D mb
      clear mb mm
      obtain ⟨Xc0, Xc1, Xc2, Xc3, Xc4, Xc5, Xc6, Xc7, Xc8⟩ := cells_core X
      have Xlt := (Array.getElem?_eq_some_iff.1 X).1
      obtain ⟨Xf0, Xf1, Xf2, Xf3, Xf4, Xf5, Xf6, Xf7, Xf8⟩ := froz_core X
      obtain ⟨Vc0, Vc1, Vc2⟩ := cells_three V
      have Vlt := (Array.getElem?_eq_some_iff.1 V).1
      obtain ⟨Rc0, Rc1, Rc2, Rc3, Rc4, Rc5, Rc6, Rc7, Rc8⟩ := cells_core R
      have Rlt := (Array.getElem?_eq_some_iff.1 R).1
      obtain ⟨Oc0, Oc1, Oc2, Oc3⟩ := cells_4 O
      have Olt := (Array.getElem?_eq_some_iff.1 O).1
      go_upto_region 6 with fail
      clear Xc0 Xc1 Xc2 Xc3 Xc4 Xc5 Xc6 Xc7 Xc8 Xlt Xf0 Xf1 Xf2 Xf3 Xf4 Xf5 Xf6 Xf7 Xf8 Vc0 Vc1 Vc2 Vlt Rc0 Rc1 Rc2 Rc3 Rc4 Rc5 Rc6 Rc7 Rc8 Rlt Oc0 Oc1 Oc2 Oc3 Olt
      rw [show ((u9w.setCell ⟨w.heap.size, 0, none⟩ (.slice na fc.1.1.length nb)).setCell ⟨w.heap.size, 1, none⟩ (.slice nc fc.1.2.length nd)) = (setCs u9w (w.heap.size) 0 [.slice na fc.1.1.length nb, .slice nc fc.1.2.length nd]) from rfl]
      replace V := row_otherCs (g := w.heap.size) (o := 0) (vs := [.slice na fc.1.1.length nb, .slice nc fc.1.2.length nd]) V (by omega)
      replace R := row_otherCs (g := w.heap.size) (o := 0) (vs := [.slice na fc.1.1.length nb, .slice nc fc.1.2.length nd]) R (by omega)
      replace O := row_otherCs (g := w.heap.size) (o := 0) (vs := [.slice na fc.1.1.length nb, .slice nc fc.1.2.length nd]) O (by omega)
      replace D := owned_setCs (g := w.heap.size) (o := 0) (vs := [.slice na fc.1.1.length nb, .slice nc fc.1.2.length nd]) D (by omega)
      replace P := owned_setCs (g := w.heap.size) (o := 0) (vs := [.slice na fc.1.1.length nb, .slice nc fc.1.2.length nd]) P (by omega)
      replace B := below_setCs0 (g := w.heap.size) (o := 0) (vs := [.slice na fc.1.1.length nb, .slice nc fc.1.2.length nd]) B (by omega)
      replace X : (setCs u9w (w.heap.size) 0 [.slice na fc.1.1.length nb, .slice nc fc.1.2.length nd]).heap[w.heap.size]? = some (.cells #[.slice na fc.1.1.length nb, .slice nc fc.1.2.length nd, .slice a1 p.length c1, .int .i64 at_, .int .i64 ph, .int .i64 h.1, .int .i64 h.2.1, .slice a4 h.2.2.length c4, .slice a5 t.length c5] 32 (0, 0)) := row_setCs _ _ X
      have tu10w := Nat.le_of_eq (setCs_size (g := w.heap.size) [.slice na fc.1.1.length nb, .slice nc fc.1.2.length nd] 0 u9w)
      have qu10w := Nat.le_of_eq (setCs_size (g := w.heap.size) [.slice na fc.1.1.length nb, .slice nc fc.1.2.length nd] 0 u9w).symm
      generalize (setCs u9w (w.heap.size) 0 [.slice na fc.1.1.length nb, .slice nc fc.1.2.length nd]) = u10w at B X V R O D P tu10w qu10w ⊢
      obtain ⟨o1, o4, o5, sb0, sb1, sb4, sb5, d01, d04, d05, d14, d15, d45⟩ := HOW.out
      have hS := HSS.out
      replace o1 := opsR.own_keep o1 (keeps_below B)
      replace o4 := wayR.own_keep o4 (keeps_below B)
      have o5w := intsR.own_keep o5 (keeps_below B)
      have HX9 : Hid _ := And.intro o1 (And.intro o4 (And.intro sb0 (And.intro sb1 (And.intro sb4 (And.intro sb5 (And.intro d01 (And.intro d04 (And.intro d05 (And.intro d14 (And.intro d15 (And.intro d45 hS)))))))))))
      clear o1 o4 o5 sb0 sb1 sb4 sb5 d01 d04 d05 d14 d15 d45 hS HOW
      obtain ⟨Xc0, Xc1, Xc2, Xc3, Xc4, Xc5, Xc6, Xc7, Xc8⟩ := cells_core X
      have Xlt := (Array.getElem?_eq_some_iff.1 X).1
      obtain ⟨Xf0, Xf1, Xf2, Xf3, Xf4, Xf5, Xf6, Xf7, Xf8⟩ := froz_core X
      obtain ⟨Vc0, Vc1, Vc2⟩ := cells_three V
      have Vlt := (Array.getElem?_eq_some_iff.1 V).1
      obtain ⟨Rc0, Rc1, Rc2, Rc3, Rc4, Rc5, Rc6, Rc7, Rc8⟩ := cells_core R
      have Rlt := (Array.getElem?_eq_some_iff.1 R).1
      obtain ⟨Oc0, Oc1, Oc2, Oc3⟩ := cells_4 O
      have Olt := (Array.getElem?_eq_some_iff.1 O).1
      go_wp2_with (at_builtin; refine wpList_told (w := u10w) rfl _ _ rfl S5 (.slice a5 t.length c5) t td htd64 rfl u10w.heap.size 1 rfl rfl o5w (by omega) ?_)
      clear Xc0 Xc1 Xc2 Xc3 Xc4 Xc5 Xc6 Xc7 Xc8 Xlt Xf0 Xf1 Xf2 Xf3 Xf4 Xf5 Xf6 Xf7 Xf8 Vc0 Vc1 Vc2 Vlt Rc0 Rc1 Rc2 Rc3 Rc4 Rc5 Rc6 Rc7 Rc8 Rlt Oc0 Oc1 Oc2 Oc3 Olt
      intro gt ct wt NT NC
      have hP2 := P.2
      obtain ⟨o1, o4, sb0, sb1, sb4, sb5, d01, d04, d05, d14, d15, d45, hS⟩ := HX9.out
      have nS : ∀ k, w.heap.size ≤ k → ¬ Old u10w S5 k := fun k hk h => by have := hS k (sb5 k h.1); omega
      have X2 := (NC.block _ (Array.getElem?_eq_some_iff.1 X).1 (nS _ (by omega))).trans X
      have R2 := (NC.block _ (Array.getElem?_eq_some_iff.1 R).1 (nS _ (by omega))).trans R
      have P2 := own_chg P.1 NC (fun k h1 h2 => nS k (by have := h1.1; omega) h2)
      have q1 := own_chg o1 NC (fun k h1 h2 => d15 k h1 h2.1)
      have q4 := own_chg o4 NC (fun k h1 h2 => d45 k h1 h2.1)
      have CH : Chg S w wt := (chg_below (S := S) B).trans (NC.mono fun k hk => sb5 k hk.1)
      have szt := NC.size
      have HZ : Hid _ := And.intro X2 (And.intro R2 (And.intro P2 (And.intro q1 (And.intro q4 (And.intro NT CH)))))
      clear X R V O B D P NC o1 o4 sb0 sb1 sb4 sb5 d01 d04 d05 d14 d15 d45 o5w HZ
      obtain ⟨y0, y1, y2, y3, y4, y5, y6, y7, y8⟩ := cells_core X2
      obtain ⟨yf0, yf1, yf2, yf3, yf4, yf5, yf6, yf7, yf8⟩ := froz_core X2
      have ylt := (Array.getElem?_eq_some_iff.1 X2).1
      obtain ⟨z0, z1, z2, z3, z4, z5, z6, z7, z8⟩ := cells_core R2
      obtain ⟨zf0, zf1, zf2, zf3, zf4, zf5, zf6, zf7, zf8⟩ := froz_core R2
      have zlt := (Array.getElem?_eq_some_iff.1 R2).1
      have HZ : Hid _ := And.intro X2 (And.intro R2 (And.intro P2 (And.intro q1 (And.intro q4 (And.intro NT (CH))))))
      clear X2 R2 P2 q1 q4 NT CH
      go_upto_region 7 with fail
      clear y0 y1 y2 y3 y4 y5 y6 y7 y8 yf0 yf1 yf2 yf3 yf4 yf5 yf6 yf7 yf8 ylt z0 z1 z2 z3 z4 z5 z6 z7 z8 zf0 zf1 zf2 zf3 zf4 zf5 zf6 zf7 zf8 zlt
      obtain ⟨X2, R2, P2, q1, q4, NT, CH⟩ := HZ.out
      clear HZ
      obtain ⟨-, -, sb0, sb1, sb4, sb5, d01, d04, d05, d14, d15, d45, hS⟩ := HX9.out
      rw [show wt.setCell ⟨w.heap.size, 8, none⟩ (.slice (some ⟨gt, 0, none⟩) (t.length + 1) ct) = (setCs wt w.heap.size 8 [.slice (some ⟨gt, 0, none⟩) (t.length + 1) ct]) from rfl]
      replace X2 : (setCs wt w.heap.size 8 [.slice (some ⟨gt, 0, none⟩) (t.length + 1) ct]).heap[w.heap.size]? = some (.cells #[.slice na fc.1.1.length nb, .slice nc fc.1.2.length nd, .slice a1 p.length c1, .int .i64 at_, .int .i64 ph, .int .i64 h.1, .int .i64 h.2.1, .slice a4 h.2.2.length c4, .slice (some ⟨gt, 0, none⟩) (t.length + 1) ct] 32 (0, 0)) := row_setCs _ _ X2
      replace R2 := row_otherCs (g := w.heap.size) (o := 8) (vs := [.slice (some ⟨gt, 0, none⟩) (t.length + 1) ct]) R2 (by omega)
      replace P2 := own_setCs (g := w.heap.size) (o := 8) (vs := [.slice (some ⟨gt, 0, none⟩) (t.length + 1) ct]) P2 (fun hh => by have := hh.1; have := hh.2; omega)
      replace q1 := own_setCs (g := w.heap.size) (o := 8) (vs := [.slice (some ⟨gt, 0, none⟩) (t.length + 1) ct]) q1 (fun hh => by have := hS _ (sb1 _ hh); omega)
      replace q4 := own_setCs (g := w.heap.size) (o := 8) (vs := [.slice (some ⟨gt, 0, none⟩) (t.length + 1) ct]) q4 (fun hh => by have := hS _ (sb4 _ hh); omega)
      replace NT := own_setCs (g := w.heap.size) (o := 8) (vs := [.slice (some ⟨gt, 0, none⟩) (t.length + 1) ct]) NT (fun hh => by rcases hh with hh | hh; (have := hS _ (sb5 _ hh.1); omega); (have := hh.1; omega))
      replace CH := chg_setNew (g := w.heap.size) (o := 8) (vs := [.slice (some ⟨gt, 0, none⟩) (t.length + 1) ct]) CH (Nat.le_refl _)
      have swua := Nat.le_of_eq (setCs_size (g := w.heap.size) [.slice (some ⟨gt, 0, none⟩) (t.length + 1) ct] 8 wt)
      have swub := Nat.le_of_eq (setCs_size (g := w.heap.size) [.slice (some ⟨gt, 0, none⟩) (t.length + 1) ct] 8 wt).symm
      generalize (setCs wt w.heap.size 8 [.slice (some ⟨gt, 0, none⟩) (t.length + 1) ct]) = wu at X2 R2 P2 q1 q4 NT CH swua swub ⊢
      clear sb0 sb1 sb4 sb5 d01 d04 d05 d14 d15 d45 hS
      obtain ⟨y0, y1, y2, y3, y4, y5, y6, y7, y8⟩ := cells_core X2
      obtain ⟨yf0, yf1, yf2, yf3, yf4, yf5, yf6, yf7, yf8⟩ := froz_core X2
      have ylt := (Array.getElem?_eq_some_iff.1 X2).1
      obtain ⟨z0, z1, z2, z3, z4, z5, z6, z7, z8⟩ := cells_core R2
      obtain ⟨zf0, zf1, zf2, zf3, zf4, zf5, zf6, zf7, zf8⟩ := froz_core R2
      have zlt := (Array.getElem?_eq_some_iff.1 R2).1
      have HZ : Hid _ := And.intro X2 (And.intro R2 (And.intro P2 (And.intro q1 (And.intro q4 (And.intro NT (CH))))))
      clear X2 R2 P2 q1 q4 NT CH
      go_upto_region 8 with fail
      clear y0 y1 y2 y3 y4 y5 y6 y7 y8 yf0 yf1 yf2 yf3 yf4 yf5 yf6 yf7 yf8 ylt z0 z1 z2 z3 z4 z5 z6 z7 z8 zf0 zf1 zf2 zf3 zf4 zf5 zf6 zf7 zf8 zlt
      obtain ⟨X2, R2, P2, q1, q4, NT, CH⟩ := HZ.out
      clear HZ
      obtain ⟨-, -, sb0, sb1, sb4, sb5, d01, d04, d05, d14, d15, d45, hS⟩ := HX9.out
      rw [show wu.setCell ⟨w.heap.size, 3, none⟩ (.int .i64 (at_ + 1)) = (setCs wu w.heap.size 3 [.int .i64 (at_ + 1)]) from rfl]
      replace X2 : (setCs wu w.heap.size 3 [.int .i64 (at_ + 1)]).heap[w.heap.size]? = some (.cells #[.slice na fc.1.1.length nb, .slice nc fc.1.2.length nd, .slice a1 p.length c1, .int .i64 (at_ + 1), .int .i64 ph, .int .i64 h.1, .int .i64 h.2.1, .slice a4 h.2.2.length c4, .slice (some ⟨gt, 0, none⟩) (t.length + 1) ct] 32 (0, 0)) := row_setCs _ _ X2
      replace R2 := row_otherCs (g := w.heap.size) (o := 3) (vs := [.int .i64 (at_ + 1)]) R2 (by omega)
      replace P2 := own_setCs (g := w.heap.size) (o := 3) (vs := [.int .i64 (at_ + 1)]) P2 (fun hh => by have := hh.1; have := hh.2; omega)
      replace q1 := own_setCs (g := w.heap.size) (o := 3) (vs := [.int .i64 (at_ + 1)]) q1 (fun hh => by have := hS _ (sb1 _ hh); omega)
      replace q4 := own_setCs (g := w.heap.size) (o := 3) (vs := [.int .i64 (at_ + 1)]) q4 (fun hh => by have := hS _ (sb4 _ hh); omega)
      replace NT := own_setCs (g := w.heap.size) (o := 3) (vs := [.int .i64 (at_ + 1)]) NT (fun hh => by rcases hh with hh | hh; (have := hS _ (sb5 _ hh.1); omega); (have := hh.1; omega))
      replace CH := chg_setNew (g := w.heap.size) (o := 3) (vs := [.int .i64 (at_ + 1)]) CH (Nat.le_refl _)
      have swva := Nat.le_of_eq (setCs_size (g := w.heap.size) [.int .i64 (at_ + 1)] 3 wu)
      have swvb := Nat.le_of_eq (setCs_size (g := w.heap.size) [.int .i64 (at_ + 1)] 3 wu).symm
      generalize (setCs wu w.heap.size 3 [.int .i64 (at_ + 1)]) = wv at X2 R2 P2 q1 q4 NT CH swva swvb ⊢
      clear sb0 sb1 sb4 sb5 d01 d04 d05 d14 d15 d45 hS
      obtain ⟨y0, y1, y2, y3, y4, y5, y6, y7, y8⟩ := cells_core X2
      obtain ⟨yf0, yf1, yf2, yf3, yf4, yf5, yf6, yf7, yf8⟩ := froz_core X2
      have ylt := (Array.getElem?_eq_some_iff.1 X2).1
      obtain ⟨z0, z1, z2, z3, z4, z5, z6, z7, z8⟩ := cells_core R2
      obtain ⟨zf0, zf1, zf2, zf3, zf4, zf5, zf6, zf7, zf8⟩ := froz_core R2
      have zlt := (Array.getElem?_eq_some_iff.1 R2).1
      have HZ : Hid _ := And.intro X2 (And.intro R2 (And.intro P2 (And.intro q1 (And.intro q4 (And.intro NT (CH))))))
      clear X2 R2 P2 q1 q4 NT CH
      go_wp2
      clear y0 y1 y2 y3 y4 y5 y6 y7 y8 yf0 yf1 yf2 yf3 yf4 yf5 yf6 yf7 yf8 ylt z0 z1 z2 z3 z4 z5 z6 z7 z8 zf0 zf1 zf2 zf3 zf4 zf5 zf6 zf7 zf8 zlt
      obtain ⟨X2, R2, P2, q1, q4, NT, CH⟩ := HZ.out
      clear HZ
      obtain ⟨-, -, sb0, sb1, sb4, sb5, d01, d04, d05, d14, d15, d45, hS⟩ := HX9.out
      obtain ⟨r0, r1, r2, r3, r4, r5, r6, r7, r8⟩ := cells_core (put_core (y0 := .slice na fc.1.1.length nb) (y1 := .slice nc fc.1.2.length nd) (y2 := .slice a1 p.length c1) (y3 := .int .i64 (at_ + 1)) (y4 := .int .i64 ph) (y5 := .int .i64 h.1) (y6 := .int .i64 h.2.1) (y7 := .slice a4 h.2.2.length c4) (y8 := .slice (some ⟨gt, 0, none⟩) (t.length + 1) ct) R2)
      have fsz : (setCs wv (w.heap.size + 2) 0 [.slice na fc.1.1.length nb, .slice nc fc.1.2.length nd, .slice a1 p.length c1, .int .i64 (at_ + 1), .int .i64 ph, .int .i64 h.1, .int .i64 h.2.1, .slice a4 h.2.2.length c4, .slice (some ⟨gt, 0, none⟩) (t.length + 1) ct]).heap.size = wv.heap.size := setCs_size _ _ _
      have FO : coreR.own (setCs wv (w.heap.size + 2) 0 [.slice na fc.1.1.length nb, .slice nc fc.1.2.length nd, .slice a1 p.length c1, .int .i64 (at_ + 1), .int .i64 ph, .int .i64 h.1, .int .i64 h.2.1, .slice a4 h.2.2.length c4, .slice (some ⟨gt, 0, none⟩) (t.length + 1) ct]) (fun k => S k ∨ (w.heap.size ≤ k ∧ k < (setCs wv (w.heap.size + 2) 0 [.slice na fc.1.1.length nb, .slice nc fc.1.2.length nd, .slice a1 p.length c1, .int .i64 (at_ + 1), .int .i64 ph, .int .i64 h.1, .int .i64 h.2.1, .slice a4 h.2.2.length c4, .slice (some ⟨gt, 0, none⟩) (t.length + 1) ct]).heap.size)) [.slice na fc.1.1.length nb, .slice nc fc.1.2.length nd, .slice a1 p.length c1, .int .i64 (at_ + 1), .int .i64 ph, .int .i64 h.1, .int .i64 h.2.1, .slice a4 h.2.2.length c4, .slice (some ⟨gt, 0, none⟩) (t.length + 1) ct] (fc.1, p, at_ + 1, ph, h, t ++ [td]) := by
        rw [fsz]
        refine own_core (x := (fc.1, p, at_ + 1, ph, h, t ++ [td])) (show In64 (at_ + 1) from ⟨by omega, by omega⟩) hia.2 (own_setCs (g := w.heap.size + 2) (o := 0) (vs := [.slice na fc.1.1.length nb, .slice nc fc.1.2.length nd, .slice a1 p.length c1, .int .i64 (at_ + 1), .int .i64 ph, .int .i64 h.1, .int .i64 h.2.1, .slice a4 h.2.2.length c4, .slice (some ⟨gt, 0, none⟩) (t.length + 1) ct]) P2 (fun hh => by have := hh.1; have := hh.2; omega)) (own_setCs (g := w.heap.size + 2) (o := 0) (vs := [.slice na fc.1.1.length nb, .slice nc fc.1.2.length nd, .slice a1 p.length c1, .int .i64 (at_ + 1), .int .i64 ph, .int .i64 h.1, .int .i64 h.2.1, .slice a4 h.2.2.length c4, .slice (some ⟨gt, 0, none⟩) (t.length + 1) ct]) q1 (fun hh => by have := hS _ (sb1 _ hh); omega)) (own_setCs (g := w.heap.size + 2) (o := 0) (vs := [.slice na fc.1.1.length nb, .slice nc fc.1.2.length nd, .slice a1 p.length c1, .int .i64 (at_ + 1), .int .i64 ph, .int .i64 h.1, .int .i64 h.2.1, .slice a4 h.2.2.length c4, .slice (some ⟨gt, 0, none⟩) (t.length + 1) ct]) q4 (fun hh => by have := hS _ (sb4 _ hh); omega)) (own_setCs (g := w.heap.size + 2) (o := 0) (vs := [.slice na fc.1.1.length nb, .slice nc fc.1.2.length nd, .slice a1 p.length c1, .int .i64 (at_ + 1), .int .i64 ph, .int .i64 h.1, .int .i64 h.2.1, .slice a4 h.2.2.length c4, .slice (some ⟨gt, 0, none⟩) (t.length + 1) ct]) NT (fun hh => by rcases hh with hh | hh; (have := hS _ (sb5 _ hh.1); omega); (have := hh.1; omega))) (fun k hh => .inr ⟨by have := hh.1; omega, by have := hh.2; omega⟩) (fun k hh => .inl (sb1 k hh)) (fun k hh => .inl (sb4 k hh)) (fun k hh => ?_) (fun k ha hb => ?_) (fun k ha hb => ?_) (fun k ha hb => ?_) d14 (fun k ha hb => ?_) (fun k ha hb => ?_)
        · rcases hh with hh | hh
          · exact .inl (sb5 k hh.1)
          · exact .inr ⟨by have := hh.1; omega, by have := hh.2; omega⟩
        · have := hS k (sb1 k hb)
          have := ha.1
          omega
        · have := hS k (sb4 k hb)
          have := ha.1
          omega
        · rcases hb with hb | hb
          · have := hS k (sb5 k hb.1)
            have := ha.1
            omega
          · have := hb.1
            have := ha.2
            omega
        · rcases hb with hb | hb
          · exact d15 k ha hb.1
          · have := hS k (sb1 k ha)
            have := hb.1
            omega
        · rcases hb with hb | hb
          · exact d45 k ha hb.1
          · have := hS k (sb4 k ha)
            have := hb.1
            omega
      have FC : Chg S w (setCs wv (w.heap.size + 2) 0 [.slice na fc.1.1.length nb, .slice nc fc.1.2.length nd, .slice a1 p.length c1, .int .i64 (at_ + 1), .int .i64 ph, .int .i64 h.1, .int .i64 h.2.1, .slice a4 h.2.2.length c4, .slice (some ⟨gt, 0, none⟩) (t.length + 1) ct]) := chg_setNew CH (by omega)
      clear X2 R2 P2 q1 q4 NT CH HX9
      exact bodyPost_ret (v := .agg #[.slice na fc.1.1.length nb, .slice nc fc.1.2.length nd, .slice a1 p.length c1, .int .i64 (at_ + 1), .int .i64 ph, .int .i64 h.1, .int .i64 h.2.1, .slice a4 h.2.2.length c4, .slice (some ⟨gt, 0, none⟩) (t.length + 1) ct]) (by simp [results, Tryz.results113, go_sem, r0, r1, r2, r3, r4, r5, r6, r7, r8]) rfl ⟨[.slice na fc.1.1.length nb, .slice nc fc.1.2.length nd, .slice a1 p.length c1, .int .i64 (at_ + 1), .int .i64 ph, .int .i64 h.1, .int .i64 h.2.1, .slice a4 h.2.2.length c4, .slice (some ⟨gt, 0, none⟩) (t.length + 1) ct], rfl, FO, FC⟩
end Go.Proofs.YthbclkpmgcfdnaaGreatDoor
