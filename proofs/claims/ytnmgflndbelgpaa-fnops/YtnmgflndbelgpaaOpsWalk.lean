/- The laws FnOps and FnCas return true at every code of at most 4096 bytes, and nothing that was there turns. -/
import Derived.Test.YtnmgflndbelgpaaDrawDone
import Derived.Test.YtnmgflndbelgpaaOps2
namespace Go.Proofs.Ytnmgflndbelgpaa
open Go.ChangeShapes Go.WideShapes Go.ChangeAt Go.RowKit

theorem op_row {w w' : World} {k : Nat} {o : Obj} (h : Below w.heap.size w w') (r : w.heap[k]? = some o) : w'.heap[k]? = some o := (h.block k (row_lt r)).trans r
theorem opB_no {k a x y z : Int} (h : opOkD k a x y z = false) (h1 : opB k a x y = true) : z < 0 ∨ 9999 < z := by
  simp only [opOkD, h1, Bool.true_and, okW, betw, decide_eq_false_iff_not] at h
  omega

set_option maxHeartbeats 4000000 in
set_option maxRecDepth 100000 in
theorem ops_any (a : Option Addr) (len cap : Nat) (zs : List Int) (w : World) (hr : Row8 w a len zs) (hs : len ≤ 4096) :
    Calls Try.prog 3 #[.slice a len cap] w fun e w' => e = .returned (.bool true) ∧ Below w.heap.size w w' := by
  have hbig : decide ((4096 : Int) < len) = false := by simp; omega
  go_enter Try.func3, Try.ntmps3
  go_wp2_with fail
  refine (big_any _ _ _ _).mono ?_
  rintro e w1 ⟨rfl, rfl⟩
  go_wp2_with fail
  refine (drawDone_any _ _ _ zs _ hr).mono ?_
  rintro e w2 ⟨k, l, x, y, z, rfl, hsm, hz, b2⟩
  clear hsm hz hr hs hbig
  cases hd : opOkD k l x y z
  · have hv : opThenD k l x y z = -1 ∧ opToldD k l x y z = -1 := by simp [opThenD, opToldD, hd]
    cases hob : opB k l x y
    · have KI : Hid (∀ wx : World, Calls Try.prog 10 #[.agg #[.int .i64 k, .int .i64 l, .int .i64 x, .int .i64 y], .int .i64 z] wx fun e w' => e = .returned (.tuple #[.int .i64 (-1), .int .i64 (-1)]) ∧ Below wx.heap.size wx w') := fun wx => by have := implDone_any k l x y z wx; rw [hv.1, hv.2] at this; exact this
      have KS : Hid (∀ wx : World, Calls Try.prog 12 #[.agg #[.int .i64 k, .int .i64 l, .int .i64 x, .int .i64 y], .int .i64 z] wx fun e w' => e = .returned (.tuple #[.int .i64 (-1), .int .i64 (-1)]) ∧ Below wx.heap.size wx w') := fun wx => by have := specDone_any k l x y z wx; rw [hv.1, hv.2] at this; exact this
      have KW : Hid (∀ wx : World, Calls Try.prog 11 #[.agg #[.int .i64 k, .int .i64 l, .int .i64 x, .int .i64 y]] wx fun e w' => e = .returned (.bool false) ∧ Below wx.heap.size wx w') := fun wx => by have := implWrites_any k l x y wx; rw [hob] at this; exact this
      have KX : Hid (∀ wx : World, Calls Try.prog 13 #[.agg #[.int .i64 k, .int .i64 l, .int .i64 x, .int .i64 y]] wx fun e w' => e = .returned (.bool false) ∧ Below wx.heap.size wx w') := fun wx => by have := specWrites_any k l x y wx; rw [hob] at this; exact this
      have KO : Hid (∀ wx : World, Calls Try.prog 14 #[.agg #[.int .i64 k, .int .i64 l, .int .i64 x, .int .i64 y]] wx fun e w' => e = .returned (.bool false) ∧ Below wx.heap.size wx w') := fun wx => by have := implOpOk_any k l x y wx; rw [hob] at this; exact this
      have KP : Hid (∀ wx : World, Calls Try.prog 15 #[.agg #[.int .i64 k, .int .i64 l, .int .i64 x, .int .i64 y]] wx fun e w' => e = .returned (.bool false) ∧ Below wx.heap.size wx w') := fun wx => by have := specOpOk_any k l x y wx; rw [hob] at this; exact this
      clear hv hob hd
      go_wp2_with fail
      refine (KI.out _).mono ?_
      rintro e w3 ⟨rfl, b3⟩
      have R := op_row b3 (heap_alloc_new w2 _)
      have B := below_step (b2.alloc b2.size _) b3
      clear b2 b3
      obtain ⟨c0, c1, c2, c3⟩ := op_cells R
      go_wp2_with fail
      refine (KW.out _).mono ?_
      rintro e w4 ⟨rfl, b4⟩
      replace R := op_row b4 R
      replace B := below_step B b4
      clear b4 c0 c1 c2 c3
      obtain ⟨c0, c1, c2, c3⟩ := op_cells R
      go_wp2_with fail
      refine (KS.out _).mono ?_
      rintro e w5 ⟨rfl, b5⟩
      replace R := op_row b5 R
      replace B := below_step B b5
      clear b5 c0 c1 c2 c3
      go_wp2
      obtain ⟨n0, n1, n2, n3⟩ := op_cls R
      refine region_class (fun wx => Below w5.heap.size w5 wx) (by kernel_rfl) (by kernel_rfl) ((Below.refl _ w5).drew) ?_
      intro hne
      repeat (quiet_step (first
        | (go_at_call 13; exact calls_class (KX.out _) (fun w' hc bb => below_step hc bb))
        | (go_at_call 14; exact calls_class (KO.out _) (fun w' hc bb => below_step hc bb))
        | (go_at_call 15; exact calls_class (KP.out _) (fun w' hc bb => below_step hc bb))))
      refine wpQuiet_nil ?_
      intro w6 b6
      clear n0 n1 n2 n3 hne
      replace R := op_row b6 R
      replace B := below_step B b6
      clear b6
      obtain ⟨c0, c1, c2, c3⟩ := op_cells R
      go_wp2_with (go_at_call 15; refine (KP.out _).mono ?_; rintro e w7 ⟨rfl, b7⟩)
      go_ret
      exact ⟨rfl, below_step B b7⟩
    · have hzz := opB_no hd hob
      have KI : Hid (∀ wx : World, Calls Try.prog 10 #[.agg #[.int .i64 k, .int .i64 l, .int .i64 x, .int .i64 y], .int .i64 z] wx fun e w' => e = .returned (.tuple #[.int .i64 (-1), .int .i64 (-1)]) ∧ Below wx.heap.size wx w') := fun wx => by have := implDone_any k l x y z wx; rw [hv.1, hv.2] at this; exact this
      have KS : Hid (∀ wx : World, Calls Try.prog 12 #[.agg #[.int .i64 k, .int .i64 l, .int .i64 x, .int .i64 y], .int .i64 z] wx fun e w' => e = .returned (.tuple #[.int .i64 (-1), .int .i64 (-1)]) ∧ Below wx.heap.size wx w') := fun wx => by have := specDone_any k l x y z wx; rw [hv.1, hv.2] at this; exact this
      have KW : Hid (∀ wx : World, Calls Try.prog 11 #[.agg #[.int .i64 k, .int .i64 l, .int .i64 x, .int .i64 y]] wx fun e w' => e = .returned (.bool (k != 1)) ∧ Below wx.heap.size wx w') := fun wx => by have := implWrites_any k l x y wx; rw [hob] at this; exact this
      have KX : Hid (∀ wx : World, Calls Try.prog 13 #[.agg #[.int .i64 k, .int .i64 l, .int .i64 x, .int .i64 y]] wx fun e w' => e = .returned (.bool (k != 1)) ∧ Below wx.heap.size wx w') := fun wx => by have := specWrites_any k l x y wx; rw [hob] at this; exact this
      have KO : Hid (∀ wx : World, Calls Try.prog 14 #[.agg #[.int .i64 k, .int .i64 l, .int .i64 x, .int .i64 y]] wx fun e w' => e = .returned (.bool true) ∧ Below wx.heap.size wx w') := fun wx => by have := implOpOk_any k l x y wx; rw [hob] at this; exact this
      have KP : Hid (∀ wx : World, Calls Try.prog 15 #[.agg #[.int .i64 k, .int .i64 l, .int .i64 x, .int .i64 y]] wx fun e w' => e = .returned (.bool true) ∧ Below wx.heap.size wx w') := fun wx => by have := specOpOk_any k l x y wx; rw [hob] at this; exact this
      generalize (k != 1) = kb at KW KX
      clear hv hob hd
      rcases hzz with hz0 | hz0
      · go_wp2_with fail
        refine (KI.out _).mono ?_
        rintro e w3 ⟨rfl, b3⟩
        have R := op_row b3 (heap_alloc_new w2 _)
        have B := below_step (b2.alloc b2.size _) b3
        clear b2 b3
        obtain ⟨c0, c1, c2, c3⟩ := op_cells R
        go_wp2_with fail
        refine (KW.out _).mono ?_
        rintro e w4 ⟨rfl, b4⟩
        replace R := op_row b4 R
        replace B := below_step B b4
        clear b4 c0 c1 c2 c3
        obtain ⟨c0, c1, c2, c3⟩ := op_cells R
        go_wp2_with fail
        refine (KS.out _).mono ?_
        rintro e w5 ⟨rfl, b5⟩
        replace R := op_row b5 R
        replace B := below_step B b5
        clear b5 c0 c1 c2 c3
        go_wp2
        obtain ⟨n0, n1, n2, n3⟩ := op_cls R
        refine region_class (fun wx => Below w5.heap.size w5 wx) (by kernel_rfl) (by kernel_rfl) ((Below.refl _ w5).drew) ?_
        intro hne
        repeat (quiet_step (first
          | (go_at_call 13; exact calls_class (KX.out _) (fun w' hc bb => below_step hc bb))
          | (go_at_call 14; exact calls_class (KO.out _) (fun w' hc bb => below_step hc bb))
          | (go_at_call 15; exact calls_class (KP.out _) (fun w' hc bb => below_step hc bb))))
        refine wpQuiet_nil ?_
        intro w6 b6
        clear n0 n1 n2 n3 hne
        replace R := op_row b6 R
        replace B := below_step B b6
        clear b6
        obtain ⟨c0, c1, c2, c3⟩ := op_cells R
        go_wp2_with (go_at_call 15; refine (KP.out _).mono ?_; rintro e w7 ⟨rfl, b7⟩)
        go_ret
        exact ⟨rfl, below_step B b7⟩
      · go_wp2_with fail
        refine (KI.out _).mono ?_
        rintro e w3 ⟨rfl, b3⟩
        have R := op_row b3 (heap_alloc_new w2 _)
        have B := below_step (b2.alloc b2.size _) b3
        clear b2 b3
        obtain ⟨c0, c1, c2, c3⟩ := op_cells R
        go_wp2_with fail
        refine (KW.out _).mono ?_
        rintro e w4 ⟨rfl, b4⟩
        replace R := op_row b4 R
        replace B := below_step B b4
        clear b4 c0 c1 c2 c3
        obtain ⟨c0, c1, c2, c3⟩ := op_cells R
        go_wp2_with fail
        refine (KS.out _).mono ?_
        rintro e w5 ⟨rfl, b5⟩
        replace R := op_row b5 R
        replace B := below_step B b5
        clear b5 c0 c1 c2 c3
        go_wp2
        obtain ⟨n0, n1, n2, n3⟩ := op_cls R
        refine region_class (fun wx => Below w5.heap.size w5 wx) (by kernel_rfl) (by kernel_rfl) ((Below.refl _ w5).drew) ?_
        intro hne
        repeat (quiet_step (first
          | (go_at_call 13; exact calls_class (KX.out _) (fun w' hc bb => below_step hc bb))
          | (go_at_call 14; exact calls_class (KO.out _) (fun w' hc bb => below_step hc bb))
          | (go_at_call 15; exact calls_class (KP.out _) (fun w' hc bb => below_step hc bb))))
        refine wpQuiet_nil ?_
        intro w6 b6
        clear n0 n1 n2 n3 hne
        replace R := op_row b6 R
        replace B := below_step B b6
        clear b6
        obtain ⟨c0, c1, c2, c3⟩ := op_cells R
        go_wp2_with (go_at_call 15; refine (KP.out _).mono ?_; rintro e w7 ⟨rfl, b7⟩)
        go_ret
        exact ⟨rfl, below_step B b7⟩
  · have hob : opB k l x y = true := by simp [opOkD] at hd; exact hd.1
    have hoz : okW z = true := by simp [opOkD] at hd; exact hd.2
    obtain ⟨⟨hx0, hx1⟩, hz0, hz1⟩ := op_sum (opB_x hob) hoz
    obtain ⟨⟨hy0, hy1⟩, -, -⟩ := op_sum (opB_y hob) hoz
    have hv : opThenD k l x y z = opThen k x y z ∧ opToldD k l x y z = opTold k z := by simp [opThenD, opToldD, hd]
    have hk := opKind (opB_kind hob)
    clear hoz hd
    rcases hk with rfl | rfl | rfl | rfl | rfl
    · have KI : Hid (∀ wx : World, Calls Try.prog 10 #[.agg #[.int .i64 1, .int .i64 l, .int .i64 x, .int .i64 y], .int .i64 z] wx fun e w' => e = .returned (.tuple #[.int .i64 z, .int .i64 z]) ∧ Below wx.heap.size wx w') := fun wx => by have := implDone_any 1 l x y z wx; rw [hv.1, hv.2] at this; exact this
      have KS : Hid (∀ wx : World, Calls Try.prog 12 #[.agg #[.int .i64 1, .int .i64 l, .int .i64 x, .int .i64 y], .int .i64 z] wx fun e w' => e = .returned (.tuple #[.int .i64 z, .int .i64 z]) ∧ Below wx.heap.size wx w') := fun wx => by have := specDone_any 1 l x y z wx; rw [hv.1, hv.2] at this; exact this
      have KW : Hid (∀ wx : World, Calls Try.prog 11 #[.agg #[.int .i64 1, .int .i64 l, .int .i64 x, .int .i64 y]] wx fun e w' => e = .returned (.bool false) ∧ Below wx.heap.size wx w') := fun wx => by have := implWrites_any 1 l x y wx; rw [hob] at this; exact this
      have KX : Hid (∀ wx : World, Calls Try.prog 13 #[.agg #[.int .i64 1, .int .i64 l, .int .i64 x, .int .i64 y]] wx fun e w' => e = .returned (.bool false) ∧ Below wx.heap.size wx w') := fun wx => by have := specWrites_any 1 l x y wx; rw [hob] at this; exact this
      have KO : Hid (∀ wx : World, Calls Try.prog 14 #[.agg #[.int .i64 1, .int .i64 l, .int .i64 x, .int .i64 y]] wx fun e w' => e = .returned (.bool true) ∧ Below wx.heap.size wx w') := fun wx => by have := implOpOk_any 1 l x y wx; rw [hob] at this; exact this
      have KP : Hid (∀ wx : World, Calls Try.prog 15 #[.agg #[.int .i64 1, .int .i64 l, .int .i64 x, .int .i64 y]] wx fun e w' => e = .returned (.bool true) ∧ Below wx.heap.size wx w') := fun wx => by have := specOpOk_any 1 l x y wx; rw [hob] at this; exact this
      clear hv hob
      go_wp2_with fail
      refine (KI.out _).mono ?_
      rintro e w3 ⟨rfl, b3⟩
      have R := op_row b3 (heap_alloc_new w2 _)
      have B := below_step (b2.alloc b2.size _) b3
      clear b2 b3
      obtain ⟨c0, c1, c2, c3⟩ := op_cells R
      go_wp2_with fail
      refine (KW.out _).mono ?_
      rintro e w4 ⟨rfl, b4⟩
      replace R := op_row b4 R
      replace B := below_step B b4
      clear b4 c0 c1 c2 c3
      obtain ⟨c0, c1, c2, c3⟩ := op_cells R
      go_wp2_with fail
      refine (KS.out _).mono ?_
      rintro e w5 ⟨rfl, b5⟩
      replace R := op_row b5 R
      replace B := below_step B b5
      clear b5 c0 c1 c2 c3
      go_wp2
      obtain ⟨n0, n1, n2, n3⟩ := op_cls R
      refine region_class (fun wx => Below w5.heap.size w5 wx) (by kernel_rfl) (by kernel_rfl) ((Below.refl _ w5).drew) ?_
      intro hne
      repeat (quiet_step (first
        | (go_at_call 13; exact calls_class (KX.out _) (fun w' hc bb => below_step hc bb))
        | (go_at_call 14; exact calls_class (KO.out _) (fun w' hc bb => below_step hc bb))
        | (go_at_call 15; exact calls_class (KP.out _) (fun w' hc bb => below_step hc bb))))
      refine wpQuiet_nil ?_
      intro w6 b6
      clear n0 n1 n2 n3 hne
      replace R := op_row b6 R
      replace B := below_step B b6
      clear b6
      obtain ⟨c0, c1, c2, c3⟩ := op_cells R
      go_wp2
      go_ret
      exact ⟨rfl, B⟩
    · have KI : Hid (∀ wx : World, Calls Try.prog 10 #[.agg #[.int .i64 2, .int .i64 l, .int .i64 x, .int .i64 y], .int .i64 z] wx fun e w' => e = .returned (.tuple #[.int .i64 x, .int .i64 0]) ∧ Below wx.heap.size wx w') := fun wx => by have := implDone_any 2 l x y z wx; rw [hv.1, hv.2] at this; exact this
      have KS : Hid (∀ wx : World, Calls Try.prog 12 #[.agg #[.int .i64 2, .int .i64 l, .int .i64 x, .int .i64 y], .int .i64 z] wx fun e w' => e = .returned (.tuple #[.int .i64 x, .int .i64 0]) ∧ Below wx.heap.size wx w') := fun wx => by have := specDone_any 2 l x y z wx; rw [hv.1, hv.2] at this; exact this
      have KW : Hid (∀ wx : World, Calls Try.prog 11 #[.agg #[.int .i64 2, .int .i64 l, .int .i64 x, .int .i64 y]] wx fun e w' => e = .returned (.bool true) ∧ Below wx.heap.size wx w') := fun wx => by have := implWrites_any 2 l x y wx; rw [hob] at this; exact this
      have KX : Hid (∀ wx : World, Calls Try.prog 13 #[.agg #[.int .i64 2, .int .i64 l, .int .i64 x, .int .i64 y]] wx fun e w' => e = .returned (.bool true) ∧ Below wx.heap.size wx w') := fun wx => by have := specWrites_any 2 l x y wx; rw [hob] at this; exact this
      have KO : Hid (∀ wx : World, Calls Try.prog 14 #[.agg #[.int .i64 2, .int .i64 l, .int .i64 x, .int .i64 y]] wx fun e w' => e = .returned (.bool true) ∧ Below wx.heap.size wx w') := fun wx => by have := implOpOk_any 2 l x y wx; rw [hob] at this; exact this
      have KP : Hid (∀ wx : World, Calls Try.prog 15 #[.agg #[.int .i64 2, .int .i64 l, .int .i64 x, .int .i64 y]] wx fun e w' => e = .returned (.bool true) ∧ Below wx.heap.size wx w') := fun wx => by have := specOpOk_any 2 l x y wx; rw [hob] at this; exact this
      clear hv hob
      go_wp2_with fail
      refine (KI.out _).mono ?_
      rintro e w3 ⟨rfl, b3⟩
      have R := op_row b3 (heap_alloc_new w2 _)
      have B := below_step (b2.alloc b2.size _) b3
      clear b2 b3
      obtain ⟨c0, c1, c2, c3⟩ := op_cells R
      go_wp2_with fail
      refine (KW.out _).mono ?_
      rintro e w4 ⟨rfl, b4⟩
      replace R := op_row b4 R
      replace B := below_step B b4
      clear b4 c0 c1 c2 c3
      obtain ⟨c0, c1, c2, c3⟩ := op_cells R
      go_wp2_with fail
      refine (KS.out _).mono ?_
      rintro e w5 ⟨rfl, b5⟩
      replace R := op_row b5 R
      replace B := below_step B b5
      clear b5 c0 c1 c2 c3
      go_wp2
      obtain ⟨n0, n1, n2, n3⟩ := op_cls R
      refine region_class (fun wx => Below w5.heap.size w5 wx) (by kernel_rfl) (by kernel_rfl) ((Below.refl _ w5).drew) ?_
      intro hne
      repeat (quiet_step (first
        | (go_at_call 13; exact calls_class (KX.out _) (fun w' hc bb => below_step hc bb))
        | (go_at_call 14; exact calls_class (KO.out _) (fun w' hc bb => below_step hc bb))
        | (go_at_call 15; exact calls_class (KP.out _) (fun w' hc bb => below_step hc bb))))
      refine wpQuiet_nil ?_
      intro w6 b6
      clear n0 n1 n2 n3 hne
      replace R := op_row b6 R
      replace B := below_step B b6
      clear b6
      obtain ⟨c0, c1, c2, c3⟩ := op_cells R
      go_wp2
      go_ret
      exact ⟨rfl, B⟩
    · obtain ⟨q, hq⟩ : ∃ q, q = (z + x) % 10000 := ⟨_, rfl⟩
      have hq0 : 0 ≤ q := by omega
      have hq1 : q ≤ 9999 := by omega
      have hq2 : (q - z - x).tmod 10000 = 0 := by
        have : (10000 : Int) ∣ q - z - x := by omega
        exact Int.tmod_eq_zero_of_dvd this
      replace hv : opThenD 3 l x y z = q ∧ opToldD 3 l x y z = z := ⟨hv.1.trans hq.symm, hv.2⟩
      clear hq
      have KI : Hid (∀ wx : World, Calls Try.prog 10 #[.agg #[.int .i64 3, .int .i64 l, .int .i64 x, .int .i64 y], .int .i64 z] wx fun e w' => e = .returned (.tuple #[.int .i64 q, .int .i64 z]) ∧ Below wx.heap.size wx w') := fun wx => by have := implDone_any 3 l x y z wx; rw [hv.1, hv.2] at this; exact this
      have KS : Hid (∀ wx : World, Calls Try.prog 12 #[.agg #[.int .i64 3, .int .i64 l, .int .i64 x, .int .i64 y], .int .i64 z] wx fun e w' => e = .returned (.tuple #[.int .i64 q, .int .i64 z]) ∧ Below wx.heap.size wx w') := fun wx => by have := specDone_any 3 l x y z wx; rw [hv.1, hv.2] at this; exact this
      have KW : Hid (∀ wx : World, Calls Try.prog 11 #[.agg #[.int .i64 3, .int .i64 l, .int .i64 x, .int .i64 y]] wx fun e w' => e = .returned (.bool true) ∧ Below wx.heap.size wx w') := fun wx => by have := implWrites_any 3 l x y wx; rw [hob] at this; exact this
      have KX : Hid (∀ wx : World, Calls Try.prog 13 #[.agg #[.int .i64 3, .int .i64 l, .int .i64 x, .int .i64 y]] wx fun e w' => e = .returned (.bool true) ∧ Below wx.heap.size wx w') := fun wx => by have := specWrites_any 3 l x y wx; rw [hob] at this; exact this
      have KO : Hid (∀ wx : World, Calls Try.prog 14 #[.agg #[.int .i64 3, .int .i64 l, .int .i64 x, .int .i64 y]] wx fun e w' => e = .returned (.bool true) ∧ Below wx.heap.size wx w') := fun wx => by have := implOpOk_any 3 l x y wx; rw [hob] at this; exact this
      have KP : Hid (∀ wx : World, Calls Try.prog 15 #[.agg #[.int .i64 3, .int .i64 l, .int .i64 x, .int .i64 y]] wx fun e w' => e = .returned (.bool true) ∧ Below wx.heap.size wx w') := fun wx => by have := specOpOk_any 3 l x y wx; rw [hob] at this; exact this
      clear hv hob
      go_wp2_with fail
      refine (KI.out _).mono ?_
      rintro e w3 ⟨rfl, b3⟩
      have R := op_row b3 (heap_alloc_new w2 _)
      have B := below_step (b2.alloc b2.size _) b3
      clear b2 b3
      obtain ⟨c0, c1, c2, c3⟩ := op_cells R
      go_wp2_with fail
      refine (KW.out _).mono ?_
      rintro e w4 ⟨rfl, b4⟩
      replace R := op_row b4 R
      replace B := below_step B b4
      clear b4 c0 c1 c2 c3
      obtain ⟨c0, c1, c2, c3⟩ := op_cells R
      go_wp2_with fail
      refine (KS.out _).mono ?_
      rintro e w5 ⟨rfl, b5⟩
      replace R := op_row b5 R
      replace B := below_step B b5
      clear b5 c0 c1 c2 c3
      go_wp2
      obtain ⟨n0, n1, n2, n3⟩ := op_cls R
      refine region_class (fun wx => Below w5.heap.size w5 wx) (by kernel_rfl) (by kernel_rfl) ((Below.refl _ w5).drew) ?_
      intro hne
      repeat (quiet_step (first
        | (go_at_call 13; exact calls_class (KX.out _) (fun w' hc bb => below_step hc bb))
        | (go_at_call 14; exact calls_class (KO.out _) (fun w' hc bb => below_step hc bb))
        | (go_at_call 15; exact calls_class (KP.out _) (fun w' hc bb => below_step hc bb))))
      refine wpQuiet_nil ?_
      intro w6 b6
      clear n0 n1 n2 n3 hne
      replace R := op_row b6 R
      replace B := below_step B b6
      clear b6
      obtain ⟨c0, c1, c2, c3⟩ := op_cells R
      go_wp2
      go_ret
      exact ⟨rfl, B⟩
    · have KI : Hid (∀ wx : World, Calls Try.prog 10 #[.agg #[.int .i64 4, .int .i64 l, .int .i64 x, .int .i64 y], .int .i64 z] wx fun e w' => e = .returned (.tuple #[.int .i64 x, .int .i64 z]) ∧ Below wx.heap.size wx w') := fun wx => by have := implDone_any 4 l x y z wx; rw [hv.1, hv.2] at this; exact this
      have KS : Hid (∀ wx : World, Calls Try.prog 12 #[.agg #[.int .i64 4, .int .i64 l, .int .i64 x, .int .i64 y], .int .i64 z] wx fun e w' => e = .returned (.tuple #[.int .i64 x, .int .i64 z]) ∧ Below wx.heap.size wx w') := fun wx => by have := specDone_any 4 l x y z wx; rw [hv.1, hv.2] at this; exact this
      have KW : Hid (∀ wx : World, Calls Try.prog 11 #[.agg #[.int .i64 4, .int .i64 l, .int .i64 x, .int .i64 y]] wx fun e w' => e = .returned (.bool true) ∧ Below wx.heap.size wx w') := fun wx => by have := implWrites_any 4 l x y wx; rw [hob] at this; exact this
      have KX : Hid (∀ wx : World, Calls Try.prog 13 #[.agg #[.int .i64 4, .int .i64 l, .int .i64 x, .int .i64 y]] wx fun e w' => e = .returned (.bool true) ∧ Below wx.heap.size wx w') := fun wx => by have := specWrites_any 4 l x y wx; rw [hob] at this; exact this
      have KO : Hid (∀ wx : World, Calls Try.prog 14 #[.agg #[.int .i64 4, .int .i64 l, .int .i64 x, .int .i64 y]] wx fun e w' => e = .returned (.bool true) ∧ Below wx.heap.size wx w') := fun wx => by have := implOpOk_any 4 l x y wx; rw [hob] at this; exact this
      have KP : Hid (∀ wx : World, Calls Try.prog 15 #[.agg #[.int .i64 4, .int .i64 l, .int .i64 x, .int .i64 y]] wx fun e w' => e = .returned (.bool true) ∧ Below wx.heap.size wx w') := fun wx => by have := specOpOk_any 4 l x y wx; rw [hob] at this; exact this
      clear hv hob
      go_wp2_with fail
      refine (KI.out _).mono ?_
      rintro e w3 ⟨rfl, b3⟩
      have R := op_row b3 (heap_alloc_new w2 _)
      have B := below_step (b2.alloc b2.size _) b3
      clear b2 b3
      obtain ⟨c0, c1, c2, c3⟩ := op_cells R
      go_wp2_with fail
      refine (KW.out _).mono ?_
      rintro e w4 ⟨rfl, b4⟩
      replace R := op_row b4 R
      replace B := below_step B b4
      clear b4 c0 c1 c2 c3
      obtain ⟨c0, c1, c2, c3⟩ := op_cells R
      go_wp2_with fail
      refine (KS.out _).mono ?_
      rintro e w5 ⟨rfl, b5⟩
      replace R := op_row b5 R
      replace B := below_step B b5
      clear b5 c0 c1 c2 c3
      go_wp2
      obtain ⟨n0, n1, n2, n3⟩ := op_cls R
      refine region_class (fun wx => Below w5.heap.size w5 wx) (by kernel_rfl) (by kernel_rfl) ((Below.refl _ w5).drew) ?_
      intro hne
      repeat (quiet_step (first
        | (go_at_call 13; exact calls_class (KX.out _) (fun w' hc bb => below_step hc bb))
        | (go_at_call 14; exact calls_class (KO.out _) (fun w' hc bb => below_step hc bb))
        | (go_at_call 15; exact calls_class (KP.out _) (fun w' hc bb => below_step hc bb))))
      refine wpQuiet_nil ?_
      intro w6 b6
      clear n0 n1 n2 n3 hne
      replace R := op_row b6 R
      replace B := below_step B b6
      clear b6
      obtain ⟨c0, c1, c2, c3⟩ := op_cells R
      go_wp2
      go_ret
      exact ⟨rfl, B⟩
    · by_cases hzx : z = x
      · subst hzx
        replace hv : opThenD 5 l z y z = y ∧ opToldD 5 l z y z = z := ⟨hv.1.trans (by simp [opThen]), hv.2⟩
        have KI : Hid (∀ wx : World, Calls Try.prog 10 #[.agg #[.int .i64 5, .int .i64 l, .int .i64 z, .int .i64 y], .int .i64 z] wx fun e w' => e = .returned (.tuple #[.int .i64 y, .int .i64 z]) ∧ Below wx.heap.size wx w') := fun wx => by have := implDone_any 5 l z y z wx; rw [hv.1, hv.2] at this; exact this
        have KS : Hid (∀ wx : World, Calls Try.prog 12 #[.agg #[.int .i64 5, .int .i64 l, .int .i64 z, .int .i64 y], .int .i64 z] wx fun e w' => e = .returned (.tuple #[.int .i64 y, .int .i64 z]) ∧ Below wx.heap.size wx w') := fun wx => by have := specDone_any 5 l z y z wx; rw [hv.1, hv.2] at this; exact this
        have KW : Hid (∀ wx : World, Calls Try.prog 11 #[.agg #[.int .i64 5, .int .i64 l, .int .i64 z, .int .i64 y]] wx fun e w' => e = .returned (.bool true) ∧ Below wx.heap.size wx w') := fun wx => by have := implWrites_any 5 l z y wx; rw [hob] at this; exact this
        have KX : Hid (∀ wx : World, Calls Try.prog 13 #[.agg #[.int .i64 5, .int .i64 l, .int .i64 z, .int .i64 y]] wx fun e w' => e = .returned (.bool true) ∧ Below wx.heap.size wx w') := fun wx => by have := specWrites_any 5 l z y wx; rw [hob] at this; exact this
        have KO : Hid (∀ wx : World, Calls Try.prog 14 #[.agg #[.int .i64 5, .int .i64 l, .int .i64 z, .int .i64 y]] wx fun e w' => e = .returned (.bool true) ∧ Below wx.heap.size wx w') := fun wx => by have := implOpOk_any 5 l z y wx; rw [hob] at this; exact this
        have KP : Hid (∀ wx : World, Calls Try.prog 15 #[.agg #[.int .i64 5, .int .i64 l, .int .i64 z, .int .i64 y]] wx fun e w' => e = .returned (.bool true) ∧ Below wx.heap.size wx w') := fun wx => by have := specOpOk_any 5 l z y wx; rw [hob] at this; exact this
        clear hv hob
        go_wp2_with fail
        refine (KI.out _).mono ?_
        rintro e w3 ⟨rfl, b3⟩
        have R := op_row b3 (heap_alloc_new w2 _)
        have B := below_step (b2.alloc b2.size _) b3
        clear b2 b3
        obtain ⟨c0, c1, c2, c3⟩ := op_cells R
        go_wp2_with fail
        refine (KW.out _).mono ?_
        rintro e w4 ⟨rfl, b4⟩
        replace R := op_row b4 R
        replace B := below_step B b4
        clear b4 c0 c1 c2 c3
        obtain ⟨c0, c1, c2, c3⟩ := op_cells R
        go_wp2_with fail
        refine (KS.out _).mono ?_
        rintro e w5 ⟨rfl, b5⟩
        replace R := op_row b5 R
        replace B := below_step B b5
        clear b5 c0 c1 c2 c3
        go_wp2
        obtain ⟨n0, n1, n2, n3⟩ := op_cls R
        refine region_class (fun wx => Below w5.heap.size w5 wx) (by kernel_rfl) (by kernel_rfl) ((Below.refl _ w5).drew) ?_
        intro hne
        repeat (quiet_step (first
          | (go_at_call 13; exact calls_class (KX.out _) (fun w' hc bb => below_step hc bb))
          | (go_at_call 14; exact calls_class (KO.out _) (fun w' hc bb => below_step hc bb))
          | (go_at_call 15; exact calls_class (KP.out _) (fun w' hc bb => below_step hc bb))))
        refine wpQuiet_nil ?_
        intro w6 b6
        clear n0 n1 n2 n3 hne
        replace R := op_row b6 R
        replace B := below_step B b6
        clear b6
        obtain ⟨c0, c1, c2, c3⟩ := op_cells R
        go_wp2
        go_ret
        exact ⟨rfl, B⟩
      · replace hv : opThenD 5 l x y z = z ∧ opToldD 5 l x y z = z := ⟨hv.1.trans (by simp [opThen, hzx]), hv.2⟩
        have KI : Hid (∀ wx : World, Calls Try.prog 10 #[.agg #[.int .i64 5, .int .i64 l, .int .i64 x, .int .i64 y], .int .i64 z] wx fun e w' => e = .returned (.tuple #[.int .i64 z, .int .i64 z]) ∧ Below wx.heap.size wx w') := fun wx => by have := implDone_any 5 l x y z wx; rw [hv.1, hv.2] at this; exact this
        have KS : Hid (∀ wx : World, Calls Try.prog 12 #[.agg #[.int .i64 5, .int .i64 l, .int .i64 x, .int .i64 y], .int .i64 z] wx fun e w' => e = .returned (.tuple #[.int .i64 z, .int .i64 z]) ∧ Below wx.heap.size wx w') := fun wx => by have := specDone_any 5 l x y z wx; rw [hv.1, hv.2] at this; exact this
        have KW : Hid (∀ wx : World, Calls Try.prog 11 #[.agg #[.int .i64 5, .int .i64 l, .int .i64 x, .int .i64 y]] wx fun e w' => e = .returned (.bool true) ∧ Below wx.heap.size wx w') := fun wx => by have := implWrites_any 5 l x y wx; rw [hob] at this; exact this
        have KX : Hid (∀ wx : World, Calls Try.prog 13 #[.agg #[.int .i64 5, .int .i64 l, .int .i64 x, .int .i64 y]] wx fun e w' => e = .returned (.bool true) ∧ Below wx.heap.size wx w') := fun wx => by have := specWrites_any 5 l x y wx; rw [hob] at this; exact this
        have KO : Hid (∀ wx : World, Calls Try.prog 14 #[.agg #[.int .i64 5, .int .i64 l, .int .i64 x, .int .i64 y]] wx fun e w' => e = .returned (.bool true) ∧ Below wx.heap.size wx w') := fun wx => by have := implOpOk_any 5 l x y wx; rw [hob] at this; exact this
        have KP : Hid (∀ wx : World, Calls Try.prog 15 #[.agg #[.int .i64 5, .int .i64 l, .int .i64 x, .int .i64 y]] wx fun e w' => e = .returned (.bool true) ∧ Below wx.heap.size wx w') := fun wx => by have := specOpOk_any 5 l x y wx; rw [hob] at this; exact this
        clear hv hob
        go_wp2_with fail
        refine (KI.out _).mono ?_
        rintro e w3 ⟨rfl, b3⟩
        have R := op_row b3 (heap_alloc_new w2 _)
        have B := below_step (b2.alloc b2.size _) b3
        clear b2 b3
        obtain ⟨c0, c1, c2, c3⟩ := op_cells R
        go_wp2_with fail
        refine (KW.out _).mono ?_
        rintro e w4 ⟨rfl, b4⟩
        replace R := op_row b4 R
        replace B := below_step B b4
        clear b4 c0 c1 c2 c3
        obtain ⟨c0, c1, c2, c3⟩ := op_cells R
        go_wp2_with fail
        refine (KS.out _).mono ?_
        rintro e w5 ⟨rfl, b5⟩
        replace R := op_row b5 R
        replace B := below_step B b5
        clear b5 c0 c1 c2 c3
        go_wp2
        obtain ⟨n0, n1, n2, n3⟩ := op_cls R
        refine region_class (fun wx => Below w5.heap.size w5 wx) (by kernel_rfl) (by kernel_rfl) ((Below.refl _ w5).drew) ?_
        intro hne
        repeat (quiet_step (first
          | (go_at_call 13; exact calls_class (KX.out _) (fun w' hc bb => below_step hc bb))
          | (go_at_call 14; exact calls_class (KO.out _) (fun w' hc bb => below_step hc bb))
          | (go_at_call 15; exact calls_class (KP.out _) (fun w' hc bb => below_step hc bb))))
        refine wpQuiet_nil ?_
        intro w6 b6
        clear n0 n1 n2 n3 hne
        replace R := op_row b6 R
        replace B := below_step B b6
        clear b6
        obtain ⟨c0, c1, c2, c3⟩ := op_cells R
        go_wp2
        go_ret
        exact ⟨ret_bool (by simp [hzx]), B⟩

theorem cas_one {a b : Int} (ha : okW a = true) (hb : okW b = true) : opThenD 5 0 a b a = b ∧ opToldD 5 0 a b a = a := by
  have h : opOkD 5 0 a b a = true := by
    unfold okW at ha hb
    simp [opOkD, opB, opMostA, opMostB, okW, ha, hb]
    decide
  simp [opThenD, opToldD, h, opThen, opTold]
theorem cas_two {a b c : Int} (ha : okW a = true) (hb : okW b = true) (hc : okW c = true) (hn : b ≠ a) : opThenD 5 0 a c b = b ∧ opToldD 5 0 a c b = b := by
  have h : opOkD 5 0 a c b = true := by
    unfold okW at ha hb hc
    simp [opOkD, opB, opMostA, opMostB, okW, ha, hb, hc]
    decide
  simp [opThenD, opToldD, h, opThen, opTold, hn]
theorem add_one {a b : Int} (ha : okW a = true) (hb : okW b = true) : opThenD 3 0 b 0 a = (a + b) % 10000 ∧ opToldD 3 0 b 0 a = a := by
  have h : opOkD 3 0 b 0 a = true := by
    unfold okW at ha hb
    simp [opOkD, opB, opMostA, opMostB, okW, ha, hb]
    decide
  simp [opThenD, opToldD, h, opThen, opTold]
theorem okW_mk {a : Int} (h0 : 0 ≤ a) (h1 : a ≤ 9999) : okW a = true := by simp [okW, betw]; omega
theorem done_of {k l x y z p q : Int} (h : opThenD k l x y z = p ∧ opToldD k l x y z = q) (w : World) :
    Calls Try.prog 10 #[.agg #[.int .i64 k, .int .i64 l, .int .i64 x, .int .i64 y], .int .i64 z] w fun e w' => e = .returned (.tuple #[.int .i64 p, .int .i64 q]) ∧ Below w.heap.size w w' := by
  have := implDone_any k l x y z w
  rw [h.1, h.2] at this
  exact this

set_option maxHeartbeats 4000000 in
set_option maxRecDepth 100000 in
theorem cas_any (a : Option Addr) (len cap : Nat) (zs : List Int) (w : World) (hr : Row8 w a len zs) (hs : len ≤ 4096) (hb : ∀ j, j < len → 0 ≤ zs.getD j 0 ∧ zs.getD j 0 ≤ 255) :
    Calls Try.prog 4 #[.slice a len cap] w fun e w' => e = .returned (.bool true) ∧ Below w.heap.size w w' := by
  have hbig : decide ((4096 : Int) < len) = false := by simp; omega
  go_enter Try.func4, Try.ntmps4
  go_wp2_with fail
  refine (big_any _ _ _ _).mono ?_
  rintro e w1 ⟨rfl, rfl⟩
  go_wp2_with fail
  refine (drawDone_any _ _ _ zs _ hr).mono ?_
  rintro e w2 ⟨k, l, x, y, z, rfl, hsm, hz, b2⟩
  clear hsm hz hbig
  have KI : Hid (∀ wx : World, Calls Try.prog 10 #[.agg #[.int .i64 k, .int .i64 l, .int .i64 x, .int .i64 y], .int .i64 z] wx fun e w' => e = .returned (.tuple #[.int .i64 (opThenD k l x y z), .int .i64 (opToldD k l x y z)]) ∧ Below wx.heap.size wx w') := fun wx => implDone_any _ _ _ _ _ _
  have KS : Hid (∀ wx : World, Calls Try.prog 12 #[.agg #[.int .i64 k, .int .i64 l, .int .i64 x, .int .i64 y], .int .i64 z] wx fun e w' => e = .returned (.tuple #[.int .i64 (opThenD k l x y z), .int .i64 (opToldD k l x y z)]) ∧ Below wx.heap.size wx w') := fun wx => specDone_any _ _ _ _ _ _
  generalize opThenD k l x y z = p0 at KI KS
  generalize opToldD k l x y z = p1 at KI KS
  go_wp2_with fail
  refine (KI.out _).mono ?_
  rintro e w3 ⟨rfl, b3⟩
  have R := op_row b3 (heap_alloc_new w2 _)
  have B := below_step (b2.alloc b2.size _) b3
  clear b2 b3
  obtain ⟨c0, c1, c2, c3⟩ := op_cells R
  go_wp2_with fail
  refine (KS.out _).mono ?_
  rintro e w4 ⟨rfl, b4⟩
  replace B := below_step B b4
  clear b4 c0 c1 c2 c3 R KI KS
  have hr4 := row8_below hr B
  have HB : Hid (∀ j, j < len → 0 ≤ zs.getD j 0 ∧ zs.getD j 0 ≤ 255) := hb
  clear hb hr
  go_wp2_with fail
  refine (pick_small _ _ _ zs 1 9000 _ hr4 HB.out hs (by omega) (by omega) (by omega) (by omega)).mono ?_
  rintro e wq ⟨⟨a0, rfl, ha00, ha01⟩, hwq⟩
  rw [hwq]
  clear hwq wq
  go_wp2_with fail
  refine (pick_small _ _ _ zs 2 400 _ hr4 HB.out hs (by omega) (by omega) (by omega) (by omega)).mono ?_
  rintro e wq ⟨⟨b0, rfl, hb00, hb01⟩, hwq⟩
  rw [hwq]
  clear hwq wq
  go_wp2_with fail
  refine (pick_small _ _ _ zs 3 400 _ hr4 HB.out hs (by omega) (by omega) (by omega) (by omega)).mono ?_
  rintro e wq ⟨⟨d0, rfl, hd00, hd01⟩, hwq⟩
  rw [hwq]
  clear hwq wq
  clear hr4 HB hs
  have o1 : okW a0 = true := okW_mk (by omega) (by omega)
  have o2 : okW (a0 + 1 + b0) = true := okW_mk (by omega) (by omega)
  have o3 : okW (a0 + 500 + d0) = true := okW_mk (by omega) (by omega)
  have hn : a0 + 1 + b0 ≠ a0 := by omega
  have Z1 : Hid (∀ wx : World, Calls Try.prog 10 #[.agg #[.int .i64 5, .int .i64 0, .int .i64 a0, .int .i64 (a0 + 1 + b0)], .int .i64 a0] wx fun e w' => e = .returned (.tuple #[.int .i64 (a0 + 1 + b0), .int .i64 a0]) ∧ Below wx.heap.size wx w') := fun wx => done_of (cas_one o1 o2) wx
  have Z2 : Hid (∀ wx : World, Calls Try.prog 10 #[.agg #[.int .i64 5, .int .i64 0, .int .i64 a0, .int .i64 (a0 + 500 + d0)], .int .i64 (a0 + 1 + b0)] wx fun e w' => e = .returned (.tuple #[.int .i64 (a0 + 1 + b0), .int .i64 (a0 + 1 + b0)]) ∧ Below wx.heap.size wx w') := fun wx => done_of (cas_two o1 o2 o3 hn) wx
  have Z3 : Hid (∀ wx : World, Calls Try.prog 10 #[.agg #[.int .i64 3, .int .i64 0, .int .i64 (a0 + 1 + b0), .int .i64 0], .int .i64 a0] wx fun e w' => e = .returned (.tuple #[.int .i64 ((a0 + (a0 + 1 + b0)) % 10000), .int .i64 a0]) ∧ Below wx.heap.size wx w') := fun wx => done_of (add_one o1 o2) wx
  have Z4 : Hid (∀ wx : World, Calls Try.prog 10 #[.agg #[.int .i64 3, .int .i64 0, .int .i64 (a0 + 500 + d0), .int .i64 0], .int .i64 ((a0 + (a0 + 1 + b0)) % 10000)] wx fun e w' => e = .returned (.tuple #[.int .i64 (((a0 + (a0 + 1 + b0)) % 10000 + (a0 + 500 + d0)) % 10000), .int .i64 ((a0 + (a0 + 1 + b0)) % 10000)]) ∧ Below wx.heap.size wx w') := fun wx => done_of (add_one (okW_mk (by omega) (by omega)) o3) wx
  have Z5 : Hid (∀ wx : World, Calls Try.prog 10 #[.agg #[.int .i64 3, .int .i64 0, .int .i64 (a0 + 500 + d0), .int .i64 0], .int .i64 a0] wx fun e w' => e = .returned (.tuple #[.int .i64 ((a0 + (a0 + 500 + d0)) % 10000), .int .i64 a0]) ∧ Below wx.heap.size wx w') := fun wx => done_of (add_one o1 o3) wx
  have Z6 : Hid (∀ wx : World, Calls Try.prog 10 #[.agg #[.int .i64 3, .int .i64 0, .int .i64 (a0 + 1 + b0), .int .i64 0], .int .i64 ((a0 + (a0 + 500 + d0)) % 10000)] wx fun e w' => e = .returned (.tuple #[.int .i64 (((a0 + (a0 + 500 + d0)) % 10000 + (a0 + 1 + b0)) % 10000), .int .i64 ((a0 + (a0 + 500 + d0)) % 10000)]) ∧ Below wx.heap.size wx w') := fun wx => done_of (add_one (okW_mk (by omega) (by omega)) o2) wx
  have HE : Hid (((a0 + (a0 + 1 + b0)) % 10000 + (a0 + 500 + d0)) % 10000 = ((a0 + (a0 + 500 + d0)) % 10000 + (a0 + 1 + b0)) % 10000) := by unfold Hid; omega
  clear o1 o2 o3 hn
  go_upto_region 11 with fail
  generalize a0 + 1 + b0 = b1 at Z1 Z2 Z3 Z4 Z5 Z6 HE ⊢
  generalize a0 + 500 + d0 = d1 at Z1 Z2 Z3 Z4 Z5 Z6 HE ⊢
  generalize (a0 + b1) % 10000 = s1 at Z3 Z4 HE
  generalize (a0 + d1) % 10000 = s2 at Z5 Z6 HE
  generalize (s1 + d1) % 10000 = s3 at Z4 HE
  generalize (s2 + b1) % 10000 = s4 at Z6 HE
  obtain rfl := HE.out
  clear HE ha00 ha01 hb00 hb01 hd00 hd01
  have hlt0 := B.size
  go_wp2_with fail
  refine (Z1.out _).mono ?_
  rintro e w5 ⟨rfl, b5⟩
  have R1 := op_row b5 (row_alloc (heap_alloc_new w4 (.cells #[.int .i64 5, .int .i64 0, .int .i64 a0, .int .i64 b1] 25)) (.cells #[.int .i64 5, .int .i64 0, .int .i64 a0, .int .i64 d1] 25))
  have R2 := op_row b5 (heap_alloc_new (w4.alloc (.cells #[.int .i64 5, .int .i64 0, .int .i64 a0, .int .i64 b1] 25)) (.cells #[.int .i64 5, .int .i64 0, .int .i64 a0, .int .i64 d1] 25))
  rw [alloc_size] at R2
  replace B := below_step (Below.alloc (Below.alloc B B.size _) (B.alloc B.size _).size _) b5
  clear b5 Z1 R1
  obtain ⟨c0, c1, c2, c3⟩ := op_cells R2
  go_wp2_with fail
  refine (Z2.out _).mono ?_
  rintro e w6 ⟨rfl, b6⟩
  replace B := below_step B b6
  clear b6 Z2 R2 c0 c1 c2 c3
  go_wp2_with fail
  refine (Z3.out _).mono ?_
  rintro e w7 ⟨rfl, b7⟩
  have R1 := op_row b7 (row_alloc (heap_alloc_new w6 (.cells #[.int .i64 3, .int .i64 0, .int .i64 b1, .int .i64 0] 25)) (.cells #[.int .i64 3, .int .i64 0, .int .i64 d1, .int .i64 0] 25))
  have R2 := op_row b7 (heap_alloc_new (w6.alloc (.cells #[.int .i64 3, .int .i64 0, .int .i64 b1, .int .i64 0] 25)) (.cells #[.int .i64 3, .int .i64 0, .int .i64 d1, .int .i64 0] 25))
  rw [alloc_size] at R2
  replace B := below_step (Below.alloc (Below.alloc B B.size _) (B.alloc B.size _).size _) b7
  clear b7 Z3
  obtain ⟨c0, c1, c2, c3⟩ := op_cells R1
  obtain ⟨d0, d1x, d2, d3⟩ := op_cells R2
  go_wp2_with fail
  refine (Z4.out _).mono ?_
  rintro e w8 ⟨rfl, b8⟩
  replace R1 := op_row b8 R1
  replace R2 := op_row b8 R2
  replace B := below_step B b8
  clear b8 Z4 c0 c1 c2 c3 d0 d1x d2 d3
  obtain ⟨c0, c1, c2, c3⟩ := op_cells R1
  obtain ⟨d0, d1x, d2, d3⟩ := op_cells R2
  go_wp2_with fail
  refine (Z5.out _).mono ?_
  rintro e w9 ⟨rfl, b8⟩
  replace R1 := op_row b8 R1
  replace R2 := op_row b8 R2
  replace B := below_step B b8
  clear b8 Z5 c0 c1 c2 c3 d0 d1x d2 d3
  obtain ⟨c0, c1, c2, c3⟩ := op_cells R1
  obtain ⟨d0, d1x, d2, d3⟩ := op_cells R2
  go_wp2_with fail
  refine (Z6.out _).mono ?_
  rintro e wA ⟨rfl, b8⟩
  replace R1 := op_row b8 R1
  replace R2 := op_row b8 R2
  replace B := below_step B b8
  clear b8 Z6 c0 c1 c2 c3 d0 d1x d2 d3
  go_wp2
  go_ret
  exact ⟨rfl, B⟩

end Go.Proofs.Ytnmgflndbelgpaa
