/- Alike of letters and of nets, of the laws: true where both read the same, false where the lengths are not the same. Conditions: lengths that a machine can hold. -/
import Derived.Test.YtfflmbpjolgghaaMsgs
namespace Go.Proofs.Ytfflmbpjolgghaa
open Go.ChangeShapes Go.WideShapes Go.ChangeAt Go.RowKit
set_option linter.unusedVariables false

set_option maxHeartbeats 2000000 in
theorem likeMsg_rep (f0 f1 f2 f3 f4 f6 : Int) (d : List Int) (a1 a2 : Option Addr) (c1 c2 : Nat) (w : World) (h1 : SlRd intR w a1 d) (h2 : SlRd intR w a2 d) (hm : intsM.bk d ≤ 1152921504606846976) :
    Calls Try.prog 19 #[.agg #[.int .i64 f0, .int .i64 f1, .int .i64 f2, .int .i64 f3, .int .i64 f4, .slice a1 d.length c1, .int .i64 f6], .agg #[.int .i64 f0, .int .i64 f1, .int .i64 f2, .int .i64 f3, .int .i64 f4, .slice a2 d.length c2, .int .i64 f6]] w fun e w' => e = .returned (.bool true) ∧ Below w.heap.size w w' := by
  have HB : Hid (∀ o o', Below w.heap.size w ((w.alloc o).alloc o')) := fun o o' => below_step (box_below w o) (box_below _ o')
  have H1 : Hid (∀ W, Below w.heap.size w W → SlRd intR W a1 d) := fun W hb => slrd_keep h1 fun k hk => hb.block k hk
  have H2 : Hid (∀ W, Below w.heap.size w W → SlRd intR W a2 d) := fun W hb => slrd_keep h2 fun k hk => hb.block k hk
  clear h1 h2
  go_enter Try.func19, Try.ntmps19
  go_wp2_with fail
  refine (likeInts_any a1 a2 d c1 c2 _ (reads_of (H1.out _ (HB.out _ _))) (reads_of (H2.out _ (HB.out _ _))) (by have : intsM.bk d = d.length + sumbk intM d := rfl; omega)).mono ?_
  rintro e w' ⟨rfl, n, rfl⟩
  go_wp2
  go_ret
  exact ⟨rfl, be_drewN (HB.out _ _) n⟩

set_option maxHeartbeats 2000000 in
theorem likeNet_rep (a1 a2 : Option Addr) (xs : List MsgD) (c1 c2 : Nat) (w : World) (h1 : SlRd msgR w a1 xs) (h2 : SlRd msgR w a2 xs) (hm : (slM msgM).bk xs ≤ 1152921504606846976) :
    Calls Try.prog 15 #[.slice a1 xs.length c1, .slice a2 xs.length c2] w fun e w' => e = .returned (.bool true) ∧ Below w.heap.size w w' := by
  have hbk : (slM msgM).bk xs = xs.length + sumbk msgM xs := rfl
  have hln : xs.length ≤ 1152921504606846976 := by omega
  have HB : Hid (sumbk msgM xs ≤ 1152921504606846976) := by unfold Hid; omega
  have H1 : Hid (∀ W, Below w.heap.size w W → SlRd msgR W a1 xs) := fun W hb => slrd_keep h1 fun k hk => hb.block k hk
  have H2 : Hid (∀ W, Below w.heap.size w W → SlRd msgR W a2 xs) := fun W hb => slrd_keep h2 fun k hk => hb.block k hk
  clear hbk hm h1 h2
  go_enter Try.func15, Try.ntmps15
  go_wp2
  go_loopw [5] (fun i wr => ∃ k : Nat, k ≤ xs.length ∧ i = .int .i64 k ∧ Below w.heap.size w wr) (fun i _ => xs.length - (intOf i).toNat)
  case atStart => exact ⟨0, Nat.zero_le _, rfl, Below.refl _ _⟩
  case round =>
    obtain ⟨k, hk, rfl, BB⟩ := hrel
    by_cases hlt : k < xs.length
    · have hlt' : (k : Int) < (xs.length : Int) := by omega
      obtain ⟨x, hx⟩ : ∃ x, xs[k]? = some x := ⟨_, List.getElem?_eq_getElem hlt⟩
      have HX : Hid ((msgM).bk x ≤ 1152921504606846976) := by unfold Hid; have := sumbk_ge msgM xs hx; have := HB.out; omega
      obtain ⟨b1, off1, cs1, rfl, hrd1, hcell1⟩ := slrd_at (H1.out _ BB) hx
      obtain ⟨ad1, cpw1, rfl, -, -, -, -, -, -, -, -, hd1⟩ := msg_rd hrd1
      have x10 := hcell1 0 _ rfl
      have x11 := hcell1 1 _ rfl
      have x12 := hcell1 2 _ rfl
      have x13 := hcell1 3 _ rfl
      have x14 := hcell1 4 _ rfl
      have x15 := hcell1 5 _ rfl
      have x16 := hcell1 6 _ rfl
      rw [show off1 + (k * msgR.size + 0) = off1 + k * 7 from rfl] at x10
      rw [show off1 + (k * msgR.size + 1) = off1 + k * 7 + 1 from rfl] at x11
      rw [show off1 + (k * msgR.size + 2) = off1 + k * 7 + 2 from rfl] at x12
      rw [show off1 + (k * msgR.size + 3) = off1 + k * 7 + 3 from rfl] at x13
      rw [show off1 + (k * msgR.size + 4) = off1 + k * 7 + 4 from rfl] at x14
      rw [show off1 + (k * msgR.size + 5) = off1 + k * 7 + 5 from rfl] at x15
      rw [show off1 + (k * msgR.size + 6) = off1 + k * 7 + 6 from rfl] at x16
      have HR1 : Hid (∀ n : Cls (fun wx => Below wr.heap.size wr wx), SlRd intR n.w ad1 x.2.2.2.2.2.1) := fun n => slrd_next hd1 n.h
      clear hcell1 hrd1 hd1
      obtain ⟨b2, off2, cs2, rfl, hrd2, hcell2⟩ := slrd_at (H2.out _ BB) hx
      obtain ⟨ad2, cpw2, rfl, -, -, -, -, -, -, -, -, hd2⟩ := msg_rd hrd2
      have x20 := hcell2 0 _ rfl
      have x21 := hcell2 1 _ rfl
      have x22 := hcell2 2 _ rfl
      have x23 := hcell2 3 _ rfl
      have x24 := hcell2 4 _ rfl
      have x25 := hcell2 5 _ rfl
      have x26 := hcell2 6 _ rfl
      rw [show off2 + (k * msgR.size + 0) = off2 + k * 7 from rfl] at x20
      rw [show off2 + (k * msgR.size + 1) = off2 + k * 7 + 1 from rfl] at x21
      rw [show off2 + (k * msgR.size + 2) = off2 + k * 7 + 2 from rfl] at x22
      rw [show off2 + (k * msgR.size + 3) = off2 + k * 7 + 3 from rfl] at x23
      rw [show off2 + (k * msgR.size + 4) = off2 + k * 7 + 4 from rfl] at x24
      rw [show off2 + (k * msgR.size + 5) = off2 + k * 7 + 5 from rfl] at x25
      rw [show off2 + (k * msgR.size + 6) = off2 + k * 7 + 6 from rfl] at x26
      have HR2 : Hid (∀ n : Cls (fun wx => Below wr.heap.size wr wx), SlRd intR n.w ad2 x.2.2.2.2.2.1) := fun n => slrd_next hd2 n.h
      clear hcell2 hrd2 hd2
      have x10c : ∀ n : Cls (fun wx => Below wr.heap.size wr wx), n.w.cell? ⟨b1, off1 + k * 7, none⟩ = some (.int .i64 x.1) := fun n => cell_keep n.h x10 (cell_lt x10)
      have x11c : ∀ n : Cls (fun wx => Below wr.heap.size wr wx), n.w.cell? ⟨b1, off1 + k * 7 + 1, none⟩ = some (.int .i64 x.2.1) := fun n => cell_keep n.h x11 (cell_lt x11)
      have x12c : ∀ n : Cls (fun wx => Below wr.heap.size wr wx), n.w.cell? ⟨b1, off1 + k * 7 + 2, none⟩ = some (.int .i64 x.2.2.1) := fun n => cell_keep n.h x12 (cell_lt x12)
      have x13c : ∀ n : Cls (fun wx => Below wr.heap.size wr wx), n.w.cell? ⟨b1, off1 + k * 7 + 3, none⟩ = some (.int .i64 x.2.2.2.1) := fun n => cell_keep n.h x13 (cell_lt x13)
      have x14c : ∀ n : Cls (fun wx => Below wr.heap.size wr wx), n.w.cell? ⟨b1, off1 + k * 7 + 4, none⟩ = some (.int .i64 x.2.2.2.2.1) := fun n => cell_keep n.h x14 (cell_lt x14)
      have x15c : ∀ n : Cls (fun wx => Below wr.heap.size wr wx), n.w.cell? ⟨b1, off1 + k * 7 + 5, none⟩ = some (.slice ad1 x.2.2.2.2.2.1.length cpw1) := fun n => cell_keep n.h x15 (cell_lt x15)
      have x16c : ∀ n : Cls (fun wx => Below wr.heap.size wr wx), n.w.cell? ⟨b1, off1 + k * 7 + 6, none⟩ = some (.int .i64 x.2.2.2.2.2.2) := fun n => cell_keep n.h x16 (cell_lt x16)
      have x20c : ∀ n : Cls (fun wx => Below wr.heap.size wr wx), n.w.cell? ⟨b2, off2 + k * 7, none⟩ = some (.int .i64 x.1) := fun n => cell_keep n.h x20 (cell_lt x20)
      have x21c : ∀ n : Cls (fun wx => Below wr.heap.size wr wx), n.w.cell? ⟨b2, off2 + k * 7 + 1, none⟩ = some (.int .i64 x.2.1) := fun n => cell_keep n.h x21 (cell_lt x21)
      have x22c : ∀ n : Cls (fun wx => Below wr.heap.size wr wx), n.w.cell? ⟨b2, off2 + k * 7 + 2, none⟩ = some (.int .i64 x.2.2.1) := fun n => cell_keep n.h x22 (cell_lt x22)
      have x23c : ∀ n : Cls (fun wx => Below wr.heap.size wr wx), n.w.cell? ⟨b2, off2 + k * 7 + 3, none⟩ = some (.int .i64 x.2.2.2.1) := fun n => cell_keep n.h x23 (cell_lt x23)
      have x24c : ∀ n : Cls (fun wx => Below wr.heap.size wr wx), n.w.cell? ⟨b2, off2 + k * 7 + 4, none⟩ = some (.int .i64 x.2.2.2.2.1) := fun n => cell_keep n.h x24 (cell_lt x24)
      have x25c : ∀ n : Cls (fun wx => Below wr.heap.size wr wx), n.w.cell? ⟨b2, off2 + k * 7 + 5, none⟩ = some (.slice ad2 x.2.2.2.2.2.1.length cpw2) := fun n => cell_keep n.h x25 (cell_lt x25)
      have x26c : ∀ n : Cls (fun wx => Below wr.heap.size wr wx), n.w.cell? ⟨b2, off2 + k * 7 + 6, none⟩ = some (.int .i64 x.2.2.2.2.2.2) := fun n => cell_keep n.h x26 (cell_lt x26)
      clear hx x10 x11 x12 x13 x14 x15 x16 x20 x21 x22 x23 x24 x25 x26
      go_wp2_with fail
      refine region_class (fun wx => Below wr.heap.size wr wx) (by kernel_rfl) (by kernel_rfl) ((Below.refl _ wr).drew) ?_
      intro hne
      repeat (quiet_step ((go_at_call 19; exact calls_class (likeMsg_rep x.1 x.2.1 x.2.2.1 x.2.2.2.1 x.2.2.2.2.1 x.2.2.2.2.2.2 x.2.2.2.2.2.1 _ _ _ _ _ (HR1.out _) (HR2.out _) (by have := HX.out; rw [bk_msg] at this; exact this)) (fun w' hc bb => below_step hc bb))))
      refine wpQuiet_nil ?_
      intro wx b2
      replace BB := below_step BB b2
      clear b2 hne x10c x11c x12c x13c x14c x15c x16c x20c x21c x22c x23c x24c x25c x26c
      go_wp2
      go_roundw
      case rel => exact ⟨k + 1, by omega, by go_num, BB⟩
      case measure => simp [intOf]; omega
    · go_wp2
      go_ret
      exact ⟨rfl, BB⟩
set_option maxHeartbeats 1000000 in
theorem likeNet_no (a1 a2 : Option Addr) (n m c1 c2 : Nat) (w : World) (hn : n ≤ 1000) (hm : m ≤ 1000) (h : n ≠ m) :
    Calls Try.prog 15 #[.slice a1 n c1, .slice a2 m c2] w fun e w' => e = .returned (.bool false) ∧ w' = w := by
  have h' : ¬ ((n : Int) = (m : Int)) := by omega
  have h2 : ((n : Int) != (m : Int)) = true := by simp; omega
  go_enter Try.func15, Try.ntmps15
  go_wp2
  go_ret
  exact ⟨rfl, rfl⟩
end Go.Proofs.Ytfflmbpjolgghaa
