/- The contracts of the laws' own likeness of ways and of stores: two that read as the same are alike. Conditions: as much as a machine holds. -/
import Derived.Test.YtnalbbfilejokaaWays2
import Derived.Test.YtnalbbfilejokaaOwn5
import Derived.Test.YtnalbbfilejokaaOkLink
import Derived.Deep.QuietTactic
import Derived.BigQuiet
namespace Go.Proofs.Ytnalbbfilejokaa
open Go.ChangeShapes Go.WideShapes Go.ChangeAt Go.RowKit
set_option linter.unusedVariables false

theorem likeInts_rep (a1 a2 : Option Addr) (xs : List Int) (c1 c2 : Nat) (w : World) (h1 : SlRd intR w a1 xs) (h2 : SlRd intR w a2 xs) (hm : intsM.bk xs ≤ 1152921504606846976) :
    Calls Try.prog 53 #[.slice a1 xs.length c1, .slice a2 xs.length c2] w fun e w' => e = .returned (.bool true) ∧ ∃ n, w' = w.drewN n :=
  likeInts_any a1 a2 xs c1 c2 w (reads_of h1) (reads_of h2) (by have : intsM.bk xs = xs.length + sumbk intM xs := rfl; omega)

set_option maxHeartbeats 1000000 in
theorem likeWay_rep (l s : Int) (d : List Int) (a1 a2 : Option Addr) (c1 c2 : Nat) (w : World) (h1 : SlRd intR w a1 d) (h2 : SlRd intR w a2 d) (hm : intsM.bk d ≤ 1152921504606846976) :
    Calls Try.prog 22 #[.agg #[.int .i64 l, .int .i64 s, .slice a1 d.length c1], .agg #[.int .i64 l, .int .i64 s, .slice a2 d.length c2]] w fun e w' => e = .returned (.bool true) ∧ Below w.heap.size w w' := by
  have HB : Hid (∀ o o', Below w.heap.size w ((w.alloc o).alloc o')) := fun o o' => below_step (box_below w o) (box_below _ o')
  have H1 : Hid (∀ W, Below w.heap.size w W → SlRd intR W a1 d) := fun W hb => slrd_keep h1 fun k hk => hb.block k hk
  have H2 : Hid (∀ W, Below w.heap.size w W → SlRd intR W a2 d) := fun W hb => slrd_keep h2 fun k hk => hb.block k hk
  clear h1 h2
  go_enter Try.func22, Try.ntmps22
  go_wp2_with fail
  refine (likeInts_rep a1 a2 d c1 c2 _ (H1.out _ (HB.out _ _)) (H2.out _ (HB.out _ _)) hm).mono ?_
  rintro e w' ⟨rfl, n, rfl⟩
  go_wp2
  go_ret
  exact ⟨rfl, be_drewN (HB.out _ _) n⟩

set_option maxRecDepth 20000 in
set_option maxHeartbeats 4000000 in
theorem likeCache_rep (c : List (List (Int × Int × List Int)) × List Int) (a1 b1 a2 b2 : Option Addr) (c1 d1 c2 d2 : Nat) (w : World) (h1 : SlRd waysR w a1 c.1) (k1 : SlRd intR w b1 c.2) (h2 : SlRd waysR w a2 c.1) (k2 : SlRd intR w b2 c.2) (hm : cacheM.bk c ≤ 1152921504606846976) :
    Calls Try.prog 17 #[.agg #[.slice a1 c.1.length c1, .slice b1 c.2.length d1], .agg #[.slice a2 c.1.length c2, .slice b2 c.2.length d2]] w fun e w' => e = .returned (.bool true) ∧ Below w.heap.size w w' := by
  have hbk : cacheM.bk c = setsM.bk c.1 + intsM.bk c.2 := rfl
  have hbk2 : setsM.bk c.1 = c.1.length + sumbk waysM c.1 := rfl
  have HS : Hid (sumbk waysM c.1 ≤ 1152921504606846976) := by unfold Hid; omega
  have hln : c.1.length ≤ 1152921504606846976 := by omega
  have hm2 : Hid (intsM.bk c.2 ≤ 1152921504606846976) := by unfold Hid; omega
  have H1 : Hid (∀ W, Below w.heap.size w W → SlRd waysR W a1 c.1 ∧ SlRd waysR W a2 c.1 ∧ SlRd intR W b1 c.2 ∧ SlRd intR W b2 c.2) := fun W hb => ⟨slrd_keep h1 fun k hk => hb.block k hk, slrd_keep h2 fun k hk => hb.block k hk, slrd_keep k1 fun k hk => hb.block k hk, slrd_keep k2 fun k hk => hb.block k hk⟩
  clear h1 h2 k1 k2 hbk hbk2 hm
  have X0 := heap_on (.cells #[.slice a2 c.1.length c2, .slice b2 c.2.length d2] 27) (heap_at w (.cells #[.slice a1 c.1.length c1, .slice b1 c.2.length d1] 27))
  have X1 := heap_at (w.alloc (.cells #[.slice a1 c.1.length c1, .slice b1 c.2.length d1] 27)) (.cells #[.slice a2 c.1.length c2, .slice b2 c.2.length d2] 27)
  have B0 := below_step (box_below w (.cells #[.slice a1 c.1.length c1, .slice b1 c.2.length d1] 27)) (box_below _ (.cells #[.slice a2 c.1.length c2, .slice b2 c.2.length d2] 27))
  rw [alloc_len] at X1
  go_enter Try.func17, Try.ntmps17
  go_wp2_with fail
  generalize (w.alloc (.cells #[.slice a1 c.1.length c1, .slice b1 c.2.length d1] 27)).alloc (.cells #[.slice a2 c.1.length c2, .slice b2 c.2.length d2] 27) = W0 at X0 X1 B0 ⊢
  refine (likeInts_rep b1 b2 c.2 d1 d2 _ (H1.out _ B0).2.2.1 (H1.out _ B0).2.2.2 hm2.out).mono ?_
  rintro e w1 ⟨rfl, n, rfl⟩
  replace B0 : Below w.heap.size w (W0.drewN n) := be_drewN B0 n
  replace X0 : (W0.drewN n).heap[w.heap.size]? = some (.cells #[.slice a1 c.1.length c1, .slice b1 c.2.length d1] 27 (0, 0)) := X0
  replace X1 : (W0.drewN n).heap[w.heap.size + 1]? = some (.cells #[.slice a2 c.1.length c2, .slice b2 c.2.length d2] 27 (0, 0)) := X1
  generalize W0.drewN n = W1 at X0 X1 B0 ⊢
  have HX : Hid _ := And.intro X0 X1
  clear X0 X1 hm2
  go_wp2
  go_loopw [5] (fun i wr => ∃ k : Nat, k ≤ c.1.length ∧ i = .int .i64 k ∧ Below W1.heap.size W1 wr) (fun i _ => c.1.length - (intOf i).toNat)
  case atStart => exact ⟨0, Nat.zero_le _, rfl, Below.refl _ _⟩
  case round =>
    obtain ⟨k, hk, rfl, BB⟩ := hrel
    obtain ⟨y0, y1⟩ := cells_two (row_keep BB HX.out.1)
    obtain ⟨z0, z1⟩ := cells_two (row_keep BB HX.out.2)
    by_cases hlt : k < c.1.length
    · have hlt' : (k : Int) < (c.1.length : Int) := by omega
      obtain ⟨x, hx⟩ : ∃ x, c.1[k]? = some x := ⟨_, List.getElem?_eq_getElem hlt⟩
      have hsx := sumbk_ge waysM c.1 hx
      have hbx : waysM.bk x = x.length + sumbk wayM x := rfl
      have HXB : Hid (sumbk wayM x ≤ 1152921504606846976) := by unfold Hid; have := HS.out; omega
      have hxl : x.length ≤ 1152921504606846976 := by have := HS.out; omega
      have HB := (H1.out _ (below_step B0 BB))
      obtain ⟨p1, o1, cs1, rfl, ⟨aj1, cj1, rfl, -, -, hd1⟩, hcell1⟩ := slrd_at HB.1 hx
      obtain ⟨p2, o2, cs2, rfl, ⟨aj2, cj2, rfl, -, -, hd2⟩, hcell2⟩ := slrd_at HB.2.1 hx
      have x10 := hcell1 0 _ rfl
      rw [show k * waysR.size + 0 = k from Nat.mul_one k] at x10
      have x20 := hcell2 0 _ rfl
      rw [show k * waysR.size + 0 = k from Nat.mul_one k] at x20
      have HD : Hid _ := And.intro hd1 hd2
      have HC : Hid _ := And.intro x10 x20
      clear hcell1 hcell2 hd1 hd2 HB hx hsx hbx
      go_wp2
      go_quiet (fail)
      have BW : Below W1.heap.size W1 (wr.drewN nq) := be_drewN BB nq
      replace HC : Hid ((wr.drewN nq).cell? ⟨p1, o1 + k, none⟩ = some (.slice aj1 x.length cj1) ∧ (wr.drewN nq).cell? ⟨p2, o2 + k, none⟩ = some (.slice aj2 x.length cj2)) := HC
      replace HD : Hid (SlRd wayR (wr.drewN nq) aj1 x ∧ SlRd wayR (wr.drewN nq) aj2 x) := ⟨slrd_next HD.out.1 (be_drewN (Below.refl _ wr) nq), slrd_next HD.out.2 (be_drewN (Below.refl _ wr) nq)⟩
      clear BB y0 y1 z0 z1 x10 x20
      generalize wr.drewN nq = V at BW HC HD ⊢
      go_wp2
      go_loopw [6] (fun i wi => ∃ m : Nat, m ≤ x.length ∧ i = .int .i64 m ∧ Below V.heap.size V wi) (fun i _ => x.length - (intOf i).toNat)
      case atStart => exact ⟨0, Nat.zero_le _, rfl, Below.refl _ _⟩
      case round =>
        obtain ⟨m, hmm, rfl, BV⟩ := hrel
        have y0 := (cells_two (row_keep BV (row_keep BW HX.out.1))).1
        have z0 := (cells_two (row_keep BV (row_keep BW HX.out.2))).1
        have x10 := cell_kp BV HC.out.1 (cell_l HC.out.1)
        have x20 := cell_kp BV HC.out.2 (cell_l HC.out.2)
        by_cases hlt2 : m < x.length
        · have hlt2' : (m : Int) < (x.length : Int) := by omega
          obtain ⟨u, hu⟩ : ∃ u, x[m]? = some u := ⟨_, List.getElem?_eq_getElem hlt2⟩
          have HU : Hid (wayM.bk u ≤ 1152921504606846976) := by unfold Hid; have := sumbk_ge wayM x hu; have := HXB.out; omega
          obtain ⟨b1', off1, cs1, rfl, hrd1, hcell1⟩ := slrd_at (slrd_next HD.out.1 BV) hu
          obtain ⟨ad1, cpw1, rfl, -, -, -, -, hd1⟩ := way_rd hrd1
          obtain ⟨b2', off2, cs2, rfl, hrd2, hcell2⟩ := slrd_at (slrd_next HD.out.2 BV) hu
          obtain ⟨ad2, cpw2, rfl, -, -, -, -, hd2⟩ := way_rd hrd2
          have w10 := hcell1 0 _ rfl
          rw [show off1 + (m * wayR.size + 0) = off1 + m * 3 from rfl] at w10
          have w10c : ∀ n : Cls (fun wx => Below wr.heap.size wr wx), n.w.cell? ⟨b1', off1 + m * 3, none⟩ = some (.int .i64 u.1) := fun n => cell_kp n.h w10 (cell_l w10)
          have w11 := hcell1 1 _ rfl
          rw [show off1 + (m * wayR.size + 1) = off1 + m * 3 + 1 from rfl] at w11
          have w11c : ∀ n : Cls (fun wx => Below wr.heap.size wr wx), n.w.cell? ⟨b1', off1 + m * 3 + 1, none⟩ = some (.int .i64 u.2.1) := fun n => cell_kp n.h w11 (cell_l w11)
          have w12 := hcell1 2 _ rfl
          rw [show off1 + (m * wayR.size + 2) = off1 + m * 3 + 2 from rfl] at w12
          have w12c : ∀ n : Cls (fun wx => Below wr.heap.size wr wx), n.w.cell? ⟨b1', off1 + m * 3 + 2, none⟩ = some (.slice ad1 u.2.2.length cpw1) := fun n => cell_kp n.h w12 (cell_l w12)
          have w20 := hcell2 0 _ rfl
          rw [show off2 + (m * wayR.size + 0) = off2 + m * 3 from rfl] at w20
          have w20c : ∀ n : Cls (fun wx => Below wr.heap.size wr wx), n.w.cell? ⟨b2', off2 + m * 3, none⟩ = some (.int .i64 u.1) := fun n => cell_kp n.h w20 (cell_l w20)
          have w21 := hcell2 1 _ rfl
          rw [show off2 + (m * wayR.size + 1) = off2 + m * 3 + 1 from rfl] at w21
          have w21c : ∀ n : Cls (fun wx => Below wr.heap.size wr wx), n.w.cell? ⟨b2', off2 + m * 3 + 1, none⟩ = some (.int .i64 u.2.1) := fun n => cell_kp n.h w21 (cell_l w21)
          have w22 := hcell2 2 _ rfl
          rw [show off2 + (m * wayR.size + 2) = off2 + m * 3 + 2 from rfl] at w22
          have w22c : ∀ n : Cls (fun wx => Below wr.heap.size wr wx), n.w.cell? ⟨b2', off2 + m * 3 + 2, none⟩ = some (.slice ad2 u.2.2.length cpw2) := fun n => cell_kp n.h w22 (cell_l w22)
          have HR1 : Hid (∀ n : Cls (fun wx => Below wr.heap.size wr wx), SlRd intR n.w ad1 u.2.2) := fun n => slrd_next hd1 n.h
          have HR2 : Hid (∀ n : Cls (fun wx => Below wr.heap.size wr wx), SlRd intR n.w ad2 u.2.2) := fun n => slrd_next hd2 n.h
          go_wp2
          clear hcell1 hrd1 hd1 hcell2 hrd2 hd2 hu
          have y0c : ∀ n : Cls (fun wx => Below wr.heap.size wr wx), n.w.cell? ⟨w.heap.size, 0, none⟩ = some (.slice (some ⟨p1, o1, none⟩) c.1.length c1) := fun n => cell_kp n.h y0 (cell_l y0)
          have z0c : ∀ n : Cls (fun wx => Below wr.heap.size wr wx), n.w.cell? ⟨w.heap.size + 1, 0, none⟩ = some (.slice (some ⟨p2, o2, none⟩) c.1.length c2) := fun n => cell_kp n.h z0 (cell_l z0)
          have x10c : ∀ n : Cls (fun wx => Below wr.heap.size wr wx), n.w.cell? ⟨p1, o1 + k, none⟩ = some (.slice (some ⟨b1', off1, none⟩) x.length cj1) := fun n => cell_kp n.h x10 (cell_l x10)
          have x20c : ∀ n : Cls (fun wx => Below wr.heap.size wr wx), n.w.cell? ⟨p2, o2 + k, none⟩ = some (.slice (some ⟨b2', off2, none⟩) x.length cj2) := fun n => cell_kp n.h x20 (cell_l x20)
          clear y0 z0 x10 x20 w10 w11 w12 w20 w21 w22
          refine region_class (fun wx => Below wr.heap.size wr wx) (by kernel_rfl) (by kernel_rfl) ((Below.refl _ wr).drew) ?_
          intro hne
          repeat (quiet_step ((go_at_call 22; exact calls_class (likeWay_rep u.1 u.2.1 u.2.2 _ _ _ _ _ (HR1.out _) (HR2.out _) (by have := HU.out; rw [bk_way] at this; exact this)) (fun w' hc bb => below_step hc bb))))
          refine wpQuiet_nil ?_
          intro wx b2
          replace BV := below_step BV b2
          clear b2 hne y0c z0c x10c x20c w10c w11c w12c w20c w21c w22c
          go_wp2
          go_roundw
          case rel => exact ⟨m + 1, by omega, by go_num, BV⟩
          case measure => simp [intOf]; omega
        · have hmn : m = x.length := by omega
          clear hlt2
          go_wp2
          go_roundw
          case rel => exact ⟨k + 1, by omega, by go_num, below_step BW BV⟩
          case measure => simp [intOf]; omega
    · go_wp2
      go_ret
      exact ⟨rfl, below_step B0 BB⟩

end Go.Proofs.Ytnalbbfilejokaa
