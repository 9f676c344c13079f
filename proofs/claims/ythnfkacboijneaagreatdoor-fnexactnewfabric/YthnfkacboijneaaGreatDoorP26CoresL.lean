import Derived.Test.YthnfkacboijneaaGreatDoorP25CoreU
import Derived.Test.YthnfkacboijneaaGreatDoorP04Mems
import Derived.Test.YthnfkacboijneaaGreatDoorP05Boxes
import Derived.Test.YthnfkacboijneaaGreatDoorP11Descs
import Derived.Test.YthnfkacboijneaaGreatDoorP17UEnt
namespace Go.Proofs.YthnfkacboijneaaGreatDoor
open Go.ChangeShapes Go.WideShapes Go.ChangeAt Go.RowKit
set_option linter.unusedVariables false
abbrev coresR : Rep (List CoreD) := slR 86 coreR
abbrev coresM : Mk (List CoreD) := slM coreM
theorem Tryz.infoCore : (Tryz.prog.info? 86).map (fun i => (i.zero, i.size, i.bytes)) = some (some (.agg #[.slice none 0 0, .slice none 0 0, .slice none 0 0, .int .i64 0, .int .i64 0, .int .i64 0, .int .i64 0, .slice none 0 0, .slice none 0 0]), 9, 152) := by kernel_rfl
set_option maxHeartbeats 4000000 in
theorem toCores_u : ToC 38 coresR coresM cell1 := by
 rintro cs xs w ⟨a, cap, rfl, l1, l2, h⟩ hm
 show Calls Tryz.prog 38 #[.slice a xs.length cap] w _
 have hbk : coresM.bk xs = xs.length + sumbk coreM xs := rfl
 have hln : xs.length ≤ 1048576 := by omega
 have HB : Hid (sumbk coreM xs ≤ 1048576) := by unfold Hid; omega
 have H0 : Hid (SlRd coreR w a xs) := h
 clear hbk hm h l1 l2
 have hmk := run_make_wide (P := Tryz.prog) 42 86 (.agg #[.slice none 0 0, .slice none 0 0, .slice none 0 0, .int .i64 0, .int .i64 0, .int .i64 0, .int .i64 0, .slice none 0 0, .slice none 0 0]) 9 152 Tryz.underlying42 Tryz.infoCore xs.length (by omega) (by omega)
 go_enter Tryz.func38, Tryz.ntmps38
 go_wp2
 go_loopw [4] (fun i wr => ∃ k : Nat, k ≤ xs.length ∧ i = .int .i64 k ∧ Fill 86 coreR w wr xs.length (xs.take k)) (fun i _ => xs.length - (intOf i).toNat)
 case atStart => exact ⟨0, Nat.zero_le _, rfl, by simpa using fillR_start (e := 86) (R := coreR) (w0 := w) (n := xs.length) (cs := madeCells #[.slice none 0 0, .slice none 0 0, .slice none 0 0, .int .i64 0, .int .i64 0, .int .i64 0, .int .i64 0, .slice none 0 0, .slice none 0 0] (xs.length * 9)) (by unfold maxLen; omega) (by rw [size_madeCells]; rfl)⟩
 case round =>
  obtain ⟨k, hk, rfl, hF⟩ := hrel
  by_cases hlt : k < xs.length
  ·have hlt' : (k : Int) < (xs.length : Int) := by omega
   obtain ⟨x, hx⟩ : ∃ x, xs[k]? = some x := ⟨_, List.getElem?_eq_getElem hlt⟩
   obtain ⟨b, off, cs, rfl, hrdx, hcell⟩ := slrd_at (slrd_next H0.out (fill_below hF)) hx
   have HRX : Hid (coreR.rd wr cs x) := hrdx
   obtain ⟨gaz, gcz, gbz, gdz, haz, hcz, iaz, icz, jaz, jcz, rfl⟩ := core_shape hrdx
   have x0 := hcell 0 _ rfl
   have x1 := hcell 1 _ rfl
   have x2 := hcell 2 _ rfl
   have x3 := hcell 3 _ rfl
   have x4 := hcell 4 _ rfl
   have x5 := hcell 5 _ rfl
   have x6 := hcell 6 _ rfl
   have x7 := hcell 7 _ rfl
   have x8 := hcell 8 _ rfl
   rw [show off + (k * coreR.size + 0) = off + k * 9 from rfl] at x0
   rw [show off + (k * coreR.size + 1) = off + k * 9 + 1 from rfl] at x1
   rw [show off + (k * coreR.size + 2) = off + k * 9 + 2 from rfl] at x2
   rw [show off + (k * coreR.size + 3) = off + k * 9 + 3 from rfl] at x3
   rw [show off + (k * coreR.size + 4) = off + k * 9 + 4 from rfl] at x4
   rw [show off + (k * coreR.size + 5) = off + k * 9 + 5 from rfl] at x5
   rw [show off + (k * coreR.size + 6) = off + k * 9 + 6 from rfl] at x6
   rw [show off + (k * coreR.size + 7) = off + k * 9 + 7 from rfl] at x7
   rw [show off + (k * coreR.size + 8) = off + k * 9 + 8 from rfl] at x8
   have HX : Hid (coreM.bk x ≤ 1048576) := by unfold Hid; have := sumbk_ge coreM xs hx; have := HB.out; omega
   have FS : Hid (∀ w1 c, MadeR coreR wr w1 c x → _) := fun w1 c hm => fillR_step (w1 := w1) (c := c) hF (by simp; omega) hlt hm
   have HP : Hid (xs.take k ++ [x] = xs.take (k + 1)) := by unfold Hid; rw [List.take_add_one, hx]; rfl
   clear hx hrdx hcell hmk hF
   go_wp2_with fail
   refine (toCore_u [.slice gaz x.1.1.length gcz, .slice gbz x.1.2.length gdz, .slice haz x.2.1.length hcz, .int .i64 x.2.2.1, .int .i64 x.2.2.2.1, .int .i64 x.2.2.2.2.1.1, .int .i64 x.2.2.2.2.1.2.1, .slice iaz x.2.2.2.2.1.2.2.length icz, .slice jaz x.2.2.2.2.2.length jcz] x _ HRX.out HX.out).mono ?_
   rintro e w1 ⟨ds, rfl, mm⟩
   obtain ⟨gay, gcy, gby, gdy, hay, hcy, iay, icy, jay, jcy, rfl⟩ := core_shape (coreR.own_rd mm.1)
   rw [show aggV [.slice gay x.1.1.length gcy, .slice gby x.1.2.length gdy, .slice hay x.2.1.length hcy, .int .i64 x.2.2.1, .int .i64 x.2.2.2.1, .int .i64 x.2.2.2.2.1.1, .int .i64 x.2.2.2.2.1.2.1, .slice iay x.2.2.2.2.1.2.2.length icy, .slice jay x.2.2.2.2.2.length jcy] = .agg #[.slice gay x.1.1.length gcy, .slice gby x.1.2.length gdy, .slice hay x.2.1.length hcy, .int .i64 x.2.2.1, .int .i64 x.2.2.2.1, .int .i64 x.2.2.2.2.1.1, .int .i64 x.2.2.2.2.1.2.1, .slice iay x.2.2.2.2.1.2.2.length icy, .slice jay x.2.2.2.2.2.length jcy] from rfl]
   obtain ⟨q1, q2, F1⟩ := FS.out _ _ mm
   obtain ⟨v0, hv0⟩ := q1 0 (by decide)
   obtain ⟨v1, hv1⟩ := q1 1 (by decide)
   obtain ⟨v2, hv2⟩ := q1 2 (by decide)
   obtain ⟨v3, hv3⟩ := q1 3 (by decide)
   obtain ⟨v4, hv4⟩ := q1 4 (by decide)
   obtain ⟨v5, hv5⟩ := q1 5 (by decide)
   obtain ⟨v6, hv6⟩ := q1 6 (by decide)
   obtain ⟨v7, hv7⟩ := q1 7 (by decide)
   obtain ⟨v8, hv8⟩ := q1 8 (by decide)
   have z0 := q2 (k * 9)
   have z1 := q2 (k * 9 + 1)
   have z2 := q2 (k * 9 + 2)
   have z3 := q2 (k * 9 + 3)
   have z4 := q2 (k * 9 + 4)
   have z5 := q2 (k * 9 + 5)
   have z6 := q2 (k * 9 + 6)
   have z7 := q2 (k * 9 + 7)
   have z8 := q2 (k * 9 + 8)
   rw [show k * coreR.size + 0 = k * 9 from rfl] at hv0
   rw [show k * coreR.size + 1 = k * 9 + 1 from rfl] at hv1
   rw [show k * coreR.size + 2 = k * 9 + 2 from rfl] at hv2
   rw [show k * coreR.size + 3 = k * 9 + 3 from rfl] at hv3
   rw [show k * coreR.size + 4 = k * 9 + 4 from rfl] at hv4
   rw [show k * coreR.size + 5 = k * 9 + 5 from rfl] at hv5
   rw [show k * coreR.size + 6 = k * 9 + 6 from rfl] at hv6
   rw [show k * coreR.size + 7 = k * 9 + 7 from rfl] at hv7
   rw [show k * coreR.size + 8 = k * 9 + 8 from rfl] at hv8
   rw [HP.out] at F1
   have HF : Hid _ := F1
   clear F1 mm q1 q2 FS x0 x1 x2 x3 x4 x5 x6 x7 x8
   go_wp2
   go_roundw
   case rel => exact ⟨k + 1, by omega, by go_num, HF.out⟩
   case measure => simp [intOf]; omega
  ·have hkl : k = xs.length := by omega
   subst hkl
   rw [List.take_length] at hF
   have FE := fillR_end hF rfl
   clear hF
   go_wp2
   go_ret
   exact ⟨[_], rfl, FE⟩
set_option maxHeartbeats 4000000 in
theorem eqCores_u : EqC 50 coresR coresM cell1 := by
 rintro cs ds xs w ⟨a1, c1, rfl, l1, l2, h1⟩ ⟨a2, c2, rfl, k1, k2, h2⟩ hm
 show Calls Tryz.prog 50 #[.slice a1 xs.length c1, .slice a2 xs.length c2] w _
 have hbk : coresM.bk xs = xs.length + sumbk coreM xs := rfl
 have hln : xs.length ≤ lot := by omega
 have HB : Hid (sumbk coreM xs ≤ lot) := by unfold Hid; omega
 have H1 : Hid (∀ W, Below w.heap.size w W → SlRd coreR W a1 xs) := fun W hb => slrd_keep h1 fun k hk => hb.block k hk
 have H2 : Hid (∀ W, Below w.heap.size w W → SlRd coreR W a2 xs) := fun W hb => slrd_keep h2 fun k hk => hb.block k hk
 have hln' : xs.length ≤ 4398046511104 := hln
 clear hbk hm h1 h2 l1 l2 k1 k2 hln
 go_enter Tryz.func50, Tryz.ntmps50
 go_wp2
 go_loopw [5] (fun i wr => ∃ k : Nat, k ≤ xs.length ∧ i = .int .i64 k ∧ Below w.heap.size w wr) (fun i _ => xs.length - (intOf i).toNat)
 case atStart => exact ⟨0, Nat.zero_le _, rfl, Below.refl _ _⟩
 case round =>
  obtain ⟨k, hk, rfl, BB⟩ := hrel
  by_cases hlt : k < xs.length
  ·have hlt' : (k : Int) < (xs.length : Int) := by omega
   obtain ⟨x, hx⟩ : ∃ x, xs[k]? = some x := ⟨_, List.getElem?_eq_getElem hlt⟩
   have HX : Hid (coreM.bk x ≤ lot) := by unfold Hid; have := sumbk_ge coreM xs hx; have := HB.out; omega
   obtain ⟨b1, off1, cs1, rfl, hrd1, hcell1⟩ := slrd_at (H1.out _ BB) hx
   have HR1 : Hid (∀ n : Cls (fun wx => Below wr.heap.size wr wx), coreR.rd n.w cs1 x) := fun n => rd_next hrd1 n.h
   obtain ⟨gay, gcy, gby, gdy, hay, hcy, iay, icy, jay, jcy, rfl⟩ := core_shape hrd1
   have s0 := hcell1 0 _ rfl
   have s1 := hcell1 1 _ rfl
   have s2 := hcell1 2 _ rfl
   have s3 := hcell1 3 _ rfl
   have s4 := hcell1 4 _ rfl
   have s5 := hcell1 5 _ rfl
   have s6 := hcell1 6 _ rfl
   have s7 := hcell1 7 _ rfl
   have s8 := hcell1 8 _ rfl
   rw [show off1 + (k * coreR.size + 0) = off1 + k * 9 from rfl] at s0
   rw [show off1 + (k * coreR.size + 1) = off1 + k * 9 + 1 from rfl] at s1
   rw [show off1 + (k * coreR.size + 2) = off1 + k * 9 + 2 from rfl] at s2
   rw [show off1 + (k * coreR.size + 3) = off1 + k * 9 + 3 from rfl] at s3
   rw [show off1 + (k * coreR.size + 4) = off1 + k * 9 + 4 from rfl] at s4
   rw [show off1 + (k * coreR.size + 5) = off1 + k * 9 + 5 from rfl] at s5
   rw [show off1 + (k * coreR.size + 6) = off1 + k * 9 + 6 from rfl] at s6
   rw [show off1 + (k * coreR.size + 7) = off1 + k * 9 + 7 from rfl] at s7
   rw [show off1 + (k * coreR.size + 8) = off1 + k * 9 + 8 from rfl] at s8
   clear hcell1 hrd1
   obtain ⟨b2, off2, cs2, rfl, hrd2, hcell2⟩ := slrd_at (H2.out _ BB) hx
   have HR2 : Hid (∀ n : Cls (fun wx => Below wr.heap.size wr wx), coreR.rd n.w cs2 x) := fun n => rd_next hrd2 n.h
   obtain ⟨gaz, gcz, gbz, gdz, haz, hcz, iaz, icz, jaz, jcz, rfl⟩ := core_shape hrd2
   have t0 := hcell2 0 _ rfl
   have t1 := hcell2 1 _ rfl
   have t2 := hcell2 2 _ rfl
   have t3 := hcell2 3 _ rfl
   have t4 := hcell2 4 _ rfl
   have t5 := hcell2 5 _ rfl
   have t6 := hcell2 6 _ rfl
   have t7 := hcell2 7 _ rfl
   have t8 := hcell2 8 _ rfl
   rw [show off2 + (k * coreR.size + 0) = off2 + k * 9 from rfl] at t0
   rw [show off2 + (k * coreR.size + 1) = off2 + k * 9 + 1 from rfl] at t1
   rw [show off2 + (k * coreR.size + 2) = off2 + k * 9 + 2 from rfl] at t2
   rw [show off2 + (k * coreR.size + 3) = off2 + k * 9 + 3 from rfl] at t3
   rw [show off2 + (k * coreR.size + 4) = off2 + k * 9 + 4 from rfl] at t4
   rw [show off2 + (k * coreR.size + 5) = off2 + k * 9 + 5 from rfl] at t5
   rw [show off2 + (k * coreR.size + 6) = off2 + k * 9 + 6 from rfl] at t6
   rw [show off2 + (k * coreR.size + 7) = off2 + k * 9 + 7 from rfl] at t7
   rw [show off2 + (k * coreR.size + 8) = off2 + k * 9 + 8 from rfl] at t8
   clear hcell2 hrd2
   have s0c : ∀ n : Cls (fun wx => Below wr.heap.size wr wx), n.w.cell? ⟨b1, off1 + k * 9, none⟩ = some (.slice gay x.1.1.length gcy) := fun n => cell_keep n.h s0 (cell_lt s0)
   have s1c : ∀ n : Cls (fun wx => Below wr.heap.size wr wx), n.w.cell? ⟨b1, off1 + k * 9 + 1, none⟩ = some (.slice gby x.1.2.length gdy) := fun n => cell_keep n.h s1 (cell_lt s1)
   have s2c : ∀ n : Cls (fun wx => Below wr.heap.size wr wx), n.w.cell? ⟨b1, off1 + k * 9 + 2, none⟩ = some (.slice hay x.2.1.length hcy) := fun n => cell_keep n.h s2 (cell_lt s2)
   have s3c : ∀ n : Cls (fun wx => Below wr.heap.size wr wx), n.w.cell? ⟨b1, off1 + k * 9 + 3, none⟩ = some (.int .i64 x.2.2.1) := fun n => cell_keep n.h s3 (cell_lt s3)
   have s4c : ∀ n : Cls (fun wx => Below wr.heap.size wr wx), n.w.cell? ⟨b1, off1 + k * 9 + 4, none⟩ = some (.int .i64 x.2.2.2.1) := fun n => cell_keep n.h s4 (cell_lt s4)
   have s5c : ∀ n : Cls (fun wx => Below wr.heap.size wr wx), n.w.cell? ⟨b1, off1 + k * 9 + 5, none⟩ = some (.int .i64 x.2.2.2.2.1.1) := fun n => cell_keep n.h s5 (cell_lt s5)
   have s6c : ∀ n : Cls (fun wx => Below wr.heap.size wr wx), n.w.cell? ⟨b1, off1 + k * 9 + 6, none⟩ = some (.int .i64 x.2.2.2.2.1.2.1) := fun n => cell_keep n.h s6 (cell_lt s6)
   have s7c : ∀ n : Cls (fun wx => Below wr.heap.size wr wx), n.w.cell? ⟨b1, off1 + k * 9 + 7, none⟩ = some (.slice iay x.2.2.2.2.1.2.2.length icy) := fun n => cell_keep n.h s7 (cell_lt s7)
   have s8c : ∀ n : Cls (fun wx => Below wr.heap.size wr wx), n.w.cell? ⟨b1, off1 + k * 9 + 8, none⟩ = some (.slice jay x.2.2.2.2.2.length jcy) := fun n => cell_keep n.h s8 (cell_lt s8)
   have t0c : ∀ n : Cls (fun wx => Below wr.heap.size wr wx), n.w.cell? ⟨b2, off2 + k * 9, none⟩ = some (.slice gaz x.1.1.length gcz) := fun n => cell_keep n.h t0 (cell_lt t0)
   have t1c : ∀ n : Cls (fun wx => Below wr.heap.size wr wx), n.w.cell? ⟨b2, off2 + k * 9 + 1, none⟩ = some (.slice gbz x.1.2.length gdz) := fun n => cell_keep n.h t1 (cell_lt t1)
   have t2c : ∀ n : Cls (fun wx => Below wr.heap.size wr wx), n.w.cell? ⟨b2, off2 + k * 9 + 2, none⟩ = some (.slice haz x.2.1.length hcz) := fun n => cell_keep n.h t2 (cell_lt t2)
   have t3c : ∀ n : Cls (fun wx => Below wr.heap.size wr wx), n.w.cell? ⟨b2, off2 + k * 9 + 3, none⟩ = some (.int .i64 x.2.2.1) := fun n => cell_keep n.h t3 (cell_lt t3)
   have t4c : ∀ n : Cls (fun wx => Below wr.heap.size wr wx), n.w.cell? ⟨b2, off2 + k * 9 + 4, none⟩ = some (.int .i64 x.2.2.2.1) := fun n => cell_keep n.h t4 (cell_lt t4)
   have t5c : ∀ n : Cls (fun wx => Below wr.heap.size wr wx), n.w.cell? ⟨b2, off2 + k * 9 + 5, none⟩ = some (.int .i64 x.2.2.2.2.1.1) := fun n => cell_keep n.h t5 (cell_lt t5)
   have t6c : ∀ n : Cls (fun wx => Below wr.heap.size wr wx), n.w.cell? ⟨b2, off2 + k * 9 + 6, none⟩ = some (.int .i64 x.2.2.2.2.1.2.1) := fun n => cell_keep n.h t6 (cell_lt t6)
   have t7c : ∀ n : Cls (fun wx => Below wr.heap.size wr wx), n.w.cell? ⟨b2, off2 + k * 9 + 7, none⟩ = some (.slice iaz x.2.2.2.2.1.2.2.length icz) := fun n => cell_keep n.h t7 (cell_lt t7)
   have t8c : ∀ n : Cls (fun wx => Below wr.heap.size wr wx), n.w.cell? ⟨b2, off2 + k * 9 + 8, none⟩ = some (.slice jaz x.2.2.2.2.2.length jcz) := fun n => cell_keep n.h t8 (cell_lt t8)
   clear hx s0 s1 s2 s3 s4 s5 s6 s7 s8 t0 t1 t2 t3 t4 t5 t6 t7 t8
   go_wp2_with fail
   refine region_class (fun wx => Below wr.heap.size wr wx) (by kernel_rfl) (by kernel_rfl) ((Below.refl _ wr).drew) ?_
   intro hne
   repeat (quiet_step ((go_at_call 117; exact calls_class (eqCore_u [.slice gay x.1.1.length gcy, .slice gby x.1.2.length gdy, .slice hay x.2.1.length hcy, .int .i64 x.2.2.1, .int .i64 x.2.2.2.1, .int .i64 x.2.2.2.2.1.1, .int .i64 x.2.2.2.2.1.2.1, .slice iay x.2.2.2.2.1.2.2.length icy, .slice jay x.2.2.2.2.2.length jcy] [.slice gaz x.1.1.length gcz, .slice gbz x.1.2.length gdz, .slice haz x.2.1.length hcz, .int .i64 x.2.2.1, .int .i64 x.2.2.2.1, .int .i64 x.2.2.2.2.1.1, .int .i64 x.2.2.2.2.1.2.1, .slice iaz x.2.2.2.2.1.2.2.length icz, .slice jaz x.2.2.2.2.2.length jcz] x _ (HR1.out _) (HR2.out _) HX.out) (fun w' hc bb => below_step hc bb))))
   refine wpQuiet_nil ?_
   intro wx b2
   replace BB := below_step BB b2
   clear b2 hne s0c s1c s2c s3c s4c s5c s6c s7c s8c t0c t1c t2c t3c t4c t5c t6c t7c t8c
   go_wp2
   go_roundw
   case rel => exact ⟨k + 1, by omega, by go_num, BB⟩
   case measure => simp [intOf]; omega
  ·go_wp2
   go_ret
   exact ⟨rfl, BB⟩
theorem szDescs_u : SzC 11 descsR descsM cell1 := by
 rintro cs x left w ⟨a, cap, rfl, l1, l2, l3⟩ h0 h1
 exact szDescS_rep a x cap left w l3 h0 h1 (Nat.le_trans l1 l2)
theorem toDescs_u : ToC 15 descsR descsM cell1 := by
 rintro cs x w ⟨a, cap, rfl, l1, l2, l3⟩ hm
 refine (toDescS_rep a x cap w l3 hm).mono ?_
 rintro e w' ⟨v, rfl, mm⟩
 exact ⟨[v], rfl, mm⟩
theorem eqDescs_u : EqC 18 descsR descsM cell1 := by
 rintro cs ds x w ⟨a, cap, rfl, l1, l2, l3⟩ ⟨b, cp, rfl, k1, k2, k3⟩ hm
 exact eqDescS_rep a b x cap cp w l3 k3 (Nat.le_trans hm (by decide))
abbrev DmaD := List DescD × Int × Bool × List (List Int)
abbrev dmaR : Rep DmaD := prodR descsR (prodR intR (prodR boolR rowsR))
abbrev dmaM : Mk DmaD := prodM descsM (prodM intM (prodM boolM rowsM))
theorem len1dma {l : List Value} (h : l.length = 1) : ∃ a0, l = [a0] := by
 match l, h with
 | [a0], _ => exact ⟨a0, rfl⟩
theorem dma_rd {w : World} {cs : List Value} {x : DmaD} (h : dmaR.rd w cs x) : ∃ v0 v3, cs = [v0, .int .i64 x.2.1, .bool x.2.2.1, v3] ∧ descsR.rd w [v0] x.1 ∧ In64 x.2.1 ∧ True ∧ rowsR.rd w [v3] x.2.2.2 := by
 obtain ⟨c0, e0, rfl, h0, ⟨c1, e1, rfl, ⟨rfl, i1⟩, ⟨c2, e2, rfl, rfl, h3⟩⟩⟩ := h
 obtain ⟨v0, rfl⟩ := len1dma (descsR.rd_len h0)
 obtain ⟨v3, rfl⟩ := len1dma (rowsR.rd_len h3)
 exact ⟨v0, v3, rfl, h0, i1, trivial, h3⟩
theorem cells_dma {w : World} {g : Nat} {x0 x1 x2 x3 : Value} {t : TypeId} (h : w.heap[g]? = some (.cells #[x0, x1, x2, x3] t (0, 0))) : w.cell? ⟨g, 0, none⟩ = some x0 ∧ w.cell? ⟨g, 1, none⟩ = some x1 ∧ w.cell? ⟨g, 2, none⟩ = some x2 ∧ w.cell? ⟨g, 3, none⟩ = some x3 :=
 ⟨by rw [cell_of_row w g 0 _ t (0, 0) h]; rfl, by rw [cell_of_row w g 1 _ t (0, 0) h]; rfl, by rw [cell_of_row w g 2 _ t (0, 0) h]; rfl, by rw [cell_of_row w g 3 _ t (0, 0) h]; rfl⟩
set_option maxHeartbeats 4000000 in
theorem eqDma_u : EqC 51 dmaR dmaM aggV := by
 intro cs ds x w h k hm
 obtain ⟨v0, v3, rfl, r0, -, -, r3⟩ := dma_rd h
 obtain ⟨u0, u3, rfl, s0, -, -, s3⟩ := dma_rd k
 clear h k
 rw [show dmaM.bk x = descsM.bk x.1 + (0 + (0 + rowsM.bk x.2.2.2)) from rfl] at hm
 change Calls Tryz.prog 51 #[.agg #[v0, .int .i64 x.2.1, .bool x.2.2.1, v3], .agg #[u0, .int .i64 x.2.1, .bool x.2.2.1, u3]] w _
 have C0 : Hid (∀ W, Below w.heap.size w W → Calls Tryz.prog 18 #[v0, u0] W fun e w' => e = .returned (.bool true) ∧ Below W.heap.size W w') := fun W hb => eqDescs_u [v0] [u0] _ W (rd_next r0 hb) (rd_next s0 hb) (by omega)
 have C3 : Hid (∀ W, Below w.heap.size w W → Calls Tryz.prog 115 #[v3, u3] W fun e w' => e = .returned (.bool true) ∧ Below W.heap.size W w') := fun W hb => eqRows_u [v3] [u3] _ W (rd_next r3 hb) (rd_next s3 hb) (by omega)
 clear hm r0 s0 r3 s3
 have X := heap_on (.cells #[u0, .int .i64 x.2.1, .bool x.2.2.1, u3] 45) (heap_at w (.cells #[v0, .int .i64 x.2.1, .bool x.2.2.1, v3] 45))
 have Y := heap_at (w.alloc (.cells #[v0, .int .i64 x.2.1, .bool x.2.2.1, v3] 45)) (.cells #[u0, .int .i64 x.2.1, .bool x.2.2.1, u3] 45)
 rw [alloc_len] at Y
 have B := below_step (box_below w (.cells #[v0, .int .i64 x.2.1, .bool x.2.2.1, v3] 45)) (box_below _ (.cells #[u0, .int .i64 x.2.1, .bool x.2.2.1, u3] 45))
 go_enter Tryz.func51, Tryz.ntmps51
 go_wp2_with fail
 generalize (w.alloc (.cells #[v0, .int .i64 x.2.1, .bool x.2.2.1, v3] 45)).alloc (.cells #[u0, .int .i64 x.2.1, .bool x.2.2.1, u3] 45) = W0 at X Y B ⊢
 refine (C0.out _ B).mono ?_
 rintro e w1 ⟨rfl, bq⟩
 replace X := row_keep bq X
 replace Y := row_keep bq Y
 replace B := below_step B bq
 clear bq C0
 obtain ⟨y0, y1, y2, y3⟩ := cells_dma X
 obtain ⟨z0, z1, z2, z3⟩ := cells_dma Y
 go_wp2_with fail
 clear y0 y1 y2 y3 z0 z1 z2 z3
 refine (C3.out _ B).mono ?_
 rintro e w2 ⟨rfl, bq⟩
 replace X := row_keep bq X
 replace Y := row_keep bq Y
 replace B := below_step B bq
 clear bq C3
 obtain ⟨y0, y1, y2, y3⟩ := cells_dma X
 obtain ⟨z0, z1, z2, z3⟩ := cells_dma Y
 clear X Y
 go_wp2
 go_ret
 exact ⟨rfl, B⟩
theorem dma_cV (x : DmaD) : dmaM.cV x = descsM.cV x.1 + (0 + (0 + rowsM.cV x.2.2.2)) := rfl
theorem dma_mV (k : Int) (x : DmaD) : dmaM.mV k x = (descsM.mV k x.1, intM.mV (k + ((descsM.cV x.1 : Nat) : Int)) x.2.1, boolM.mV ((k + ((descsM.cV x.1 : Nat) : Int)) + ((intM.cV x.2.1 : Nat) : Int)) x.2.2.1, rowsM.mV (((k + ((descsM.cV x.1 : Nat) : Int)) + ((intM.cV x.2.1 : Nat) : Int)) + ((boolM.cV x.2.2.1 : Nat) : Int)) x.2.2.2) := rfl
theorem dma_own {w : World} {S : Foot} {cs : List Value} {x : DmaD} (h : dmaR.own w S cs x) : ∃ v0 v3 S0 S3, cs = [v0, .int .i64 x.2.1, .bool x.2.2.1, v3] ∧ In64 x.2.1 ∧ True ∧ descsR.own w S0 [v0] x.1 ∧ rowsR.own w S3 [v3] x.2.2.2 ∧ Sub S0 S ∧ Sub S3 S ∧ Dis S0 S3 := by
 obtain ⟨c0, e0, S0, T1, rfl, h0, ⟨c1, e1, S1, T2, rfl, ⟨rfl, i1⟩, ⟨c2, e2, S2, T3, rfl, rfl, h3, a2, b2, d2⟩, a1, b1, d1⟩, a0, b0, d0⟩ := h
 obtain ⟨v0, rfl⟩ := len1dma (descsR.rd_len (descsR.own_rd h0))
 obtain ⟨v3, rfl⟩ := len1dma (rowsR.rd_len (rowsR.own_rd h3))
 exact ⟨v0, v3, S0, T3, rfl, i1, trivial, h0, h3, a0, (((Sub.refl _).trans b2).trans b1).trans b0, d0.sub (Sub.refl _) (((Sub.refl _).trans b2).trans b1)⟩
theorem own_dma {w : World} {S S0 S3 : Foot} {v0 v3 : Value} {x : DmaD} (i1 : In64 x.2.1) (h0 : descsR.own w S0 [v0] x.1) (h3 : rowsR.own w S3 [v3] x.2.2.2) (s0 : Sub S0 S) (s3 : Sub S3 S) (d03 : Dis S0 S3) : dmaR.own w S [v0, .int .i64 x.2.1, .bool x.2.2.1, v3] x := by
 exact ⟨[v0], [.int .i64 x.2.1, .bool x.2.2.1, v3], S0, (fun q => (fun _ => False) q ∨ (fun q => (fun _ => False) q ∨ S3 q) q), rfl, h0, ⟨[.int .i64 x.2.1], [.bool x.2.2.1, v3], (fun _ => False), (fun q => (fun _ => False) q ∨ S3 q), rfl, ⟨rfl, i1⟩, ⟨[.bool x.2.2.1], [v3], (fun _ => False), S3, rfl, rfl, h3, (fun q h => .inl h), (fun q h => .inr h), (fun _ h _ => h.elim)⟩, (fun q h => .inl h), (fun q h => .inr h), (fun _ h _ => h.elim)⟩, s0, (fun q h => h.elim (fun ha => ha.elim) (fun hb => hb.elim (fun hba => hba.elim) (fun hbb => s3 q hbb))), (fun q a h => h.elim (fun ha => ha.elim) (fun hb => hb.elim (fun hba => hba.elim) (fun hbb => d03 q a hbb)))⟩
theorem dma_shape {w : World} {cs : List Value} {x : DmaD} (h : dmaR.rd w cs x) : ∃ (a0 : Option Addr) (c0 : Nat) (a3 : Option Addr) (c3 : Nat), cs = [.slice a0 x.1.length c0, .int .i64 x.2.1, .bool x.2.2.1, .slice a3 x.2.2.2.length c3] := by
 obtain ⟨v0, v3, rfl, r0, -, -, r3⟩ := dma_rd h
 obtain ⟨a0, c0, e0, -⟩ := r0
 simp only [List.cons.injEq, and_true] at e0
 obtain rfl := e0
 obtain ⟨a3, c3, e3, -⟩ := r3
 simp only [List.cons.injEq, and_true] at e3
 obtain rfl := e3
 exact ⟨a0, c0, a3, c3, rfl⟩
end Go.Proofs.YthnfkacboijneaaGreatDoor
