/- At every store and every way, impl.Filled answers as spec.Filled does, field by field, writes into no argument, keeps nothing of one, and its answer owns its memory, behind another call too: the law FnExactFilled returns true and changes nothing that was there. No condition. -/
import Derived.Test.YtmldilmiihafoaaRows
import Derived.Test.YtmldilmiihafoaaFillImpl
import Derived.WalkKit
import Derived.ProofKit
import Derived.OpenShut
import Derived.ShutString
import Derived.ChangeOld
import Derived.Below
import Derived.Carry
import Derived.Lib.SmallJoins
namespace Go.Proofs.Ytmldilmiihafoaa.fnExactFilled
open Go.ChangeShapes Go.WideShapes Go.ChangeAt Go.RowKit Go.Joins
open Go.ChangeMaps (open_string shut_string)
set_option linter.unusedVariables false

theorem own : ownKnob Try.prog.godebug = none := by kernel_rfl
theorem laidOut : laidOutB Try.prog = true := by kernel_rfl

theorem bk_ints (d : List Int) : intsM.bk d = d.length := by
  have h1 : intsM.bk d = d.length + sumbk intM d := rfl
  have h2 := sumbk_ints d
  omega
section
variable {V wx : World} {p q : Nat} {u0 u1 u2 u3 u4 : Value}
theorem s5_made {w9 : World} (h : wx.cell? ⟨p, 0, none⟩ = some u0 ∧ wx.cell? ⟨p, 1, none⟩ = some u1 ∧ wx.cell? ⟨q, 0, none⟩ = some u2 ∧ wx.cell? ⟨q, 1, none⟩ = some u3 ∧ wx.cell? ⟨q, 2, none⟩ = some u4 ∧ Below V.heap.size V wx) (hb : Below wx.heap.size wx w9) : w9.cell? ⟨p, 0, none⟩ = some u0 ∧ w9.cell? ⟨p, 1, none⟩ = some u1 ∧ w9.cell? ⟨q, 0, none⟩ = some u2 ∧ w9.cell? ⟨q, 1, none⟩ = some u3 ∧ w9.cell? ⟨q, 2, none⟩ = some u4 ∧ Below V.heap.size V w9 :=
  ⟨cell_keep hb h.1 (cell_lt h.1), cell_keep hb h.2.1 (cell_lt h.2.1), cell_keep hb h.2.2.1 (cell_lt h.2.2.1), cell_keep hb h.2.2.2.1 (cell_lt h.2.2.2.1), cell_keep hb h.2.2.2.2.1 (cell_lt h.2.2.2.2.1), below_step h.2.2.2.2.2 hb⟩
theorem s5_alloc (h : wx.cell? ⟨p, 0, none⟩ = some u0 ∧ wx.cell? ⟨p, 1, none⟩ = some u1 ∧ wx.cell? ⟨q, 0, none⟩ = some u2 ∧ wx.cell? ⟨q, 1, none⟩ = some u3 ∧ wx.cell? ⟨q, 2, none⟩ = some u4 ∧ Below V.heap.size V wx) (o : Obj) : (wx.alloc o).cell? ⟨p, 0, none⟩ = some u0 ∧ (wx.alloc o).cell? ⟨p, 1, none⟩ = some u1 ∧ (wx.alloc o).cell? ⟨q, 0, none⟩ = some u2 ∧ (wx.alloc o).cell? ⟨q, 1, none⟩ = some u3 ∧ (wx.alloc o).cell? ⟨q, 2, none⟩ = some u4 ∧ Below V.heap.size V (wx.alloc o) := s5_made h (box_below wx o)
theorem s5_drew (h : wx.cell? ⟨p, 0, none⟩ = some u0 ∧ wx.cell? ⟨p, 1, none⟩ = some u1 ∧ wx.cell? ⟨q, 0, none⟩ = some u2 ∧ wx.cell? ⟨q, 1, none⟩ = some u3 ∧ wx.cell? ⟨q, 2, none⟩ = some u4 ∧ Below V.heap.size V wx) : wx.drew.cell? ⟨p, 0, none⟩ = some u0 ∧ wx.drew.cell? ⟨p, 1, none⟩ = some u1 ∧ wx.drew.cell? ⟨q, 0, none⟩ = some u2 ∧ wx.drew.cell? ⟨q, 1, none⟩ = some u3 ∧ wx.drew.cell? ⟨q, 2, none⟩ = some u4 ∧ Below V.heap.size V wx.drew := ⟨h.1, h.2.1, h.2.2.1, h.2.2.2.1, h.2.2.2.2.1, h.2.2.2.2.2.drew⟩
theorem s5_set {g o : Nat} {z : Value} (hq : p + 1 < V.heap.size) (hg : V.heap.size ≤ g) (h : wx.cell? ⟨p, 0, none⟩ = some u0 ∧ wx.cell? ⟨p, 1, none⟩ = some u1 ∧ wx.cell? ⟨p + 1, 0, none⟩ = some u2 ∧ wx.cell? ⟨p + 1, 1, none⟩ = some u3 ∧ wx.cell? ⟨p + 1, 2, none⟩ = some u4 ∧ Below V.heap.size V wx) :
    (wx.setCell ⟨g, o, none⟩ z).cell? ⟨p, 0, none⟩ = some u0 ∧ (wx.setCell ⟨g, o, none⟩ z).cell? ⟨p, 1, none⟩ = some u1 ∧ (wx.setCell ⟨g, o, none⟩ z).cell? ⟨p + 1, 0, none⟩ = some u2 ∧ (wx.setCell ⟨g, o, none⟩ z).cell? ⟨p + 1, 1, none⟩ = some u3 ∧ (wx.setCell ⟨g, o, none⟩ z).cell? ⟨p + 1, 2, none⟩ = some u4 ∧ Below V.heap.size V (wx.setCell ⟨g, o, none⟩ z) :=
  ⟨cs1 (by omega) h.1, cs1 (by omega) h.2.1, cs1 (by omega) h.2.2.1, cs1 (by omega) h.2.2.2.1, cs1 (by omega) h.2.2.2.2.1, below_setC h.2.2.2.2.2 hg⟩
end
theorem endA {V cur wf : World} {av bv : Option Addr} {cv dv : Nat} {c : CacheD} {ok : Bool} (mm : MadeR cacheR cur wf [.slice av c.1.length cv, .slice bv c.2.length dv] c) (hc : V.heap.size ≤ cur.heap.size) (hb : Below V.heap.size V wf) :
    ∃ zb lo hi av' cv' bv' dv', (.pointer (some ⟨wf.heap.size, 0, none⟩) : Value) = .pointer (some ⟨zb, 0, none⟩) ∧ (.bool ok : Value) = .bool ok ∧ V.heap.size ≤ zb ∧ V.heap.size ≤ lo ∧ (zb < lo ∨ hi ≤ zb) ∧ (wf.alloc (.cells #[.slice av c.1.length cv, .slice bv c.2.length dv] 27)).heap[zb]? = some (.cells #[.slice av' c.1.length cv', .slice bv' c.2.length dv'] 27 (0, 0)) ∧ Owned cacheR lo hi (wf.alloc (.cells #[.slice av c.1.length cv, .slice bv c.2.length dv] 27)) [.slice av' c.1.length cv', .slice bv' c.2.length dv'] c ∧ Below V.heap.size V (wf.alloc (.cells #[.slice av c.1.length cv, .slice bv c.2.length dv] 27)) :=
  ⟨wf.heap.size, cur.heap.size, wf.heap.size, av, cv, bv, dv, rfl, rfl, hb.size, hc, .inr (Nat.le_refl _), heap_at _ _, ⟨own_box _ mm.1, by simp⟩, below_step hb (box_below _ _)⟩
theorem endB {V cur wf : World} {av bv : Option Addr} {cv dv zb : Nat} {c : CacheD} {ok : Bool} {x y : Value} (z : wf.heap[zb]? = some (.cells #[x, y] 27 (0, 0))) (mm : MadeR cacheR cur wf [.slice av c.1.length cv, .slice bv c.2.length dv] c) (h1 : V.heap.size ≤ zb) (h2 : zb < cur.heap.size) (hc : V.heap.size ≤ cur.heap.size) (hb : Below V.heap.size V wf) :
    ∃ zb' lo hi av' cv' bv' dv', (.pointer (some ⟨zb, 0, none⟩) : Value) = .pointer (some ⟨zb', 0, none⟩) ∧ (.bool ok : Value) = .bool ok ∧ V.heap.size ≤ zb' ∧ V.heap.size ≤ lo ∧ (zb' < lo ∨ hi ≤ zb') ∧ ((wf.setCell ⟨zb, 0, none⟩ (.slice av c.1.length cv)).setCell ⟨zb, 1, none⟩ (.slice bv c.2.length dv)).heap[zb']? = some (.cells #[.slice av' c.1.length cv', .slice bv' c.2.length dv'] 27 (0, 0)) ∧ Owned cacheR lo hi ((wf.setCell ⟨zb, 0, none⟩ (.slice av c.1.length cv)).setCell ⟨zb, 1, none⟩ (.slice bv c.2.length dv)) [.slice av' c.1.length cv', .slice bv' c.2.length dv'] c ∧ Below V.heap.size V ((wf.setCell ⟨zb, 0, none⟩ (.slice av c.1.length cv)).setCell ⟨zb, 1, none⟩ (.slice bv c.2.length dv)) :=
  ⟨zb, cur.heap.size, wf.heap.size, av, cv, bv, dv, rfl, rfl, h1, hc, .inl h2, put2 z, ⟨own_setC (own_setC mm.1 (fun h => by have := h.1; omega)) (fun h => by have := h.1; omega), by simp⟩, below_setC (below_setC hb h1) h1⟩
set_option maxHeartbeats 8000000 in
set_option maxRecDepth 100000 in
theorem walk (cs0 : Array Value) (x0 : RepOf (cacheR)) (cs1 : Array Value) (x1 : RepOf (wayR)) (w : World) (w0 : (cacheR).rd w cs0.toList x0) (w1 : (wayR).rd w cs1.toList x1) :
    Calls Try.prog 5 #[.agg cs0, .agg cs1] w fun e w' => e = .returned (.bool true) ∧ Below w.heap.size w w' := by
  obtain ⟨aa, cap, bb, cp, hcs, l1, l2, l3, l4, r1, r2⟩ := cache_rd w0
  obtain rfl := arr_of hcs
  clear w0 hcs
  have m1 := Nat.le_trans l1 l2
  have m2 := Nat.le_trans l3 l4
  obtain ⟨l, st, d⟩ := x1
  obtain ⟨ad, cpw, hcs, j1, j2, k1, k2, r3⟩ := way_rd w1
  simp only at hcs j1 j2 k1 r3
  obtain rfl := arr_of hcs
  clear w1 hcs
  have m3 := Nat.le_trans k1 k2
  have HR : Hid (SlRd waysR w aa x0.1 ∧ SlRd intR w bb x0.2) := ⟨r1, r2⟩
  have HW : Hid (SlRd intR w ad d ∧ In64 l ∧ In64 st) := ⟨r3, j1, j2⟩
  clear l1 l2 l3 l4 r1 r2 r3 j1 j2 k1 k2
  have A := heap_on (.cells #[.int .i64 l, .int .i64 st, .slice ad d.length cpw] 49) (heap_at w (.cells #[.slice aa x0.1.length cap, .slice bb x0.2.length cp] 48))
  have A2 := heap_at (w.alloc (.cells #[.slice aa x0.1.length cap, .slice bb x0.2.length cp] 48)) (.cells #[.int .i64 l, .int .i64 st, .slice ad d.length cpw] 49)
  rw [alloc_len] at A2
  have b0 := below_step (box_below w (.cells #[.slice aa x0.1.length cap, .slice bb x0.2.length cp] 48)) (box_below _ (.cells #[.int .i64 l, .int .i64 st, .slice ad d.length cpw] 49))
  go_enter Try.func5, Try.ntmps5
  go_wp2_with fail
  generalize (w.alloc (.cells #[.slice aa x0.1.length cap, .slice bb x0.2.length cp] 48)).alloc (.cells #[.int .i64 l, .int .i64 st, .slice ad d.length cpw] 49) = v0w at A A2 b0 ⊢
  have R1 := two_next0 HR.out b0
  refine (szCache_rep aa bb x0 cap cp 1048576 _ R1.1 (by decide) (by decide) m1 m2).mono ?_
  clear R1
  rintro e w2 ⟨rfl, bb1⟩
  replace b0 := below_step b0 bb1
  replace A := row_keep bb1 A
  replace A2 := row_keep bb1 A2
  clear bb1
  by_cases hf : ((cacheM.bk x0 : Nat) : Int) ≤ 1048576
  · have HS : Hid (szI (cacheM.bk x0) 1048576 = 1048576 - (cacheM.bk x0 : Int)) := szI_yes hf
    have hf' : ¬ (1048576 - ((cacheM.bk x0 : Nat) : Int) < 0) := by omega
    have hbk : cacheM.bk x0 ≤ 1048576 := by omega
    obtain ⟨s1, s2, s3⟩ := small_of hbk
    have HM : Hid (x0.1.length ≤ maxLen ∧ x0.2.length ≤ maxLen ∧ ∀ row ∈ x0.1, row.length ≤ maxLen) := ⟨m1, m2, fun row hr => Nat.le_trans (s3 row hr) (by decide)⟩
    have HCN : Hid (cntC x0 ≤ 4194304 ∧ x0.1.length ≤ 1048576) := cnt_small hbk
    clear s1 s2 s3 m1 m2
    rw [HS.out]
    obtain ⟨Ac0, Ac1⟩ := cells_two A
    have Alt := (Array.getElem?_eq_some_iff.1 A).1
    obtain ⟨A2c0, A2c1, A2c2⟩ := cells_three A2
    have A2lt := (Array.getElem?_eq_some_iff.1 A2).1
    go_wp2_with fail
    clear Ac0 Ac1 Alt A2c0 A2c1 A2c2 A2lt
    refine (szWay_rep l st d ad cpw (1048576 - (cacheM.bk x0 : Int)) _ (by omega) (by omega) m3).mono ?_
    rintro e w3 ⟨rfl, bb1⟩
    replace b0 := below_step b0 bb1
    replace A := row_keep bb1 A
    replace A2 := row_keep bb1 A2
    clear bb1
    have hwb := bk_way (l, st, d)
    have hwl : intsM.bk d = d.length := bk_ints d
    simp only at hwb
    by_cases hg : ((wayM.bk (l, st, d) : Nat) : Int) ≤ 1048576 - (cacheM.bk x0 : Int)
    · have HS2 : Hid (szI (wayM.bk (l, st, d)) (1048576 - (cacheM.bk x0 : Int)) = 1048576 - (cacheM.bk x0 : Int) - (wayM.bk (l, st, d) : Int)) := szI_yes hg
      have hg' : ¬ (1048576 - (cacheM.bk x0 : Int) - ((wayM.bk (l, st, d) : Nat) : Int) < 0) := by omega
      have hdl : d.length ≤ 1048576 := by omega
      have hdb : intsM.bk d ≤ 1048576 := by omega
      have hdc : slcnt intM d ≤ 1048576 := by rw [slcnt_ints]; exact hdl
      rw [HS2.out]
      have hsm := fill_small x0 (l, st, d)
      generalize hDI : fillI x0 (l, st, d) = DI at hsm
      have HDI : Hid (fillI x0 (l, st, d) = DI) := hDI
      clear hDI
      obtain ⟨c, ok⟩ := DI
      simp only at hsm
      have CSP : Hid (∀ a b cap cp ad cpw W, SlRd waysR W a x0.1 → SlRd intR W b x0.2 → SlRd intR W ad d → Calls Try.prog 16 #[.agg #[.slice a x0.1.length cap, .slice b x0.2.length cp], .agg #[.int .i64 l, .int .i64 st, .slice ad d.length cpw]] W fun e w' => ∃ av cv bv dv, e = .returned (.tuple #[.agg #[.slice av c.1.length cv, .slice bv c.2.length dv], .bool ok]) ∧ MadeR cacheR W w' [.slice av c.1.length cv, .slice bv c.2.length dv] c) := fun a b cap cp ad cpw W h1 h2 h3 => by have := specFilled_any a b x0 cap cp l st d ad cpw W h1 h2 HM.out.1 HM.out.2.1 HM.out.2.2 HW.out.2.1 HW.out.2.2 h3 hdl; rwa [HDI.out] at this
      have CIM : Hid (∀ a b cap cp ad cpw W, SlRd waysR W a x0.1 → SlRd intR W b x0.2 → SlRd intR W ad d → Calls Try.prog 9 #[.agg #[.slice a x0.1.length cap, .slice b x0.2.length cp], .agg #[.int .i64 l, .int .i64 st, .slice ad d.length cpw]] W fun e w' => ∃ av cv bv dv, e = .returned (.tuple #[.agg #[.slice av c.1.length cv, .slice bv c.2.length dv], .bool ok]) ∧ MadeR cacheR W w' [.slice av c.1.length cv, .slice bv c.2.length dv] c) := fun a b cap cp ad cpw W h1 h2 h3 => by have := implFilled_any a b x0 cap cp l st d ad cpw W h1 h2 HM.out.1 HM.out.2.1 HM.out.2.2 HW.out.2.1 HW.out.2.2 h3 hdl; rwa [HDI.out] at this
      clear HDI
      obtain ⟨hc1, hc2⟩ := cnt_small (c := c) (by omega)
      have hq1 : ¬ ((1 : Int) + (cntC c : Int) < 0) := by omega
      have HM1 : Hid ((markC 1 c).1.length = c.1.length) := slmark_len _ _ _
      have HM2 : Hid ((markC 1 c).2.length = c.2.length) := slmark_len _ _ _
      have CT : Hid (∀ W, Below w.heap.size w W → Calls Try.prog 29 #[.agg #[.slice aa x0.1.length cap, .slice bb x0.2.length cp]] W fun e w' => ∃ av cv bv dv, e = .returned (.agg #[.slice av x0.1.length cv, .slice bv x0.2.length dv]) ∧ MadeR cacheR W w' [.slice av x0.1.length cv, .slice bv x0.2.length dv] x0) := fun W hb => toCache_rep aa bb x0 cap cp W (two_next0 HR.out hb).1 (two_next0 HR.out hb).2 hbk
      have CW : Hid (∀ W, Below w.heap.size w W → Calls Try.prog 30 #[.agg #[.int .i64 l, .int .i64 st, .slice ad d.length cpw]] W fun e w' => ∃ av cv, e = .returned (.agg #[.int .i64 l, .int .i64 st, .slice av d.length cv]) ∧ MadeR wayR W w' [.int .i64 l, .int .i64 st, .slice av d.length cv] (l, st, d)) := fun W hb => toWay_rep l st d ad cpw W HW.out.2.1 HW.out.2.2 (slrd_next HW.out.1 hb) hdb
      obtain ⟨Ac0, Ac1⟩ := cells_two A
      have Alt := (Array.getElem?_eq_some_iff.1 A).1
      obtain ⟨A2c0, A2c1, A2c2⟩ := cells_three A2
      have A2lt := (Array.getElem?_eq_some_iff.1 A2).1
      go_wp2_with fail
      clear Ac0 Ac1 Alt A2c0 A2c1 A2c2 A2lt
      go_cut [6, 7] from 27 to 34 (fun p q wx => ∃ zb lo hi av cv bv dv, p = .pointer (some ⟨zb, 0, none⟩) ∧ q = .bool ok ∧ w3.heap.size ≤ zb ∧ w3.heap.size ≤ lo ∧ (zb < lo ∨ hi ≤ zb) ∧ wx.heap[zb]? = some (.cells #[.slice av c.1.length cv, .slice bv c.2.length dv] 27 (0, 0)) ∧ Owned cacheR lo hi wx [.slice av c.1.length cv, .slice bv c.2.length dv] c ∧ Below w3.heap.size w3 wx)
      case first =>
        obtain ⟨Ac0, Ac1⟩ := cells_two A
        obtain ⟨A2c0, A2c1, A2c2⟩ := cells_three A2
        have lA := (Array.getElem?_eq_some_iff.1 A2).1
        have Q0 : Hid (w3.cell? ⟨w.heap.size, 0, none⟩ = some (.slice aa x0.1.length cap) ∧ w3.cell? ⟨w.heap.size, 1, none⟩ = some (.slice bb x0.2.length cp) ∧ w3.cell? ⟨w.heap.size + 1, 0, none⟩ = some (.int .i64 l) ∧ w3.cell? ⟨w.heap.size + 1, 1, none⟩ = some (.int .i64 st) ∧ w3.cell? ⟨w.heap.size + 1, 2, none⟩ = some (.slice ad d.length cpw) ∧ Below w3.heap.size w3 w3) := ⟨Ac0, Ac1, A2c0, A2c1, A2c2, Below.refl _ _⟩
        have HB0 : Hid _ := b0
        clear b0 A A2  
        go_region_held3 (fun wx => wx.cell? ⟨w.heap.size, 0, none⟩ = some (.slice aa x0.1.length cap) ∧ wx.cell? ⟨w.heap.size, 1, none⟩ = some (.slice bb x0.2.length cp) ∧ wx.cell? ⟨w.heap.size + 1, 0, none⟩ = some (.int .i64 l) ∧ wx.cell? ⟨w.heap.size + 1, 1, none⟩ = some (.int .i64 st) ∧ wx.cell? ⟨w.heap.size + 1, 2, none⟩ = some (.slice ad d.length cpw) ∧ Below w3.heap.size w3 wx) (repeat' first | exact Q0.out | exact Q1.out | exact Q2.out | exact Q3.out | assumption | refine s5_drew ?_ | refine s5_alloc ?_ _ | refine s5_set lA (by omega) ?_) (first | (go_at_call 29; refine (CT.out _ (below_step HB0.out (And.right (And.right (And.right (And.right (And.right (by assumption)))))))).mono ?_; rintro e wq ⟨at1, ct1, bt1, dt1, rfl, mm⟩; have Q1 : Hid (wq.cell? ⟨w.heap.size, 0, none⟩ = some (.slice aa x0.1.length cap) ∧ wq.cell? ⟨w.heap.size, 1, none⟩ = some (.slice bb x0.2.length cp) ∧ wq.cell? ⟨w.heap.size + 1, 0, none⟩ = some (.int .i64 l) ∧ wq.cell? ⟨w.heap.size + 1, 1, none⟩ = some (.int .i64 st) ∧ wq.cell? ⟨w.heap.size + 1, 2, none⟩ = some (.slice ad d.length cpw) ∧ Below w3.heap.size w3 wq) := s5_made (by assumption) mm.2; have HT1 : Hid (SlRd waysR wq at1 x0.1 ∧ SlRd intR wq bt1 x0.2) := made_slices mm; (first | (have z1 : wq.heap[w3.heap.size]? = some (.cells #[.slice none 0 0, .slice none 0 0] 27) := ?hz; case hz => exact row_keep mm.2 (heap_at w3.drew _)) | skip); have sq : w3.heap.size ≤ wq.heap.size := Q1.out.2.2.2.2.2.size; clear mm) | (go_at_call 30; refine (CW.out _ (below_step HB0.out (And.right (And.right (And.right (And.right (And.right (by assumption)))))))).mono ?_; rintro e wr ⟨aw1, cw1, rfl, mm⟩; have Q2 : Hid (wr.cell? ⟨w.heap.size, 0, none⟩ = some (.slice aa x0.1.length cap) ∧ wr.cell? ⟨w.heap.size, 1, none⟩ = some (.slice bb x0.2.length cp) ∧ wr.cell? ⟨w.heap.size + 1, 0, none⟩ = some (.int .i64 l) ∧ wr.cell? ⟨w.heap.size + 1, 1, none⟩ = some (.int .i64 st) ∧ wr.cell? ⟨w.heap.size + 1, 2, none⟩ = some (.slice ad d.length cpw) ∧ Below w3.heap.size w3 wr) := s5_made (by assumption) mm.2; have HT2 : Hid (SlRd intR wr aw1 d) := owned_wayd (owned_made mm); (first | (have HT1n : Hid (SlRd waysR wr at1 x0.1 ∧ SlRd intR wr bt1 x0.2) := ?hz; case hz => exact two_next HT1.out mm.2) | (have HT1n : Hid (SlRd waysR wr at1 x0.1 ∧ SlRd intR wr bt1 x0.2) := ?hz; case hz => exact two_next (two_next HT1.out (box_below _ _)) mm.2)); (first | (have y1 : wr.heap[w3.heap.size]? = some (.cells #[.slice none 0 0, .slice none 0 0] 27) := ?hz; case hz => exact row_keep mm.2 z1) | skip); (first | (have y2 : wr.heap[wq.heap.size]? = some (.cells #[.slice none 0 0, .slice none 0 0] 27) := ?hz; case hz => exact row_keep mm.2 (heap_at wq _)) | skip); have sr : w3.heap.size ≤ wr.heap.size := Q2.out.2.2.2.2.2.size; clear mm) | (go_at_call 16; (first | (refine (CSP.out at1 bt1 ct1 dt1 aw1 cw1 wr HT1n.out.1 HT1n.out.2 HT2.out).mono ?_) | (refine (CSP.out at1 bt1 ct1 dt1 aw1 cw1 _ (two_next HT1n.out (box_below _ _)).1 (two_next HT1n.out (box_below _ _)).2 (slrd_next HT2.out (box_below _ _))).mono ?_)); rintro e wf ⟨av, cv, bv, dv, rfl, mm⟩; have Q3 : Hid (wf.cell? ⟨w.heap.size, 0, none⟩ = some (.slice aa x0.1.length cap) ∧ wf.cell? ⟨w.heap.size, 1, none⟩ = some (.slice bb x0.2.length cp) ∧ wf.cell? ⟨w.heap.size + 1, 0, none⟩ = some (.int .i64 l) ∧ wf.cell? ⟨w.heap.size + 1, 1, none⟩ = some (.int .i64 st) ∧ wf.cell? ⟨w.heap.size + 1, 2, none⟩ = some (.slice ad d.length cpw) ∧ Below w3.heap.size w3 wf) := s5_made (by assumption) mm.2; have HP : Hid _ := mm; (first | (have x1 : wf.heap[w3.heap.size]? = some (.cells #[.slice none 0 0, .slice none 0 0] 27) := ?hz; case hz => exact row_keep mm.2 y1) | skip); (first | (have x2 : wf.heap[wq.heap.size]? = some (.cells #[.slice none 0 0, .slice none 0 0] 27) := ?hz; case hz => exact row_keep mm.2 y2) | skip); (first | (have x3 : wf.heap[wr.heap.size]? = some (.cells #[.slice none 0 0, .slice none 0 0] 27) := ?hz; case hz => exact row_keep mm.2 (heap_at wr _)) | skip); (first | (obtain ⟨x1c0, x1c1⟩ := cells_two x1; obtain ⟨x1f0, x1f1⟩ := cells_froz2 x1; have x1lt := (Array.getElem?_eq_some_iff.1 x1).1) | skip); (first | (obtain ⟨x2c0, x2c1⟩ := cells_two x2; obtain ⟨x2f0, x2f1⟩ := cells_froz2 x2; have x2lt := (Array.getElem?_eq_some_iff.1 x2).1) | skip); (first | (obtain ⟨x3c0, x3c1⟩ := cells_two x3; obtain ⟨x3f0, x3f1⟩ := cells_froz2 x3; have x3lt := (Array.getElem?_eq_some_iff.1 x3).1) | skip); have sf : w3.heap.size ≤ wf.heap.size := Q3.out.2.2.2.2.2.size; clear mm))
        all_goals go_wp2_with fail
        all_goals go_meet
        all_goals first | exact endA HP.out sr Q3.out.2.2.2.2.2 | exact endB x3 HP.out sr (by simp) (by simp; omega) Q3.out.2.2.2.2.2 | exact endB x2 HP.out sq (Array.getElem?_eq_some_iff.1 y2).1 sr Q3.out.2.2.2.2.2 | exact endB x1 HP.out (Nat.le_refl _) (Array.getElem?_eq_some_iff.1 y1).1 sr Q3.out.2.2.2.2.2
      case rest =>
        obtain ⟨zb1, lo1, hi1, av1, cv1, bv1, dv1, rfl, rfl, hz1, hlo1, hzz1, ZP, P, bq⟩ := hcut
        obtain ⟨v1w, hwn⟩ : ∃ x, x = wc := ⟨_, rfl⟩
        subst hwn
        replace b0 := below_step b0 bq
        replace A := row_keep bq A
        replace A2 := row_keep bq A2
        clear bq
        obtain ⟨Ac0, Ac1⟩ := cells_two A
        have Alt := (Array.getElem?_eq_some_iff.1 A).1
        obtain ⟨A2c0, A2c1, A2c2⟩ := cells_three A2
        have A2lt := (Array.getElem?_eq_some_iff.1 A2).1
        obtain ⟨ZPc0, ZPc1⟩ := cells_two ZP
        have ZPlt := (Array.getElem?_eq_some_iff.1 ZP).1
        go_wp2_with fail
        clear Ac0 Ac1 Alt A2c0 A2c1 A2c2 A2lt ZPc0 ZPc1 ZPlt
        refine (CT.out _ b0).mono ?_
        rintro e v2w ⟨av2, cv2, bv2, dv2, rfl, mm⟩
        have XA : w.heap.size < v1w.heap.size ∨ v2w.heap.size ≤ w.heap.size := .inl (Array.getElem?_eq_some_iff.1 A).1
        have XA2 : w.heap.size + 1 < v1w.heap.size ∨ v2w.heap.size ≤ w.heap.size + 1 := .inl (Array.getElem?_eq_some_iff.1 A2).1
        have XZP : zb1 < v1w.heap.size ∨ v2w.heap.size ≤ zb1 := .inl (Array.getElem?_eq_some_iff.1 ZP).1
        have PX : hi1 ≤ v1w.heap.size := P.2
        have Xlo : w.heap.size ≤ v1w.heap.size := b0.size
        have X := owned_made (R := cacheR) mm
        have mbX := mm.2
        replace b0 := below_step b0 mbX
        replace A := row_keep mbX A
        replace A2 := row_keep mbX A2
        replace ZP := row_keep mbX ZP
        replace P := owned_next P mbX
        clear mbX mm
        obtain ⟨Ac0, Ac1⟩ := cells_two A
        have Alt := (Array.getElem?_eq_some_iff.1 A).1
        obtain ⟨A2c0, A2c1, A2c2⟩ := cells_three A2
        have A2lt := (Array.getElem?_eq_some_iff.1 A2).1
        obtain ⟨ZPc0, ZPc1⟩ := cells_two ZP
        have ZPlt := (Array.getElem?_eq_some_iff.1 ZP).1
        go_wp2_with fail
        clear Ac0 Ac1 Alt A2c0 A2c1 A2c2 A2lt ZPc0 ZPc1 ZPlt
        have ZX := heap_at v2w (.cells #[.slice av2 x0.1.length cv2, .slice bv2 x0.2.length dv2] 27)
        have bzZX := box_below v2w (.cells #[.slice av2 x0.1.length cv2, .slice bv2 x0.2.length dv2] 27)
        have PZX : v2w.heap.size < lo1 ∨ hi1 ≤ v2w.heap.size := .inr P.2
        have XZX : v2w.heap.size < v1w.heap.size ∨ v2w.heap.size ≤ v2w.heap.size := .inr X.2
        replace b0 := below_step b0 bzZX
        replace A := row_keep bzZX A
        replace A2 := row_keep bzZX A2
        replace ZP := row_keep bzZX ZP
        replace P := owned_next P bzZX
        replace X := owned_next X bzZX
        clear bzZX
        generalize v2w.alloc (.cells #[.slice av2 x0.1.length cv2, .slice bv2 x0.2.length dv2] 27) = v3w at b0 A A2 ZP ZX P X ⊢
        refine (CW.out _ b0).mono ?_
        rintro e v4w ⟨aw2, cw2, rfl, mm⟩
        have X1A : w.heap.size < v3w.heap.size ∨ v4w.heap.size ≤ w.heap.size := .inl (Array.getElem?_eq_some_iff.1 A).1
        have X1A2 : w.heap.size + 1 < v3w.heap.size ∨ v4w.heap.size ≤ w.heap.size + 1 := .inl (Array.getElem?_eq_some_iff.1 A2).1
        have X1ZP : zb1 < v3w.heap.size ∨ v4w.heap.size ≤ zb1 := .inl (Array.getElem?_eq_some_iff.1 ZP).1
        have X1ZX : v2w.heap.size < v3w.heap.size ∨ v4w.heap.size ≤ v2w.heap.size := .inl (Array.getElem?_eq_some_iff.1 ZX).1
        have PX1 : hi1 ≤ v3w.heap.size := P.2
        have XX1 : v2w.heap.size ≤ v3w.heap.size := X.2
        have X1lo : w.heap.size ≤ v3w.heap.size := b0.size
        have X1 := owned_made (R := wayR) mm
        have mbX1 := mm.2
        replace b0 := below_step b0 mbX1
        replace A := row_keep mbX1 A
        replace A2 := row_keep mbX1 A2
        replace ZP := row_keep mbX1 ZP
        replace ZX := row_keep mbX1 ZX
        replace P := owned_next P mbX1
        replace X := owned_next X mbX1
        clear mbX1 mm
        obtain ⟨Ac0, Ac1⟩ := cells_two A
        have Alt := (Array.getElem?_eq_some_iff.1 A).1
        obtain ⟨A2c0, A2c1, A2c2⟩ := cells_three A2
        have A2lt := (Array.getElem?_eq_some_iff.1 A2).1
        obtain ⟨ZPc0, ZPc1⟩ := cells_two ZP
        have ZPlt := (Array.getElem?_eq_some_iff.1 ZP).1
        obtain ⟨ZXc0, ZXc1⟩ := cells_two ZX
        have ZXlt := (Array.getElem?_eq_some_iff.1 ZX).1
        go_wp2_with fail
        clear Ac0 Ac1 Alt A2c0 A2c1 A2c2 A2lt ZPc0 ZPc1 ZPlt ZXc0 ZXc1 ZXlt
        have ZX1 := heap_at v4w (.cells #[.int .i64 l, .int .i64 st, .slice aw2 d.length cw2] 29)
        have bzZX1 := box_below v4w (.cells #[.int .i64 l, .int .i64 st, .slice aw2 d.length cw2] 29)
        have PZX1 : v4w.heap.size < lo1 ∨ hi1 ≤ v4w.heap.size := .inr P.2
        have XZX1 : v4w.heap.size < v1w.heap.size ∨ v2w.heap.size ≤ v4w.heap.size := .inr X.2
        have X1ZX1 : v4w.heap.size < v3w.heap.size ∨ v4w.heap.size ≤ v4w.heap.size := .inr X1.2
        replace b0 := below_step b0 bzZX1
        replace A := row_keep bzZX1 A
        replace A2 := row_keep bzZX1 A2
        replace ZP := row_keep bzZX1 ZP
        replace ZX := row_keep bzZX1 ZX
        replace P := owned_next P bzZX1
        replace X := owned_next X bzZX1
        replace X1 := owned_next X1 bzZX1
        clear bzZX1
        generalize v4w.alloc (.cells #[.int .i64 l, .int .i64 st, .slice aw2 d.length cw2] 29) = v5w at b0 A A2 ZP ZX ZX1 P X X1 ⊢
        have S2 := owned_two X
        refine (CIM.out _ _ _ _ _ _ _ S2.1 S2.2 (owned_wayd X1)).mono ?_
        clear S2
        rintro e v6w ⟨av3, cv3, bv3, dv3, rfl, mm⟩
        have GA : w.heap.size < v5w.heap.size ∨ v6w.heap.size ≤ w.heap.size := .inl (Array.getElem?_eq_some_iff.1 A).1
        have GA2 : w.heap.size + 1 < v5w.heap.size ∨ v6w.heap.size ≤ w.heap.size + 1 := .inl (Array.getElem?_eq_some_iff.1 A2).1
        have GZP : zb1 < v5w.heap.size ∨ v6w.heap.size ≤ zb1 := .inl (Array.getElem?_eq_some_iff.1 ZP).1
        have GZX : v2w.heap.size < v5w.heap.size ∨ v6w.heap.size ≤ v2w.heap.size := .inl (Array.getElem?_eq_some_iff.1 ZX).1
        have GZX1 : v4w.heap.size < v5w.heap.size ∨ v6w.heap.size ≤ v4w.heap.size := .inl (Array.getElem?_eq_some_iff.1 ZX1).1
        have PG : hi1 ≤ v5w.heap.size := P.2
        have XG : v2w.heap.size ≤ v5w.heap.size := X.2
        have X1G : v4w.heap.size ≤ v5w.heap.size := X1.2
        have Glo : w.heap.size ≤ v5w.heap.size := b0.size
        have G := owned_made (R := cacheR) mm
        have mbG := mm.2
        replace b0 := below_step b0 mbG
        replace A := row_keep mbG A
        replace A2 := row_keep mbG A2
        replace ZP := row_keep mbG ZP
        replace ZX := row_keep mbG ZX
        replace ZX1 := row_keep mbG ZX1
        replace P := owned_next P mbG
        replace X := owned_next X mbG
        replace X1 := owned_next X1 mbG
        clear mbG mm
        obtain ⟨Ac0, Ac1⟩ := cells_two A
        have Alt := (Array.getElem?_eq_some_iff.1 A).1
        obtain ⟨A2c0, A2c1, A2c2⟩ := cells_three A2
        have A2lt := (Array.getElem?_eq_some_iff.1 A2).1
        obtain ⟨ZPc0, ZPc1⟩ := cells_two ZP
        have ZPlt := (Array.getElem?_eq_some_iff.1 ZP).1
        obtain ⟨ZXc0, ZXc1⟩ := cells_two ZX
        have ZXlt := (Array.getElem?_eq_some_iff.1 ZX).1
        obtain ⟨ZX1c0, ZX1c1, ZX1c2⟩ := cells_three ZX1
        have ZX1lt := (Array.getElem?_eq_some_iff.1 ZX1).1
        go_wp2_with fail
        clear Ac0 Ac1 Alt A2c0 A2c1 A2c2 A2lt ZPc0 ZPc1 ZPlt ZXc0 ZXc1 ZXlt ZX1c0 ZX1c1 ZX1c2 ZX1lt
        have ZG := heap_at v6w (.cells #[.slice av3 c.1.length cv3, .slice bv3 c.2.length dv3] 27)
        have bzZG := box_below v6w (.cells #[.slice av3 c.1.length cv3, .slice bv3 c.2.length dv3] 27)
        have PZG : v6w.heap.size < lo1 ∨ hi1 ≤ v6w.heap.size := .inr P.2
        have XZG : v6w.heap.size < v1w.heap.size ∨ v2w.heap.size ≤ v6w.heap.size := .inr X.2
        have X1ZG : v6w.heap.size < v3w.heap.size ∨ v4w.heap.size ≤ v6w.heap.size := .inr X1.2
        have GZG : v6w.heap.size < v5w.heap.size ∨ v6w.heap.size ≤ v6w.heap.size := .inr G.2
        replace b0 := below_step b0 bzZG
        replace A := row_keep bzZG A
        replace A2 := row_keep bzZG A2
        replace ZP := row_keep bzZG ZP
        replace ZX := row_keep bzZG ZX
        replace ZX1 := row_keep bzZG ZX1
        replace P := owned_next P bzZG
        replace X := owned_next X bzZG
        replace X1 := owned_next X1 bzZG
        replace G := owned_next G bzZG
        clear bzZG
        generalize v6w.alloc (.cells #[.slice av3 c.1.length cv3, .slice bv3 c.2.length dv3] 27) = v7w at b0 A A2 ZP ZX ZX1 ZG P X X1 G ⊢
        have S1 := owned_two G
        have S2 := owned_two P
        refine (eqCache_rep c av3 bv3 av1 bv1 cv3 dv3 cv1 dv1 _ S1.1 S1.2 S2.1 S2.2 (by omega)).mono ?_
        clear S1 S2
        rintro e v8w ⟨rfl, bq⟩
        replace b0 := below_step b0 bq
        replace A := row_keep bq A
        replace A2 := row_keep bq A2
        replace ZP := row_keep bq ZP
        replace ZX := row_keep bq ZX
        replace ZX1 := row_keep bq ZX1
        replace ZG := row_keep bq ZG
        replace P := owned_next P bq
        replace X := owned_next X bq
        replace X1 := owned_next X1 bq
        replace G := owned_next G bq
        clear bq
        go_wp2_with fail
        go_cut [58] (fun q wx => q = .bool false ∧ Below w.heap.size w wx ∧ wx.heap[w.heap.size]? = some (.cells #[.slice aa x0.1.length cap, .slice bb x0.2.length cp] 48) ∧ wx.heap[w.heap.size + 1]? = some (.cells #[.int .i64 l, .int .i64 st, .slice ad d.length cpw] 49) ∧ wx.heap[zb1]? = some (.cells #[.slice av1 c.1.length cv1, .slice bv1 c.2.length dv1] 27) ∧ wx.heap[v2w.heap.size]? = some (.cells #[.slice av2 x0.1.length cv2, .slice bv2 x0.2.length dv2] 27) ∧ wx.heap[v4w.heap.size]? = some (.cells #[.int .i64 l, .int .i64 st, .slice aw2 d.length cw2] 29) ∧ wx.heap[v6w.heap.size]? = some (.cells #[.slice av3 c.1.length cv3, .slice bv3 c.2.length dv3] 27) ∧ Owned cacheR (lo1) (hi1) wx [.slice av1 c.1.length cv1, .slice bv1 c.2.length dv1] (c) ∧ Owned cacheR (v1w.heap.size) (v2w.heap.size) wx [.slice av2 x0.1.length cv2, .slice bv2 x0.2.length dv2] (x0) ∧ Owned wayR (v3w.heap.size) (v4w.heap.size) wx [.int .i64 l, .int .i64 st, .slice aw2 d.length cw2] (((l, st, d) : WayD)) ∧ Owned cacheR (v5w.heap.size) (v6w.heap.size) wx [.slice av3 c.1.length cv3, .slice bv3 c.2.length dv3] (c))
        case first =>
          replace b0 := b0.drew
          replace P := owned_drew P
          replace X := owned_drew X
          replace X1 := owned_drew X1
          replace G := owned_drew G
          obtain ⟨Ac0, Ac1⟩ := cells_two A
          have Alt := (Array.getElem?_eq_some_iff.1 A).1
          obtain ⟨A2c0, A2c1, A2c2⟩ := cells_three A2
          have A2lt := (Array.getElem?_eq_some_iff.1 A2).1
          obtain ⟨ZPc0, ZPc1⟩ := cells_two ZP
          have ZPlt := (Array.getElem?_eq_some_iff.1 ZP).1
          obtain ⟨ZXc0, ZXc1⟩ := cells_two ZX
          have ZXlt := (Array.getElem?_eq_some_iff.1 ZX).1
          obtain ⟨ZX1c0, ZX1c1, ZX1c2⟩ := cells_three ZX1
          have ZX1lt := (Array.getElem?_eq_some_iff.1 ZX1).1
          obtain ⟨ZGc0, ZGc1⟩ := cells_two ZG
          have ZGlt := (Array.getElem?_eq_some_iff.1 ZG).1
          go_region_with (first | (go_at_call 29; refine (CT.out _ b0).mono ?_; rintro e wq ⟨av4, cv4, bv4, dv4, rfl, mm⟩; have S4 := made_slices mm; have mb := mm.2; replace b0 := below_step b0 mb; replace A := row_keep mb A; replace A2 := row_keep mb A2; replace ZP := row_keep mb ZP; replace ZX := row_keep mb ZX; replace ZX1 := row_keep mb ZX1; replace ZG := row_keep mb ZG; replace P := owned_next P mb; replace X := owned_next X mb; replace X1 := owned_next X1 mb; replace G := owned_next G mb; clear mb mm; clear Ac0 Ac1 Alt A2c0 A2c1 A2c2 A2lt ZPc0 ZPc1 ZPlt ZXc0 ZXc1 ZXlt ZX1c0 ZX1c1 ZX1c2 ZX1lt ZGc0 ZGc1 ZGlt; obtain ⟨Ac0, Ac1⟩ := cells_two A; have Alt := (Array.getElem?_eq_some_iff.1 A).1; obtain ⟨A2c0, A2c1, A2c2⟩ := cells_three A2; have A2lt := (Array.getElem?_eq_some_iff.1 A2).1; obtain ⟨ZPc0, ZPc1⟩ := cells_two ZP; have ZPlt := (Array.getElem?_eq_some_iff.1 ZP).1; obtain ⟨ZXc0, ZXc1⟩ := cells_two ZX; have ZXlt := (Array.getElem?_eq_some_iff.1 ZX).1; obtain ⟨ZX1c0, ZX1c1, ZX1c2⟩ := cells_three ZX1; have ZX1lt := (Array.getElem?_eq_some_iff.1 ZX1).1; obtain ⟨ZGc0, ZGc1⟩ := cells_two ZG; have ZGlt := (Array.getElem?_eq_some_iff.1 ZG).1) | (go_at_call 31; have S2 := owned_two X; refine (eqCache_rep x0 av2 bv2 av4 bv4 cv2 dv2 cv4 dv4 _ S2.1 S2.2 S4.1 S4.2 (by omega)).mono ?_; rintro e wq ⟨rfl, mb⟩; replace b0 := below_step b0 mb; replace A := row_keep mb A; replace A2 := row_keep mb A2; replace ZP := row_keep mb ZP; replace ZX := row_keep mb ZX; replace ZX1 := row_keep mb ZX1; replace ZG := row_keep mb ZG; replace P := owned_next P mb; replace X := owned_next X mb; replace X1 := owned_next X1 mb; replace G := owned_next G mb; clear mb; clear Ac0 Ac1 Alt A2c0 A2c1 A2c2 A2lt ZPc0 ZPc1 ZPlt ZXc0 ZXc1 ZXlt ZX1c0 ZX1c1 ZX1c2 ZX1lt ZGc0 ZGc1 ZGlt; obtain ⟨Ac0, Ac1⟩ := cells_two A; have Alt := (Array.getElem?_eq_some_iff.1 A).1; obtain ⟨A2c0, A2c1, A2c2⟩ := cells_three A2; have A2lt := (Array.getElem?_eq_some_iff.1 A2).1; obtain ⟨ZPc0, ZPc1⟩ := cells_two ZP; have ZPlt := (Array.getElem?_eq_some_iff.1 ZP).1; obtain ⟨ZXc0, ZXc1⟩ := cells_two ZX; have ZXlt := (Array.getElem?_eq_some_iff.1 ZX).1; obtain ⟨ZX1c0, ZX1c1, ZX1c2⟩ := cells_three ZX1; have ZX1lt := (Array.getElem?_eq_some_iff.1 ZX1).1; obtain ⟨ZGc0, ZGc1⟩ := cells_two ZG; have ZGlt := (Array.getElem?_eq_some_iff.1 ZG).1))
          all_goals
            go_wp2_with fail
            go_meet
            exact ⟨rfl, b0, A, A2, ZP, ZX, ZX1, ZG, P, X, X1, G⟩
        case rest =>
          clear b0 A A2 ZP ZX ZX1 ZG P X X1 G
          obtain ⟨rfl, b0, A, A2, ZP, ZX, ZX1, ZG, P, X, X1, G⟩ := hcut
          go_wp2_with fail
          go_cut [63] (fun q wx => q = .bool false ∧ Below w.heap.size w wx ∧ wx.heap[w.heap.size]? = some (.cells #[.slice aa x0.1.length cap, .slice bb x0.2.length cp] 48) ∧ wx.heap[w.heap.size + 1]? = some (.cells #[.int .i64 l, .int .i64 st, .slice ad d.length cpw] 49) ∧ wx.heap[zb1]? = some (.cells #[.slice av1 c.1.length cv1, .slice bv1 c.2.length dv1] 27) ∧ wx.heap[v2w.heap.size]? = some (.cells #[.slice av2 x0.1.length cv2, .slice bv2 x0.2.length dv2] 27) ∧ wx.heap[v4w.heap.size]? = some (.cells #[.int .i64 l, .int .i64 st, .slice aw2 d.length cw2] 29) ∧ wx.heap[v6w.heap.size]? = some (.cells #[.slice av3 c.1.length cv3, .slice bv3 c.2.length dv3] 27) ∧ Owned cacheR (lo1) (hi1) wx [.slice av1 c.1.length cv1, .slice bv1 c.2.length dv1] (c) ∧ Owned cacheR (v1w.heap.size) (v2w.heap.size) wx [.slice av2 x0.1.length cv2, .slice bv2 x0.2.length dv2] (x0) ∧ Owned wayR (v3w.heap.size) (v4w.heap.size) wx [.int .i64 l, .int .i64 st, .slice aw2 d.length cw2] (((l, st, d) : WayD)) ∧ Owned cacheR (v5w.heap.size) (v6w.heap.size) wx [.slice av3 c.1.length cv3, .slice bv3 c.2.length dv3] (c))
          case first =>
            replace b0 := b0.drew
            replace P := owned_drew P
            replace X := owned_drew X
            replace X1 := owned_drew X1
            replace G := owned_drew G
            obtain ⟨Ac0, Ac1⟩ := cells_two A
            have Alt := (Array.getElem?_eq_some_iff.1 A).1
            obtain ⟨A2c0, A2c1, A2c2⟩ := cells_three A2
            have A2lt := (Array.getElem?_eq_some_iff.1 A2).1
            obtain ⟨ZPc0, ZPc1⟩ := cells_two ZP
            have ZPlt := (Array.getElem?_eq_some_iff.1 ZP).1
            obtain ⟨ZXc0, ZXc1⟩ := cells_two ZX
            have ZXlt := (Array.getElem?_eq_some_iff.1 ZX).1
            obtain ⟨ZX1c0, ZX1c1, ZX1c2⟩ := cells_three ZX1
            have ZX1lt := (Array.getElem?_eq_some_iff.1 ZX1).1
            obtain ⟨ZGc0, ZGc1⟩ := cells_two ZG
            have ZGlt := (Array.getElem?_eq_some_iff.1 ZG).1
            go_region_with (first | (go_at_call 30; refine (CW.out _ b0).mono ?_; rintro e wq ⟨aw4, cw4, rfl, mm⟩; have S4 := owned_wayd (owned_made mm); have mb := mm.2; replace b0 := below_step b0 mb; replace A := row_keep mb A; replace A2 := row_keep mb A2; replace ZP := row_keep mb ZP; replace ZX := row_keep mb ZX; replace ZX1 := row_keep mb ZX1; replace ZG := row_keep mb ZG; replace P := owned_next P mb; replace X := owned_next X mb; replace X1 := owned_next X1 mb; replace G := owned_next G mb; clear mb mm; clear Ac0 Ac1 Alt A2c0 A2c1 A2c2 A2lt ZPc0 ZPc1 ZPlt ZXc0 ZXc1 ZXlt ZX1c0 ZX1c1 ZX1c2 ZX1lt ZGc0 ZGc1 ZGlt; obtain ⟨Ac0, Ac1⟩ := cells_two A; have Alt := (Array.getElem?_eq_some_iff.1 A).1; obtain ⟨A2c0, A2c1, A2c2⟩ := cells_three A2; have A2lt := (Array.getElem?_eq_some_iff.1 A2).1; obtain ⟨ZPc0, ZPc1⟩ := cells_two ZP; have ZPlt := (Array.getElem?_eq_some_iff.1 ZP).1; obtain ⟨ZXc0, ZXc1⟩ := cells_two ZX; have ZXlt := (Array.getElem?_eq_some_iff.1 ZX).1; obtain ⟨ZX1c0, ZX1c1, ZX1c2⟩ := cells_three ZX1; have ZX1lt := (Array.getElem?_eq_some_iff.1 ZX1).1; obtain ⟨ZGc0, ZGc1⟩ := cells_two ZG; have ZGlt := (Array.getElem?_eq_some_iff.1 ZG).1) | (go_at_call 32; refine (eqWay_rep l st d aw2 aw4 cw2 cw4 _ (owned_wayd X1) S4 (by omega)).mono ?_; rintro e wq ⟨rfl, mb⟩; replace b0 := below_step b0 mb; replace A := row_keep mb A; replace A2 := row_keep mb A2; replace ZP := row_keep mb ZP; replace ZX := row_keep mb ZX; replace ZX1 := row_keep mb ZX1; replace ZG := row_keep mb ZG; replace P := owned_next P mb; replace X := owned_next X mb; replace X1 := owned_next X1 mb; replace G := owned_next G mb; clear mb; clear Ac0 Ac1 Alt A2c0 A2c1 A2c2 A2lt ZPc0 ZPc1 ZPlt ZXc0 ZXc1 ZXlt ZX1c0 ZX1c1 ZX1c2 ZX1lt ZGc0 ZGc1 ZGlt; obtain ⟨Ac0, Ac1⟩ := cells_two A; have Alt := (Array.getElem?_eq_some_iff.1 A).1; obtain ⟨A2c0, A2c1, A2c2⟩ := cells_three A2; have A2lt := (Array.getElem?_eq_some_iff.1 A2).1; obtain ⟨ZPc0, ZPc1⟩ := cells_two ZP; have ZPlt := (Array.getElem?_eq_some_iff.1 ZP).1; obtain ⟨ZXc0, ZXc1⟩ := cells_two ZX; have ZXlt := (Array.getElem?_eq_some_iff.1 ZX).1; obtain ⟨ZX1c0, ZX1c1, ZX1c2⟩ := cells_three ZX1; have ZX1lt := (Array.getElem?_eq_some_iff.1 ZX1).1; obtain ⟨ZGc0, ZGc1⟩ := cells_two ZG; have ZGlt := (Array.getElem?_eq_some_iff.1 ZG).1))
            all_goals
              go_wp2_with fail
              go_meet
              exact ⟨rfl, b0, A, A2, ZP, ZX, ZX1, ZG, P, X, X1, G⟩
          case rest =>
            clear b0 A A2 ZP ZX ZX1 ZG P X X1 G
            obtain ⟨rfl, b0, A, A2, ZP, ZX, ZX1, ZG, P, X, X1, G⟩ := hcut
            obtain ⟨Ac0, Ac1⟩ := cells_two A
            have Alt := (Array.getElem?_eq_some_iff.1 A).1
            obtain ⟨A2c0, A2c1, A2c2⟩ := cells_three A2
            have A2lt := (Array.getElem?_eq_some_iff.1 A2).1
            obtain ⟨ZPc0, ZPc1⟩ := cells_two ZP
            have ZPlt := (Array.getElem?_eq_some_iff.1 ZP).1
            obtain ⟨ZXc0, ZXc1⟩ := cells_two ZX
            have ZXlt := (Array.getElem?_eq_some_iff.1 ZX).1
            obtain ⟨ZX1c0, ZX1c1, ZX1c2⟩ := cells_three ZX1
            have ZX1lt := (Array.getElem?_eq_some_iff.1 ZX1).1
            obtain ⟨ZGc0, ZGc1⟩ := cells_two ZG
            have ZGlt := (Array.getElem?_eq_some_iff.1 ZG).1
            go_wp2_with fail
            clear Ac0 Ac1 Alt A2c0 A2c1 A2c2 A2lt ZPc0 ZPc1 ZPlt ZXc0 ZXc1 ZXlt ZX1c0 ZX1c1 ZX1c2 ZX1lt ZGc0 ZGc1 ZGlt
            refine (markCache_rep _ _ _ 1 x0 _ (by decide) (by decide) (by have := HCN.out.1; omega) (by have := HCN.out.2; omega) X.1).mono ?_
            rintro e v9w ⟨rfl, -, ch⟩
            replace b0 := chg_b0 b0 ch Xlo
            replace A := row_chg A ch XA
            replace A2 := row_chg A2 ch XA2
            replace ZP := row_chg ZP ch XZP
            replace ZX := row_chg ZX ch XZX
            replace ZX1 := row_chg ZX1 ch XZX1
            replace ZG := row_chg ZG ch XZG
            replace P := owned_chg P ch (.inl PX)
            replace X1 := owned_chg X1 ch (.inr XX1)
            replace G := owned_chg G ch (.inr XG)
            clear ch X
            obtain ⟨Ac0, Ac1⟩ := cells_two A
            have Alt := (Array.getElem?_eq_some_iff.1 A).1
            obtain ⟨A2c0, A2c1, A2c2⟩ := cells_three A2
            have A2lt := (Array.getElem?_eq_some_iff.1 A2).1
            obtain ⟨ZPc0, ZPc1⟩ := cells_two ZP
            have ZPlt := (Array.getElem?_eq_some_iff.1 ZP).1
            obtain ⟨ZXc0, ZXc1⟩ := cells_two ZX
            have ZXlt := (Array.getElem?_eq_some_iff.1 ZX).1
            obtain ⟨ZX1c0, ZX1c1, ZX1c2⟩ := cells_three ZX1
            have ZX1lt := (Array.getElem?_eq_some_iff.1 ZX1).1
            obtain ⟨ZGc0, ZGc1⟩ := cells_two ZG
            have ZGlt := (Array.getElem?_eq_some_iff.1 ZG).1
            go_wp2_with fail
            clear Ac0 Ac1 Alt A2c0 A2c1 A2c2 A2lt ZPc0 ZPc1 ZPlt ZXc0 ZXc1 ZXlt ZX1c0 ZX1c1 ZX1c2 ZX1lt ZGc0 ZGc1 ZGlt
            refine (markWay_rep _ l st _ (1 + (cntC x0 : Int)) d _ (by omega) (by have := HCN.out.1; omega) (by omega) (way_intsd X1.1)).mono ?_
            rintro e v10w ⟨rfl, -, ch⟩
            replace b0 := chg_b0 b0 ch X1lo
            replace A := row_chg A ch X1A
            replace A2 := row_chg A2 ch X1A2
            replace ZP := row_chg ZP ch X1ZP
            replace ZX := row_chg ZX ch X1ZX
            replace ZX1 := row_chg ZX1 ch X1ZX1
            replace ZG := row_chg ZG ch X1ZG
            replace P := owned_chg P ch (.inl PX1)
            replace G := owned_chg G ch (.inr X1G)
            clear ch X1
            have hk2 : ¬ ((1 : Int) + (cntC x0 : Int) + (slcnt intM d : Int) < 0) := by omega
            obtain ⟨Ac0, Ac1⟩ := cells_two A
            have Alt := (Array.getElem?_eq_some_iff.1 A).1
            obtain ⟨A2c0, A2c1, A2c2⟩ := cells_three A2
            have A2lt := (Array.getElem?_eq_some_iff.1 A2).1
            obtain ⟨ZPc0, ZPc1⟩ := cells_two ZP
            have ZPlt := (Array.getElem?_eq_some_iff.1 ZP).1
            obtain ⟨ZXc0, ZXc1⟩ := cells_two ZX
            have ZXlt := (Array.getElem?_eq_some_iff.1 ZX).1
            obtain ⟨ZX1c0, ZX1c1, ZX1c2⟩ := cells_three ZX1
            have ZX1lt := (Array.getElem?_eq_some_iff.1 ZX1).1
            obtain ⟨ZGc0, ZGc1⟩ := cells_two ZG
            have ZGlt := (Array.getElem?_eq_some_iff.1 ZG).1
            go_wp2_with fail
            clear Ac0 Ac1 Alt A2c0 A2c1 A2c2 A2lt ZPc0 ZPc1 ZPlt ZXc0 ZXc1 ZXlt ZX1c0 ZX1c1 ZX1c2 ZX1lt ZGc0 ZGc1 ZGlt
            have S1 := owned_two G
            have S2 := owned_two P
            refine (eqCache_rep c av3 bv3 av1 bv1 cv3 dv3 cv1 dv1 _ S1.1 S1.2 S2.1 S2.2 (by omega)).mono ?_
            clear S1 S2
            rintro e v11w ⟨rfl, bq⟩
            replace b0 := below_step b0 bq
            replace A := row_keep bq A
            replace A2 := row_keep bq A2
            replace ZP := row_keep bq ZP
            replace ZX := row_keep bq ZX
            replace ZX1 := row_keep bq ZX1
            replace ZG := row_keep bq ZG
            replace P := owned_next P bq
            replace G := owned_next G bq
            clear bq
            obtain ⟨Ac0, Ac1⟩ := cells_two A
            have Alt := (Array.getElem?_eq_some_iff.1 A).1
            obtain ⟨A2c0, A2c1, A2c2⟩ := cells_three A2
            have A2lt := (Array.getElem?_eq_some_iff.1 A2).1
            obtain ⟨ZPc0, ZPc1⟩ := cells_two ZP
            have ZPlt := (Array.getElem?_eq_some_iff.1 ZP).1
            obtain ⟨ZXc0, ZXc1⟩ := cells_two ZX
            have ZXlt := (Array.getElem?_eq_some_iff.1 ZX).1
            obtain ⟨ZX1c0, ZX1c1, ZX1c2⟩ := cells_three ZX1
            have ZX1lt := (Array.getElem?_eq_some_iff.1 ZX1).1
            obtain ⟨ZGc0, ZGc1⟩ := cells_two ZG
            have ZGlt := (Array.getElem?_eq_some_iff.1 ZG).1
            go_wp2_with fail
            clear Ac0 Ac1 Alt A2c0 A2c1 A2c2 A2lt ZPc0 ZPc1 ZPlt ZXc0 ZXc1 ZXlt ZX1c0 ZX1c1 ZX1c2 ZX1lt ZGc0 ZGc1 ZGlt
            refine (markCache_rep _ _ _ 1 c _ (by decide) (by decide) (by omega) (by omega) G.1).mono ?_
            rintro e v12w ⟨rfl, gm, ch⟩
            replace b0 := chg_b0 b0 ch Glo
            replace A := row_chg A ch GA
            replace A2 := row_chg A2 ch GA2
            replace ZP := row_chg ZP ch GZP
            replace ZX := row_chg ZX ch GZX
            replace ZX1 := row_chg ZX1 ch GZX1
            replace ZG := row_chg ZG ch GZG
            replace P := owned_chg P ch (.inl PG)
            have GM := And.intro gm (Nat.le_trans G.2 ch.size)
            clear ch G gm
            replace GM : Owned cacheR (v5w.heap.size) (v6w.heap.size) v12w [.slice av3 c.1.length cv3, .slice bv3 c.2.length dv3] (markC 1 c) := GM
            obtain ⟨Ac0, Ac1⟩ := cells_two A
            have Alt := (Array.getElem?_eq_some_iff.1 A).1
            obtain ⟨A2c0, A2c1, A2c2⟩ := cells_three A2
            have A2lt := (Array.getElem?_eq_some_iff.1 A2).1
            obtain ⟨ZPc0, ZPc1⟩ := cells_two ZP
            have ZPlt := (Array.getElem?_eq_some_iff.1 ZP).1
            obtain ⟨ZXc0, ZXc1⟩ := cells_two ZX
            have ZXlt := (Array.getElem?_eq_some_iff.1 ZX).1
            obtain ⟨ZX1c0, ZX1c1, ZX1c2⟩ := cells_three ZX1
            have ZX1lt := (Array.getElem?_eq_some_iff.1 ZX1).1
            obtain ⟨ZGc0, ZGc1⟩ := cells_two ZG
            have ZGlt := (Array.getElem?_eq_some_iff.1 ZG).1
            go_wp2_with fail
            clear Ac0 Ac1 Alt A2c0 A2c1 A2c2 A2lt ZPc0 ZPc1 ZPlt ZXc0 ZXc1 ZXlt ZX1c0 ZX1c1 ZX1c2 ZX1lt ZGc0 ZGc1 ZGlt
            have S1 := owned_two (c := markC 1 c) (a := av3) (b := bv3) (cap := cv3) (cp := dv3) (by rw [HM1.out, HM2.out]; exact GM)
            refine (heldCache_rep av3 bv3 cv3 dv3 1 c _ (by decide) (by decide) (by omega) (by omega) S1.1 S1.2).mono ?_
            clear S1
            rintro e v13w ⟨rfl, bq⟩
            replace b0 := below_step b0 bq
            replace A := row_keep bq A
            replace A2 := row_keep bq A2
            replace ZP := row_keep bq ZP
            replace ZX := row_keep bq ZX
            replace ZX1 := row_keep bq ZX1
            replace ZG := row_keep bq ZG
            replace P := owned_next P bq
            replace GM := owned_next GM bq
            clear bq
            obtain ⟨Ac0, Ac1⟩ := cells_two A
            have Alt := (Array.getElem?_eq_some_iff.1 A).1
            obtain ⟨A2c0, A2c1, A2c2⟩ := cells_three A2
            have A2lt := (Array.getElem?_eq_some_iff.1 A2).1
            obtain ⟨ZPc0, ZPc1⟩ := cells_two ZP
            have ZPlt := (Array.getElem?_eq_some_iff.1 ZP).1
            obtain ⟨ZXc0, ZXc1⟩ := cells_two ZX
            have ZXlt := (Array.getElem?_eq_some_iff.1 ZX).1
            obtain ⟨ZX1c0, ZX1c1, ZX1c2⟩ := cells_three ZX1
            have ZX1lt := (Array.getElem?_eq_some_iff.1 ZX1).1
            obtain ⟨ZGc0, ZGc1⟩ := cells_two ZG
            have ZGlt := (Array.getElem?_eq_some_iff.1 ZG).1
            go_wp2_with fail
            clear Ac0 Ac1 Alt A2c0 A2c1 A2c2 A2lt ZPc0 ZPc1 ZPlt ZXc0 ZXc1 ZXlt ZX1c0 ZX1c1 ZX1c2 ZX1lt ZGc0 ZGc1 ZGlt
            go_cut [15, 16] from 94 to 101 (fun p q wx => ∃ zb lo hi av cv bv dv, p = .pointer (some ⟨zb, 0, none⟩) ∧ q = .bool ok ∧ v13w.heap.size ≤ zb ∧ v13w.heap.size ≤ lo ∧ (zb < lo ∨ hi ≤ zb) ∧ wx.heap[zb]? = some (.cells #[.slice av c.1.length cv, .slice bv c.2.length dv] 27 (0, 0)) ∧ Owned cacheR lo hi wx [.slice av c.1.length cv, .slice bv c.2.length dv] c ∧ Below v13w.heap.size v13w wx)
            case first =>
              obtain ⟨Ac0, Ac1⟩ := cells_two A
              obtain ⟨A2c0, A2c1, A2c2⟩ := cells_three A2
              have lA := (Array.getElem?_eq_some_iff.1 A2).1
              have Q0 : Hid (v13w.cell? ⟨w.heap.size, 0, none⟩ = some (.slice aa x0.1.length cap) ∧ v13w.cell? ⟨w.heap.size, 1, none⟩ = some (.slice bb x0.2.length cp) ∧ v13w.cell? ⟨w.heap.size + 1, 0, none⟩ = some (.int .i64 l) ∧ v13w.cell? ⟨w.heap.size + 1, 1, none⟩ = some (.int .i64 st) ∧ v13w.cell? ⟨w.heap.size + 1, 2, none⟩ = some (.slice ad d.length cpw) ∧ Below v13w.heap.size v13w v13w) := ⟨Ac0, Ac1, A2c0, A2c1, A2c2, Below.refl _ _⟩
              have HB0 : Hid _ := b0
              clear b0 A A2 ZP ZX ZX1 ZG P GM
              go_region_held3 (fun wx => wx.cell? ⟨w.heap.size, 0, none⟩ = some (.slice aa x0.1.length cap) ∧ wx.cell? ⟨w.heap.size, 1, none⟩ = some (.slice bb x0.2.length cp) ∧ wx.cell? ⟨w.heap.size + 1, 0, none⟩ = some (.int .i64 l) ∧ wx.cell? ⟨w.heap.size + 1, 1, none⟩ = some (.int .i64 st) ∧ wx.cell? ⟨w.heap.size + 1, 2, none⟩ = some (.slice ad d.length cpw) ∧ Below v13w.heap.size v13w wx) (repeat' first | exact Q0.out | exact Q1.out | exact Q2.out | exact Q3.out | assumption | refine s5_drew ?_ | refine s5_alloc ?_ _ | refine s5_set lA (by omega) ?_) (first | (go_at_call 29; refine (CT.out _ (below_step HB0.out (And.right (And.right (And.right (And.right (And.right (by assumption)))))))).mono ?_; rintro e wq ⟨at1, ct1, bt1, dt1, rfl, mm⟩; have Q1 : Hid (wq.cell? ⟨w.heap.size, 0, none⟩ = some (.slice aa x0.1.length cap) ∧ wq.cell? ⟨w.heap.size, 1, none⟩ = some (.slice bb x0.2.length cp) ∧ wq.cell? ⟨w.heap.size + 1, 0, none⟩ = some (.int .i64 l) ∧ wq.cell? ⟨w.heap.size + 1, 1, none⟩ = some (.int .i64 st) ∧ wq.cell? ⟨w.heap.size + 1, 2, none⟩ = some (.slice ad d.length cpw) ∧ Below v13w.heap.size v13w wq) := s5_made (by assumption) mm.2; have HT1 : Hid (SlRd waysR wq at1 x0.1 ∧ SlRd intR wq bt1 x0.2) := made_slices mm; (first | (have z1 : wq.heap[v13w.heap.size]? = some (.cells #[.slice none 0 0, .slice none 0 0] 27) := ?hz; case hz => exact row_keep mm.2 (heap_at v13w.drew _)) | skip); have sq : v13w.heap.size ≤ wq.heap.size := Q1.out.2.2.2.2.2.size; clear mm) | (go_at_call 30; refine (CW.out _ (below_step HB0.out (And.right (And.right (And.right (And.right (And.right (by assumption)))))))).mono ?_; rintro e wr ⟨aw1, cw1, rfl, mm⟩; have Q2 : Hid (wr.cell? ⟨w.heap.size, 0, none⟩ = some (.slice aa x0.1.length cap) ∧ wr.cell? ⟨w.heap.size, 1, none⟩ = some (.slice bb x0.2.length cp) ∧ wr.cell? ⟨w.heap.size + 1, 0, none⟩ = some (.int .i64 l) ∧ wr.cell? ⟨w.heap.size + 1, 1, none⟩ = some (.int .i64 st) ∧ wr.cell? ⟨w.heap.size + 1, 2, none⟩ = some (.slice ad d.length cpw) ∧ Below v13w.heap.size v13w wr) := s5_made (by assumption) mm.2; have HT2 : Hid (SlRd intR wr aw1 d) := owned_wayd (owned_made mm); (first | (have HT1n : Hid (SlRd waysR wr at1 x0.1 ∧ SlRd intR wr bt1 x0.2) := ?hz; case hz => exact two_next HT1.out mm.2) | (have HT1n : Hid (SlRd waysR wr at1 x0.1 ∧ SlRd intR wr bt1 x0.2) := ?hz; case hz => exact two_next (two_next HT1.out (box_below _ _)) mm.2)); (first | (have y1 : wr.heap[v13w.heap.size]? = some (.cells #[.slice none 0 0, .slice none 0 0] 27) := ?hz; case hz => exact row_keep mm.2 z1) | skip); (first | (have y2 : wr.heap[wq.heap.size]? = some (.cells #[.slice none 0 0, .slice none 0 0] 27) := ?hz; case hz => exact row_keep mm.2 (heap_at wq _)) | skip); have sr : v13w.heap.size ≤ wr.heap.size := Q2.out.2.2.2.2.2.size; clear mm) | (go_at_call 9; (first | (refine (CIM.out at1 bt1 ct1 dt1 aw1 cw1 wr HT1n.out.1 HT1n.out.2 HT2.out).mono ?_) | (refine (CIM.out at1 bt1 ct1 dt1 aw1 cw1 _ (two_next HT1n.out (box_below _ _)).1 (two_next HT1n.out (box_below _ _)).2 (slrd_next HT2.out (box_below _ _))).mono ?_)); rintro e wf ⟨av, cv, bv, dv, rfl, mm⟩; have Q3 : Hid (wf.cell? ⟨w.heap.size, 0, none⟩ = some (.slice aa x0.1.length cap) ∧ wf.cell? ⟨w.heap.size, 1, none⟩ = some (.slice bb x0.2.length cp) ∧ wf.cell? ⟨w.heap.size + 1, 0, none⟩ = some (.int .i64 l) ∧ wf.cell? ⟨w.heap.size + 1, 1, none⟩ = some (.int .i64 st) ∧ wf.cell? ⟨w.heap.size + 1, 2, none⟩ = some (.slice ad d.length cpw) ∧ Below v13w.heap.size v13w wf) := s5_made (by assumption) mm.2; have HP : Hid _ := mm; (first | (have x1 : wf.heap[v13w.heap.size]? = some (.cells #[.slice none 0 0, .slice none 0 0] 27) := ?hz; case hz => exact row_keep mm.2 y1) | skip); (first | (have x2 : wf.heap[wq.heap.size]? = some (.cells #[.slice none 0 0, .slice none 0 0] 27) := ?hz; case hz => exact row_keep mm.2 y2) | skip); (first | (have x3 : wf.heap[wr.heap.size]? = some (.cells #[.slice none 0 0, .slice none 0 0] 27) := ?hz; case hz => exact row_keep mm.2 (heap_at wr _)) | skip); (first | (obtain ⟨x1c0, x1c1⟩ := cells_two x1; obtain ⟨x1f0, x1f1⟩ := cells_froz2 x1; have x1lt := (Array.getElem?_eq_some_iff.1 x1).1) | skip); (first | (obtain ⟨x2c0, x2c1⟩ := cells_two x2; obtain ⟨x2f0, x2f1⟩ := cells_froz2 x2; have x2lt := (Array.getElem?_eq_some_iff.1 x2).1) | skip); (first | (obtain ⟨x3c0, x3c1⟩ := cells_two x3; obtain ⟨x3f0, x3f1⟩ := cells_froz2 x3; have x3lt := (Array.getElem?_eq_some_iff.1 x3).1) | skip); have sf : v13w.heap.size ≤ wf.heap.size := Q3.out.2.2.2.2.2.size; clear mm))
              all_goals go_wp2_with fail
              all_goals go_meet
              all_goals first | exact endA HP.out sr Q3.out.2.2.2.2.2 | exact endB x3 HP.out sr (by simp) (by simp; omega) Q3.out.2.2.2.2.2 | exact endB x2 HP.out sq (Array.getElem?_eq_some_iff.1 y2).1 sr Q3.out.2.2.2.2.2 | exact endB x1 HP.out (Nat.le_refl _) (Array.getElem?_eq_some_iff.1 y1).1 sr Q3.out.2.2.2.2.2
            case rest =>
              obtain ⟨zb6, lo6, hi6, av6, cv6, bv6, dv6, rfl, rfl, hz6, hlo6, hzz6, ZH, H, bq⟩ := hcut
              obtain ⟨v14w, hwn⟩ : ∃ x, x = wc := ⟨_, rfl⟩
              subst hwn
              replace b0 := below_step b0 bq
              replace A := row_keep bq A
              replace A2 := row_keep bq A2
              replace ZP := row_keep bq ZP
              replace ZX := row_keep bq ZX
              replace ZX1 := row_keep bq ZX1
              replace ZG := row_keep bq ZG
              replace P := owned_next P bq
              replace GM := owned_next GM bq
              clear bq
              obtain ⟨Ac0, Ac1⟩ := cells_two A
              have Alt := (Array.getElem?_eq_some_iff.1 A).1
              obtain ⟨A2c0, A2c1, A2c2⟩ := cells_three A2
              have A2lt := (Array.getElem?_eq_some_iff.1 A2).1
              obtain ⟨ZPc0, ZPc1⟩ := cells_two ZP
              have ZPlt := (Array.getElem?_eq_some_iff.1 ZP).1
              obtain ⟨ZXc0, ZXc1⟩ := cells_two ZX
              have ZXlt := (Array.getElem?_eq_some_iff.1 ZX).1
              obtain ⟨ZX1c0, ZX1c1, ZX1c2⟩ := cells_three ZX1
              have ZX1lt := (Array.getElem?_eq_some_iff.1 ZX1).1
              obtain ⟨ZGc0, ZGc1⟩ := cells_two ZG
              have ZGlt := (Array.getElem?_eq_some_iff.1 ZG).1
              obtain ⟨ZHc0, ZHc1⟩ := cells_two ZH
              have ZHlt := (Array.getElem?_eq_some_iff.1 ZH).1
              go_wp2_with fail
              clear Ac0 Ac1 Alt A2c0 A2c1 A2c2 A2lt ZPc0 ZPc1 ZPlt ZXc0 ZXc1 ZXlt ZX1c0 ZX1c1 ZX1c2 ZX1lt ZGc0 ZGc1 ZGlt ZHc0 ZHc1 ZHlt
              have S1 := owned_two H
              have S2 := owned_two P
              refine (eqCache_rep c av6 bv6 av1 bv1 cv6 dv6 cv1 dv1 _ S1.1 S1.2 S2.1 S2.2 (by omega)).mono ?_
              clear S1 S2
              rintro e v15w ⟨rfl, bq⟩
              replace b0 := below_step b0 bq
              replace A := row_keep bq A
              replace A2 := row_keep bq A2
              replace ZP := row_keep bq ZP
              replace ZX := row_keep bq ZX
              replace ZX1 := row_keep bq ZX1
              replace ZG := row_keep bq ZG
              replace ZH := row_keep bq ZH
              replace P := owned_next P bq
              replace GM := owned_next GM bq
              replace H := owned_next H bq
              clear bq
              obtain ⟨Ac0, Ac1⟩ := cells_two A
              have Alt := (Array.getElem?_eq_some_iff.1 A).1
              obtain ⟨A2c0, A2c1, A2c2⟩ := cells_three A2
              have A2lt := (Array.getElem?_eq_some_iff.1 A2).1
              obtain ⟨ZPc0, ZPc1⟩ := cells_two ZP
              have ZPlt := (Array.getElem?_eq_some_iff.1 ZP).1
              obtain ⟨ZXc0, ZXc1⟩ := cells_two ZX
              have ZXlt := (Array.getElem?_eq_some_iff.1 ZX).1
              obtain ⟨ZX1c0, ZX1c1, ZX1c2⟩ := cells_three ZX1
              have ZX1lt := (Array.getElem?_eq_some_iff.1 ZX1).1
              obtain ⟨ZGc0, ZGc1⟩ := cells_two ZG
              have ZGlt := (Array.getElem?_eq_some_iff.1 ZG).1
              obtain ⟨ZHc0, ZHc1⟩ := cells_two ZH
              have ZHlt := (Array.getElem?_eq_some_iff.1 ZH).1
              go_wp2_with fail
              clear Ac0 Ac1 Alt A2c0 A2c1 A2c2 A2lt ZPc0 ZPc1 ZPlt ZXc0 ZXc1 ZXlt ZX1c0 ZX1c1 ZX1c2 ZX1lt ZGc0 ZGc1 ZGlt ZHc0 ZHc1 ZHlt
              have S1 := owned_two (c := markC 1 c) (a := av3) (b := bv3) (cap := cv3) (cp := dv3) (by rw [HM1.out, HM2.out]; exact GM)
              refine (heldCache_rep av3 bv3 cv3 dv3 1 c _ (by decide) (by decide) (by omega) (by omega) S1.1 S1.2).mono ?_
              clear S1
              rintro e v16w ⟨rfl, bq⟩
              replace b0 := below_step b0 bq
              replace A := row_keep bq A
              replace A2 := row_keep bq A2
              replace ZP := row_keep bq ZP
              replace ZX := row_keep bq ZX
              replace ZX1 := row_keep bq ZX1
              replace ZG := row_keep bq ZG
              replace ZH := row_keep bq ZH
              replace P := owned_next P bq
              replace GM := owned_next GM bq
              replace H := owned_next H bq
              clear bq
              clear P GM H A A2 ZP ZX ZX1 ZG ZH
              go_wp2
              go_ret
              exact ⟨rfl, b0⟩
    · have HS2 : Hid (szI (wayM.bk (l, st, d)) (1048576 - (cacheM.bk x0 : Int)) = -1) := szI_no hg
      rw [HS2.out]
      go_wp2
      go_ret
      exact ⟨rfl, b0⟩
  · have HS : Hid (szI (cacheM.bk x0) 1048576 = -1) := szI_no hf
    rw [HS.out]
    go_wp2
    go_ret
    exact ⟨rfl, b0⟩

set_option maxRecDepth 100000 in
theorem lifted (os : Os) (started : os.Started) (H : Type) (enc : TypeId × Value → H) :
    ReturnsInHanded {} Try.checked os 5 .any (Rows.fnExactFilledSpec.pre6 enc Try.prog Try.f5 Rows.fnExactFilledRow.domain false) (Rows.fnExactFilledSpec.post enc Try.prog Try.f5 false true false false) := by
  refine returnsInHanded_of_change (C := Try.checked) own started (by kernel_rfl) Try.func5
    (ChangeSpec.witness6 (enc := enc) (C := Try.checked) false ⟨#[], #[.agg #[.slice none 0 0, .slice none 0 0], .agg #[.int .i64 0, .int .i64 0, .slice none 0 0]], []⟩ 8 (by kernel_rfl) (by kernel_rfl) (by kernel_rfl) (by kernel_rfl)) ?_
  intro W base args ds gs before hval0 hW hcnd _
  have hval : ∀ (j : Nat) t v, Try.f5.params[j]? = some t → args[j]? = some v → Value.okWide Try.prog W .any base t v := hval0
  have hW' := hW
  obtain ⟨p, q, hA0, hV, rfl, hfz, hnd⟩ := hW
  have hA : DataW.TrodAll enc Try.prog W 0 (fun _ => true) true Try.f5.params.toList args.toList ds p := hA0
  rw [Try.params5] at hA hval
  obtain ⟨v0, vs0, d0, ds0, p0, q0, hargs, rfl, rfl, h0, r0⟩ := trodAll_cons hA
  obtain ⟨v1, vs1, d1, ds1, p1, q1, rfl, rfl, rfl, h1, r1⟩ := trodAll_cons r0
  obtain ⟨rfl, rfl, rfl⟩ := trodAll_nil r1
  obtain rfl : args = #[v0, v1] := by cases args; simp_all
  obtain ⟨rfl, rfl⟩ := trodVars_none hV
  have k0 := h0
  have lt0 : ∀ x ∈ p0, x.block < W.heap.size := by obtain ⟨m, hm⟩ := k0; exact DataW.trod_lt m _ _ _ hm
  have k1 := h1
  have lt1 : ∀ x ∈ p1, x.block < W.heap.size := by obtain ⟨m, hm⟩ := k1; exact DataW.trod_lt m _ _ _ hm
  obtain ⟨cs0, x0, rfl, w0⟩ := open_struct Try.underlying48 opens_cache (hval 0 48 v0 rfl rfl) h0
  obtain ⟨cs1, x1, rfl, w1⟩ := open_struct Try.underlying49 opens_way (hval 1 49 v1 rfl rfl) h1
  clear hA0 hval0
  refine (walk cs0 x0 cs1 x1 W w0 w1).mono fun e W' ⟨he, bel⟩ => ?_
  subst he
  exact ⟨_, rfl, _, _, _, [], _, [], hW', trodAll_mk1 (shut_bool Try.underlying4 _), (trodAll_cons_mk (Below.trod laidOut (by kernel_rfl) (of_decide_eq_true (by kernel_rfl)) k0 bel lt0) (trodAll_cons_mk (Below.trod laidOut (by kernel_rfl) (of_decide_eq_true (by kernel_rfl)) k1 bel lt1) trodAll_mk0)), rfl, bel.frame _, fun h => by cases h⟩

theorem over : Rows.fnExactFilledRow.holds Try.pinned (OpenSpec.ofChange Rows.fnExactFilledSpec) :=
  OpenClaim.holds_of_wide 5 Try.f5 rfl rfl rfl rfl rfl rfl rfl ⟨rfl, rfl, rfl, rfl, rfl⟩ rfl rfl rfl rfl rfl (by kernel_rfl) Try.func5 (by kernel_rfl)
    (of_decide_eq_true (by kernel_rfl)) (by unfold Func.isWrapper; first | (rw [if_pos (by decide +kernel)]; kernel_rfl) | (rw [if_neg (by decide +kernel)]; exact ⟨rfl, rfl⟩))
    (fun os started H enc _ => lifted os started H enc)

theorem proved : Rows.FnExactFilledSaid :=
  over
#print axioms proved
end Go.Proofs.Ytmldilmiihafoaa.fnExactFilled
