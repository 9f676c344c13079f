
/- CoreEvict. -/
import Derived.Test.YthbclkpmgcfdnaaGreatDoorCoreDid
import Derived.Test.YthbclkpmgcfdnaaGreatDoorJMsgs7OpsBad
import Derived.BigRegion
import Derived.Deep.DeepCutAuto
/- What must go is put first, of the program. Conditions: a right core, a line that is there. -/
namespace Go.Proofs.YthbclkpmgcfdnaaGreatDoor
open Go.ChangeShapes Go.WideShapes Go.ChangeAt Go.RowKit
set_option linter.unusedVariables false
noncomputable def evX (x : CoreD) (k : Int) : CoreD := ((dropI x.1 k).1, x.2.1, x.2.2.1, 1, (findI x.1 k).1, x.2.2.2.2.2)
noncomputable def evM (x : CoreD) (id k : Int) : MsgD := if 2 ≤ (findI x.1 k).1.2.1 then msg 0 id 4 3 k (findI x.1 k).1.2.2 1 else msg 0 id 4 3 k [] 0
theorem field_way (a b c : Value) (W : World) : (Instr.field 30 (.agg #[a, b, c]) 2).run Tryz.prog W = .ok c W := by kernel_rfl
theorem setCs_cons (w : World) (g o : Nat) (v : Value) (vs : List Value) : setCs w g o (v :: vs) = setCs (w.setCell ⟨g, o, none⟩ v) g (o + 1) vs := rfl
theorem setCs_nil (w : World) (g o : Nat) : setCs w g o [] = w := rfl
theorem own_drewT {α : Type} {R : Rep α} {W w : World} {S : Foot} {cs : List Value} {x : α} (h : R.own W (fun k => S k ∨ (w.heap.size ≤ k ∧ k < W.heap.size)) cs x) : R.own W.drew (fun k => S k ∨ (w.heap.size ≤ k ∧ k < W.drew.heap.size)) cs x := R.own_keep h fun _ _ _ => rfl
theorem row_drew {W : World} {k : Nat} {o : Obj} (h : W.heap[k]? = some o) : W.drew.heap[k]? = some o := h
theorem own_zero12 (w : World) (S : Foot) : intsR.own w S [.slice none 0 0] [] := ⟨_, [], fun _ => False, rfl, World.ownsRow_nil _ _ _ _, fun g hg => by simp [Value.ownBlock] at hg, fun _ h => h.elim, rfl⟩
/- A core and a list of one letter, side by side. -/
theorem core_msg {w w' : World} {S S1 S5 : Foot} {c : CacheD} {p : List OpD} {a ph : Int} {u : WayD} {t : List Int} {m : MsgD} {v0 v1 v2 v5 v6 v7 v8 : Value} {cm : List Value} {l0 h0 l4 h4 ld hd : Nat} (i2 : In64 a) (i3 : In64 ph)
    (o0 : Owned cacheR l0 h0 w' [v0, v1] c) (o1 : opsR.own w' S1 [v2] p) (o4 : Owned wayR l4 h4 w' [v5, v6, v7] u) (o5 : intsR.own w' S5 [v8] t) (om : Owned msgR ld hd w' cm m)
    (s1 : Sub S1 S) (s5 : Sub S5 S) (d15 : Dis S1 S5) (hS : ∀ k, S k → k < w.heap.size) (b0 : w.heap.size ≤ l0) (b4 : w.heap.size ≤ l4) (bd : w.heap.size ≤ ld) (e04 : h0 ≤ l4 ∨ h4 ≤ l0) (e0d : h0 ≤ ld ∨ hd ≤ l0) (e4d : h4 ≤ ld ∨ hd ≤ l4) (hw : w.heap.size ≤ w'.heap.size) :
    (prodR coreR msgsR).own (w'.alloc (.cells cm.toArray 50)) (fun k => S k ∨ (w.heap.size ≤ k ∧ k < (w'.alloc (.cells cm.toArray 50)).heap.size)) ([v0, v1, v2, .int .i64 a, .int .i64 ph, v5, v6, v7, v8] ++ [.slice (some ⟨w'.heap.size, 0, none⟩) 1 1]) ((c, p, a, ph, u, t), [m]) := by
  have al := alloc_len w' (.cells cm.toArray 50)
  have bb := box_below w' (.cells cm.toArray 50)
  have OC := own_core (w := w'.alloc (.cells cm.toArray 50)) (S := fun k => S1 k ∨ S5 k ∨ rng l0 h0 k ∨ rng l4 h4 k) (x := (c, p, a, ph, u, t)) i2 i3 (cacheR.own_keep o0.1 (keeps_below bb)) (opsR.own_keep o1 (keeps_below bb)) (wayR.own_keep o4.1 (keeps_below bb)) (intsR.own_keep o5 (keeps_below bb)) (fun k hh => .inr (.inr (.inl hh))) (fun k hh => .inl hh) (fun k hh => .inr (.inr (.inr hh))) (fun k hh => .inr (.inl hh))
    (fun k ha hb => by have := hS k (s1 k hb); have := ha.1; omega) (rng_dis e04) (fun k ha hb => by have := hS k (s5 k hb); have := ha.1; omega) (fun k ha hb => by have := hS k (s1 k ha); have := hb.1; omega) d15 (fun k ha hb => by have := hS k (s5 k hb); have := ha.1; omega)
  have OM := own_one (e := 50) (R := msgR) (by decide) om.1 (fun k hk => by have := hk.2; have := om.2; omega)
  refine pair_own OC OM ?_ ?_ ?_
  · rintro k (h | h | h | h)
    · exact .inl (s1 k h)
    · exact .inl (s5 k h)
    · exact .inr ⟨by have := h.1; omega, by have := h.2; have := o0.2; omega⟩
    · exact .inr ⟨by have := h.1; omega, by have := h.2; have := o4.2; omega⟩
  · rintro k (h | h)
    · exact .inr ⟨by have := h.1; omega, by have := h.2; have := om.2; omega⟩
    · exact .inr ⟨by omega, by omega⟩
  · rintro k ha hb
    have hk : w.heap.size ≤ k := by
      rcases hb with h | h
      · have := h.1; omega
      · omega
    rcases ha with h | h | h | h
    · have := hS k (s1 k h); omega
    · have := hS k (s5 k h); omega
    · rcases hb with q | q
      · have := h.1; have := h.2; have := q.1; have := q.2; omega
      · have := h.2; have := o0.2; omega
    · rcases hb with q | q
      · have := h.1; have := h.2; have := q.1; have := q.2; omega
      · have := h.2; have := o4.2; omega
set_option maxHeartbeats 16000000 in
set_option maxRecDepth 20000 in
theorem implEvict_u (S : Foot) (cs : List Value) (x : CoreD) (id k : Int) (w : World) (hh : Hold w) (ho : coreR.own w S cs x) (hS : ∀ k, S k → k < w.heap.size) (hk : coreB x = true) (hid : In64 id) (hk64 : In64 k) (hf : fullB isL (wayOf x.1 k) = true) :
    Calls Tryz.prog 115 #[aggV cs, .int .i64 id, .int .i64 k] w fun e w' => ∃ ds ms, e = .returned (.tuple #[aggV ds, ms, .int .i64 2]) ∧ ds.length = coreR.size ∧ (prodR coreR msgsR).own w' (fun k => S k ∨ (w.heap.size ≤ k ∧ k < w'.heap.size)) (ds ++ [ms]) (evX x k, [evM x id k]) ∧ Below w.heap.size w w' := by
  have hp := core_p hk
  have hia := i64_at hk
  have hok : OkC isL treeB x.1 := hp.ok
  obtain ⟨v0, v1, v2, v5, v6, v7, v8, S0, S1, S4, S5, rfl, i2, i3, o0, o1, o4, o5, sb0, sb1, sb4, sb5, d01, d04, d05, d14, d15, d45⟩ := core_own ho
  have r0 := cacheR.own_rd o0
  obtain ⟨a0, c0, b0, d0, e0, -⟩ := cache_rd r0
  simp only [List.cons.injEq, and_true] at e0
  obtain ⟨rfl, rfl⟩ := e0
  obtain ⟨a1, c1, e1, -⟩ := opsR.own_rd o1
  simp only [List.cons.injEq, and_true] at e1
  obtain rfl := e1
  obtain ⟨a4, c4, e4, -⟩ := way_rd (wayR.own_rd o4)
  simp only [List.cons.injEq, and_true] at e4
  obtain ⟨rfl, rfl, rfl⟩ := e4
  obtain ⟨a5, c5, e5, -⟩ := intsR.own_rd o5
  simp only [List.cons.injEq, and_true] at e5
  obtain rfl := e5
  obtain ⟨c, p, at_, ph, h, t⟩ := x
  simp only at *
  unfold evX evM
  simp only
  have HFI : Hid (∀ W, Below w.heap.size w W → Calls Tryz.prog 109 #[.agg #[.slice a0 c.1.length c0, .slice b0 c.2.length d0], .int .i64 k] W fun e w' => ∃ us, e = .returned (.tuple #[aggV us, .int .i64 (findI c k).2]) ∧ MadeR wayR W w' us (findI c k).1) := fun W hb => implFindW_u [.slice a0 c.1.length c0, .slice b0 c.2.length d0] c k W (rd_next r0 hb)
  have HDR : Hid (∀ W, Below w.heap.size w W → Calls Tryz.prog 166 #[.agg #[.slice a0 c.1.length c0, .slice b0 c.2.length d0], .int .i64 k] W fun e w' => ∃ ds, e = .returned (.tuple #[aggV ds, .bool (dropI c k).2]) ∧ MadeR cacheR W w' ds (dropI c k).1) := fun W hb => implDropped_u [.slice a0 c.1.length c0, .slice b0 c.2.length d0] c k W (rd_next r0 hb)
  have hfw : fullB isL (findI c k).1 = true := by rw [find_of hok]; exact hf
  generalize findI c k = fw at HFI hfw ⊢
  generalize dropI c k = dc at HDR ⊢
  obtain ⟨fw, fn⟩ := fw
  obtain ⟨dc, dn⟩ := dc
  simp only at *
  obtain ⟨em, hem⟩ : ∃ em, em = (if 2 ≤ fw.2.1 then msg 0 id 4 3 k fw.2.2 1 else msg 0 id 4 3 k [] 0) := ⟨_, rfl⟩
  rw [← hem]
  have HEM : Hid _ := hem
  clear hem
  obtain ⟨fu1, fu2, fu3⟩ := full_parts hfw
  have hfl : fw.2.2.length = 2 := isL_len fu3
  have hst : betw fw.2.1 0 3 = true := by simp [betw]; omega
  have HFL : Hid (fw.2.2.length = 2) := hfl
  have HOW : Hid _ := And.intro o1 (And.intro o5 (And.intro sb1 (And.intro sb5 (And.intro d15 hS))))
  have HHH : Hid (Hold w) := hh
  clear ho r0 o0 o1 o4 o5 sb0 sb1 sb4 sb5 d01 d04 d05 d14 d15 d45 hS hf hok hp hk hfl hh hfw fu1 fu2 fu3
  rw [show aggV [.slice a0 c.1.length c0, .slice b0 c.2.length d0, .slice a1 p.length c1, .int .i64 at_, .int .i64 ph, .int .i64 h.1, .int .i64 h.2.1, .slice a4 h.2.2.length c4, .slice a5 t.length c5] = .agg #[.slice a0 c.1.length c0, .slice b0 c.2.length d0, .slice a1 p.length c1, .int .i64 at_, .int .i64 ph, .int .i64 h.1, .int .i64 h.2.1, .slice a4 h.2.2.length c4, .slice a5 t.length c5] from rfl]
  have B := Below.refl w.heap.size w
  go_enter Tryz.func115, Tryz.ntmps115
  go_wp2_with fail
  have X := heap_at w (.cells #[.slice a0 c.1.length c0, .slice b0 c.2.length d0, .slice a1 p.length c1, .int .i64 at_, .int .i64 ph, .int .i64 h.1, .int .i64 h.2.1, .slice a4 h.2.2.length c4, .slice a5 t.length c5] 32)
  have bz := box_below w (.cells #[.slice a0 c.1.length c0, .slice b0 c.2.length d0, .slice a1 p.length c1, .int .i64 at_, .int .i64 ph, .int .i64 h.1, .int .i64 h.2.1, .slice a4 h.2.2.length c4, .slice a5 t.length c5] 32)
  have zX := alloc_len w (.cells #[.slice a0 c.1.length c0, .slice b0 c.2.length d0, .slice a1 p.length c1, .int .i64 at_, .int .i64 ph, .int .i64 h.1, .int .i64 h.2.1, .slice a4 h.2.2.length c4, .slice a5 t.length c5] 32)
  replace B := below_step B bz
  clear bz
  generalize w.alloc (.cells #[.slice a0 c.1.length c0, .slice b0 c.2.length d0, .slice a1 p.length c1, .int .i64 at_, .int .i64 ph, .int .i64 h.1, .int .i64 h.2.1, .slice a4 h.2.2.length c4, .slice a5 t.length c5] 32) = u1w at B X zX ⊢
  have zXa := Nat.le_of_eq zX
  have zXb := Nat.le_of_eq zX.symm
  clear zX
  have R := heap_at u1w (.cells #[.slice none 0 0, .slice none 0 0, .slice none 0 0, .int .i64 0, .int .i64 0, .int .i64 0, .int .i64 0, .slice none 0 0, .slice none 0 0] 32)
  have bz := box_below u1w (.cells #[.slice none 0 0, .slice none 0 0, .slice none 0 0, .int .i64 0, .int .i64 0, .int .i64 0, .int .i64 0, .slice none 0 0, .slice none 0 0] 32)
  have zR := alloc_len u1w (.cells #[.slice none 0 0, .slice none 0 0, .slice none 0 0, .int .i64 0, .int .i64 0, .int .i64 0, .int .i64 0, .slice none 0 0, .slice none 0 0] 32)
  rw [show u1w.heap.size = w.heap.size + 1 from by omega] at R
  replace B := below_step B bz
  replace X := row_keep bz X
  clear bz
  generalize u1w.alloc (.cells #[.slice none 0 0, .slice none 0 0, .slice none 0 0, .int .i64 0, .int .i64 0, .int .i64 0, .int .i64 0, .slice none 0 0, .slice none 0 0] 32) = u2w at B X R zR ⊢
  have zRa := Nat.le_of_eq zR
  have zRb := Nat.le_of_eq zR.symm
  clear zR
  refine (HFI.out _ B).mono ?_
  rintro e u3w ⟨us, rfl, mm⟩
  obtain ⟨fa, fc, rfl, -, -, -, -, -⟩ := way_rd (wayR.own_rd mm.1)
  rw [show aggV [.int .i64 fw.1, .int .i64 fw.2.1, .slice fa fw.2.2.length fc] = .agg #[.int .i64 fw.1, .int .i64 fw.2.1, .slice fa fw.2.2.length fc] from rfl]
  have F := owned_made (R := wayR) mm
  have mb := mm.2
  have tu3w : u2w.heap.size ≤ u3w.heap.size := mb.size
  replace B := below_step B mb
  replace X := row_keep mb X
  replace R := row_keep mb R
  clear mb mm
  obtain ⟨Xc0, Xc1, Xc2, Xc3, Xc4, Xc5, Xc6, Xc7, Xc8⟩ := cells_core X
  have Xlt := (Array.getElem?_eq_some_iff.1 X).1
  obtain ⟨Xf0, Xf1, Xf2, Xf3, Xf4, Xf5, Xf6, Xf7, Xf8⟩ := froz_core X
  obtain ⟨Rc0, Rc1, Rc2, Rc3, Rc4, Rc5, Rc6, Rc7, Rc8⟩ := cells_core R
  have Rlt := (Array.getElem?_eq_some_iff.1 R).1
  go_upto_region 2 with fail
  clear Xc0 Xc1 Xc2 Xc3 Xc4 Xc5 Xc6 Xc7 Xc8 Xlt Xf0 Xf1 Xf2 Xf3 Xf4 Xf5 Xf6 Xf7 Xf8 Rc0 Rc1 Rc2 Rc3 Rc4 Rc5 Rc6 Rc7 Rc8 Rlt
  rw [show (((u3w.setCell ⟨w.heap.size, 5, none⟩ (.int .i64 fw.1)).setCell ⟨w.heap.size, 6, none⟩ (.int .i64 fw.2.1)).setCell ⟨w.heap.size, 7, none⟩ (.slice fa fw.2.2.length fc)) = (setCs u3w (w.heap.size) 5 [.int .i64 fw.1, .int .i64 fw.2.1, .slice fa fw.2.2.length fc]) from rfl]
  replace R := row_otherCs (g := w.heap.size) (o := 5) (vs := [.int .i64 fw.1, .int .i64 fw.2.1, .slice fa fw.2.2.length fc]) R (by omega)
  replace F := owned_setCs (g := w.heap.size) (o := 5) (vs := [.int .i64 fw.1, .int .i64 fw.2.1, .slice fa fw.2.2.length fc]) F (by omega)
  replace B := below_setCs0 (g := w.heap.size) (o := 5) (vs := [.int .i64 fw.1, .int .i64 fw.2.1, .slice fa fw.2.2.length fc]) B (by omega)
  replace X : (setCs u3w (w.heap.size) 5 [.int .i64 fw.1, .int .i64 fw.2.1, .slice fa fw.2.2.length fc]).heap[w.heap.size]? = some (.cells #[.slice a0 c.1.length c0, .slice b0 c.2.length d0, .slice a1 p.length c1, .int .i64 at_, .int .i64 ph, .int .i64 fw.1, .int .i64 fw.2.1, .slice fa fw.2.2.length fc, .slice a5 t.length c5] 32 (0, 0)) := row_setCs _ _ X
  have tu4w := Nat.le_of_eq (setCs_size (g := w.heap.size) [.int .i64 fw.1, .int .i64 fw.2.1, .slice fa fw.2.2.length fc] 5 u3w)
  have qu4w := Nat.le_of_eq (setCs_size (g := w.heap.size) [.int .i64 fw.1, .int .i64 fw.2.1, .slice fa fw.2.2.length fc] 5 u3w).symm
  generalize (setCs u3w (w.heap.size) 5 [.int .i64 fw.1, .int .i64 fw.2.1, .slice fa fw.2.2.length fc]) = u4w at B X R F tu4w qu4w ⊢
  obtain ⟨Xc0, Xc1, Xc2, Xc3, Xc4, Xc5, Xc6, Xc7, Xc8⟩ := cells_core X
  have Xlt := (Array.getElem?_eq_some_iff.1 X).1
  obtain ⟨Xf0, Xf1, Xf2, Xf3, Xf4, Xf5, Xf6, Xf7, Xf8⟩ := froz_core X
  obtain ⟨Rc0, Rc1, Rc2, Rc3, Rc4, Rc5, Rc6, Rc7, Rc8⟩ := cells_core R
  have Rlt := (Array.getElem?_eq_some_iff.1 R).1
  go_wp2_with fail
  clear Xc0 Xc1 Xc2 Xc3 Xc4 Xc5 Xc6 Xc7 Xc8 Xlt Xf0 Xf1 Xf2 Xf3 Xf4 Xf5 Xf6 Xf7 Xf8 Rc0 Rc1 Rc2 Rc3 Rc4 Rc5 Rc6 Rc7 Rc8 Rlt
  refine (HDR.out _ B).mono ?_
  rintro e u5w ⟨ds, rfl, mm⟩
  obtain ⟨na, nb, nc, nd, rfl, -, -, -, -, -, -⟩ := cache_rd (cacheR.own_rd mm.1)
  rw [show aggV [.slice na dc.1.length nb, .slice nc dc.2.length nd] = .agg #[.slice na dc.1.length nb, .slice nc dc.2.length nd] from rfl]
  have P := owned_made (R := cacheR) mm
  have mb := mm.2
  have tu5w : u4w.heap.size ≤ u5w.heap.size := mb.size
  replace B := below_step B mb
  replace X := row_keep mb X
  replace R := row_keep mb R
  replace F := owned_next F mb
  clear mb mm
  obtain ⟨Xc0, Xc1, Xc2, Xc3, Xc4, Xc5, Xc6, Xc7, Xc8⟩ := cells_core X
  have Xlt := (Array.getElem?_eq_some_iff.1 X).1
  obtain ⟨Xf0, Xf1, Xf2, Xf3, Xf4, Xf5, Xf6, Xf7, Xf8⟩ := froz_core X
  obtain ⟨Rc0, Rc1, Rc2, Rc3, Rc4, Rc5, Rc6, Rc7, Rc8⟩ := cells_core R
  have Rlt := (Array.getElem?_eq_some_iff.1 R).1
  go_upto_region 3 with fail
  clear Xc0 Xc1 Xc2 Xc3 Xc4 Xc5 Xc6 Xc7 Xc8 Xlt Xf0 Xf1 Xf2 Xf3 Xf4 Xf5 Xf6 Xf7 Xf8 Rc0 Rc1 Rc2 Rc3 Rc4 Rc5 Rc6 Rc7 Rc8 Rlt
  rw [show ((u5w.setCell ⟨w.heap.size, 0, none⟩ (.slice na dc.1.length nb)).setCell ⟨w.heap.size, 1, none⟩ (.slice nc dc.2.length nd)) = (setCs u5w (w.heap.size) 0 [.slice na dc.1.length nb, .slice nc dc.2.length nd]) from rfl]
  replace R := row_otherCs (g := w.heap.size) (o := 0) (vs := [.slice na dc.1.length nb, .slice nc dc.2.length nd]) R (by omega)
  replace F := owned_setCs (g := w.heap.size) (o := 0) (vs := [.slice na dc.1.length nb, .slice nc dc.2.length nd]) F (by omega)
  replace P := owned_setCs (g := w.heap.size) (o := 0) (vs := [.slice na dc.1.length nb, .slice nc dc.2.length nd]) P (by omega)
  replace B := below_setCs0 (g := w.heap.size) (o := 0) (vs := [.slice na dc.1.length nb, .slice nc dc.2.length nd]) B (by omega)
  replace X : (setCs u5w (w.heap.size) 0 [.slice na dc.1.length nb, .slice nc dc.2.length nd]).heap[w.heap.size]? = some (.cells #[.slice na dc.1.length nb, .slice nc dc.2.length nd, .slice a1 p.length c1, .int .i64 at_, .int .i64 ph, .int .i64 fw.1, .int .i64 fw.2.1, .slice fa fw.2.2.length fc, .slice a5 t.length c5] 32 (0, 0)) := row_setCs _ _ X
  have tu6w := Nat.le_of_eq (setCs_size (g := w.heap.size) [.slice na dc.1.length nb, .slice nc dc.2.length nd] 0 u5w)
  have qu6w := Nat.le_of_eq (setCs_size (g := w.heap.size) [.slice na dc.1.length nb, .slice nc dc.2.length nd] 0 u5w).symm
  generalize (setCs u5w (w.heap.size) 0 [.slice na dc.1.length nb, .slice nc dc.2.length nd]) = u6w at B X R F P tu6w qu6w ⊢
  obtain ⟨Xc0, Xc1, Xc2, Xc3, Xc4, Xc5, Xc6, Xc7, Xc8⟩ := cells_core X
  have Xlt := (Array.getElem?_eq_some_iff.1 X).1
  obtain ⟨Xf0, Xf1, Xf2, Xf3, Xf4, Xf5, Xf6, Xf7, Xf8⟩ := froz_core X
  obtain ⟨Rc0, Rc1, Rc2, Rc3, Rc4, Rc5, Rc6, Rc7, Rc8⟩ := cells_core R
  have Rlt := (Array.getElem?_eq_some_iff.1 R).1
  go_upto_region 4 with fail
  clear Xc0 Xc1 Xc2 Xc3 Xc4 Xc5 Xc6 Xc7 Xc8 Xlt Xf0 Xf1 Xf2 Xf3 Xf4 Xf5 Xf6 Xf7 Xf8 Rc0 Rc1 Rc2 Rc3 Rc4 Rc5 Rc6 Rc7 Rc8 Rlt
  rw [show (u6w.setCell ⟨w.heap.size, 4, none⟩ (.int .i64 1)) = (setCs u6w (w.heap.size) 4 [.int .i64 1]) from rfl]
  replace R := row_otherCs (g := w.heap.size) (o := 4) (vs := [.int .i64 1]) R (by omega)
  replace F := owned_setCs (g := w.heap.size) (o := 4) (vs := [.int .i64 1]) F (by omega)
  replace P := owned_setCs (g := w.heap.size) (o := 4) (vs := [.int .i64 1]) P (by omega)
  replace B := below_setCs0 (g := w.heap.size) (o := 4) (vs := [.int .i64 1]) B (by omega)
  replace X : (setCs u6w (w.heap.size) 4 [.int .i64 1]).heap[w.heap.size]? = some (.cells #[.slice na dc.1.length nb, .slice nc dc.2.length nd, .slice a1 p.length c1, .int .i64 at_, .int .i64 1, .int .i64 fw.1, .int .i64 fw.2.1, .slice fa fw.2.2.length fc, .slice a5 t.length c5] 32 (0, 0)) := row_setCs _ _ X
  have tu7w := Nat.le_of_eq (setCs_size (g := w.heap.size) [.int .i64 1] 4 u6w)
  have qu7w := Nat.le_of_eq (setCs_size (g := w.heap.size) [.int .i64 1] 4 u6w).symm
  generalize (setCs u6w (w.heap.size) 4 [.int .i64 1]) = u7w at B X R F P tu7w qu7w ⊢
  obtain ⟨Xc0, Xc1, Xc2, Xc3, Xc4, Xc5, Xc6, Xc7, Xc8⟩ := cells_core X
  have Xlt := (Array.getElem?_eq_some_iff.1 X).1
  obtain ⟨Xf0, Xf1, Xf2, Xf3, Xf4, Xf5, Xf6, Xf7, Xf8⟩ := froz_core X
  obtain ⟨Rc0, Rc1, Rc2, Rc3, Rc4, Rc5, Rc6, Rc7, Rc8⟩ := cells_core R
  have Rlt := (Array.getElem?_eq_some_iff.1 R).1
  go_upto_region 5 with fail
  clear Xc0 Xc1 Xc2 Xc3 Xc4 Xc5 Xc6 Xc7 Xc8 Xlt Xf0 Xf1 Xf2 Xf3 Xf4 Xf5 Xf6 Xf7 Xf8 Rc0 Rc1 Rc2 Rc3 Rc4 Rc5 Rc6 Rc7 Rc8 Rlt
  have M := heap_at u7w (.cells #[.int .i64 0, .int .i64 id, .int .i64 4, .int .i64 3, .int .i64 k, .slice none 0 0, .int .i64 0] 50)
  have bz := box_below u7w (.cells #[.int .i64 0, .int .i64 id, .int .i64 4, .int .i64 3, .int .i64 k, .slice none 0 0, .int .i64 0] 50)
  have zM := alloc_len u7w (.cells #[.int .i64 0, .int .i64 id, .int .i64 4, .int .i64 3, .int .i64 k, .slice none 0 0, .int .i64 0] 50)
  replace B := below_step B bz
  replace X := row_keep bz X
  replace R := row_keep bz R
  replace F := owned_next F bz
  replace P := owned_next P bz
  clear bz
  generalize u7w.alloc (.cells #[.int .i64 0, .int .i64 id, .int .i64 4, .int .i64 3, .int .i64 k, .slice none 0 0, .int .i64 0] 50) = u8w at B X R M F P zM ⊢
  have zMa := Nat.le_of_eq zM
  have zMb := Nat.le_of_eq zM.symm
  clear zM
  obtain ⟨Xc0, Xc1, Xc2, Xc3, Xc4, Xc5, Xc6, Xc7, Xc8⟩ := cells_core X
  have Xlt := (Array.getElem?_eq_some_iff.1 X).1
  obtain ⟨Rc0, Rc1, Rc2, Rc3, Rc4, Rc5, Rc6, Rc7, Rc8⟩ := cells_core R
  have Rlt := (Array.getElem?_eq_some_iff.1 R).1
  obtain ⟨Mc0, Mc1, Mc2, Mc3, Mc4, Mc5, Mc6⟩ := cells_7 M
  have Mlt := (Array.getElem?_eq_some_iff.1 M).1
  go_wp2_with fail
  clear Xc0 Xc1 Xc2 Xc3 Xc4 Xc5 Xc6 Xc7 Xc8 Xlt Rc0 Rc1 Rc2 Rc3 Rc4 Rc5 Rc6 Rc7 Rc8 Rlt Mc0 Mc1 Mc2 Mc3 Mc4 Mc5 Mc6 Mlt
  refine (implAlone_u [.int .i64 fw.1, .int .i64 fw.2.1, .slice fa fw.2.2.length fc] fw _ (HHH.out.to B) (wayR.own_rd F.1) hst).mono ?_
  rintro e u9w ⟨rfl, bq⟩
  have tu9w : u8w.heap.size ≤ u9w.heap.size := bq.size
  replace B := below_step B bq
  replace X := row_keep bq X
  replace R := row_keep bq R
  replace M := row_keep bq M
  replace F := owned_next F bq
  replace P := owned_next P bq
  clear bq
  by_cases h2 : 2 ≤ fw.2.1
  · have hem := HEM.out
    rw [if_pos h2] at hem
    rw [decide_eq_true h2]
    obtain ⟨Xc0, Xc1, Xc2, Xc3, Xc4, Xc5, Xc6, Xc7, Xc8⟩ := cells_core X
    have Xlt := (Array.getElem?_eq_some_iff.1 X).1
    obtain ⟨Rc0, Rc1, Rc2, Rc3, Rc4, Rc5, Rc6, Rc7, Rc8⟩ := cells_core R
    have Rlt := (Array.getElem?_eq_some_iff.1 R).1
    obtain ⟨Mc0, Mc1, Mc2, Mc3, Mc4, Mc5, Mc6⟩ := cells_7 M
    have Mlt := (Array.getElem?_eq_some_iff.1 M).1
    go_wp2_with fail
    clear Xc0 Xc1 Xc2 Xc3 Xc4 Xc5 Xc6 Xc7 Xc8 Xlt Rc0 Rc1 Rc2 Rc3 Rc4 Rc5 Rc6 Rc7 Rc8 Rlt Mc0 Mc1 Mc2 Mc3 Mc4 Mc5 Mc6 Mlt
    refine (wayCopied_u [.int .i64 fw.1, .int .i64 fw.2.1, .slice fa fw.2.2.length fc] fw _ (wayR.own_rd F.1) (by have := HFL.out; omega)).mono ?_
    rintro e u10w ⟨us, rfl, mm⟩
    obtain ⟨ya, yc, rfl, -, -, -, -, -⟩ := way_rd (wayR.own_rd mm.1)
    rw [show aggV [.int .i64 fw.1, .int .i64 fw.2.1, .slice ya fw.2.2.length yc] = .agg #[.int .i64 fw.1, .int .i64 fw.2.1, .slice ya fw.2.2.length yc] from rfl]
    have Y := owned_made (R := wayR) mm
    have mb := mm.2
    have tu10w : u9w.heap.size ≤ u10w.heap.size := mb.size
    replace B := below_step B mb
    replace X := row_keep mb X
    replace R := row_keep mb R
    replace M := row_keep mb M
    replace F := owned_next F mb
    replace P := owned_next P mb
    clear mb mm
    have FW : ∀ (a b c : Value) (W : World), (Instr.field 30 (.agg #[a, b, c]) 2).run Tryz.prog W = .ok c W := field_way
    obtain ⟨Xc0, Xc1, Xc2, Xc3, Xc4, Xc5, Xc6, Xc7, Xc8⟩ := cells_core X
    have Xlt := (Array.getElem?_eq_some_iff.1 X).1
    obtain ⟨Rc0, Rc1, Rc2, Rc3, Rc4, Rc5, Rc6, Rc7, Rc8⟩ := cells_core R
    have Rlt := (Array.getElem?_eq_some_iff.1 R).1
    obtain ⟨Mc0, Mc1, Mc2, Mc3, Mc4, Mc5, Mc6⟩ := cells_7 M
    have Mlt := (Array.getElem?_eq_some_iff.1 M).1
    obtain ⟨Mf0, Mf1, Mf2, Mf3, Mf4, Mf5, Mf6⟩ := froz_7 M
    go_upto_region 7 with fail
    clear FW
    clear Xc0 Xc1 Xc2 Xc3 Xc4 Xc5 Xc6 Xc7 Xc8 Xlt Rc0 Rc1 Rc2 Rc3 Rc4 Rc5 Rc6 Rc7 Rc8 Rlt Mc0 Mc1 Mc2 Mc3 Mc4 Mc5 Mc6 Mlt Mf0 Mf1 Mf2 Mf3 Mf4 Mf5 Mf6
    rw [show ((u10w.setCell ⟨u7w.heap.size, 5, none⟩ (.slice ya fw.2.2.length yc)).setCell ⟨u7w.heap.size, 6, none⟩ (.int .i64 1)) = (setCs u10w (u7w.heap.size) 5 [.slice ya fw.2.2.length yc, .int .i64 1]) from rfl]
    replace X := row_otherCs (g := u7w.heap.size) (o := 5) (vs := [.slice ya fw.2.2.length yc, .int .i64 1]) X (by omega)
    replace R := row_otherCs (g := u7w.heap.size) (o := 5) (vs := [.slice ya fw.2.2.length yc, .int .i64 1]) R (by omega)
    replace F := owned_setCs (g := u7w.heap.size) (o := 5) (vs := [.slice ya fw.2.2.length yc, .int .i64 1]) F (by omega)
    replace P := owned_setCs (g := u7w.heap.size) (o := 5) (vs := [.slice ya fw.2.2.length yc, .int .i64 1]) P (by omega)
    replace Y := owned_setCs (g := u7w.heap.size) (o := 5) (vs := [.slice ya fw.2.2.length yc, .int .i64 1]) Y (by omega)
    replace B := below_setCs0 (g := u7w.heap.size) (o := 5) (vs := [.slice ya fw.2.2.length yc, .int .i64 1]) B (by omega)
    replace M : (setCs u10w (u7w.heap.size) 5 [.slice ya fw.2.2.length yc, .int .i64 1]).heap[u7w.heap.size]? = some (.cells #[.int .i64 0, .int .i64 id, .int .i64 4, .int .i64 3, .int .i64 k, .slice ya fw.2.2.length yc, .int .i64 1] 50 (0, 0)) := row_setCs _ _ M
    have tu11w := Nat.le_of_eq (setCs_size (g := u7w.heap.size) [.slice ya fw.2.2.length yc, .int .i64 1] 5 u10w)
    have qu11w := Nat.le_of_eq (setCs_size (g := u7w.heap.size) [.slice ya fw.2.2.length yc, .int .i64 1] 5 u10w).symm
    generalize (setCs u10w (u7w.heap.size) 5 [.slice ya fw.2.2.length yc, .int .i64 1]) = u11w at B X R M F P Y tu11w qu11w ⊢
    obtain ⟨Xc0, Xc1, Xc2, Xc3, Xc4, Xc5, Xc6, Xc7, Xc8⟩ := cells_core X
    have Xlt := (Array.getElem?_eq_some_iff.1 X).1
    obtain ⟨Rc0, Rc1, Rc2, Rc3, Rc4, Rc5, Rc6, Rc7, Rc8⟩ := cells_core R
    have Rlt := (Array.getElem?_eq_some_iff.1 R).1
    obtain ⟨Rf0, Rf1, Rf2, Rf3, Rf4, Rf5, Rf6, Rf7, Rf8⟩ := froz_core R
    obtain ⟨Mc0, Mc1, Mc2, Mc3, Mc4, Mc5, Mc6⟩ := cells_7 M
    have Mlt := (Array.getElem?_eq_some_iff.1 M).1
    have ne1 : ¬ (u7w.heap.size = w.heap.size + 1) := by omega
    have ne2 : ¬ (w.heap.size + 1 = u7w.heap.size) := by omega
    have ne3 : ¬ (w.heap.size = w.heap.size + 1) := by omega
    have ne4 : ¬ (w.heap.size + 1 = w.heap.size) := by omega
    have HK : Hid _ := And.intro B (And.intro X (And.intro R (And.intro M (And.intro F (And.intro P (Y))))))
    clear B X R M F P Y
    go_region
    all_goals go_wp2
    clear ne1 ne2 ne3 ne4
    clear Xc0 Xc1 Xc2 Xc3 Xc4 Xc5 Xc6 Xc7 Xc8 Xlt Rc0 Rc1 Rc2 Rc3 Rc4 Rc5 Rc6 Rc7 Rc8 Rlt Rf0 Rf1 Rf2 Rf3 Rf4 Rf5 Rf6 Rf7 Rf8 Mc0 Mc1 Mc2 Mc3 Mc4 Mc5 Mc6 Mlt
    obtain ⟨B, X, R, M, F, P, Y⟩ := HK.out
    clear HK
    have V := put_core (y0 := .slice na dc.1.length nb) (y1 := .slice nc dc.2.length nd) (y2 := .slice a1 p.length c1) (y3 := .int .i64 at_) (y4 := .int .i64 1) (y5 := .int .i64 fw.1) (y6 := .int .i64 fw.2.1) (y7 := .slice fa fw.2.2.length fc) (y8 := .slice a5 t.length c5) R
    have V2 := row_keep (box_below _ (.cells #[.int .i64 0, .int .i64 id, .int .i64 4, .int .i64 3, .int .i64 k, .slice ya fw.2.2.length yc, .int .i64 1] 50)) V
    obtain ⟨o1, o5, sb1, sb5, d15, hS⟩ := HOW.out
    replace o1 := opsR.own_keep o1 (keeps_below B)
    replace o5 := intsR.own_keep o5 (keeps_below B)
    have OM : Owned msgR u9w.heap.size u10w.heap.size u11w [.int .i64 0, .int .i64 id, .int .i64 4, .int .i64 3, .int .i64 k, .slice ya fw.2.2.length yc, .int .i64 1] (msg 0 id 4 3 k fw.2.2 1) := And.intro (own_msg (by constructor <;> decide) hid (by constructor <;> decide) (by constructor <;> decide) hk64 (by constructor <;> decide) (way_ints Y.1)) Y.2
    have FS : (setCs u11w (w.heap.size + 1) 0 [.slice na dc.1.length nb, .slice nc dc.2.length nd, .slice a1 p.length c1, .int .i64 at_, .int .i64 1, .int .i64 fw.1, .int .i64 fw.2.1, .slice fa fw.2.2.length fc, .slice a5 t.length c5]).heap.size = u11w.heap.size := setCs_size _ _ _
    have PP := owned_setCs (g := w.heap.size + 1) (o := 0) (vs := [.slice na dc.1.length nb, .slice nc dc.2.length nd, .slice a1 p.length c1, .int .i64 at_, .int .i64 1, .int .i64 fw.1, .int .i64 fw.2.1, .slice fa fw.2.2.length fc, .slice a5 t.length c5]) P (by omega)
    have FF := owned_setCs (g := w.heap.size + 1) (o := 0) (vs := [.slice na dc.1.length nb, .slice nc dc.2.length nd, .slice a1 p.length c1, .int .i64 at_, .int .i64 1, .int .i64 fw.1, .int .i64 fw.2.1, .slice fa fw.2.2.length fc, .slice a5 t.length c5]) F (by omega)
    have MM := owned_setCs (g := w.heap.size + 1) (o := 0) (vs := [.slice na dc.1.length nb, .slice nc dc.2.length nd, .slice a1 p.length c1, .int .i64 at_, .int .i64 1, .int .i64 fw.1, .int .i64 fw.2.1, .slice fa fw.2.2.length fc, .slice a5 t.length c5]) OM (by omega)
    have q1 := own_setCs (g := w.heap.size + 1) (o := 0) (vs := [.slice na dc.1.length nb, .slice nc dc.2.length nd, .slice a1 p.length c1, .int .i64 at_, .int .i64 1, .int .i64 fw.1, .int .i64 fw.2.1, .slice fa fw.2.2.length fc, .slice a5 t.length c5]) o1 (fun hh => by have := hS _ (sb1 _ hh); omega)
    have q5 := own_setCs (g := w.heap.size + 1) (o := 0) (vs := [.slice na dc.1.length nb, .slice nc dc.2.length nd, .slice a1 p.length c1, .int .i64 at_, .int .i64 1, .int .i64 fw.1, .int .i64 fw.2.1, .slice fa fw.2.2.length fc, .slice a5 t.length c5]) o5 (fun hh => by have := hS _ (sb5 _ hh); omega)
    have BB := below_setCs0 (g := w.heap.size + 1) (o := 0) (vs := [.slice na dc.1.length nb, .slice nc dc.2.length nd, .slice a1 p.length c1, .int .i64 at_, .int .i64 1, .int .i64 fw.1, .int .i64 fw.2.1, .slice fa fw.2.2.length fc, .slice a5 t.length c5]) B (by omega)
    have FO := core_msg (w := w) (S := S) (cm := [.int .i64 0, .int .i64 id, .int .i64 4, .int .i64 3, .int .i64 k, .slice ya fw.2.2.length yc, .int .i64 1]) (m := msg 0 id 4 3 k fw.2.2 1) hia.1 (show In64 1 by constructor <;> decide) PP q1 FF q5 MM sb1 sb5 d15 hS (by omega) (by omega) (by omega) (by omega) (by omega) (by omega) (by omega)
    rw [FS, ← hem] at FO
    replace FO := own_drewT FO
    have FB := (below_step BB (box_below _ (.cells #[.int .i64 0, .int .i64 id, .int .i64 4, .int .i64 3, .int .i64 k, .slice ya fw.2.2.length yc, .int .i64 1] 50))).drew
    simp only [setCs_cons, setCs_nil, Nat.reduceAdd] at FO FB
    replace V2 := row_drew V2
    obtain ⟨r0, r1, r2, r3, r4, r5, r6, r7, r8⟩ := cells_core V2
    clear V V2 PP FF MM q1 q5 BB FS o1 o5 P F OM B Y X R M
    refine bodyPost_ret (v := .tuple #[.agg #[.slice na dc.1.length nb, .slice nc dc.2.length nd, .slice a1 p.length c1, .int .i64 at_, .int .i64 1, .int .i64 fw.1, .int .i64 fw.2.1, .slice fa fw.2.2.length fc, .slice a5 t.length c5], .slice (some ⟨u11w.heap.size, 0, none⟩) 1 1, .int .i64 2]) (by simp [results, Tryz.results115, go_sem, r0, r1, r2, r3, r4, r5, r6, r7, r8]) rfl ⟨[.slice na dc.1.length nb, .slice nc dc.2.length nd, .slice a1 p.length c1, .int .i64 at_, .int .i64 1, .int .i64 fw.1, .int .i64 fw.2.1, .slice fa fw.2.2.length fc, .slice a5 t.length c5], .slice (some ⟨u11w.heap.size, 0, none⟩) 1 1, rfl, rfl, ?_, ?_⟩
    · exact FO
    · exact FB
  · have hem := HEM.out
    rw [if_neg h2] at hem
    rw [decide_eq_false h2]
    obtain ⟨Xc0, Xc1, Xc2, Xc3, Xc4, Xc5, Xc6, Xc7, Xc8⟩ := cells_core X
    have Xlt := (Array.getElem?_eq_some_iff.1 X).1
    obtain ⟨Rc0, Rc1, Rc2, Rc3, Rc4, Rc5, Rc6, Rc7, Rc8⟩ := cells_core R
    have Rlt := (Array.getElem?_eq_some_iff.1 R).1
    obtain ⟨Mc0, Mc1, Mc2, Mc3, Mc4, Mc5, Mc6⟩ := cells_7 M
    have Mlt := (Array.getElem?_eq_some_iff.1 M).1
    go_upto_region 7 with fail
    clear Xc0 Xc1 Xc2 Xc3 Xc4 Xc5 Xc6 Xc7 Xc8 Xlt Rc0 Rc1 Rc2 Rc3 Rc4 Rc5 Rc6 Rc7 Rc8 Rlt Mc0 Mc1 Mc2 Mc3 Mc4 Mc5 Mc6 Mlt
    obtain ⟨Xc0, Xc1, Xc2, Xc3, Xc4, Xc5, Xc6, Xc7, Xc8⟩ := cells_core X
    have Xlt := (Array.getElem?_eq_some_iff.1 X).1
    obtain ⟨Rc0, Rc1, Rc2, Rc3, Rc4, Rc5, Rc6, Rc7, Rc8⟩ := cells_core R
    have Rlt := (Array.getElem?_eq_some_iff.1 R).1
    obtain ⟨Rf0, Rf1, Rf2, Rf3, Rf4, Rf5, Rf6, Rf7, Rf8⟩ := froz_core R
    obtain ⟨Mc0, Mc1, Mc2, Mc3, Mc4, Mc5, Mc6⟩ := cells_7 M
    have Mlt := (Array.getElem?_eq_some_iff.1 M).1
    have ne1 : ¬ (u7w.heap.size = w.heap.size + 1) := by omega
    have ne2 : ¬ (w.heap.size + 1 = u7w.heap.size) := by omega
    have ne3 : ¬ (w.heap.size = w.heap.size + 1) := by omega
    have ne4 : ¬ (w.heap.size + 1 = w.heap.size) := by omega
    have HK : Hid _ := And.intro B (And.intro X (And.intro R (And.intro M (And.intro F (P)))))
    clear B X R M F P
    go_region
    all_goals go_wp2
    clear ne1 ne2 ne3 ne4
    clear Xc0 Xc1 Xc2 Xc3 Xc4 Xc5 Xc6 Xc7 Xc8 Xlt Rc0 Rc1 Rc2 Rc3 Rc4 Rc5 Rc6 Rc7 Rc8 Rlt Rf0 Rf1 Rf2 Rf3 Rf4 Rf5 Rf6 Rf7 Rf8 Mc0 Mc1 Mc2 Mc3 Mc4 Mc5 Mc6 Mlt
    obtain ⟨B, X, R, M, F, P⟩ := HK.out
    clear HK
    have V := put_core (y0 := .slice na dc.1.length nb) (y1 := .slice nc dc.2.length nd) (y2 := .slice a1 p.length c1) (y3 := .int .i64 at_) (y4 := .int .i64 1) (y5 := .int .i64 fw.1) (y6 := .int .i64 fw.2.1) (y7 := .slice fa fw.2.2.length fc) (y8 := .slice a5 t.length c5) R
    have V2 := row_keep (box_below _ (.cells #[.int .i64 0, .int .i64 id, .int .i64 4, .int .i64 3, .int .i64 k, .slice none 0 0, .int .i64 0] 50)) V
    obtain ⟨o1, o5, sb1, sb5, d15, hS⟩ := HOW.out
    replace o1 := opsR.own_keep o1 (keeps_below B)
    replace o5 := intsR.own_keep o5 (keeps_below B)
    have OM : Owned msgR u9w.heap.size u9w.heap.size u9w [.int .i64 0, .int .i64 id, .int .i64 4, .int .i64 3, .int .i64 k, .slice none 0 0, .int .i64 0] (msg 0 id 4 3 k [] 0) := And.intro (own_msg (by constructor <;> decide) hid (by constructor <;> decide) (by constructor <;> decide) hk64 (by constructor <;> decide) (own_zero12 _ _)) (Nat.le_refl _)
    have FS : (setCs u9w (w.heap.size + 1) 0 [.slice na dc.1.length nb, .slice nc dc.2.length nd, .slice a1 p.length c1, .int .i64 at_, .int .i64 1, .int .i64 fw.1, .int .i64 fw.2.1, .slice fa fw.2.2.length fc, .slice a5 t.length c5]).heap.size = u9w.heap.size := setCs_size _ _ _
    have PP := owned_setCs (g := w.heap.size + 1) (o := 0) (vs := [.slice na dc.1.length nb, .slice nc dc.2.length nd, .slice a1 p.length c1, .int .i64 at_, .int .i64 1, .int .i64 fw.1, .int .i64 fw.2.1, .slice fa fw.2.2.length fc, .slice a5 t.length c5]) P (by omega)
    have FF := owned_setCs (g := w.heap.size + 1) (o := 0) (vs := [.slice na dc.1.length nb, .slice nc dc.2.length nd, .slice a1 p.length c1, .int .i64 at_, .int .i64 1, .int .i64 fw.1, .int .i64 fw.2.1, .slice fa fw.2.2.length fc, .slice a5 t.length c5]) F (by omega)
    have MM := owned_setCs (g := w.heap.size + 1) (o := 0) (vs := [.slice na dc.1.length nb, .slice nc dc.2.length nd, .slice a1 p.length c1, .int .i64 at_, .int .i64 1, .int .i64 fw.1, .int .i64 fw.2.1, .slice fa fw.2.2.length fc, .slice a5 t.length c5]) OM (by omega)
    have q1 := own_setCs (g := w.heap.size + 1) (o := 0) (vs := [.slice na dc.1.length nb, .slice nc dc.2.length nd, .slice a1 p.length c1, .int .i64 at_, .int .i64 1, .int .i64 fw.1, .int .i64 fw.2.1, .slice fa fw.2.2.length fc, .slice a5 t.length c5]) o1 (fun hh => by have := hS _ (sb1 _ hh); omega)
    have q5 := own_setCs (g := w.heap.size + 1) (o := 0) (vs := [.slice na dc.1.length nb, .slice nc dc.2.length nd, .slice a1 p.length c1, .int .i64 at_, .int .i64 1, .int .i64 fw.1, .int .i64 fw.2.1, .slice fa fw.2.2.length fc, .slice a5 t.length c5]) o5 (fun hh => by have := hS _ (sb5 _ hh); omega)
    have BB := below_setCs0 (g := w.heap.size + 1) (o := 0) (vs := [.slice na dc.1.length nb, .slice nc dc.2.length nd, .slice a1 p.length c1, .int .i64 at_, .int .i64 1, .int .i64 fw.1, .int .i64 fw.2.1, .slice fa fw.2.2.length fc, .slice a5 t.length c5]) B (by omega)
    have FO := core_msg (w := w) (S := S) (cm := [.int .i64 0, .int .i64 id, .int .i64 4, .int .i64 3, .int .i64 k, .slice none 0 0, .int .i64 0]) (m := msg 0 id 4 3 k [] 0) hia.1 (show In64 1 by constructor <;> decide) PP q1 FF q5 MM sb1 sb5 d15 hS (by omega) (by omega) (by omega) (by omega) (by omega) (by omega) (by omega)
    rw [FS, ← hem] at FO
    replace FO := own_drewT FO
    have FB := (below_step BB (box_below _ (.cells #[.int .i64 0, .int .i64 id, .int .i64 4, .int .i64 3, .int .i64 k, .slice none 0 0, .int .i64 0] 50))).drew
    simp only [setCs_cons, setCs_nil, Nat.reduceAdd] at FO FB
    replace V2 := row_drew V2
    obtain ⟨r0, r1, r2, r3, r4, r5, r6, r7, r8⟩ := cells_core V2
    clear V V2 PP FF MM q1 q5 BB FS o1 o5 P F OM B X R M
    refine bodyPost_ret (v := .tuple #[.agg #[.slice na dc.1.length nb, .slice nc dc.2.length nd, .slice a1 p.length c1, .int .i64 at_, .int .i64 1, .int .i64 fw.1, .int .i64 fw.2.1, .slice fa fw.2.2.length fc, .slice a5 t.length c5], .slice (some ⟨u9w.heap.size, 0, none⟩) 1 1, .int .i64 2]) (by simp [results, Tryz.results115, go_sem, r0, r1, r2, r3, r4, r5, r6, r7, r8]) rfl ⟨[.slice na dc.1.length nb, .slice nc dc.2.length nd, .slice a1 p.length c1, .int .i64 at_, .int .i64 1, .int .i64 fw.1, .int .i64 fw.2.1, .slice fa fw.2.2.length fc, .slice a5 t.length c5], .slice (some ⟨u9w.heap.size, 0, none⟩) 1 1, rfl, rfl, ?_, ?_⟩
    · exact FO
    · exact FB
end Go.Proofs.YthbclkpmgcfdnaaGreatDoor
