
/- SpecBegin. -/
import Derived.Test.YthbclkpmgcfdnaaGreatDoorCoreBegin
import Derived.Test.YthbclkpmgcfdnaaGreatDoorSpecDo
import Derived.Test.YthbclkpmgcfdnaaGreatDoorJOwn516Lines4
import Derived.Test.YthbclkpmgcfdnaaGreatDoorJMsgs7OpsBad
/- A core begins, of the specification: in a core that lies in a box. Conditions: a right core that is idle and has an op left. -/
namespace Go.Proofs.YthbclkpmgcfdnaaGreatDoor
open Go.ChangeShapes Go.WideShapes Go.ChangeAt Go.RowKit
set_option linter.unusedVariables false
theorem begin_did {x : CoreD} (h : coreB x = true) (h1 : x.2.2.1 < x.2.1.length) (ha : asksI (wayOf x.1 (opLine (opAt (toS x)))).2.1 (opWr (opAt (toS x))) = 0) : didB x (wayOf x.1 (opLine (opAt (toS x)))) = true := by
  have hP := core_p h
  have hok : okc x.1 := hP.ok
  rcases way_or hok (opLine (opAt (toS x))) with ⟨hn, hw⟩ | ⟨⟨j, hj⟩, hk0, hk1, hf⟩
  · rw [hw] at ha
    cases hwr : opWr (opAt (toS x)) <;> rw [hwr] at ha <;> exact absurd ha (by decide)
  have hd := do_some hP h1 hj ha
  unfold doS at hd
  dsimp only at hd
  rw [if_pos ha, fill_of hok] at hd
  unfold didB didU
  cases hb : (fillI x.1 ((wayOf x.1 (opLine (opAt (toS x)))).1, (if opWr (opAt (toS x)) then (3 : Int) else (wayOf x.1 (opLine (opAt (toS x)))).2.1), (wayOf x.1 (opLine (opAt (toS x)))).2.2.set ((opAt (toS x)).2.1 % 2).toNat (opDo (opAt (toS x)) ((wayOf x.1 (opLine (opAt (toS x)))).2.2.getD ((opAt (toS x)).2.1 % 2).toNat 0)).1)).2
  · have hb' : (fillI (toS x).cache ((wayOf x.1 (opLine (opAt (toS x)))).1, (if opWr (opAt (toS x)) then (3 : Int) else (wayOf x.1 (opLine (opAt (toS x)))).2.1), (wayOf x.1 (opLine (opAt (toS x)))).2.2.set ((opAt (toS x)).2.1 % 2).toNat (opDo (opAt (toS x)) ((wayOf x.1 (opLine (opAt (toS x)))).2.2.getD ((opAt (toS x)).2.1 % 2).toNat 0)).1)).2 = false := hb
    rw [hb'] at hd
    cases hd
  · rfl
theorem asks_12 {s : Int} {b : Bool} (h : ¬ asksI s b = 0) (hs : betw s 0 3 = true) : asksI s b = 1 ∨ asksI s b = 2 := by
  have h4 : s = 0 ∨ s = 1 ∨ s = 2 ∨ s = 3 := by simp [betw] at hs; omega
  rcases h4 with rfl | rfl | rfl | rfl <;> cases b <;> revert h <;> decide
set_option maxHeartbeats 16000000 in
set_option maxRecDepth 20000 in
theorem l12Begin_go (S : Foot) (g : Nat) (cs : List Value) (x : CoreD) (id : Int) (w : World) (ho : coreR.own w S cs x) (hS : ∀ k, S k → k < w.heap.size) (hg : ¬ S g) (hbox : w.heap[g]? = some (.cells cs.toArray 32 (0, 0))) (hk : coreB x = true) (hid : In64 id) (h0 : x.2.2.2.1 = 0) (h1 : x.2.2.1 < x.2.1.length) :
    Calls Tryz.prog 56 #[.pointer (some ⟨g, 0, none⟩), .int .i64 id] w fun e w' => ∃ ds ms, e = .returned (.tuple #[ms, .int .i64 (beginS (toS x) id).2.2]) ∧ coreR.own w' (fun k => S k ∨ (w.heap.size ≤ k ∧ k < w'.heap.size)) ds (ofS (beginS (toS x) id).1) ∧ msgsR.own w' (rng w.heap.size w'.heap.size) [ms] (beginS (toS x) id).2.1 ∧ w'.heap[g]? = some (.cells ds.toArray 32 (0, 0)) ∧ Chg (fun k => S k ∨ k = g) w w' := by
  have hp := core_p hk
  have hia := i64_at hk
  have hok : OkC isL treeB x.1 := hp.ok
  have hat0 : 0 ≤ x.2.2.1 := hp.at0
  have hpl : x.2.1.length ≤ 30 := hp.len
  have hoo : opOkD (opAt (toS x)) = true := hp.ops _ (op_mem hp.at0 h1)
  have hos := op_some hat0 h1
  have HBD : Hid (asksI (wayOf x.1 (opLine (opAt (toS x)))).2.1 (opWr (opAt (toS x))) = 0 → _) := fun e => And.intro (begin_did hk h1 e) (begin_done (id := id) hk h0 h1 e)
  have HBE : Hid (¬ asksI (wayOf x.1 (opLine (opAt (toS x)))).2.1 (opWr (opAt (toS x))) = 0 → ¬ leavesI x.1 (opLine (opAt (toS x))) = -1 → _) := fun e1 e2 => begin_evict (id := id) hk h0 h1 e1 e2
  have HBA : Hid (¬ asksI (wayOf x.1 (opLine (opAt (toS x)))).2.1 (opWr (opAt (toS x))) = 0 → leavesI x.1 (opLine (opAt (toS x))) = -1 → _) := fun e1 e2 => begin_ask (id := id) hk h0 h1 e1 e2
  have hws : betw (wayOf x.1 (opLine (opAt (toS x)))).2.1 0 3 = true := by have := (way_st hok (opLine (opAt (toS x)))).1; simp [betw]; omega
  have HDO : Hid (∀ (us : List Value) (u : WayD) (W : World), Below w.heap.size w W → wayR.rd W us u → fullB isL u = true → asksI u.2.1 (opWr (opAt (toS x))) = 0 → Calls Tryz.prog 124 #[.pointer (some ⟨g, 0, none⟩), aggV us] W fun e w' => ∃ ds, e = .returned (.bool (didB x u)) ∧ coreR.own w' (fun k => S k ∨ (W.heap.size ≤ k ∧ k < w'.heap.size)) ds (didY x u) ∧ w'.heap[g]? = some (.cells ds.toArray 32 (0, 0)) ∧ Chg (fun k => S k ∨ k = g) W w') := fun us u W hb hu hf ha => l12Do_u S g cs us x u W (coreR.own_keep ho (keeps_below hb)) (fun k q => Nat.lt_of_lt_of_le (hS k q) hb.size) hg (row_keep hb hbox) hu hk h1 hf ha
  have HWY : Hid (∀ (k : Int) (W : World), Below w.heap.size w W → Calls Tryz.prog 72 #[.agg (cs.take 2).toArray, .int .i64 k] W fun e w' => ∃ us, e = .returned (aggV us) ∧ wayR.rd w' us (wayOf x.1 k) ∧ Below W.heap.size W w') := by
    obtain ⟨v0, v1, v2, v5, v6, v7, v8, rfl, r0, -⟩ := core_rd (coreR.own_rd ho)
    exact fun k W hb => specWay_u [v0, v1] x.1 k W hok (rd_next r0 hb)
  have hb15 : betw (opLine (opAt (toS x))) 0 15 = true := by have := op_line hoo; simp [betw]; omega
  have HLV : Hid (∀ W, Below w.heap.size w W → Calls Tryz.prog 125 #[.agg (cs.take 2).toArray, .int .i64 (opLine (opAt (toS x)))] W fun e w' => e = .returned (.int .i64 (leavesI x.1 (opLine (opAt (toS x))))) ∧ Below W.heap.size W w') := by
    obtain ⟨v0, v1, v2, v5, v6, v7, v8, rfl, r0, -⟩ := core_rd (coreR.own_rd ho)
    exact fun W hb => specLeaves_u [v0, v1] x.1 _ W hok hb15 (rd_next r0 hb)
  have HLN0 : Hid (leavesI x.1 (opLine (opAt (toS x))) = -1 ∨ 0 ≤ leavesI x.1 (opLine (opAt (toS x)))) := by unfold Hid; rw [leaves_of hok hb15]; rcases leaves_way hok (op_line hoo).1 with ⟨w1, w2⟩ | ⟨w1, -⟩; exact .inl (leaves_neg w2); exact .inr w1
  have HFK : Hid (∀ k, (findI x.1 k).1 = wayOf x.1 k) := fun k => find_of hok k
  obtain ⟨o, hoe⟩ : ∃ o, o = opAt (toS x) := ⟨_, rfl⟩
  rw [← hoe] at hoo hos HBD HBE HBA HDO HLV HLN0 hws
  obtain ⟨kl, hkl⟩ : ∃ kl, kl = opLine o := ⟨_, rfl⟩
  rw [← hkl] at HBD HBE HBA HLV HLN0 hws
  obtain ⟨hq0, hq1⟩ := addr_in hoo
  have htd2 : Int.tdiv o.2.1 2 = kl := by rw [hkl]; unfold opLine; rw [Int.tdiv_eq_ediv_of_nonneg hq0]
  have hdv : o.2.1 / 2 = kl := hkl.symm
  have hk6 : In64 kl := by rw [hkl]; unfold opLine; constructor <;> omega
  have hwk : IntKind.i64.wrap kl = kl := by rw [IntKind.wrap_i64]; have := hk6.1; have := hk6.2; omega
  have HWR : Hid (∀ W, Calls Tryz.prog 22 #[.agg #[.int .i64 o.1, .int .i64 o.2.1, .int .i64 o.2.2.1, .int .i64 o.2.2.2]] W fun e w' => e = .returned (.bool (opWr o)) ∧ Below W.heap.size W w') := fun W => specWrites_u o W
  obtain ⟨b9, hb9⟩ : ∃ b9, b9 = beginS (toS x) id := ⟨_, rfl⟩
  rw [← hb9] at HBD HBE HBA ⊢
  obtain ⟨fw, hfw⟩ : ∃ fw, fw = wayOf x.1 kl := ⟨_, rfl⟩
  rw [← hfw] at HBD HBE HBA hws
  obtain ⟨ow, how⟩ : ∃ ow, ow = opWr o := ⟨_, rfl⟩
  rw [← how] at HBD HBE HBA HDO HWR
  obtain ⟨lv, hlv⟩ : ∃ lv, lv = leavesI x.1 kl := ⟨_, rfl⟩
  rw [← hlv] at HBE HBA HLV HLN0
  have HA12 : Hid (¬ asksI fw.2.1 ow = 0 → _) := fun e => asks_12 e hws
  have HAS : Hid (∀ W, Calls Tryz.prog 26 #[.int .i64 fw.2.1, .bool ow] W fun e w' => e = .returned (.int .i64 (asksI fw.2.1 ow)) ∧ Below W.heap.size W w') := fun W => (specAsks_any fw.2.1 ow W).mono fun e w' ⟨q, r⟩ => ⟨q, be_eq r⟩
  obtain ⟨ak, hak⟩ : ∃ ak, ak = asksI fw.2.1 ow := ⟨_, rfl⟩
  rw [← hak] at HBD HBE HBA HAS HA12
  have HAK : Hid (ak = asksI fw.2.1 ow) := hak
  have HFW : Hid (fw = wayOf x.1 kl) := hfw
  obtain ⟨v0, v1, v2, v5, v6, v7, v8, S0, S1, S4, S5, rfl, i2, i3, o0, o1, o4, o5, sb0, sb1, sb4, sb5, d01, d04, d05, d14, d15, d45⟩ := core_own ho
  obtain ⟨u0, w0, T1, T2, e9, c1o, c2o, t1, t2, t12⟩ := cache_own o0
  obtain ⟨a0, c0, b0, d0, e0, -⟩ := cache_rd (cacheR.own_rd o0)
  simp only [List.cons.injEq, and_true] at e0 e9
  obtain ⟨rfl, rfl⟩ := e0
  obtain ⟨rfl, rfl⟩ := e9
  obtain ⟨a1, c1, e1, -, -, q1⟩ := opsR.own_rd o1
  simp only [List.cons.injEq, and_true] at e1
  obtain rfl := e1
  obtain ⟨a4, c4, e4, -⟩ := way_rd (wayR.own_rd o4)
  simp only [List.cons.injEq, and_true] at e4
  obtain ⟨rfl, rfl, rfl⟩ := e4
  obtain ⟨a5, c5, e5, -⟩ := intsR.own_rd o5
  simp only [List.cons.injEq, and_true] at e5
  obtain rfl := e5
  simp only [List.take_succ_cons, List.take_zero] at HLV HWY
  obtain ⟨c, p, at_, ph, h, t⟩ := x
  simp only at *
  obtain ⟨n, rfl⟩ : ∃ n : Nat, at_ = n := ⟨at_.toNat, by omega⟩
  have hn : n < p.length := by omega
  have hn' : (n : Int) < (p.length : Int) := h1
  have hne : ((n : Int) == (p.length : Int)) = false := by simp; omega
  rw [show ((n : Int)).toNat = n by omega] at hos
  obtain ⟨ob, oo, rfl, -, -, -, -, -⟩ := op_at q1 hos
  have HOC : Hid (∀ W, Below w.heap.size w W → W.cell? ⟨ob, oo + n * 4, none⟩ = some (.int .i64 o.1) ∧ W.cell? ⟨ob, oo + n * 4 + 1, none⟩ = some (.int .i64 o.2.1) ∧ W.cell? ⟨ob, oo + n * 4 + 2, none⟩ = some (.int .i64 o.2.2.1) ∧ W.cell? ⟨ob, oo + n * 4 + 3, none⟩ = some (.int .i64 o.2.2.2) ∧ ob < W.heap.size) := fun W hb => by
    obtain ⟨b9, o9, e9, x0, x1, x2, x3, -⟩ := op_at (slrd_next q1 hb) hos
    simp only [Option.some.injEq, Addr.mk.injEq, and_true] at e9
    obtain ⟨rfl, rfl⟩ := e9
    exact ⟨x0, x1, x2, x3, cell_lt x0⟩
  have HCO : Hid (∀ W, Below w.heap.size w W → coreR.own W S [.slice a0 c.1.length c0, .slice b0 c.2.length d0, .slice (some ⟨ob, oo, none⟩) p.length c1, .int .i64 (n : Int), .int .i64 ph, .int .i64 h.1, .int .i64 h.2.1, .slice a4 h.2.2.length c4, .slice a5 t.length c5] (c, p, (n : Int), ph, h, t)) := fun W hb => coreR.own_keep ho (keeps_below hb)
  have HOW : Hid _ := And.intro c1o (And.intro c2o (And.intro o1 (And.intro o5 (And.intro sb0 (And.intro sb1 (And.intro sb5 (And.intro d01 (And.intro d05 (And.intro d15 (And.intro t1 (And.intro t2 (And.intro t12 (And.intro hS hg)))))))))))))
  have HOK : Hid (OkC isL treeB c) := hok
  have HII : Hid _ := And.intro i2 i3
  have HSS : Hid _ := And.intro hS hg
  have hph0 : (ph != 0) = false := by simp [h0]
  have gl := (Array.getElem?_eq_some_iff.1 hbox).1
  have G : w.heap[g]? = some (.cells #[.slice a0 c.1.length c0, .slice b0 c.2.length d0, .slice (some ⟨ob, oo, none⟩) p.length c1, .int .i64 (n : Int), .int .i64 ph, .int .i64 h.1, .int .i64 h.2.1, .slice a4 h.2.2.length c4, .slice a5 t.length c5] 32 (0, 0)) := hbox
  clear hbox ho o0 o1 o4 o5 c1o c2o sb0 sb1 sb4 sb5 d01 d04 d05 d14 d15 d45 t1 t2 t12 hS hg hok hos q1 hoo h0 hkl hb9 hfw how hlv hak hoe hk hp hb15 hws hat0 h1 i2 i3
  have B := Below.refl w.heap.size w
  go_enter Tryz.func56, Tryz.ntmps56
  go_upto_region 1 with fail
  obtain ⟨Gc0, Gc1, Gc2, Gc3, Gc4, Gc5, Gc6, Gc7, Gc8⟩ := cells_core G
  have Glt := (Array.getElem?_eq_some_iff.1 G).1
  go_upto_region 1 with fail
  clear Gc0 Gc1 Gc2 Gc3 Gc4 Gc5 Gc6 Gc7 Gc8 Glt
  obtain ⟨Gc0, Gc1, Gc2, Gc3, Gc4, Gc5, Gc6, Gc7, Gc8⟩ := cells_core G
  have Gk0 : ∀ n' : Cls (fun wx => Below w.heap.size w wx), n'.w.cell? ⟨g, 0, none⟩ = some (.slice a0 c.1.length c0) := fun n' => cell_keep n'.h Gc0 (cell_lt Gc0)
  have Gk1 : ∀ n' : Cls (fun wx => Below w.heap.size w wx), n'.w.cell? ⟨g, 1, none⟩ = some (.slice b0 c.2.length d0) := fun n' => cell_keep n'.h Gc1 (cell_lt Gc1)
  have Gk2 : ∀ n' : Cls (fun wx => Below w.heap.size w wx), n'.w.cell? ⟨g, 2, none⟩ = some (.slice (some ⟨ob, oo, none⟩) p.length c1) := fun n' => cell_keep n'.h Gc2 (cell_lt Gc2)
  have Gk3 : ∀ n' : Cls (fun wx => Below w.heap.size w wx), n'.w.cell? ⟨g, 3, none⟩ = some (.int .i64 (n : Int)) := fun n' => cell_keep n'.h Gc3 (cell_lt Gc3)
  have Gk4 : ∀ n' : Cls (fun wx => Below w.heap.size w wx), n'.w.cell? ⟨g, 4, none⟩ = some (.int .i64 ph) := fun n' => cell_keep n'.h Gc4 (cell_lt Gc4)
  have Gk5 : ∀ n' : Cls (fun wx => Below w.heap.size w wx), n'.w.cell? ⟨g, 5, none⟩ = some (.int .i64 h.1) := fun n' => cell_keep n'.h Gc5 (cell_lt Gc5)
  have Gk6 : ∀ n' : Cls (fun wx => Below w.heap.size w wx), n'.w.cell? ⟨g, 6, none⟩ = some (.int .i64 h.2.1) := fun n' => cell_keep n'.h Gc6 (cell_lt Gc6)
  have Gk7 : ∀ n' : Cls (fun wx => Below w.heap.size w wx), n'.w.cell? ⟨g, 7, none⟩ = some (.slice a4 h.2.2.length c4) := fun n' => cell_keep n'.h Gc7 (cell_lt Gc7)
  have Gk8 : ∀ n' : Cls (fun wx => Below w.heap.size w wx), n'.w.cell? ⟨g, 8, none⟩ = some (.slice a5 t.length c5) := fun n' => cell_keep n'.h Gc8 (cell_lt Gc8)
  clear Gc0 Gc1 Gc2 Gc3 Gc4 Gc5 Gc6 Gc7 Gc8
  have HFX : Hid _ := And.intro B (G)
  clear B G
  refine region_class (fun wx => Below w.heap.size w wx) (by kernel_rfl) (by kernel_rfl) ((Below.refl _ w).drew) ?_
  intro hne
  repeat (quiet_step (first | (go_at_call 22; exact calls_class (HWR.out _) (fun w' hc bb => below_step hc bb))))
  refine wpQuiet_nil ?_
  intro u1w bq
  clear Gk0 Gk1 Gk2 Gk3 Gk4 Gk5 Gk6 Gk7 Gk8 hne
  obtain ⟨B, G⟩ := HFX.out
  clear HFX
  have tu1w : w.heap.size ≤ u1w.heap.size := bq.size
  replace B := below_step B bq
  replace G := row_keep bq G
  clear bq
  obtain ⟨Gc0, Gc1, Gc2, Gc3, Gc4, Gc5, Gc6, Gc7, Gc8⟩ := cells_core G
  have Glt := (Array.getElem?_eq_some_iff.1 G).1
  go_upto_region 3 with fail
  clear Gc0 Gc1 Gc2 Gc3 Gc4 Gc5 Gc6 Gc7 Gc8 Glt
  obtain ⟨q0, q1, q2, q3, q4⟩ := HOC.out _ B
  obtain ⟨Gc0, Gc1, Gc2, Gc3, Gc4, Gc5, Gc6, Gc7, Gc8⟩ := cells_core G
  have Glt := (Array.getElem?_eq_some_iff.1 G).1
  have HK : Hid _ := And.intro B (G)
  clear B G
  go_region
  all_goals go_upto_region 4 with fail
  clear q0 q1 q2 q3 q4
  clear Gc0 Gc1 Gc2 Gc3 Gc4 Gc5 Gc6 Gc7 Gc8 Glt
  obtain ⟨B, G⟩ := HK.out
  clear HK
  have O := row_drew (heap_at u1w (.cells #[.int .i64 o.1, .int .i64 o.2.1, .int .i64 o.2.2.1, .int .i64 o.2.2.2] 54))
  have bz : Below u1w.heap.size u1w (u1w.alloc (.cells #[.int .i64 o.1, .int .i64 o.2.1, .int .i64 o.2.2.1, .int .i64 o.2.2.2] 54)).drew := (box_below u1w (.cells #[.int .i64 o.1, .int .i64 o.2.1, .int .i64 o.2.2.1, .int .i64 o.2.2.2] 54)).drew
  have zO : u1w.heap.size + 1 ≤ (u1w.alloc (.cells #[.int .i64 o.1, .int .i64 o.2.1, .int .i64 o.2.2.1, .int .i64 o.2.2.2] 54)).drew.heap.size := Nat.le_of_eq (alloc_len u1w (.cells #[.int .i64 o.1, .int .i64 o.2.1, .int .i64 o.2.2.1, .int .i64 o.2.2.2] 54)).symm
  have zW : w.heap.size ≤ u1w.heap.size := B.size
  replace B := below_step B bz
  replace G := row_keep bz G
  clear bz
  generalize (u1w.alloc (.cells #[.int .i64 o.1, .int .i64 o.2.1, .int .i64 o.2.2.1, .int .i64 o.2.2.2] 54)).drew = u2w at B G O zO ⊢
  obtain ⟨Gc0, Gc1, Gc2, Gc3, Gc4, Gc5, Gc6, Gc7, Gc8⟩ := cells_core G
  have Glt := (Array.getElem?_eq_some_iff.1 G).1
  obtain ⟨Oc0, Oc1, Oc2, Oc3⟩ := cells_4 O
  have Olt := (Array.getElem?_eq_some_iff.1 O).1
  go_wp2_with fail
  clear Gc0 Gc1 Gc2 Gc3 Gc4 Gc5 Gc6 Gc7 Gc8 Glt Oc0 Oc1 Oc2 Oc3 Olt
  refine (HWY.out kl _ B).mono ?_
  rintro e u3w ⟨us, rfl, ur, bq⟩
  rw [← HFW.out] at ur
  obtain ⟨fa, fc, rfl, -, -, -, -, -⟩ := way_rd ur
  rw [show aggV [.int .i64 fw.1, .int .i64 fw.2.1, .slice fa fw.2.2.length fc] = .agg #[.int .i64 fw.1, .int .i64 fw.2.1, .slice fa fw.2.2.length fc] from rfl]
  have tu3w : u2w.heap.size ≤ u3w.heap.size := bq.size
  replace B := below_step B bq
  replace G := row_keep bq G
  replace O := row_keep bq O
  clear bq
  have U := sight_of ur
  clear ur
  obtain ⟨Gc0, Gc1, Gc2, Gc3, Gc4, Gc5, Gc6, Gc7, Gc8⟩ := cells_core G
  have Glt := (Array.getElem?_eq_some_iff.1 G).1
  obtain ⟨Oc0, Oc1, Oc2, Oc3⟩ := cells_4 O
  have Olt := (Array.getElem?_eq_some_iff.1 O).1
  go_upto_region 6 with fail
  clear Gc0 Gc1 Gc2 Gc3 Gc4 Gc5 Gc6 Gc7 Gc8 Glt Oc0 Oc1 Oc2 Oc3 Olt
  have V := heap_at u3w (.cells #[.int .i64 fw.1, .int .i64 fw.2.1, .slice fa fw.2.2.length fc] 30)
  have bz := box_below u3w (.cells #[.int .i64 fw.1, .int .i64 fw.2.1, .slice fa fw.2.2.length fc] 30)
  have zV := alloc_len u3w (.cells #[.int .i64 fw.1, .int .i64 fw.2.1, .slice fa fw.2.2.length fc] 30)
  replace B := below_step B bz
  replace G := row_keep bz G
  replace O := row_keep bz O
  replace U := sight_next U bz
  clear bz
  generalize u3w.alloc (.cells #[.int .i64 fw.1, .int .i64 fw.2.1, .slice fa fw.2.2.length fc] 30) = u4w at B G O V U zV ⊢
  have zVa := Nat.le_of_eq zV
  have zVb := Nat.le_of_eq zV.symm
  clear zV
  obtain ⟨Gc0, Gc1, Gc2, Gc3, Gc4, Gc5, Gc6, Gc7, Gc8⟩ := cells_core G
  have Glt := (Array.getElem?_eq_some_iff.1 G).1
  obtain ⟨Oc0, Oc1, Oc2, Oc3⟩ := cells_4 O
  have Olt := (Array.getElem?_eq_some_iff.1 O).1
  obtain ⟨Vc0, Vc1, Vc2⟩ := cells_three V
  have Vlt := (Array.getElem?_eq_some_iff.1 V).1
  go_upto_region 6 with fail
  clear Gc0 Gc1 Gc2 Gc3 Gc4 Gc5 Gc6 Gc7 Gc8 Glt Oc0 Oc1 Oc2 Oc3 Olt Vc0 Vc1 Vc2 Vlt
  obtain ⟨Vc0, Vc1, Vc2⟩ := cells_three V
  have Vk0 : ∀ n' : Cls (fun wx => Below u4w.heap.size u4w wx), n'.w.cell? ⟨u3w.heap.size, 0, none⟩ = some (.int .i64 fw.1) := fun n' => cell_keep n'.h Vc0 (cell_lt Vc0)
  have Vk1 : ∀ n' : Cls (fun wx => Below u4w.heap.size u4w wx), n'.w.cell? ⟨u3w.heap.size, 1, none⟩ = some (.int .i64 fw.2.1) := fun n' => cell_keep n'.h Vc1 (cell_lt Vc1)
  have Vk2 : ∀ n' : Cls (fun wx => Below u4w.heap.size u4w wx), n'.w.cell? ⟨u3w.heap.size, 2, none⟩ = some (.slice fa fw.2.2.length fc) := fun n' => cell_keep n'.h Vc2 (cell_lt Vc2)
  clear Vc0 Vc1 Vc2
  obtain ⟨Oc0, Oc1, Oc2, Oc3⟩ := cells_4 O
  have Ok0 : ∀ n' : Cls (fun wx => Below u4w.heap.size u4w wx), n'.w.cell? ⟨u1w.heap.size, 0, none⟩ = some (.int .i64 o.1) := fun n' => cell_keep n'.h Oc0 (cell_lt Oc0)
  have Ok1 : ∀ n' : Cls (fun wx => Below u4w.heap.size u4w wx), n'.w.cell? ⟨u1w.heap.size, 1, none⟩ = some (.int .i64 o.2.1) := fun n' => cell_keep n'.h Oc1 (cell_lt Oc1)
  have Ok2 : ∀ n' : Cls (fun wx => Below u4w.heap.size u4w wx), n'.w.cell? ⟨u1w.heap.size, 2, none⟩ = some (.int .i64 o.2.2.1) := fun n' => cell_keep n'.h Oc2 (cell_lt Oc2)
  have Ok3 : ∀ n' : Cls (fun wx => Below u4w.heap.size u4w wx), n'.w.cell? ⟨u1w.heap.size, 3, none⟩ = some (.int .i64 o.2.2.2) := fun n' => cell_keep n'.h Oc3 (cell_lt Oc3)
  clear Oc0 Oc1 Oc2 Oc3
  have HFX : Hid _ := And.intro B (And.intro G (And.intro O (And.intro V (U))))
  clear B G O V U
  refine region_class (fun wx => Below u4w.heap.size u4w wx) (by kernel_rfl) (by kernel_rfl) ((Below.refl _ u4w).drew) ?_
  intro hne
  repeat (quiet_step (first | (go_at_call 22; exact calls_class (HWR.out _) (fun w' hc bb => below_step hc bb)) | (go_at_call 26; exact calls_class (HAS.out _) (fun w' hc bb => below_step hc bb))))
  refine wpQuiet_nil ?_
  intro u5w bq
  clear Vk0 Vk1 Vk2 Ok0 Ok1 Ok2 Ok3 hne
  obtain ⟨B, G, O, V, U⟩ := HFX.out
  clear HFX
  have tu5w : u4w.heap.size ≤ u5w.heap.size := bq.size
  replace B := below_step B bq
  replace G := row_keep bq G
  replace O := row_keep bq O
  replace V := row_keep bq V
  replace U := sight_next U bq
  clear bq
  by_cases hz : ak = 0
  · subst hz
    obtain ⟨hdb, hfull, hbeg⟩ := HBD.out rfl
    obtain ⟨n0, hn0⟩ : ∃ n0, n0 = didX (c, p, (n : Int), ph, h, t) fw := ⟨_, rfl⟩
    rw [← hn0] at hbeg
    have HN0 : Hid (didY (c, p, (n : Int), ph, h, t) fw = n0) := by unfold Hid didY; rw [hdb, hn0]; rfl
    clear hn0 hdb
    subst hbeg
    clear HBD HBE HBA
    obtain ⟨Gc0, Gc1, Gc2, Gc3, Gc4, Gc5, Gc6, Gc7, Gc8⟩ := cells_core G
    have Glt := (Array.getElem?_eq_some_iff.1 G).1
    obtain ⟨Oc0, Oc1, Oc2, Oc3⟩ := cells_4 O
    have Olt := (Array.getElem?_eq_some_iff.1 O).1
    obtain ⟨Vc0, Vc1, Vc2⟩ := cells_three V
    have Vlt := (Array.getElem?_eq_some_iff.1 V).1
    go_wp2_with fail
    clear Gc0 Gc1 Gc2 Gc3 Gc4 Gc5 Gc6 Gc7 Gc8 Glt Oc0 Oc1 Oc2 Oc3 Olt Vc0 Vc1 Vc2 Vlt
    refine (HDO.out [.int .i64 fw.1, .int .i64 fw.2.1, .slice fa fw.2.2.length fc] fw _ B (sight_rd U) hfull (by rw [← HAK.out])).mono ?_
    rintro e wd ⟨ds, rfl, DO, DG, DC⟩
    rw [HN0.out] at DO
    have bsz := B.size
    have dsz := DC.size
    have HZ : Hid _ := And.intro DO (And.intro DG (And.intro DC B))
    clear DO DG DC B G O V U
    go_wp2
    obtain ⟨DO, DG, DC, B⟩ := HZ.out
    refine bodyPost_ret (v := .tuple #[.slice (some ⟨wd.heap.size, 0, none⟩) 0 0, .int .i64 1]) (by simp [results, Tryz.results56, go_sem]) rfl ⟨ds, .slice (some ⟨wd.heap.size, 0, none⟩) 0 0, rfl, ?_, msgsR.own_mono (own_nil wd) (fun k q => ⟨by have q9 : k = wd.heap.size := q; omega, by have q9 : k = wd.heap.size := q; rw [alloc_len]; omega⟩), row_keep (box_below wd _) DG, ((chg_below B).trans DC).trans (chg_below (box_below wd _))⟩
    show coreR.own _ _ ds n0
    exact coreR.own_mono (coreR.own_keep DO (keeps_below (box_below wd _))) (fun k q => by rcases q with q | q; exact .inl q; exact .inr ⟨by omega, by rw [alloc_len]; omega⟩)
  · clear HBD HDO
    clear U
    have h12 := HA12.out hz
    replace HBE : Hid _ := HBE.out hz
    replace HBA : Hid _ := HBA.out hz
    have hz3 : (ak == 0) = false := by simp [hz]
    obtain ⟨Gc0, Gc1, Gc2, Gc3, Gc4, Gc5, Gc6, Gc7, Gc8⟩ := cells_core G
    have Glt := (Array.getElem?_eq_some_iff.1 G).1
    obtain ⟨Oc0, Oc1, Oc2, Oc3⟩ := cells_4 O
    have Olt := (Array.getElem?_eq_some_iff.1 O).1
    obtain ⟨Vc0, Vc1, Vc2⟩ := cells_three V
    have Vlt := (Array.getElem?_eq_some_iff.1 V).1
    go_wp2_with fail
    clear Gc0 Gc1 Gc2 Gc3 Gc4 Gc5 Gc6 Gc7 Gc8 Glt Oc0 Oc1 Oc2 Oc3 Olt Vc0 Vc1 Vc2 Vlt
    refine (HLV.out _ B).mono ?_
    rintro e u6w ⟨rfl, bq⟩
    have tu6w : u5w.heap.size ≤ u6w.heap.size := bq.size
    replace B := below_step B bq
    replace G := row_keep bq G
    replace O := row_keep bq O
    replace V := row_keep bq V
    clear bq
    clear hz3 hz
    by_cases hl : lv = -1
    · subst hl
      have hbeg := HBA.out rfl
      subst hbeg
      clear HBE HBA HLN0
      obtain ⟨Gc0, Gc1, Gc2, Gc3, Gc4, Gc5, Gc6, Gc7, Gc8⟩ := cells_core G
      have Glt := (Array.getElem?_eq_some_iff.1 G).1
      obtain ⟨Gf0, Gf1, Gf2, Gf3, Gf4, Gf5, Gf6, Gf7, Gf8⟩ := froz_core G
      obtain ⟨Oc0, Oc1, Oc2, Oc3⟩ := cells_4 O
      have Olt := (Array.getElem?_eq_some_iff.1 O).1
      obtain ⟨Vc0, Vc1, Vc2⟩ := cells_three V
      have Vlt := (Array.getElem?_eq_some_iff.1 V).1
      go_upto_region 21 with fail
      clear Gc0 Gc1 Gc2 Gc3 Gc4 Gc5 Gc6 Gc7 Gc8 Glt Gf0 Gf1 Gf2 Gf3 Gf4 Gf5 Gf6 Gf7 Gf8 Oc0 Oc1 Oc2 Oc3 Olt Vc0 Vc1 Vc2 Vlt
      rw [show u6w.setCell ⟨g, 4, none⟩ (.int .i64 2) = (setCs u6w g 4 [.int .i64 2]) from rfl]
      obtain ⟨hS, hg⟩ := HSS.out
      have bsz := B.size
      have G2 : (setCs u6w g 4 [.int .i64 2]).heap[g]? = some (.cells #[.slice a0 c.1.length c0, .slice b0 c.2.length d0, .slice (some ⟨ob, oo, none⟩) p.length c1, .int .i64 (n : Int), .int .i64 2, .int .i64 h.1, .int .i64 h.2.1, .slice a4 h.2.2.length c4, .slice a5 t.length c5] 32 (0, 0)) := row_setCs _ _ G
      have CO := own_setCs (g := g) (o := 4) (vs := [.int .i64 2]) (own_phase (HCO.out _ B) (show In64 2 by constructor <;> decide)) hg
      have CH : Chg (fun k => S k ∨ k = g) w (setCs u6w g 4 [.int .i64 2]) := (chg_below B).trans ((chg_setCs [.int .i64 2] 4 u6w (g := g)).mono fun k q => .inr q)
      have zsa := Nat.le_of_eq (setCs_size (g := g) [.int .i64 2] 4 u6w)
      have zsb := Nat.le_of_eq (setCs_size (g := g) [.int .i64 2] 4 u6w).symm
      generalize (setCs u6w g 4 [.int .i64 2]) = wu at G2 CO CH zsa zsb ⊢
      have HZ : Hid _ := And.intro G2 (And.intro CO CH)
      clear G2 CO CH hg B G O V
      rcases h12 with rfl | rfl
      · go_wp2
        obtain ⟨G2, CO, CH⟩ := HZ.out
        refine bodyPost_ret (v := .tuple #[.slice (some ⟨wu.heap.size, 0, none⟩) 1 1, .int .i64 3]) (by simp [results, Tryz.results56, go_sem]) rfl ⟨[.slice a0 c.1.length c0, .slice b0 c.2.length d0, .slice (some ⟨ob, oo, none⟩) p.length c1, .int .i64 (n : Int), .int .i64 2, .int .i64 h.1, .int .i64 h.2.1, .slice a4 h.2.2.length c4, .slice a5 t.length c5], .slice (some ⟨wu.heap.size, 0, none⟩) 1 1, rfl, ?_, ?_, row_keep (box_below wu _) G2, CH.trans (chg_below (box_below wu _))⟩
        · exact coreR.own_mono (coreR.own_keep CO (keeps_below (box_below wu _))) (fun k q => .inl q)
        · exact msgsR.own_mono (own_one (e := 50) (R := msgR) (cs := [.int .i64 0, .int .i64 id, .int .i64 4, .int .i64 1, .int .i64 kl, .slice none 0 0, .int .i64 0]) (by decide) (own_msg (S := fun _ => False) (by constructor <;> decide) hid (by constructor <;> decide) (by constructor <;> decide) hk6 (by constructor <;> decide) (own_zero12 _ _)) (fun k q => q.elim)) (fun k q => by rcases q with q | q; exact q.elim; exact ⟨by omega, by rw [alloc_len]; omega⟩)
      · go_wp2
        obtain ⟨G2, CO, CH⟩ := HZ.out
        refine bodyPost_ret (v := .tuple #[.slice (some ⟨wu.heap.size, 0, none⟩) 1 1, .int .i64 3]) (by simp [results, Tryz.results56, go_sem]) rfl ⟨[.slice a0 c.1.length c0, .slice b0 c.2.length d0, .slice (some ⟨ob, oo, none⟩) p.length c1, .int .i64 (n : Int), .int .i64 2, .int .i64 h.1, .int .i64 h.2.1, .slice a4 h.2.2.length c4, .slice a5 t.length c5], .slice (some ⟨wu.heap.size, 0, none⟩) 1 1, rfl, ?_, ?_, row_keep (box_below wu _) G2, CH.trans (chg_below (box_below wu _))⟩
        · exact coreR.own_mono (coreR.own_keep CO (keeps_below (box_below wu _))) (fun k q => .inl q)
        · exact msgsR.own_mono (own_one (e := 50) (R := msgR) (cs := [.int .i64 0, .int .i64 id, .int .i64 4, .int .i64 2, .int .i64 kl, .slice none 0 0, .int .i64 0]) (by decide) (own_msg (S := fun _ => False) (by constructor <;> decide) hid (by constructor <;> decide) (by constructor <;> decide) hk6 (by constructor <;> decide) (own_zero12 _ _)) (fun k q => q.elim)) (fun k q => by rcases q with q | q; exact q.elim; exact ⟨by omega, by rw [alloc_len]; omega⟩)
    · have hl0 : 0 ≤ lv := by have := HLN0.out; omega
      obtain ⟨hl6, hlf, hbeg⟩ := HBE.out hl
      obtain ⟨fv, hfv⟩ : ∃ fv, fv = wayOf c lv := ⟨_, rfl⟩
      have HFV : Hid (fv = wayOf c lv) := hfv
      have hfk := HFK.out lv
      rw [← hfv] at hlf hfk
      unfold evX evM at hbeg
      simp only at hbeg
      rw [hfk] at hbeg
      obtain ⟨dc, hdc⟩ : ∃ dc, dc = dropI c lv := ⟨_, rfl⟩
      rw [← hdc] at hbeg
      have HDC : Hid (dc = dropI c lv) := hdc
      obtain ⟨em, hem⟩ : ∃ em, em = (if 2 ≤ fv.2.1 then msg 0 id 4 3 lv fv.2.2 1 else msg 0 id 4 3 lv [] 0) := ⟨_, rfl⟩
      rw [← hem] at hbeg
      have HEM : Hid _ := hem
      clear hfv hdc hem hfk
      subst hbeg
      clear HBE HBA HLN0 hl
      obtain ⟨fu1, fu2, fu3⟩ := full_parts hlf
      have HFL : Hid (fv.2.2.length = 2) := isL_len fu3
      clear hlf fu3
      obtain ⟨Gc0, Gc1, Gc2, Gc3, Gc4, Gc5, Gc6, Gc7, Gc8⟩ := cells_core G
      have Glt := (Array.getElem?_eq_some_iff.1 G).1
      obtain ⟨Oc0, Oc1, Oc2, Oc3⟩ := cells_4 O
      have Olt := (Array.getElem?_eq_some_iff.1 O).1
      obtain ⟨Vc0, Vc1, Vc2⟩ := cells_three V
      have Vlt := (Array.getElem?_eq_some_iff.1 V).1
      go_wp2_with fail
      clear Gc0 Gc1 Gc2 Gc3 Gc4 Gc5 Gc6 Gc7 Gc8 Glt Oc0 Oc1 Oc2 Oc3 Olt Vc0 Vc1 Vc2 Vlt
      refine (HWY.out lv _ B).mono ?_
      rintro e u7w ⟨us, rfl, ur, bq⟩
      rw [← HFV.out] at ur
      obtain ⟨ga, gc, rfl, -, -, -, -, -⟩ := way_rd ur
      rw [show aggV [.int .i64 fv.1, .int .i64 fv.2.1, .slice ga fv.2.2.length gc] = .agg #[.int .i64 fv.1, .int .i64 fv.2.1, .slice ga fv.2.2.length gc] from rfl]
      have tu7w : u6w.heap.size ≤ u7w.heap.size := bq.size
      replace B := below_step B bq
      replace G := row_keep bq G
      replace O := row_keep bq O
      replace V := row_keep bq V
      clear bq
      obtain ⟨Gc0, Gc1, Gc2, Gc3, Gc4, Gc5, Gc6, Gc7, Gc8⟩ := cells_core G
      have Glt := (Array.getElem?_eq_some_iff.1 G).1
      obtain ⟨Oc0, Oc1, Oc2, Oc3⟩ := cells_4 O
      have Olt := (Array.getElem?_eq_some_iff.1 O).1
      obtain ⟨Vc0, Vc1, Vc2⟩ := cells_three V
      have Vlt := (Array.getElem?_eq_some_iff.1 V).1
      go_wp2_with fail
      clear Gc0 Gc1 Gc2 Gc3 Gc4 Gc5 Gc6 Gc7 Gc8 Glt Oc0 Oc1 Oc2 Oc3 Olt Vc0 Vc1 Vc2 Vlt
      refine (l6CopyWay_u [.int .i64 fv.1, .int .i64 fv.2.1, .slice ga fv.2.2.length gc] fv _ ur (by have := HFL.out; omega)).mono ?_
      rintro e u8w ⟨ds, rfl, mm⟩
      clear ur
      obtain ⟨ya, yc, rfl, -, -, -, -, -⟩ := way_rd (wayR.own_rd mm.1)
      rw [show aggV [.int .i64 fv.1, .int .i64 fv.2.1, .slice ya fv.2.2.length yc] = .agg #[.int .i64 fv.1, .int .i64 fv.2.1, .slice ya fv.2.2.length yc] from rfl]
      have H := owned_made (R := wayR) mm
      have mb := mm.2
      have tu8w : u7w.heap.size ≤ u8w.heap.size := mb.size
      replace B := below_step B mb
      replace G := row_keep mb G
      replace O := row_keep mb O
      replace V := row_keep mb V
      clear mb mm
      obtain ⟨Gc0, Gc1, Gc2, Gc3, Gc4, Gc5, Gc6, Gc7, Gc8⟩ := cells_core G
      have Glt := (Array.getElem?_eq_some_iff.1 G).1
      obtain ⟨Gf0, Gf1, Gf2, Gf3, Gf4, Gf5, Gf6, Gf7, Gf8⟩ := froz_core G
      obtain ⟨Oc0, Oc1, Oc2, Oc3⟩ := cells_4 O
      have Olt := (Array.getElem?_eq_some_iff.1 O).1
      obtain ⟨Vc0, Vc1, Vc2⟩ := cells_three V
      have Vlt := (Array.getElem?_eq_some_iff.1 V).1
      go_upto_region 13 with fail
      clear Gc0 Gc1 Gc2 Gc3 Gc4 Gc5 Gc6 Gc7 Gc8 Glt Gf0 Gf1 Gf2 Gf3 Gf4 Gf5 Gf6 Gf7 Gf8 Oc0 Oc1 Oc2 Oc3 Olt Vc0 Vc1 Vc2 Vlt
      rw [show (((u8w.setCell ⟨g, 5, none⟩ (.int .i64 fv.1)).setCell ⟨g, 6, none⟩ (.int .i64 fv.2.1)).setCell ⟨g, 7, none⟩ (.slice ya fv.2.2.length yc)) = (setCs u8w g 5 [.int .i64 fv.1, .int .i64 fv.2.1, .slice ya fv.2.2.length yc]) from rfl]
      obtain ⟨c1o, c2o, o1, o5, sb0, sb1, sb5, d01, d05, d15, t1, t2, t12, hS, hg⟩ := HOW.out
      have bsz := B.size
      obtain ⟨i2, i3⟩ := HII.out
      have gT1 : ¬ T1 g := fun q => hg (sb0 _ (t1 _ q))
      have gT2 : ¬ T2 g := fun q => hg (sb0 _ (t2 _ q))
      replace G : (setCs u8w g 5 [.int .i64 fv.1, .int .i64 fv.2.1, .slice ya fv.2.2.length yc]).heap[g]? = some (.cells #[.slice a0 c.1.length c0, .slice b0 c.2.length d0, .slice (some ⟨ob, oo, none⟩) p.length c1, .int .i64 (n : Int), .int .i64 ph, .int .i64 fv.1, .int .i64 fv.2.1, .slice ya fv.2.2.length yc, .slice a5 t.length c5] 32 (0, 0)) := row_setCs _ _ G
      replace c1o := own_setCs (g := g) (o := 5) (vs := [.int .i64 fv.1, .int .i64 fv.2.1, .slice ya fv.2.2.length yc]) (setsR.own_keep c1o (keeps_below B)) gT1
      replace c2o := own_setCs (g := g) (o := 5) (vs := [.int .i64 fv.1, .int .i64 fv.2.1, .slice ya fv.2.2.length yc]) (intsR.own_keep c2o (keeps_below B)) gT2
      replace o1 := own_setCs (g := g) (o := 5) (vs := [.int .i64 fv.1, .int .i64 fv.2.1, .slice ya fv.2.2.length yc]) (opsR.own_keep o1 (keeps_below B)) (fun q => hg (sb1 _ q))
      replace o5 := own_setCs (g := g) (o := 5) (vs := [.int .i64 fv.1, .int .i64 fv.2.1, .slice ya fv.2.2.length yc]) (intsR.own_keep o5 (keeps_below B)) (fun q => hg (sb5 _ q))
      replace H := owned_setCs (g := g) (o := 5) (vs := [.int .i64 fv.1, .int .i64 fv.2.1, .slice ya fv.2.2.length yc]) H (by omega)
      have CH : Chg (fun k => S k ∨ k = g) w (setCs u8w g 5 [.int .i64 fv.1, .int .i64 fv.2.1, .slice ya fv.2.2.length yc]) := (chg_below B).trans ((chg_setCs [.int .i64 fv.1, .int .i64 fv.2.1, .slice ya fv.2.2.length yc] 5 u8w (g := g)).mono fun k q => .inr q)
      have zsa := Nat.le_of_eq (setCs_size (g := g) [.int .i64 fv.1, .int .i64 fv.2.1, .slice ya fv.2.2.length yc] 5 u8w)
      have zsb := Nat.le_of_eq (setCs_size (g := g) [.int .i64 fv.1, .int .i64 fv.2.1, .slice ya fv.2.2.length yc] 5 u8w).symm
      clear B O V
      generalize (setCs u8w g 5 [.int .i64 fv.1, .int .i64 fv.2.1, .slice ya fv.2.2.length yc]) = w3 at G c1o c2o o1 o5 H CH zsa zsb ⊢
      have HDR : Calls Tryz.prog 126 #[.pointer (some ⟨g, 0, none⟩), .int .i64 lv] w3 fun e w' => e = .returned (.bool dc.2) ∧ setsR.own w' (fun k => Old w3 T1 k ∨ (w3.heap.size ≤ k ∧ k < w'.heap.size)) [.slice a0 c.1.length c0] dc.1.1 ∧ dc.1.2 = c.2 ∧ Chg (Old w3 T1) w3 w' := by rw [HDC.out]; exact l6Drop_at g d0 T1 (.slice a0 c.1.length c0) b0 c lv w3 HOK.out #[.slice a0 c.1.length c0, .slice b0 c.2.length d0, .slice (some ⟨ob, oo, none⟩) p.length c1, .int .i64 (n : Int), .int .i64 ph, .int .i64 fv.1, .int .i64 fv.2.1, .slice ya fv.2.2.length yc, .slice a5 t.length c5] 32 rfl rfl G gT1 c1o
      have HZ : Hid _ := And.intro G (And.intro c1o (And.intro c2o (And.intro o1 (And.intro o5 (And.intro H (And.intro CH (And.intro sb0 (And.intro sb1 (And.intro sb5 (And.intro d01 (And.intro d05 (And.intro d15 (And.intro t1 (And.intro t2 (And.intro t12 (And.intro hS (And.intro hg (And.intro i2 (And.intro i3 (And.intro gT1 (gT2)))))))))))))))))))))
      clear G c1o c2o o1 o5 H CH sb0 sb1 sb5 d01 d05 d15 t1 t2 t12 hS hg i2 i3 gT1 gT2
      go_wp2_with fail
      refine HDR.mono ?_
      clear HDR
      rintro e w4 ⟨rfl, f1, f2, f3⟩
      obtain ⟨G, c1o, c2o, o1, o5, H, CH, sb0, sb1, sb5, d01, d05, d15, t1, t2, t12, hS, hg, i2, i3, gT1, gT2⟩ := HZ.out
      clear HZ
      have z4 := f3.size
      replace G := (f3.block g (by omega) (fun q => gT1 q.1)).trans G
      replace c2o := own_chg c2o f3 (fun k a b => t12 k b.1 a)
      replace o1 := own_chg o1 f3 (fun k a b => d01 k (t1 _ b.1) a)
      replace o5 := own_chg o5 f3 (fun k a b => d05 k (t1 _ b.1) a)
      replace H : Owned wayR (u7w.heap.size) (u8w.heap.size) w4 [.int .i64 fv.1, .int .i64 fv.2.1, .slice ya fv.2.2.length yc] fv := ⟨own_chg H.1 f3 (fun k a b => by have := a.1; have := hS _ (sb0 _ (t1 _ b.1)); omega), by have := H.2; omega⟩
      replace CH := CH.trans (f3.mono fun k q => .inl (sb0 _ (t1 _ q.1)))
      rw [← f2] at c2o
      have OC := own_cache (c := dc.1) (S := fun k => S0 k ∨ (w3.heap.size ≤ k ∧ k < w4.heap.size)) f1 c2o (fun k q => by rcases q with q | q; exact .inl (t1 _ q.1); exact .inr q) (fun k q => .inl (t2 _ q)) (fun k a b => by rcases a with a | a; exact t12 k a.1 b; (have := hS _ (sb0 _ (t2 _ b)); omega))
      rw [f2] at OC
      clear f1 f2 f3 c2o c1o
      obtain ⟨y0, y1, y2, y3, y4, y5, y6, y7, y8⟩ := cells_core G
      obtain ⟨f0_, f1_, f2_, f3_, f4_, f5_, f6_, f7_, f8_⟩ := froz_core G
      have ylt := (Array.getElem?_eq_some_iff.1 G).1
      have HZ : Hid _ := And.intro G (And.intro OC (And.intro o1 (And.intro o5 (And.intro H (And.intro CH (And.intro sb0 (And.intro sb1 (And.intro sb5 (And.intro d01 (And.intro d05 (And.intro d15 (And.intro t1 (And.intro t2 (And.intro t12 (And.intro hS (And.intro hg (And.intro i2 (And.intro i3 (And.intro gT1 (gT2))))))))))))))))))))
      clear G OC o1 o5 H CH sb0 sb1 sb5 d01 d05 d15 t1 t2 t12 hS hg i2 i3 gT1 gT2
      go_upto_region 15 with fail
      clear y0 y1 y2 y3 y4 y5 y6 y7 y8 f0_ f1_ f2_ f3_ f4_ f5_ f6_ f7_ f8_ ylt
      obtain ⟨G, OC, o1, o5, H, CH, sb0, sb1, sb5, d01, d05, d15, t1, t2, t12, hS, hg, i2, i3, gT1, gT2⟩ := HZ.out
      clear HZ
      rw [show w4.setCell ⟨g, 4, none⟩ (.int .i64 1) = (setCs w4 g 4 [.int .i64 1]) from rfl]
      replace G : (setCs w4 g 4 [.int .i64 1]).heap[g]? = some (.cells #[.slice a0 c.1.length c0, .slice b0 c.2.length d0, .slice (some ⟨ob, oo, none⟩) p.length c1, .int .i64 (n : Int), .int .i64 1, .int .i64 fv.1, .int .i64 fv.2.1, .slice ya fv.2.2.length yc, .slice a5 t.length c5] 32 (0, 0)) := row_setCs _ _ G
      replace OC := own_setCs (g := g) (o := 4) (vs := [.int .i64 1]) OC (fun q => by rcases q with q | q; exact hg (sb0 _ q); omega)
      replace o1 := own_setCs (g := g) (o := 4) (vs := [.int .i64 1]) o1 (fun q => hg (sb1 _ q))
      replace o5 := own_setCs (g := g) (o := 4) (vs := [.int .i64 1]) o5 (fun q => hg (sb5 _ q))
      replace H := owned_setCs (g := g) (o := 4) (vs := [.int .i64 1]) H (by omega)
      replace CH := CH.trans ((chg_setCs [.int .i64 1] 4 w4 (g := g)).mono fun k q => .inr q)
      have z5a := Nat.le_of_eq (setCs_size (g := g) [.int .i64 1] 4 w4)
      have z5b := Nat.le_of_eq (setCs_size (g := g) [.int .i64 1] 4 w4).symm
      generalize (setCs w4 g 4 [.int .i64 1]) = w5 at G OC o1 o5 H CH z5a z5b ⊢
      have FO : coreR.own w5 (fun k => S k ∨ (w.heap.size ≤ k ∧ k < w5.heap.size)) [.slice a0 c.1.length c0, .slice b0 c.2.length d0, .slice (some ⟨ob, oo, none⟩) p.length c1, .int .i64 (n : Int), .int .i64 1, .int .i64 fv.1, .int .i64 fv.2.1, .slice ya fv.2.2.length yc, .slice a5 t.length c5] (dc.1, p, (n : Int), 1, fv, t) := own_parts i2 (show In64 1 by constructor <;> decide) OC o1 H.1 o5 (fun k q => by rcases q with q | q; exact .inl (sb0 _ q); exact .inr ⟨by omega, by omega⟩) (fun k q => .inl (sb1 _ q)) (fun k q => .inr ⟨by have := q.1; omega, by have := q.2; have := H.2; omega⟩) (fun k q => .inl (sb5 _ q)) (fun k a b => by rcases a with a | a; exact d01 k a b; (have := hS _ (sb1 _ b); omega)) (fun k a b => by rcases a with a | a; (have := hS _ (sb0 _ a); have := b.1; omega); (have := b.2; omega)) (fun k a b => by rcases a with a | a; exact d05 k a b; (have := hS _ (sb5 _ b); omega)) (fun k a b => by have := hS _ (sb1 _ a); have := b.1; omega) d15 (fun k a b => by have := hS _ (sb5 _ b); have := a.1; omega)
      have HRD := intsR.own_rd (way_ints H.1)
      have gl5 : g < w5.heap.size := by omega
      have hw5 : w.heap.size ≤ w5.heap.size := by omega
      clear OC o1 o5 H sb0 sb1 sb5 d01 d05 d15 t1 t2 t12 hS hg i2 i3 gT1 gT2
      obtain ⟨y0, y1, y2, y3, y4, y5, y6, y7, y8⟩ := cells_core G
      obtain ⟨f0_, f1_, f2_, f3_, f4_, f5_, f6_, f7_, f8_⟩ := froz_core G
      have ylt := (Array.getElem?_eq_some_iff.1 G).1
      have HZ : Hid _ := And.intro G (And.intro FO (And.intro CH (HRD)))
      clear G FO CH HRD
      go_upto_region 16 with fail
      clear y0 y1 y2 y3 y4 y5 y6 y7 y8 f0_ f1_ f2_ f3_ f4_ f5_ f6_ f7_ f8_ ylt
      obtain ⟨G, FO, CH, HRD⟩ := HZ.out
      clear HZ
      have M := heap_at w5 (.cells #[.int .i64 0, .int .i64 id, .int .i64 4, .int .i64 3, .int .i64 lv, .slice none 0 0, .int .i64 0] 50)
      have b6 : Below w5.heap.size w5 (w5.alloc (.cells #[.int .i64 0, .int .i64 id, .int .i64 4, .int .i64 3, .int .i64 lv, .slice none 0 0, .int .i64 0] 50)) := box_below w5 _
      have z6 := alloc_len w5 (.cells #[.int .i64 0, .int .i64 id, .int .i64 4, .int .i64 3, .int .i64 lv, .slice none 0 0, .int .i64 0] 50)
      generalize w5.alloc (.cells #[.int .i64 0, .int .i64 id, .int .i64 4, .int .i64 3, .int .i64 lv, .slice none 0 0, .int .i64 0] 50) = w6 at M b6 z6 ⊢
      have z6a := Nat.le_of_eq z6
      have z6b := Nat.le_of_eq z6.symm
      clear z6
      replace G := row_keep b6 G
      replace FO := coreR.own_keep FO (keeps_below b6)
      replace CH := CH.trans (chg_below b6)
      replace HRD := rd_next HRD b6
      clear b6
      by_cases h2 : 2 ≤ fv.2.1
      · have hem := HEM.out
        rw [if_pos h2] at hem
        obtain ⟨y0, y1, y2, y3, y4, y5, y6, y7, y8⟩ := cells_core G
        obtain ⟨f0_, f1_, f2_, f3_, f4_, f5_, f6_, f7_, f8_⟩ := froz_core G
        have ylt := (Array.getElem?_eq_some_iff.1 G).1
        obtain ⟨m0, m1, m2, m3, m4, m5, m6⟩ := cells_7 M
        obtain ⟨mf0, mf1, mf2, mf3, mf4, mf5, mf6⟩ := froz_7 M
        have mlt := (Array.getElem?_eq_some_iff.1 M).1
        have HZ : Hid _ := And.intro G (And.intro FO (And.intro CH (And.intro HRD (M))))
        clear G FO CH HRD M
        go_wp2_with fail
        clear y0 y1 y2 y3 y4 y5 y6 y7 y8 f0_ f1_ f2_ f3_ f4_ f5_ f6_ f7_ f8_ ylt m0 m1 m2 m3 m4 m5 m6 mf0 mf1 mf2 mf3 mf4 mf5 mf6 mlt
        obtain ⟨G, FO, CH, HRD, M⟩ := HZ.out
        clear HZ
        obtain ⟨ra, rc, re, -, -, rq2⟩ := HRD
        simp only [List.cons.injEq, Value.slice.injEq, and_true, true_and] at re
        obtain ⟨rfl, rfl⟩ := re
        refine (l1Copy_rep ya fv.2.2 yc _ rq2 (by have := HFL.out; omega)).mono ?_
        rintro e w7 ⟨vt, rfl, mm⟩
        obtain ⟨ta, tc, rt, -, -, -⟩ := intsR.own_rd mm.1
        simp only [List.cons.injEq, and_true] at rt
        obtain rfl := rt
        have b7 := mm.2
        have DD := mm.1
        have z7 := b7.size
        replace G := row_keep b7 G
        replace FO := coreR.own_keep FO (keeps_below b7)
        replace CH := CH.trans (chg_below b7)
        replace M := row_keep b7 M
        clear mm b7 rq2
        obtain ⟨m0, m1, m2, m3, m4, m5, m6⟩ := cells_7 M
        obtain ⟨mf0, mf1, mf2, mf3, mf4, mf5, mf6⟩ := froz_7 M
        have mlt := (Array.getElem?_eq_some_iff.1 M).1
        have HZ : Hid _ := And.intro G (And.intro FO (And.intro CH (And.intro M (DD))))
        clear G FO CH M DD
        go_wp2
        clear m0 m1 m2 m3 m4 m5 m6 mf0 mf1 mf2 mf3 mf4 mf5 mf6 mlt
        obtain ⟨G, FO, CH, M, DD⟩ := HZ.out
        clear HZ
        have zz9 : (setCs w7 w5.heap.size 5 [.slice ta fv.2.2.length tc, .int .i64 1]).heap.size = w7.heap.size := setCs_size _ _ _
        have bb9 := box_below (setCs w7 w5.heap.size 5 [.slice ta fv.2.2.length tc, .int .i64 1]) (.cells #[.int .i64 0, .int .i64 id, .int .i64 4, .int .i64 3, .int .i64 lv, .slice ta fv.2.2.length tc, .int .i64 1] 50)
        have G9 := row_keep bb9 (row_otherCs (g := w5.heap.size) (o := 5) (vs := [.slice ta fv.2.2.length tc, .int .i64 1]) G (by omega))
        have FO9 := coreR.own_mono (coreR.own_keep (own_setCs (g := w5.heap.size) (o := 5) (vs := [.slice ta fv.2.2.length tc, .int .i64 1]) FO (fun q => by rcases q with q | q; (have := HSS.out.1 _ q; omega); omega)) (keeps_below bb9)) (T := fun k => S k ∨ (w.heap.size ≤ k ∧ k < ((setCs w7 w5.heap.size 5 [.slice ta fv.2.2.length tc, .int .i64 1]).alloc (.cells #[.int .i64 0, .int .i64 id, .int .i64 4, .int .i64 3, .int .i64 lv, .slice ta fv.2.2.length tc, .int .i64 1] 50)).heap.size)) (fun k q => by rw [alloc_len, zz9]; rcases q with q | q; exact .inl q; exact .inr ⟨q.1, by omega⟩)
        have RM := own_one (e := 50) (R := msgR) (cs := [.int .i64 0, .int .i64 id, .int .i64 4, .int .i64 3, .int .i64 lv, .slice ta fv.2.2.length tc, .int .i64 1]) (by decide) (own_msg (f0 := 0) (f1 := id) (f2 := 4) (f3 := 3) (f4 := lv) (f6 := 1) (by constructor <;> decide) hid (by constructor <;> decide) (by constructor <;> decide) hl6 (by constructor <;> decide) (own_setCs (g := w5.heap.size) (o := 5) (vs := [.slice ta fv.2.2.length tc, .int .i64 1]) DD (fun q => by have := q.1; omega))) (fun k q => by rw [zz9]; exact q.2)
        rw [zz9] at RM
        replace RM := msgsR.own_mono (T := rng w.heap.size ((setCs w7 w5.heap.size 5 [.slice ta fv.2.2.length tc, .int .i64 1]).alloc (.cells #[.int .i64 0, .int .i64 id, .int .i64 4, .int .i64 3, .int .i64 lv, .slice ta fv.2.2.length tc, .int .i64 1] 50)).heap.size) RM (fun k q => by refine ⟨?_, ?_⟩; (rcases q with q | q; (have := q.1; omega); omega); (rw [alloc_len, zz9]; rcases q with q | q; (have := q.2; omega); omega))
        have CH9 : Chg (fun k => S k ∨ k = g) w ((setCs w7 w5.heap.size 5 [.slice ta fv.2.2.length tc, .int .i64 1]).alloc (.cells #[.int .i64 0, .int .i64 id, .int .i64 4, .int .i64 3, .int .i64 lv, .slice ta fv.2.2.length tc, .int .i64 1] 50)) := (chg_setNew (g := w5.heap.size) (o := 5) (vs := [.slice ta fv.2.2.length tc, .int .i64 1]) CH (by omega)).trans (chg_below bb9)
        simp only [setCs_cons, setCs_nil, Nat.reduceAdd] at G9 FO9 RM CH9
        clear G FO CH M DD bb9 zz9
        refine bodyPost_ret (v := .tuple #[.slice (some ⟨w7.heap.size, 0, none⟩) 1 1, .int .i64 2]) (by simp [results, Tryz.results56, go_sem]) rfl ⟨[.slice a0 c.1.length c0, .slice b0 c.2.length d0, .slice (some ⟨ob, oo, none⟩) p.length c1, .int .i64 (n : Int), .int .i64 1, .int .i64 fv.1, .int .i64 fv.2.1, .slice ya fv.2.2.length yc, .slice a5 t.length c5], .slice (some ⟨w7.heap.size, 0, none⟩) 1 1, rfl, FO9, ?_, G9, CH9⟩
        exact RM
      · have hem := HEM.out
        rw [if_neg h2] at hem
        obtain ⟨y0, y1, y2, y3, y4, y5, y6, y7, y8⟩ := cells_core G
        obtain ⟨f0_, f1_, f2_, f3_, f4_, f5_, f6_, f7_, f8_⟩ := froz_core G
        have ylt := (Array.getElem?_eq_some_iff.1 G).1
        obtain ⟨m0, m1, m2, m3, m4, m5, m6⟩ := cells_7 M
        obtain ⟨mf0, mf1, mf2, mf3, mf4, mf5, mf6⟩ := froz_7 M
        have mlt := (Array.getElem?_eq_some_iff.1 M).1
        have HZ : Hid _ := And.intro G (And.intro FO (And.intro CH (And.intro HRD (M))))
        clear G FO CH HRD M
        go_wp2
        clear y0 y1 y2 y3 y4 y5 y6 y7 y8 f0_ f1_ f2_ f3_ f4_ f5_ f6_ f7_ f8_ ylt m0 m1 m2 m3 m4 m5 m6 mf0 mf1 mf2 mf3 mf4 mf5 mf6 mlt
        obtain ⟨G, FO, CH, HRD, M⟩ := HZ.out
        clear HZ
        have bb9 := box_below w6 (.cells #[.int .i64 0, .int .i64 id, .int .i64 4, .int .i64 3, .int .i64 lv, .slice none 0 0, .int .i64 0] 50)
        have RM := msgsR.own_mono (T := rng w.heap.size (w6.alloc (.cells #[.int .i64 0, .int .i64 id, .int .i64 4, .int .i64 3, .int .i64 lv, .slice none 0 0, .int .i64 0] 50)).heap.size) (own_one (w := w6) (e := 50) (R := msgR) (cs := [.int .i64 0, .int .i64 id, .int .i64 4, .int .i64 3, .int .i64 lv, .slice none 0 0, .int .i64 0]) (by decide) (own_msg (S := fun _ => False) (f0 := 0) (f1 := id) (f2 := 4) (f3 := 3) (f4 := lv) (f6 := 0) (by constructor <;> decide) hid (by constructor <;> decide) (by constructor <;> decide) hl6 (by constructor <;> decide) (own_zero12 _ _)) (fun k q => q.elim)) (fun k q => by rcases q with q | q; exact q.elim; exact ⟨by omega, by rw [alloc_len]; omega⟩)
        have FO9 := coreR.own_mono (coreR.own_keep FO (keeps_below bb9)) (T := fun k => S k ∨ (w.heap.size ≤ k ∧ k < (w6.alloc (.cells #[.int .i64 0, .int .i64 id, .int .i64 4, .int .i64 3, .int .i64 lv, .slice none 0 0, .int .i64 0] 50)).heap.size)) (fun k q => by rw [alloc_len]; rcases q with q | q; exact .inl q; exact .inr ⟨q.1, by omega⟩)
        refine bodyPost_ret (v := .tuple #[.slice (some ⟨w6.heap.size, 0, none⟩) 1 1, .int .i64 2]) (by simp [results, Tryz.results56, go_sem]) rfl ⟨[.slice a0 c.1.length c0, .slice b0 c.2.length d0, .slice (some ⟨ob, oo, none⟩) p.length c1, .int .i64 (n : Int), .int .i64 1, .int .i64 fv.1, .int .i64 fv.2.1, .slice ya fv.2.2.length yc, .slice a5 t.length c5], .slice (some ⟨w6.heap.size, 0, none⟩) 1 1, rfl, FO9, ?_, row_keep bb9 G, CH.trans (chg_below bb9)⟩
        exact RM
end Go.Proofs.YthbclkpmgcfdnaaGreatDoor
