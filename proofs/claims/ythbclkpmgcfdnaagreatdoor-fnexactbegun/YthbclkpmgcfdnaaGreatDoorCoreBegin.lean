
/- CoreBegin. -/
import Derived.Test.YthbclkpmgcfdnaaGreatDoorCoreEvict
/- A core begins, of the program. Conditions: a right core that is idle and has an op left. -/
namespace Go.Proofs.YthbclkpmgcfdnaaGreatDoor
open Go.ChangeShapes Go.WideShapes Go.ChangeAt Go.RowKit
set_option linter.unusedVariables false
/- A way in a box of its own, wherever that lies, and the way's memory beside it. -/
def WayP (V : World) (u : WayD) (q : Value) (wx : World) : Prop := ∃ vb lo hi a c, q = .pointer (some ⟨vb, 0, none⟩) ∧ V.heap.size ≤ vb ∧ V.heap.size ≤ lo ∧ lo ≤ hi ∧ (vb < lo ∨ hi ≤ vb) ∧ vb < wx.heap.size ∧
  wx.heap[vb]? = some (.cells #[.int .i64 u.1, .int .i64 u.2.1, .slice a u.2.2.length c] 30 (0, 0)) ∧ Owned wayR lo hi wx [.int .i64 u.1, .int .i64 u.2.1, .slice a u.2.2.length c] u ∧ Below V.heap.size V wx
theorem wayEndA {V cur wf : World} {a : Option Addr} {c : Nat} {u : WayD} (mm : MadeR wayR cur wf [.int .i64 u.1, .int .i64 u.2.1, .slice a u.2.2.length c] u) (hc : V.heap.size ≤ cur.heap.size) (hb : Below V.heap.size V wf) :
    WayP V u (.pointer (some ⟨wf.heap.size, 0, none⟩)) (wf.alloc (.cells #[.int .i64 u.1, .int .i64 u.2.1, .slice a u.2.2.length c] 30)) :=
  ⟨wf.heap.size, cur.heap.size, wf.heap.size, a, c, rfl, hb.size, hc, mm.2.size, .inr (Nat.le_refl _), by simp, heap_at wf _, owned_next (owned_made mm) (box_below wf _), below_step hb (box_below wf _)⟩
theorem wayEndB {V cur wf : World} {a : Option Addr} {c zb : Nat} {u : WayD} {x0 x1 x2 : Value} (z : wf.heap[zb]? = some (.cells #[x0, x1, x2] 30 (0, 0))) (mm : MadeR wayR cur wf [.int .i64 u.1, .int .i64 u.2.1, .slice a u.2.2.length c] u) (h1 : V.heap.size ≤ zb) (h2 : zb < cur.heap.size) (hc : V.heap.size ≤ cur.heap.size) (hb : Below V.heap.size V wf) :
    WayP V u (.pointer (some ⟨zb, 0, none⟩)) (((wf.setCell ⟨zb, 0, none⟩ (.int .i64 u.1)).setCell ⟨zb, 1, none⟩ (.int .i64 u.2.1)).setCell ⟨zb, 2, none⟩ (.slice a u.2.2.length c)) := by
  have lt := (Array.getElem?_eq_some_iff.1 z).1
  exact ⟨zb, cur.heap.size, wf.heap.size, a, c, rfl, h1, hc, mm.2.size, .inl h2, by simpa using lt, row_setCs (g := zb) [.int .i64 u.1, .int .i64 u.2.1, .slice a u.2.2.length c] 0 z, owned_setCs (g := zb) (o := 0) (vs := [.int .i64 u.1, .int .i64 u.2.1, .slice a u.2.2.length c]) (owned_made mm) (.inl h2), below_setCs0 (g := zb) (o := 0) (vs := [.int .i64 u.1, .int .i64 u.2.1, .slice a u.2.2.length c]) hb h1⟩
/- A letter without data in a box of its own, wherever that lies. -/
def MsgP (V : World) (a b c d e : Int) (q : Value) (wx : World) : Prop := ∃ vb, q = .pointer (some ⟨vb, 0, none⟩) ∧ V.heap.size ≤ vb ∧ vb < wx.heap.size ∧
  wx.heap[vb]? = some (.cells #[.int .i64 a, .int .i64 b, .int .i64 c, .int .i64 d, .int .i64 e, .slice none 0 0, .int .i64 0] 50 (0, 0)) ∧ Below V.heap.size V wx
theorem msgEndA {V wf : World} {a b c d e : Int} (hb : Below V.heap.size V wf) :
    MsgP V a b c d e (.pointer (some ⟨wf.heap.size, 0, none⟩)) (wf.alloc (.cells #[.int .i64 a, .int .i64 b, .int .i64 c, .int .i64 d, .int .i64 e, .slice none 0 0, .int .i64 0] 50)) :=
  ⟨wf.heap.size, rfl, hb.size, by simp, heap_at wf _, below_step hb (box_below wf _)⟩
theorem msgEndB {V wf : World} {a b c d e : Int} {zb : Nat} {x0 x1 x2 x3 x4 x5 x6 : Value} (z : wf.heap[zb]? = some (.cells #[x0, x1, x2, x3, x4, x5, x6] 50 (0, 0))) (h1 : V.heap.size ≤ zb) (hb : Below V.heap.size V wf) :
    MsgP V a b c d e (.pointer (some ⟨zb, 0, none⟩)) (((((((wf.setCell ⟨zb, 0, none⟩ (.int .i64 a)).setCell ⟨zb, 1, none⟩ (.int .i64 b)).setCell ⟨zb, 2, none⟩ (.int .i64 c)).setCell ⟨zb, 3, none⟩ (.int .i64 d)).setCell ⟨zb, 4, none⟩ (.int .i64 e)).setCell ⟨zb, 5, none⟩ (.slice none 0 0)).setCell ⟨zb, 6, none⟩ (.int .i64 0)) := by
  have lt := (Array.getElem?_eq_some_iff.1 z).1
  exact ⟨zb, rfl, h1, by simpa using lt, put_7 z, below_setC (below_setC (below_setC (below_setC (below_setC (below_setC (below_setC hb h1) h1) h1) h1) h1) h1) h1⟩
/- A core, and no letter or one. -/
theorem core_none {w w' : World} {T : Foot} {ds : List Value} {x : CoreD} (h : coreR.own w' T ds x) (hT : ∀ k, T k → k < w'.heap.size) :
    (prodR coreR msgsR).own (w'.alloc (.cells #[] 50)) (fun k => T k ∨ (w'.heap.size ≤ k ∧ k < (w'.alloc (.cells #[] 50)).heap.size)) (ds ++ [.slice (some ⟨w'.heap.size, 0, none⟩) 0 0]) (x, []) := by
  have al := alloc_len w' (.cells #[] 50)
  exact pair_own (coreR.own_keep h (keeps_below (box_below w' _))) (own_nil w') (fun k hk => .inl hk) (fun k hk => .inr ⟨by omega, by omega⟩) (fun k ha hb => by have := hT k ha; omega)
theorem core_one {w' : World} {T : Foot} {ds cm : List Value} {x : CoreD} {m : MsgD} (h : coreR.own w' T ds x) (hT : ∀ k, T k → k < w'.heap.size) (hm : msgR.own w' (fun _ => False) cm m) :
    (prodR coreR msgsR).own (w'.alloc (.cells cm.toArray 50)) (fun k => T k ∨ (w'.heap.size ≤ k ∧ k < (w'.alloc (.cells cm.toArray 50)).heap.size)) (ds ++ [.slice (some ⟨w'.heap.size, 0, none⟩) 1 1]) (x, [m]) := by
  have al := alloc_len w' (.cells cm.toArray 50)
  exact pair_own (coreR.own_keep h (keeps_below (box_below w' _))) (own_one (by decide) hm (fun k hk => hk.elim)) (fun k hk => .inl hk) (fun k hk => .inr (by rcases hk with hk | hk; exact hk.elim; omega)) (fun k ha hb => by have := hT k ha; rcases hb with hb | hb; exact hb; omega)
theorem chg_drew {S : Foot} {w W : World} (h : Chg S w W) : Chg S w W.drew := ⟨h.os, h.tape, h.output, h.size, h.block⟩
theorem own_phase {w : World} {S : Foot} {v0 v1 v2 v5 v6 v7 v8 : Value} {c : CacheD} {p : List OpD} {a ph ph' : Int} {u : WayD} {t : List Int} (h : coreR.own w S [v0, v1, v2, .int .i64 a, .int .i64 ph, v5, v6, v7, v8] (c, p, a, ph, u, t)) (hi : In64 ph') : coreR.own w S [v0, v1, v2, .int .i64 a, .int .i64 ph', v5, v6, v7, v8] (c, p, a, ph', u, t) := by
  obtain ⟨u0, u1, u2, u5, u6, u7, u8, S0, S1, S4, S5, e, i2, i3, o0, o1, o4, o5, sb0, sb1, sb4, sb5, d01, d04, d05, d14, d15, d45⟩ := core_own h
  simp only [List.cons.injEq, and_true] at e
  obtain ⟨rfl, rfl, rfl, -, -, rfl, rfl, rfl, rfl⟩ := e
  exact own_core (x := (c, p, a, ph', u, t)) i2 hi o0 o1 o4 o5 sb0 sb1 sb4 sb5 d01 d04 d05 d14 d15 d45
theorem do_some {x : CoreD} {j : Nat} (hP : CoreP (toS x)) (h1 : x.2.2.1 < x.2.1.length) (hj : atC x.1 (opLine (opAt (toS x))) = some j) (ha : asksI (wayOf x.1 (opLine (opAt (toS x)))).2.1 (opWr (opAt (toS x))) = 0) :
    doS (toS x) (wayOf x.1 (opLine (opAt (toS x)))) = some (toS (didX x (wayOf x.1 (opLine (opAt (toS x)))))) := by
  have hok : okc x.1 := hP.ok
  have ho := hP.ops _ (op_mem hP.at0 h1)
  obtain ⟨f0, f1, f2, f3, f4, f5, f6⟩ := full_st hok hj
  have hroom : putNo x.1 (opLine (opAt (toS x))) ≠ none := room_at (.inl ⟨j, hj⟩)
  have hfull : fullB isL (didU (opAt (toS x)) (wayOf x.1 (opLine (opAt (toS x))))) = true := by
    unfold didU
    simp only [fullB, decide_eq_true_eq]
    refine ⟨by omega, ?_, lineDo_ok ho f6⟩
    split <;> omega
  obtain ⟨cc, hf⟩ := fill_room (c := x.1) hfull (by show putNo x.1 (wayOf x.1 (opLine (opAt (toS x)))).1 ≠ none; rw [f2]; exact hroom)
  have hcc : cc = (fillI x.1 (didU (opAt (toS x)) (wayOf x.1 (opLine (opAt (toS x)))))).1 := by
    rw [fill_of hok] at hf
    split at hf
    · cases hf; rfl
    · cases hf
  unfold didU at hf
  unfold doS
  dsimp only
  rw [if_pos ha, hf, hcc]
  rfl
theorem not_none {x : CoreD} (h0 : x.2.2.2.1 = 0) (h1 : x.2.2.1 < x.2.1.length) : ¬ ((toS x).phase ≠ 0 ∨ (toS x).at_ = (toS x).prog.length) := by
  rintro (h | h)
  · exact h h0
  · have : x.2.2.1 = (x.2.1.length : Int) := h
    omega
theorem begin_done {x : CoreD} {id : Int} (h : coreB x = true) (h0 : x.2.2.2.1 = 0) (h1 : x.2.2.1 < x.2.1.length) (ha : asksI (wayOf x.1 (opLine (opAt (toS x)))).2.1 (opWr (opAt (toS x))) = 0) :
    fullB isL (wayOf x.1 (opLine (opAt (toS x)))) = true ∧ beginS (toS x) id = (toS (didX x (wayOf x.1 (opLine (opAt (toS x))))), [], 1) := by
  have hP := core_p h
  have hok : okc x.1 := hP.ok
  rcases way_or hok (opLine (opAt (toS x))) with ⟨hn, hw⟩ | ⟨⟨j, hj⟩, hk0, hk1, hf⟩
  · rw [hw] at ha
    cases hwr : opWr (opAt (toS x)) <;> rw [hwr] at ha <;> exact absurd ha (by decide)
  refine ⟨hf, ?_⟩
  unfold beginS
  rw [if_neg (not_none h0 h1)]
  dsimp only
  rw [if_pos ha, do_some hP h1 hj ha]
  rfl
theorem leaves_neg {c : CacheD} {k : Int} (h : putNo c k ≠ none) : leavesS c k = -1 := by
  unfold leavesS
  cases hp : putNo c k with
  | none => exact absurd hp h
  | some _ => rfl
theorem begin_evict {x : CoreD} {id : Int} (h : coreB x = true) (h0 : x.2.2.2.1 = 0) (h1 : x.2.2.1 < x.2.1.length) (ha : ¬ asksI (wayOf x.1 (opLine (opAt (toS x)))).2.1 (opWr (opAt (toS x))) = 0) (hl : ¬ leavesI x.1 (opLine (opAt (toS x))) = -1) :
    In64 (leavesI x.1 (opLine (opAt (toS x)))) ∧ fullB isL (wayOf x.1 (leavesI x.1 (opLine (opAt (toS x))))) = true ∧ beginS (toS x) id = (toS (evX x (leavesI x.1 (opLine (opAt (toS x))))), [evM x id (leavesI x.1 (opLine (opAt (toS x))))], 2) := by
  have hP := core_p h
  have hok : okc x.1 := hP.ok
  have ho := hP.ops _ (op_mem hP.at0 h1)
  have hln := op_line ho
  have hb : betw (opLine (opAt (toS x))) 0 15 = true := by simp [betw]; omega
  rw [leaves_of hok hb] at hl ⊢
  rcases leaves_way hok hln.1 with ⟨w1, w2⟩ | ⟨w1, w2, w3, ⟨j, w4⟩, w5⟩
  · exact absurd (leaves_neg w2) hl
  · obtain ⟨f0, f1, f2, f3, f4, f5, f6⟩ := full_st hok w4
    refine ⟨by constructor <;> omega, f3, ?_⟩
    unfold beginS evX evM
    rw [if_neg (not_none h0 h1)]
    dsimp only
    rw [if_neg ha, if_pos w1, find_of hok, drop_of hok]
theorem asks_flip {s : Int} {b : Bool} (h : ¬ asksI s b = 0) (hs : betw s 0 3 = true) : (if asksI s b = 2 then (2 : Int) else 1) = (if asksI s b = 1 then 1 else 2) := by
  have h4 : s = 0 ∨ s = 1 ∨ s = 2 ∨ s = 3 := by simp [betw] at hs; omega
  rcases h4 with rfl | rfl | rfl | rfl <;> cases b <;> revert h <;> decide
theorem begin_ask {x : CoreD} {id : Int} (h : coreB x = true) (h0 : x.2.2.2.1 = 0) (h1 : x.2.2.1 < x.2.1.length) (ha : ¬ asksI (wayOf x.1 (opLine (opAt (toS x)))).2.1 (opWr (opAt (toS x))) = 0) (hl : leavesI x.1 (opLine (opAt (toS x))) = -1) :
    beginS (toS x) id = (toS (x.1, x.2.1, x.2.2.1, 2, x.2.2.2.2.1, x.2.2.2.2.2), [msg 0 id 4 (if asksI (wayOf x.1 (opLine (opAt (toS x)))).2.1 (opWr (opAt (toS x))) = 1 then 1 else 2) (opLine (opAt (toS x))) [] 0], 3) := by
  have hP := core_p h
  have hok : okc x.1 := hP.ok
  have ho := hP.ops _ (op_mem hP.at0 h1)
  have hln := op_line ho
  have hb : betw (opLine (opAt (toS x))) 0 15 = true := by simp [betw]; omega
  rw [leaves_of hok hb] at hl
  have hs : betw (wayOf x.1 (opLine (opAt (toS x)))).2.1 0 3 = true := by have := (way_st hok (opLine (opAt (toS x)))).1; simp [betw]; omega
  rw [← asks_flip ha hs]
  unfold beginS
  rw [if_neg (not_none h0 h1)]
  dsimp only
  rw [if_neg ha, if_neg (by show ¬ 0 ≤ leavesS x.1 (opLine (opAt (toS x))); omega)]
set_option maxHeartbeats 16000000 in
set_option maxRecDepth 20000 in
theorem implBegin_u (S : Foot) (cs : List Value) (x : CoreD) (id : Int) (w : World) (hh : Hold w) (ho : coreR.own w S cs x) (hS : ∀ k, S k → k < w.heap.size) (hk : coreB x = true) (hid : In64 id) (h0 : x.2.2.2.1 = 0) (h1 : x.2.2.1 < x.2.1.length) :
    Calls Tryz.prog 45 #[aggV cs, .int .i64 id] w fun e w' => ∃ ds ms, e = .returned (.tuple #[aggV ds, ms, .int .i64 (beginS (toS x) id).2.2]) ∧ ds.length = coreR.size ∧ (prodR coreR msgsR).own w' (fun k => S k ∨ (w.heap.size ≤ k ∧ k < w'.heap.size)) (ds ++ [ms]) (ofS (beginS (toS x) id).1, (beginS (toS x) id).2.1) ∧ Chg S w w' := by
  have hp := core_p hk
  have hia := i64_at hk
  have hat0 : 0 ≤ x.2.2.1 := hp.at0
  have hok : OkC isL treeB x.1 := hp.ok
  have hoo : opOkD (opAt (toS x)) = true := hp.ops _ (op_mem hp.at0 h1)
  have KO : Hid (∀ W, Below w.heap.size w W → Calls Tryz.prog 108 #[aggV cs] W fun e w' => e = .returned (.agg #[.int .i64 (opAt (toS x)).1, .int .i64 (opAt (toS x)).2.1, .int .i64 (opAt (toS x)).2.2.1, .int .i64 (opAt (toS x)).2.2.2]) ∧ Below W.heap.size W w') := fun W hb => implOp_u cs x W (rd_next (coreR.own_rd ho) hb) hat0 h1
  have HBD : Hid (asksI (wayOf x.1 (opLine (opAt (toS x)))).2.1 (opWr (opAt (toS x))) = 0 → _) := fun e => begin_done (id := id) hk h0 h1 e
  have HBE : Hid (¬ asksI (wayOf x.1 (opLine (opAt (toS x)))).2.1 (opWr (opAt (toS x))) = 0 → ¬ leavesI x.1 (opLine (opAt (toS x))) = -1 → _) := fun e1 e2 => begin_evict (id := id) hk h0 h1 e1 e2
  have HBA : Hid (¬ asksI (wayOf x.1 (opLine (opAt (toS x)))).2.1 (opWr (opAt (toS x))) = 0 → leavesI x.1 (opLine (opAt (toS x))) = -1 → _) := fun e1 e2 => begin_ask (id := id) hk h0 h1 e1 e2
  have HDI : Hid (∀ (us : List Value) (u : WayD) (W : World), Below w.heap.size w W → wayR.rd W us u → fullB isL u = true → asksI u.2.1 (opWr (opAt (toS x))) = 0 → Calls Tryz.prog 113 #[aggV cs, aggV us] W fun e w' => ∃ ds, e = .returned (aggV ds) ∧ coreR.own w' (fun k => S k ∨ (W.heap.size ≤ k ∧ k < w'.heap.size)) ds (didX x u) ∧ Chg S W w') := fun us u W hb hu hf ha => implDid_u S cs us x u W (coreR.own_keep ho (keeps_below hb)) (fun k hk' => Nat.lt_of_lt_of_le (hS k hk') hb.size) hu hk h1 hf ha
  have HEV : Hid (∀ (k : Int) (W : World), Below w.heap.size w W → In64 k → fullB isL (wayOf x.1 k) = true → Calls Tryz.prog 115 #[aggV cs, .int .i64 id, .int .i64 k] W fun e w' => ∃ ds ms, e = .returned (.tuple #[aggV ds, ms, .int .i64 2]) ∧ ds.length = coreR.size ∧ (prodR coreR msgsR).own w' (fun k => S k ∨ (W.heap.size ≤ k ∧ k < w'.heap.size)) (ds ++ [ms]) (evX x k, [evM x id k]) ∧ Below W.heap.size W w') := fun k W hb hk6 hf => implEvict_u S cs x id k W (hh.to hb) (coreR.own_keep ho (keeps_below hb)) (fun j hj => Nat.lt_of_lt_of_le (hS j hj) hb.size) hk hid hk6 hf
  have HOW : Hid (∀ W, Below w.heap.size w W → coreR.own W S cs x) := fun W hb => coreR.own_keep ho (keeps_below hb)
  have HSS : Hid (∀ k, S k → k < w.heap.size) := hS
  have HL : Hid (∀ W, Below w.heap.size w W → Calls Tryz.prog 114 #[.agg (cs.take 2).toArray, .int .i64 (opLine (opAt (toS x)))] W fun e w' => e = .returned (.int .i64 (leavesI x.1 (opLine (opAt (toS x))))) ∧ Below W.heap.size W w') := by
    obtain ⟨v0, v1, v2, v5, v6, v7, v8, rfl, r0, -⟩ := core_rd (coreR.own_rd ho)
    exact fun W hb => implLeaves_u [v0, v1] x.1 _ W (rd_next r0 hb)
  have HF : Hid (∀ W, Below w.heap.size w W → Calls Tryz.prog 109 #[.agg (cs.take 2).toArray, .int .i64 (opLine (opAt (toS x)))] W fun e w' => ∃ us, e = .returned (.tuple #[aggV us, .int .i64 (findI x.1 (opLine (opAt (toS x)))).2]) ∧ MadeR wayR W w' us (wayOf x.1 (opLine (opAt (toS x))))) := by
    obtain ⟨v0, v1, v2, v5, v6, v7, v8, rfl, r0, -⟩ := core_rd (coreR.own_rd ho)
    intro W hb
    rw [← find_of hok]
    exact implFindW_u [v0, v1] x.1 _ W (rd_next r0 hb)
  obtain ⟨o, hoe⟩ : ∃ o, o = opAt (toS x) := ⟨_, rfl⟩
  rw [← hoe] at KO hoo HBD HBE HBA HDI HL HF
  obtain ⟨kl, hkl⟩ : ∃ kl, kl = opLine o := ⟨_, rfl⟩
  rw [← hkl] at HBD HBE HBA HL HF
  have HLN : Hid (∀ W, Calls Tryz.prog 110 #[.agg #[.int .i64 o.1, .int .i64 o.2.1, .int .i64 o.2.2.1, .int .i64 o.2.2.2]] W fun e w' => e = .returned (.int .i64 kl) ∧ Below W.heap.size W w') := fun W => by rw [hkl]; exact implLine_u o W hoo
  have HWR : Hid (∀ W, Calls Tryz.prog 112 #[.agg #[.int .i64 o.1, .int .i64 o.2.1, .int .i64 o.2.2.1, .int .i64 o.2.2.2]] W fun e w' => e = .returned (.bool (opWr o)) ∧ Below W.heap.size W w') := fun W => implWrites_u o W
  have hk6 : In64 kl := by have := addr_in hoo; rw [hkl]; unfold opLine; constructor <;> omega
  obtain ⟨b9, hb9⟩ : ∃ b9, b9 = beginS (toS x) id := ⟨_, rfl⟩
  rw [← hb9] at HBD HBE HBA ⊢
  obtain ⟨fw, hfw⟩ : ∃ fw, fw = wayOf x.1 kl := ⟨_, rfl⟩
  rw [← hfw] at HBD HBE HBA HF
  obtain ⟨ow, how⟩ : ∃ ow, ow = opWr o := ⟨_, rfl⟩
  rw [← how] at HBD HBE HBA HDI HWR
  obtain ⟨lv, hlv⟩ : ∃ lv, lv = leavesI x.1 kl := ⟨_, rfl⟩
  rw [← hlv] at HBE HBA HL
  have HAS : Hid (∀ W, Below w.heap.size w W → Calls Tryz.prog 111 #[.int .i64 fw.2.1, .bool ow] W fun e w' => e = .returned (.int .i64 (asksI fw.2.1 ow)) ∧ Below W.heap.size W w') := fun W hb => (implAsks_any fw.2.1 ow W (hh.to hb)).mono fun e w' ⟨q, r⟩ => ⟨q, be_eq r⟩
  obtain ⟨ak, hak⟩ : ∃ ak, ak = asksI fw.2.1 ow := ⟨_, rfl⟩
  rw [← hak] at HBD HBE HBA HAS
  obtain ⟨rq, hrq⟩ : ∃ rq : Int, rq = (if ak = 1 then 1 else 2) := ⟨_, rfl⟩
  rw [← hrq] at HBA
  have hrq64 : In64 rq := by rw [hrq]; split <;> constructor <;> decide
  have HRQ : Hid (∀ W, Calls Tryz.prog 116 #[.int .i64 ak] W fun e w' => e = .returned (.int .i64 rq) ∧ Below W.heap.size W w') := fun W => by rw [hrq]; exact (implRequest_u ak W).mono fun e w' ⟨q, r⟩ => ⟨q, be_eq r⟩
  have HAK : Hid (ak = asksI fw.2.1 ow) := hak
  have HFW : Hid (fw = wayOf x.1 kl) := hfw
  obtain ⟨fn, hfn⟩ : ∃ fn, fn = (findI x.1 kl).2 := ⟨_, rfl⟩
  rw [← hfn] at HF
  obtain ⟨v0, v1, v2, v5, v6, v7, v8, rfl, r0, r1, i2, i3, r4, r5⟩ := core_rd (coreR.own_rd ho)
  obtain ⟨a0, c0, b0, d0, e0, -⟩ := cache_rd r0
  simp only [List.cons.injEq, and_true] at e0
  obtain ⟨rfl, rfl⟩ := e0
  obtain ⟨a1, c1, e1, -⟩ := r1
  simp only [List.cons.injEq, and_true] at e1
  obtain rfl := e1
  obtain ⟨a4, c4, e4, -⟩ := way_rd r4
  simp only [List.cons.injEq, and_true] at e4
  obtain ⟨rfl, rfl, rfl⟩ := e4
  obtain ⟨a5, c5, e5, -⟩ := r5
  simp only [List.cons.injEq, and_true] at e5
  obtain rfl := e5
  clear hrq hoe hkl hb9 hfw how hlv hak hfn r0 r4 ho hS hh hp hok hk hoo h0 h1 i2 i3 hat0
  simp only [List.take_succ_cons, List.take_zero] at HL HF
  obtain ⟨c, p, at_, ph, h, t⟩ := x
  simp only at *
  rw [show aggV [.slice a0 c.1.length c0, .slice b0 c.2.length d0, .slice a1 p.length c1, .int .i64 at_, .int .i64 ph, .int .i64 h.1, .int .i64 h.2.1, .slice a4 h.2.2.length c4, .slice a5 t.length c5] = .agg #[.slice a0 c.1.length c0, .slice b0 c.2.length d0, .slice a1 p.length c1, .int .i64 at_, .int .i64 ph, .int .i64 h.1, .int .i64 h.2.1, .slice a4 h.2.2.length c4, .slice a5 t.length c5] from rfl] at KO HDI HEV ⊢
  have B := Below.refl w.heap.size w
  go_enter Tryz.func45, Tryz.ntmps45
  go_wp2_with fail
  have X := heap_at w (.cells #[.slice a0 c.1.length c0, .slice b0 c.2.length d0, .slice a1 p.length c1, .int .i64 at_, .int .i64 ph, .int .i64 h.1, .int .i64 h.2.1, .slice a4 h.2.2.length c4, .slice a5 t.length c5] 32)
  have bz := box_below w (.cells #[.slice a0 c.1.length c0, .slice b0 c.2.length d0, .slice a1 p.length c1, .int .i64 at_, .int .i64 ph, .int .i64 h.1, .int .i64 h.2.1, .slice a4 h.2.2.length c4, .slice a5 t.length c5] 32)
  have zX := alloc_len w (.cells #[.slice a0 c.1.length c0, .slice b0 c.2.length d0, .slice a1 p.length c1, .int .i64 at_, .int .i64 ph, .int .i64 h.1, .int .i64 h.2.1, .slice a4 h.2.2.length c4, .slice a5 t.length c5] 32)
  replace B := below_step B bz
  clear bz
  generalize w.alloc (.cells #[.slice a0 c.1.length c0, .slice b0 c.2.length d0, .slice a1 p.length c1, .int .i64 at_, .int .i64 ph, .int .i64 h.1, .int .i64 h.2.1, .slice a4 h.2.2.length c4, .slice a5 t.length c5] 32) = u1w at B X zX ⊢
  have zXa := Nat.le_of_eq zX
  have zXb := Nat.le_of_eq zX.symm
  clear zX
  have R := heap_at u1w (.cells #[.slice none 0 0, .slice none 0 0, .slice none 0 0, .int .i64 0, .int .i64 0, .int .i64 0, .int .i64 0, .slice none 0 0, .slice none 0 0] 32)
  have bz := box_below u1w (.cells #[.slice none 0 0, .slice none 0 0, .slice none 0 0, .int .i64 0, .int .i64 0, .int .i64 0, .int .i64 0, .slice none 0 0, .slice none 0 0] 32)
  have zR := alloc_len u1w (.cells #[.slice none 0 0, .slice none 0 0, .slice none 0 0, .int .i64 0, .int .i64 0, .int .i64 0, .int .i64 0, .slice none 0 0, .slice none 0 0] 32)
  rw [show u1w.heap.size = w.heap.size + 1 from by omega] at R
  replace B := below_step B bz
  replace X := row_keep bz X
  clear bz
  generalize u1w.alloc (.cells #[.slice none 0 0, .slice none 0 0, .slice none 0 0, .int .i64 0, .int .i64 0, .int .i64 0, .int .i64 0, .slice none 0 0, .slice none 0 0] 32) = u2w at B X R zR ⊢
  have zRa := Nat.le_of_eq zR
  have zRb := Nat.le_of_eq zR.symm
  clear zR
  refine (KO.out _ B).mono ?_
  rintro e u3w ⟨rfl, bq⟩
  have tu3w : u2w.heap.size ≤ u3w.heap.size := bq.size
  replace B := below_step B bq
  replace X := row_keep bq X
  replace R := row_keep bq R
  clear bq
  obtain ⟨Xc0, Xc1, Xc2, Xc3, Xc4, Xc5, Xc6, Xc7, Xc8⟩ := cells_core X
  have Xlt := (Array.getElem?_eq_some_iff.1 X).1
  obtain ⟨Rc0, Rc1, Rc2, Rc3, Rc4, Rc5, Rc6, Rc7, Rc8⟩ := cells_core R
  have Rlt := (Array.getElem?_eq_some_iff.1 R).1
  go_upto_region 2 with fail
  clear Xc0 Xc1 Xc2 Xc3 Xc4 Xc5 Xc6 Xc7 Xc8 Xlt Rc0 Rc1 Rc2 Rc3 Rc4 Rc5 Rc6 Rc7 Rc8 Rlt
  have O := heap_at u3w (.cells #[.int .i64 o.1, .int .i64 o.2.1, .int .i64 o.2.2.1, .int .i64 o.2.2.2] 54)
  have bz := box_below u3w (.cells #[.int .i64 o.1, .int .i64 o.2.1, .int .i64 o.2.2.1, .int .i64 o.2.2.2] 54)
  have zO := alloc_len u3w (.cells #[.int .i64 o.1, .int .i64 o.2.1, .int .i64 o.2.2.1, .int .i64 o.2.2.2] 54)
  replace B := below_step B bz
  replace X := row_keep bz X
  replace R := row_keep bz R
  clear bz
  generalize u3w.alloc (.cells #[.int .i64 o.1, .int .i64 o.2.1, .int .i64 o.2.2.1, .int .i64 o.2.2.2] 54) = u4w at B X R O zO ⊢
  have zOa := Nat.le_of_eq zO
  have zOb := Nat.le_of_eq zO.symm
  clear zO
  obtain ⟨Xc0, Xc1, Xc2, Xc3, Xc4, Xc5, Xc6, Xc7, Xc8⟩ := cells_core X
  have Xlt := (Array.getElem?_eq_some_iff.1 X).1
  obtain ⟨Rc0, Rc1, Rc2, Rc3, Rc4, Rc5, Rc6, Rc7, Rc8⟩ := cells_core R
  have Rlt := (Array.getElem?_eq_some_iff.1 R).1
  obtain ⟨Oc0, Oc1, Oc2, Oc3⟩ := cells_4 O
  have Olt := (Array.getElem?_eq_some_iff.1 O).1
  go_upto_region 2 with fail
  clear Xc0 Xc1 Xc2 Xc3 Xc4 Xc5 Xc6 Xc7 Xc8 Xlt Rc0 Rc1 Rc2 Rc3 Rc4 Rc5 Rc6 Rc7 Rc8 Rlt Oc0 Oc1 Oc2 Oc3 Olt
  go_cut [8] (fun q wx => WayP u4w fw q wx)
  case first =>
    have Q : Below u4w.heap.size u4w u4w.drew := (Below.refl _ _).drew
    obtain ⟨Xc0, Xc1, Xc2, Xc3, Xc4, Xc5, Xc6, Xc7, Xc8⟩ := cells_core X
    have Xlt := (Array.getElem?_eq_some_iff.1 X).1
    obtain ⟨Oc0, Oc1, Oc2, Oc3⟩ := cells_4 O
    have Olt := (Array.getElem?_eq_some_iff.1 O).1
    go_region_with (first | (go_at_call 110; refine (HLN.out _).mono ?_; rintro e wq0 ⟨rfl, mb⟩; (first | (have y0_0 : wq0.heap[u4w.heap.size]? = some (.cells #[.int .i64 0, .int .i64 0, .slice none 0 0] 30) := ?hz; case hz => exact row_keep mb (heap_at u4w.drew _)) | skip); (first | (replace Q := below_step Q mb) | (replace Q := below_step (below_step Q (box_below _ _)) mb)); have sz0 : u4w.heap.size ≤ wq0.heap.size := Q.size; clear Xc0 Xc1 Xc2 Xc3 Xc4 Xc5 Xc6 Xc7 Xc8 Xlt Oc0 Oc1 Oc2 Oc3 Olt; obtain ⟨Xc0, Xc1, Xc2, Xc3, Xc4, Xc5, Xc6, Xc7, Xc8⟩ := cells_core (row_keep Q X); have Xlt := (Array.getElem?_eq_some_iff.1 (row_keep Q X)).1; obtain ⟨Oc0, Oc1, Oc2, Oc3⟩ := cells_4 (row_keep Q O); have Olt := (Array.getElem?_eq_some_iff.1 (row_keep Q O)).1) | (go_at_call 109; (first | (refine (HF.out _ (below_step B Q)).mono ?_) | (refine (HF.out _ (below_step B (below_step Q (box_below _ _)))).mono ?_)); rintro e wq1 ⟨us, rfl, mm⟩; have mb := mm.2; obtain ⟨fa, fc, rfl, -, -, -, -, -⟩ := way_rd (wayR.own_rd mm.1); rw [show aggV [.int .i64 fw.1, .int .i64 fw.2.1, .slice fa fw.2.2.length fc] = .agg #[.int .i64 fw.1, .int .i64 fw.2.1, .slice fa fw.2.2.length fc] from rfl]; have HP : Hid _ := mm; clear mm; (first | (have y1_0 : wq1.heap[u4w.heap.size]? = some (.cells #[.int .i64 0, .int .i64 0, .slice none 0 0] 30) := ?hz; case hz => exact row_keep mb y0_0) | skip); (first | (have y1_1 : wq1.heap[wq0.heap.size]? = some (.cells #[.int .i64 0, .int .i64 0, .slice none 0 0] 30) := ?hz; case hz => exact row_keep mb (heap_at wq0 _)) | skip); (first | (replace Q := below_step Q mb) | (replace Q := below_step (below_step Q (box_below _ _)) mb)); have sz1 : u4w.heap.size ≤ wq1.heap.size := Q.size; clear Xc0 Xc1 Xc2 Xc3 Xc4 Xc5 Xc6 Xc7 Xc8 Xlt Oc0 Oc1 Oc2 Oc3 Olt; obtain ⟨Xc0, Xc1, Xc2, Xc3, Xc4, Xc5, Xc6, Xc7, Xc8⟩ := cells_core (row_keep Q X); have Xlt := (Array.getElem?_eq_some_iff.1 (row_keep Q X)).1; obtain ⟨Oc0, Oc1, Oc2, Oc3⟩ := cells_4 (row_keep Q O); have Olt := (Array.getElem?_eq_some_iff.1 (row_keep Q O)).1; (first | (obtain ⟨k0_0, k0_1, k0_2⟩ := cells_three y1_0; obtain ⟨l0_0, l0_1, l0_2⟩ := froz_3 y1_0; have n0 := (Array.getElem?_eq_some_iff.1 y1_0).1) | skip); (first | (obtain ⟨k1_0, k1_1, k1_2⟩ := cells_three y1_1; obtain ⟨l1_0, l1_1, l1_2⟩ := froz_3 y1_1; have n1 := (Array.getElem?_eq_some_iff.1 y1_1).1) | skip)))
    all_goals go_wp2_with fail
    all_goals go_meet
    all_goals first | (have zz := y1_0; exact wayEndB zz HP.out (Nat.le_refl _) (Array.getElem?_eq_some_iff.1 y0_0).1 (by omega) Q) | (have zz := y1_1; exact wayEndB zz HP.out (by omega) (by simp) (by simp; omega) Q) | exact wayEndA HP.out (by first | exact sz0 | (have := sz0; simp; omega)) Q
  case rest =>
    obtain ⟨vb, nlo, nhi, fa, fc, rfl, hv1, hv2, hv3, hv4, hv5, VW, F, bq⟩ := hcut
    generalize wc = u5w at VW F bq hv5 ⊢
    replace B := below_step B bq
    replace X := row_keep bq X
    replace R := row_keep bq R
    replace O := row_keep bq O
    have tz : u4w.heap.size ≤ u5w.heap.size := bq.size
    clear bq
    have HASc : Hid (∀ n' : Cls (fun wx => Below u5w.heap.size u5w wx), Calls Tryz.prog 111 #[.int .i64 fw.2.1, .bool ow] n'.w fun e w' => e = .returned (.int .i64 ak) ∧ Below n'.w.heap.size n'.w w') := fun n' => HAS.out _ (below_step B n'.h)
    obtain ⟨Xc0, Xc1, Xc2, Xc3, Xc4, Xc5, Xc6, Xc7, Xc8⟩ := cells_core X
    have Xlt := (Array.getElem?_eq_some_iff.1 X).1
    obtain ⟨Rc0, Rc1, Rc2, Rc3, Rc4, Rc5, Rc6, Rc7, Rc8⟩ := cells_core R
    have Rlt := (Array.getElem?_eq_some_iff.1 R).1
    obtain ⟨Oc0, Oc1, Oc2, Oc3⟩ := cells_4 O
    have Olt := (Array.getElem?_eq_some_iff.1 O).1
    obtain ⟨VWc0, VWc1, VWc2⟩ := cells_three VW
    have VWlt := (Array.getElem?_eq_some_iff.1 VW).1
    go_upto_region 3 with fail
    clear Xc0 Xc1 Xc2 Xc3 Xc4 Xc5 Xc6 Xc7 Xc8 Xlt Rc0 Rc1 Rc2 Rc3 Rc4 Rc5 Rc6 Rc7 Rc8 Rlt Oc0 Oc1 Oc2 Oc3 Olt VWc0 VWc1 VWc2 VWlt
    obtain ⟨VWc0, VWc1, VWc2⟩ := cells_three VW
    have VWk0 : ∀ n' : Cls (fun wx => Below u5w.heap.size u5w wx), n'.w.cell? ⟨vb, 0, none⟩ = some (.int .i64 fw.1) := fun n' => cell_keep n'.h VWc0 (cell_lt VWc0)
    have VWk1 : ∀ n' : Cls (fun wx => Below u5w.heap.size u5w wx), n'.w.cell? ⟨vb, 1, none⟩ = some (.int .i64 fw.2.1) := fun n' => cell_keep n'.h VWc1 (cell_lt VWc1)
    have VWk2 : ∀ n' : Cls (fun wx => Below u5w.heap.size u5w wx), n'.w.cell? ⟨vb, 2, none⟩ = some (.slice fa fw.2.2.length fc) := fun n' => cell_keep n'.h VWc2 (cell_lt VWc2)
    clear VWc0 VWc1 VWc2
    obtain ⟨Oc0, Oc1, Oc2, Oc3⟩ := cells_4 O
    have Ok0 : ∀ n' : Cls (fun wx => Below u5w.heap.size u5w wx), n'.w.cell? ⟨u3w.heap.size, 0, none⟩ = some (.int .i64 o.1) := fun n' => cell_keep n'.h Oc0 (cell_lt Oc0)
    have Ok1 : ∀ n' : Cls (fun wx => Below u5w.heap.size u5w wx), n'.w.cell? ⟨u3w.heap.size, 1, none⟩ = some (.int .i64 o.2.1) := fun n' => cell_keep n'.h Oc1 (cell_lt Oc1)
    have Ok2 : ∀ n' : Cls (fun wx => Below u5w.heap.size u5w wx), n'.w.cell? ⟨u3w.heap.size, 2, none⟩ = some (.int .i64 o.2.2.1) := fun n' => cell_keep n'.h Oc2 (cell_lt Oc2)
    have Ok3 : ∀ n' : Cls (fun wx => Below u5w.heap.size u5w wx), n'.w.cell? ⟨u3w.heap.size, 3, none⟩ = some (.int .i64 o.2.2.2) := fun n' => cell_keep n'.h Oc3 (cell_lt Oc3)
    clear Oc0 Oc1 Oc2 Oc3
    have HFX : Hid _ := And.intro B (And.intro X (And.intro R (And.intro O (And.intro VW (F)))))
    clear B X R O VW F
    refine region_class (fun wx => Below u5w.heap.size u5w wx) (by kernel_rfl) (by kernel_rfl) ((Below.refl _ u5w).drew) ?_
    intro hne
    repeat (quiet_step (first | (go_at_call 112; exact calls_class (HWR.out _) (fun w' hc bb => below_step hc bb)) | (go_at_call 111; exact calls_class (HASc.out _) (fun w' hc bb => below_step hc bb))))
    refine wpQuiet_nil ?_
    intro u6w bq
    clear VWk0 VWk1 VWk2 Ok0 Ok1 Ok2 Ok3 hne
    obtain ⟨B, X, R, O, VW, F⟩ := HFX.out
    clear HFX
    have tu6w : u5w.heap.size ≤ u6w.heap.size := bq.size
    replace B := below_step B bq
    replace X := row_keep bq X
    replace R := row_keep bq R
    replace O := row_keep bq O
    replace VW := row_keep bq VW
    replace F := owned_next F bq
    clear bq
    clear HASc
    by_cases hz : ak = 0
    · subst hz
      obtain ⟨hfull, hbeg⟩ := HBD.out rfl
      obtain ⟨n0, hn0⟩ : ∃ n0, n0 = didX (c, p, at_, ph, h, t) fw := ⟨_, rfl⟩
      rw [← hn0] at hbeg
      have HN0 : Hid (n0 = didX (c, p, at_, ph, h, t) fw) := hn0
      clear hn0
      subst hbeg
      clear HBD HBE HBA HEV HL
      obtain ⟨Xc0, Xc1, Xc2, Xc3, Xc4, Xc5, Xc6, Xc7, Xc8⟩ := cells_core X
      have Xlt := (Array.getElem?_eq_some_iff.1 X).1
      obtain ⟨Rc0, Rc1, Rc2, Rc3, Rc4, Rc5, Rc6, Rc7, Rc8⟩ := cells_core R
      have Rlt := (Array.getElem?_eq_some_iff.1 R).1
      obtain ⟨Oc0, Oc1, Oc2, Oc3⟩ := cells_4 O
      have Olt := (Array.getElem?_eq_some_iff.1 O).1
      obtain ⟨VWc0, VWc1, VWc2⟩ := cells_three VW
      have VWlt := (Array.getElem?_eq_some_iff.1 VW).1
      go_wp2_with fail
      clear Xc0 Xc1 Xc2 Xc3 Xc4 Xc5 Xc6 Xc7 Xc8 Xlt Rc0 Rc1 Rc2 Rc3 Rc4 Rc5 Rc6 Rc7 Rc8 Rlt Oc0 Oc1 Oc2 Oc3 Olt VWc0 VWc1 VWc2 VWlt
      refine (HDI.out [.int .i64 fw.1, .int .i64 fw.2.1, .slice fa fw.2.2.length fc] fw _ B (wayR.own_rd F.1) hfull (by rw [← HAK.out])).mono ?_
      rintro e wd ⟨ds, rfl, DO, DC⟩
      rw [← HN0.out] at DO
      obtain ⟨dga, dgc, dgb, dgd, dha, dhc, dia, dic, dja, djc, rfl⟩ := core_shape (coreR.own_rd DO)
      rw [show aggV [.slice dga n0.1.1.length dgc, .slice dgb n0.1.2.length dgd, .slice dha n0.2.1.length dhc, .int .i64 n0.2.2.1, .int .i64 n0.2.2.2.1, .int .i64 n0.2.2.2.2.1.1, .int .i64 n0.2.2.2.2.1.2.1, .slice dia n0.2.2.2.2.1.2.2.length dic, .slice dja n0.2.2.2.2.2.length djc] = .agg #[.slice dga n0.1.1.length dgc, .slice dgb n0.1.2.length dgd, .slice dha n0.2.1.length dhc, .int .i64 n0.2.2.1, .int .i64 n0.2.2.2.1, .int .i64 n0.2.2.2.2.1.1, .int .i64 n0.2.2.2.2.1.2.1, .slice dia n0.2.2.2.2.1.2.2.length dic, .slice dja n0.2.2.2.2.2.length djc] from rfl]
      have hS := HSS.out
      have szd := DC.size
      have R2 := (DC.block _ (Array.getElem?_eq_some_iff.1 R).1 (fun q => by have := hS _ q; omega)).trans R
      obtain ⟨z0, z1, z2, z3, z4, z5, z6, z7, z8⟩ := cells_core R2
      obtain ⟨zf0, zf1, zf2, zf3, zf4, zf5, zf6, zf7, zf8⟩ := froz_core R2
      have zlt := (Array.getElem?_eq_some_iff.1 R2).1
      have HZ : Hid _ := And.intro DO (And.intro DC (And.intro R2 B))
      clear DO DC R2 X R O VW F B
      go_wp2
      obtain ⟨DO, DC, R2, B⟩ := HZ.out
      have V2 := row_keep (box_below _ (.cells #[] 50)) (put_core (y0 := .slice dga n0.1.1.length dgc) (y1 := .slice dgb n0.1.2.length dgd) (y2 := .slice dha n0.2.1.length dhc) (y3 := .int .i64 n0.2.2.1) (y4 := .int .i64 n0.2.2.2.1) (y5 := .int .i64 n0.2.2.2.2.1.1) (y6 := .int .i64 n0.2.2.2.2.1.2.1) (y7 := .slice dia n0.2.2.2.2.1.2.2.length dic) (y8 := .slice dja n0.2.2.2.2.2.length djc) R2)
      obtain ⟨r0, r1, r2, r3, r4, r5, r6, r7, r8⟩ := cells_core V2
      have FS : (setCs wd (w.heap.size + 1) 0 [.slice dga n0.1.1.length dgc, .slice dgb n0.1.2.length dgd, .slice dha n0.2.1.length dhc, .int .i64 n0.2.2.1, .int .i64 n0.2.2.2.1, .int .i64 n0.2.2.2.2.1.1, .int .i64 n0.2.2.2.2.1.2.1, .slice dia n0.2.2.2.2.1.2.2.length dic, .slice dja n0.2.2.2.2.2.length djc]).heap.size = wd.heap.size := setCs_size _ _ _
      have CO := core_none (w := w) (own_setCs (g := w.heap.size + 1) (o := 0) (vs := [.slice dga n0.1.1.length dgc, .slice dgb n0.1.2.length dgd, .slice dha n0.2.1.length dhc, .int .i64 n0.2.2.1, .int .i64 n0.2.2.2.1, .int .i64 n0.2.2.2.2.1.1, .int .i64 n0.2.2.2.2.1.2.1, .slice dia n0.2.2.2.2.1.2.2.length dic, .slice dja n0.2.2.2.2.2.length djc]) DO (fun q => by rcases q with q | q; (have := hS _ q; omega); (have := q.1; omega))) (fun k q => by rw [FS]; rcases q with q | q; (have := hS _ q; omega); exact q.2)
      rw [FS] at CO
      have FO := (prodR coreR msgsR).own_mono (T := fun k => S k ∨ (w.heap.size ≤ k ∧ k < ((setCs wd (w.heap.size + 1) 0 [.slice dga n0.1.1.length dgc, .slice dgb n0.1.2.length dgd, .slice dha n0.2.1.length dhc, .int .i64 n0.2.2.1, .int .i64 n0.2.2.2.1, .int .i64 n0.2.2.2.2.1.1, .int .i64 n0.2.2.2.2.1.2.1, .slice dia n0.2.2.2.2.1.2.2.length dic, .slice dja n0.2.2.2.2.2.length djc]).alloc (.cells #[] 50)).heap.size)) CO (fun k q => by rw [alloc_len, FS]; rcases q with (q | q) | q; exact .inl q; exact .inr ⟨by have := q.1; omega, by have := q.2; omega⟩; (rw [alloc_len, FS] at q; exact .inr ⟨by omega, q.2⟩))
      have FC : Chg S w ((setCs wd (w.heap.size + 1) 0 [.slice dga n0.1.1.length dgc, .slice dgb n0.1.2.length dgd, .slice dha n0.2.1.length dhc, .int .i64 n0.2.2.1, .int .i64 n0.2.2.2.1, .int .i64 n0.2.2.2.2.1.1, .int .i64 n0.2.2.2.2.1.2.1, .slice dia n0.2.2.2.2.1.2.2.length dic, .slice dja n0.2.2.2.2.2.length djc]).alloc (.cells #[] 50)) := (chg_setNew (((chg_below (S := S) B).trans DC)) (by omega)).trans (chg_below (box_below _ _))
      simp only [setCs_cons, setCs_nil, Nat.reduceAdd] at FO FC
      clear DO DC R2 CO V2 FS B HZ
      exact bodyPost_ret (v := .tuple #[.agg #[.slice dga n0.1.1.length dgc, .slice dgb n0.1.2.length dgd, .slice dha n0.2.1.length dhc, .int .i64 n0.2.2.1, .int .i64 n0.2.2.2.1, .int .i64 n0.2.2.2.2.1.1, .int .i64 n0.2.2.2.2.1.2.1, .slice dia n0.2.2.2.2.1.2.2.length dic, .slice dja n0.2.2.2.2.2.length djc], .slice (some ⟨wd.heap.size, 0, none⟩) 0 0, .int .i64 1]) (by simp [results, Tryz.results45, go_sem, r0, r1, r2, r3, r4, r5, r6, r7, r8]) rfl ⟨[.slice dga n0.1.1.length dgc, .slice dgb n0.1.2.length dgd, .slice dha n0.2.1.length dhc, .int .i64 n0.2.2.1, .int .i64 n0.2.2.2.1, .int .i64 n0.2.2.2.2.1.1, .int .i64 n0.2.2.2.2.1.2.1, .slice dia n0.2.2.2.2.1.2.2.length dic, .slice dja n0.2.2.2.2.2.length djc], .slice (some ⟨wd.heap.size, 0, none⟩) 0 0, rfl, rfl, FO, FC⟩
    · clear HBD HDI
      replace HBE : Hid _ := HBE.out hz
      replace HBA : Hid _ := HBA.out hz
      have hz2 : ¬ (ak = 0) := hz
      have hz3 : (ak == 0) = false := by simp [hz]
      have HLc : Hid (∀ n' : Cls (fun wx => Below u6w.heap.size u6w wx), Calls Tryz.prog 114 #[.agg #[.slice a0 c.1.length c0, .slice b0 c.2.length d0], .int .i64 kl] n'.w fun e w' => e = .returned (.int .i64 lv) ∧ Below n'.w.heap.size n'.w w') := fun n' => HL.out _ (below_step B n'.h)
      obtain ⟨Xc0, Xc1, Xc2, Xc3, Xc4, Xc5, Xc6, Xc7, Xc8⟩ := cells_core X
      have Xlt := (Array.getElem?_eq_some_iff.1 X).1
      obtain ⟨Rc0, Rc1, Rc2, Rc3, Rc4, Rc5, Rc6, Rc7, Rc8⟩ := cells_core R
      have Rlt := (Array.getElem?_eq_some_iff.1 R).1
      obtain ⟨Oc0, Oc1, Oc2, Oc3⟩ := cells_4 O
      have Olt := (Array.getElem?_eq_some_iff.1 O).1
      obtain ⟨VWc0, VWc1, VWc2⟩ := cells_three VW
      have VWlt := (Array.getElem?_eq_some_iff.1 VW).1
      go_upto_region 6 with fail
      clear Xc0 Xc1 Xc2 Xc3 Xc4 Xc5 Xc6 Xc7 Xc8 Xlt Rc0 Rc1 Rc2 Rc3 Rc4 Rc5 Rc6 Rc7 Rc8 Rlt Oc0 Oc1 Oc2 Oc3 Olt VWc0 VWc1 VWc2 VWlt
      obtain ⟨Xc0, Xc1, Xc2, Xc3, Xc4, Xc5, Xc6, Xc7, Xc8⟩ := cells_core X
      have Xk0 : ∀ n' : Cls (fun wx => Below u6w.heap.size u6w wx), n'.w.cell? ⟨w.heap.size, 0, none⟩ = some (.slice a0 c.1.length c0) := fun n' => cell_keep n'.h Xc0 (cell_lt Xc0)
      have Xk1 : ∀ n' : Cls (fun wx => Below u6w.heap.size u6w wx), n'.w.cell? ⟨w.heap.size, 1, none⟩ = some (.slice b0 c.2.length d0) := fun n' => cell_keep n'.h Xc1 (cell_lt Xc1)
      have Xk2 : ∀ n' : Cls (fun wx => Below u6w.heap.size u6w wx), n'.w.cell? ⟨w.heap.size, 2, none⟩ = some (.slice a1 p.length c1) := fun n' => cell_keep n'.h Xc2 (cell_lt Xc2)
      have Xk3 : ∀ n' : Cls (fun wx => Below u6w.heap.size u6w wx), n'.w.cell? ⟨w.heap.size, 3, none⟩ = some (.int .i64 at_) := fun n' => cell_keep n'.h Xc3 (cell_lt Xc3)
      have Xk4 : ∀ n' : Cls (fun wx => Below u6w.heap.size u6w wx), n'.w.cell? ⟨w.heap.size, 4, none⟩ = some (.int .i64 ph) := fun n' => cell_keep n'.h Xc4 (cell_lt Xc4)
      have Xk5 : ∀ n' : Cls (fun wx => Below u6w.heap.size u6w wx), n'.w.cell? ⟨w.heap.size, 5, none⟩ = some (.int .i64 h.1) := fun n' => cell_keep n'.h Xc5 (cell_lt Xc5)
      have Xk6 : ∀ n' : Cls (fun wx => Below u6w.heap.size u6w wx), n'.w.cell? ⟨w.heap.size, 6, none⟩ = some (.int .i64 h.2.1) := fun n' => cell_keep n'.h Xc6 (cell_lt Xc6)
      have Xk7 : ∀ n' : Cls (fun wx => Below u6w.heap.size u6w wx), n'.w.cell? ⟨w.heap.size, 7, none⟩ = some (.slice a4 h.2.2.length c4) := fun n' => cell_keep n'.h Xc7 (cell_lt Xc7)
      have Xk8 : ∀ n' : Cls (fun wx => Below u6w.heap.size u6w wx), n'.w.cell? ⟨w.heap.size, 8, none⟩ = some (.slice a5 t.length c5) := fun n' => cell_keep n'.h Xc8 (cell_lt Xc8)
      clear Xc0 Xc1 Xc2 Xc3 Xc4 Xc5 Xc6 Xc7 Xc8
      obtain ⟨Oc0, Oc1, Oc2, Oc3⟩ := cells_4 O
      have Ok0 : ∀ n' : Cls (fun wx => Below u6w.heap.size u6w wx), n'.w.cell? ⟨u3w.heap.size, 0, none⟩ = some (.int .i64 o.1) := fun n' => cell_keep n'.h Oc0 (cell_lt Oc0)
      have Ok1 : ∀ n' : Cls (fun wx => Below u6w.heap.size u6w wx), n'.w.cell? ⟨u3w.heap.size, 1, none⟩ = some (.int .i64 o.2.1) := fun n' => cell_keep n'.h Oc1 (cell_lt Oc1)
      have Ok2 : ∀ n' : Cls (fun wx => Below u6w.heap.size u6w wx), n'.w.cell? ⟨u3w.heap.size, 2, none⟩ = some (.int .i64 o.2.2.1) := fun n' => cell_keep n'.h Oc2 (cell_lt Oc2)
      have Ok3 : ∀ n' : Cls (fun wx => Below u6w.heap.size u6w wx), n'.w.cell? ⟨u3w.heap.size, 3, none⟩ = some (.int .i64 o.2.2.2) := fun n' => cell_keep n'.h Oc3 (cell_lt Oc3)
      clear Oc0 Oc1 Oc2 Oc3
      have HFX : Hid _ := And.intro B (And.intro X (And.intro R (And.intro O (And.intro VW (F)))))
      clear B X R O VW F
      refine region_class (fun wx => Below u6w.heap.size u6w wx) (by kernel_rfl) (by kernel_rfl) ((Below.refl _ u6w).drew) ?_
      intro hne
      repeat (quiet_step (first | (go_at_call 110; exact calls_class (HLN.out _) (fun w' hc bb => below_step hc bb)) | (go_at_call 114; exact calls_class (HLc.out _) (fun w' hc bb => below_step hc bb))))
      refine wpQuiet_nil ?_
      intro u7w bq
      clear Xk0 Xk1 Xk2 Xk3 Xk4 Xk5 Xk6 Xk7 Xk8 Ok0 Ok1 Ok2 Ok3 hne
      obtain ⟨B, X, R, O, VW, F⟩ := HFX.out
      clear HFX
      have tu7w : u6w.heap.size ≤ u7w.heap.size := bq.size
      replace B := below_step B bq
      replace X := row_keep bq X
      replace R := row_keep bq R
      replace O := row_keep bq O
      replace VW := row_keep bq VW
      replace F := owned_next F bq
      clear bq
      clear HLc hz3 hz2 hz
      by_cases hl : lv = -1
      · subst hl
        have hbeg := HBA.out rfl
        subst hbeg
        clear HBE HBA HEV
        obtain ⟨Xc0, Xc1, Xc2, Xc3, Xc4, Xc5, Xc6, Xc7, Xc8⟩ := cells_core X
        have Xlt := (Array.getElem?_eq_some_iff.1 X).1
        obtain ⟨Xf0, Xf1, Xf2, Xf3, Xf4, Xf5, Xf6, Xf7, Xf8⟩ := froz_core X
        obtain ⟨Rc0, Rc1, Rc2, Rc3, Rc4, Rc5, Rc6, Rc7, Rc8⟩ := cells_core R
        have Rlt := (Array.getElem?_eq_some_iff.1 R).1
        obtain ⟨Oc0, Oc1, Oc2, Oc3⟩ := cells_4 O
        have Olt := (Array.getElem?_eq_some_iff.1 O).1
        obtain ⟨VWc0, VWc1, VWc2⟩ := cells_three VW
        have VWlt := (Array.getElem?_eq_some_iff.1 VW).1
        go_upto_region 10 with fail
        clear Xc0 Xc1 Xc2 Xc3 Xc4 Xc5 Xc6 Xc7 Xc8 Xlt Xf0 Xf1 Xf2 Xf3 Xf4 Xf5 Xf6 Xf7 Xf8 Rc0 Rc1 Rc2 Rc3 Rc4 Rc5 Rc6 Rc7 Rc8 Rlt Oc0 Oc1 Oc2 Oc3 Olt VWc0 VWc1 VWc2 VWlt
        rw [show (u7w.setCell ⟨w.heap.size, 4, none⟩ (.int .i64 2)) = (setCs u7w (w.heap.size) 4 [.int .i64 2]) from rfl]
        replace R := row_otherCs (g := w.heap.size) (o := 4) (vs := [.int .i64 2]) R (by omega)
        replace O := row_otherCs (g := w.heap.size) (o := 4) (vs := [.int .i64 2]) O (by omega)
        replace VW := row_otherCs (g := w.heap.size) (o := 4) (vs := [.int .i64 2]) VW (by omega)
        replace F := owned_setCs (g := w.heap.size) (o := 4) (vs := [.int .i64 2]) F (by omega)
        replace B := below_setCs0 (g := w.heap.size) (o := 4) (vs := [.int .i64 2]) B (by omega)
        replace X : (setCs u7w (w.heap.size) 4 [.int .i64 2]).heap[w.heap.size]? = some (.cells #[.slice a0 c.1.length c0, .slice b0 c.2.length d0, .slice a1 p.length c1, .int .i64 at_, .int .i64 2, .int .i64 h.1, .int .i64 h.2.1, .slice a4 h.2.2.length c4, .slice a5 t.length c5] 32 (0, 0)) := row_setCs _ _ X
        have tu8w := Nat.le_of_eq (setCs_size (g := w.heap.size) [.int .i64 2] 4 u7w)
        have qu8w := Nat.le_of_eq (setCs_size (g := w.heap.size) [.int .i64 2] 4 u7w).symm
        generalize (setCs u7w (w.heap.size) 4 [.int .i64 2]) = u8w at B X R O VW F tu8w qu8w ⊢
        obtain ⟨Xc0, Xc1, Xc2, Xc3, Xc4, Xc5, Xc6, Xc7, Xc8⟩ := cells_core X
        have Xlt := (Array.getElem?_eq_some_iff.1 X).1
        obtain ⟨Rc0, Rc1, Rc2, Rc3, Rc4, Rc5, Rc6, Rc7, Rc8⟩ := cells_core R
        have Rlt := (Array.getElem?_eq_some_iff.1 R).1
        obtain ⟨Oc0, Oc1, Oc2, Oc3⟩ := cells_4 O
        have Olt := (Array.getElem?_eq_some_iff.1 O).1
        obtain ⟨VWc0, VWc1, VWc2⟩ := cells_three VW
        have VWlt := (Array.getElem?_eq_some_iff.1 VW).1
        go_upto_region 10 with fail
        clear Xc0 Xc1 Xc2 Xc3 Xc4 Xc5 Xc6 Xc7 Xc8 Xlt Rc0 Rc1 Rc2 Rc3 Rc4 Rc5 Rc6 Rc7 Rc8 Rlt Oc0 Oc1 Oc2 Oc3 Olt VWc0 VWc1 VWc2 VWlt
        go_cut [12] (fun q wx => MsgP u8w 0 id 4 rq kl q wx)
        case first =>
          have Q : Below u8w.heap.size u8w u8w.drew := (Below.refl _ _).drew
          obtain ⟨Oc0, Oc1, Oc2, Oc3⟩ := cells_4 O
          have Olt := (Array.getElem?_eq_some_iff.1 O).1
          go_region_with (first | (go_at_call 116; refine (HRQ.out _).mono ?_; rintro e wq0 ⟨rfl, mb⟩; (first | (have y0_0 : wq0.heap[u8w.heap.size]? = some (.cells #[.int .i64 0, .int .i64 0, .int .i64 0, .int .i64 0, .int .i64 0, .slice none 0 0, .int .i64 0] 50) := ?hz; case hz => exact row_keep mb (heap_at u8w.drew _)) | skip); (first | (replace Q := below_step Q mb) | (replace Q := below_step (below_step Q (box_below _ _)) mb)); have sz0 : u8w.heap.size ≤ wq0.heap.size := Q.size; clear Oc0 Oc1 Oc2 Oc3 Olt; obtain ⟨Oc0, Oc1, Oc2, Oc3⟩ := cells_4 (row_keep Q O); have Olt := (Array.getElem?_eq_some_iff.1 (row_keep Q O)).1) | (go_at_call 110; refine (HLN.out _).mono ?_; rintro e wq1 ⟨rfl, mb⟩; (first | (have y1_0 : wq1.heap[u8w.heap.size]? = some (.cells #[.int .i64 0, .int .i64 0, .int .i64 0, .int .i64 0, .int .i64 0, .slice none 0 0, .int .i64 0] 50) := ?hz; case hz => exact row_keep mb y0_0) | skip); (first | (have y1_1 : wq1.heap[wq0.heap.size]? = some (.cells #[.int .i64 0, .int .i64 0, .int .i64 0, .int .i64 0, .int .i64 0, .slice none 0 0, .int .i64 0] 50) := ?hz; case hz => exact row_keep mb (heap_at wq0 _)) | skip); (first | (replace Q := below_step Q mb) | (replace Q := below_step (below_step Q (box_below _ _)) mb)); have sz1 : u8w.heap.size ≤ wq1.heap.size := Q.size; clear Oc0 Oc1 Oc2 Oc3 Olt; obtain ⟨Oc0, Oc1, Oc2, Oc3⟩ := cells_4 (row_keep Q O); have Olt := (Array.getElem?_eq_some_iff.1 (row_keep Q O)).1; (first | (obtain ⟨k0_0, k0_1, k0_2, k0_3, k0_4, k0_5, k0_6⟩ := cells_7 y1_0; obtain ⟨l0_0, l0_1, l0_2, l0_3, l0_4, l0_5, l0_6⟩ := froz_7 y1_0; have n0 := (Array.getElem?_eq_some_iff.1 y1_0).1) | skip); (first | (obtain ⟨k1_0, k1_1, k1_2, k1_3, k1_4, k1_5, k1_6⟩ := cells_7 y1_1; obtain ⟨l1_0, l1_1, l1_2, l1_3, l1_4, l1_5, l1_6⟩ := froz_7 y1_1; have n1 := (Array.getElem?_eq_some_iff.1 y1_1).1) | skip)))
          all_goals go_wp2_with fail
          all_goals go_meet
          all_goals first | (have zz := y1_0; exact msgEndB zz (Nat.le_refl _) Q) | (have zz := y1_1; exact msgEndB zz (by omega) Q) | exact msgEndA Q
        case rest =>
          obtain ⟨mb, rfl, hm1, hm2, M, bq⟩ := hcut
          generalize wc = u9w at M bq hm2 ⊢
          replace B := below_step B bq
          replace X := row_keep bq X
          replace R := row_keep bq R
          replace O := row_keep bq O
          replace VW := row_keep bq VW
          replace F := owned_next F bq
          have tm : u8w.heap.size ≤ u9w.heap.size := bq.size
          clear bq
          obtain ⟨Xc0, Xc1, Xc2, Xc3, Xc4, Xc5, Xc6, Xc7, Xc8⟩ := cells_core X
          have Xlt := (Array.getElem?_eq_some_iff.1 X).1
          obtain ⟨Rc0, Rc1, Rc2, Rc3, Rc4, Rc5, Rc6, Rc7, Rc8⟩ := cells_core R
          have Rlt := (Array.getElem?_eq_some_iff.1 R).1
          obtain ⟨Rf0, Rf1, Rf2, Rf3, Rf4, Rf5, Rf6, Rf7, Rf8⟩ := froz_core R
          obtain ⟨Oc0, Oc1, Oc2, Oc3⟩ := cells_4 O
          have Olt := (Array.getElem?_eq_some_iff.1 O).1
          obtain ⟨VWc0, VWc1, VWc2⟩ := cells_three VW
          have VWlt := (Array.getElem?_eq_some_iff.1 VW).1
          obtain ⟨Mc0, Mc1, Mc2, Mc3, Mc4, Mc5, Mc6⟩ := cells_7 M
          have Mlt := (Array.getElem?_eq_some_iff.1 M).1
          have ne1 : ¬ (mb = w.heap.size + 1) := by omega
          have ne2 : ¬ (w.heap.size + 1 = mb) := by omega
          have ne3 : ¬ (w.heap.size = w.heap.size + 1) := by omega
          have ne4 : ¬ (w.heap.size + 1 = w.heap.size) := by omega
          have HK : Hid _ := And.intro B (And.intro X (And.intro R (And.intro O (And.intro VW (And.intro M (F))))))
          clear B X R O VW M F
          go_upto_region 11 with fail
          go_region
          all_goals go_wp2
          clear Xc0 Xc1 Xc2 Xc3 Xc4 Xc5 Xc6 Xc7 Xc8 Xlt Rc0 Rc1 Rc2 Rc3 Rc4 Rc5 Rc6 Rc7 Rc8 Rlt Rf0 Rf1 Rf2 Rf3 Rf4 Rf5 Rf6 Rf7 Rf8 Oc0 Oc1 Oc2 Oc3 Olt VWc0 VWc1 VWc2 VWlt Mc0 Mc1 Mc2 Mc3 Mc4 Mc5 Mc6 Mlt
          clear ne1 ne2 ne3 ne4
          obtain ⟨B, X, R, O, VW, M, F⟩ := HK.out
          clear HK
          have V2 := row_keep (box_below _ (.cells #[.int .i64 0, .int .i64 id, .int .i64 4, .int .i64 rq, .int .i64 kl, .slice none 0 0, .int .i64 0] 50)) (put_core (y0 := .slice a0 c.1.length c0) (y1 := .slice b0 c.2.length d0) (y2 := .slice a1 p.length c1) (y3 := .int .i64 at_) (y4 := .int .i64 2) (y5 := .int .i64 h.1) (y6 := .int .i64 h.2.1) (y7 := .slice a4 h.2.2.length c4) (y8 := .slice a5 t.length c5) R)
          have hS := HSS.out
          have FS : (setCs u9w (w.heap.size + 1) 0 [.slice a0 c.1.length c0, .slice b0 c.2.length d0, .slice a1 p.length c1, .int .i64 at_, .int .i64 2, .int .i64 h.1, .int .i64 h.2.1, .slice a4 h.2.2.length c4, .slice a5 t.length c5]).heap.size = u9w.heap.size := setCs_size _ _ _
          have bsz := B.size
          have CO := core_one (own_setCs (g := w.heap.size + 1) (o := 0) (vs := [.slice a0 c.1.length c0, .slice b0 c.2.length d0, .slice a1 p.length c1, .int .i64 at_, .int .i64 2, .int .i64 h.1, .int .i64 h.2.1, .slice a4 h.2.2.length c4, .slice a5 t.length c5]) (own_phase (HOW.out _ B) (show In64 2 by constructor <;> decide)) (fun q => by have := hS _ q; omega)) (fun k q => by rw [FS]; have := hS _ q; omega) (cm := [.int .i64 0, .int .i64 id, .int .i64 4, .int .i64 rq, .int .i64 kl, .slice none 0 0, .int .i64 0]) (m := msg 0 id 4 rq kl [] 0) (own_msg (by constructor <;> decide) hid (by constructor <;> decide) hrq64 hk6 (by constructor <;> decide) (own_zero12 _ _))
          rw [FS] at CO
          have FO := (prodR coreR msgsR).own_mono (T := fun k => S k ∨ (w.heap.size ≤ k ∧ k < ((setCs u9w (w.heap.size + 1) 0 [.slice a0 c.1.length c0, .slice b0 c.2.length d0, .slice a1 p.length c1, .int .i64 at_, .int .i64 2, .int .i64 h.1, .int .i64 h.2.1, .slice a4 h.2.2.length c4, .slice a5 t.length c5]).alloc (.cells #[.int .i64 0, .int .i64 id, .int .i64 4, .int .i64 rq, .int .i64 kl, .slice none 0 0, .int .i64 0] 50)).heap.size)) CO (fun k q => by rcases q with q | q; exact .inl q; exact .inr ⟨by have := q.1; omega, q.2⟩)
          have FC : Chg S w ((setCs u9w (w.heap.size + 1) 0 [.slice a0 c.1.length c0, .slice b0 c.2.length d0, .slice a1 p.length c1, .int .i64 at_, .int .i64 2, .int .i64 h.1, .int .i64 h.2.1, .slice a4 h.2.2.length c4, .slice a5 t.length c5]).alloc (.cells #[.int .i64 0, .int .i64 id, .int .i64 4, .int .i64 rq, .int .i64 kl, .slice none 0 0, .int .i64 0] 50)) := chg_below (below_step (below_setCs0 (g := w.heap.size + 1) (o := 0) (vs := [.slice a0 c.1.length c0, .slice b0 c.2.length d0, .slice a1 p.length c1, .int .i64 at_, .int .i64 2, .int .i64 h.1, .int .i64 h.2.1, .slice a4 h.2.2.length c4, .slice a5 t.length c5]) B (by omega)) (box_below _ _))
          replace FO := own_drewT FO
          replace FC := chg_drew FC
          have V3 := row_drew V2
          obtain ⟨r0, r1, r2, r3, r4, r5, r6, r7, r8⟩ := cells_core V3
          simp only [setCs_cons, setCs_nil, Nat.reduceAdd] at FO FC
          clear B X R O VW M F CO V2 V3 FS
          exact bodyPost_ret (v := .tuple #[.agg #[.slice a0 c.1.length c0, .slice b0 c.2.length d0, .slice a1 p.length c1, .int .i64 at_, .int .i64 2, .int .i64 h.1, .int .i64 h.2.1, .slice a4 h.2.2.length c4, .slice a5 t.length c5], .slice (some ⟨u9w.heap.size, 0, none⟩) 1 1, .int .i64 3]) (by simp [results, Tryz.results45, go_sem, r0, r1, r2, r3, r4, r5, r6, r7, r8]) rfl ⟨[.slice a0 c.1.length c0, .slice b0 c.2.length d0, .slice a1 p.length c1, .int .i64 at_, .int .i64 2, .int .i64 h.1, .int .i64 h.2.1, .slice a4 h.2.2.length c4, .slice a5 t.length c5], .slice (some ⟨u9w.heap.size, 0, none⟩) 1 1, rfl, rfl, FO, FC⟩
      · have hbe := HBE.out hl
        obtain ⟨hl6, hlf, hbeg⟩ := hbe
        obtain ⟨n0, hn0⟩ : ∃ n0, n0 = evX (c, p, at_, ph, h, t) lv := ⟨_, rfl⟩
        obtain ⟨m0, hm0⟩ : ∃ m0, m0 = evM (c, p, at_, ph, h, t) id lv := ⟨_, rfl⟩
        rw [← hn0, ← hm0] at hbeg
        have HN0 : Hid _ := And.intro hn0 hm0
        clear hn0 hm0
        subst hbeg
        have hl2 : (lv != -1) = true := by simp [hl]
        clear HBE HBA
        obtain ⟨Xc0, Xc1, Xc2, Xc3, Xc4, Xc5, Xc6, Xc7, Xc8⟩ := cells_core X
        have Xlt := (Array.getElem?_eq_some_iff.1 X).1
        obtain ⟨Rc0, Rc1, Rc2, Rc3, Rc4, Rc5, Rc6, Rc7, Rc8⟩ := cells_core R
        have Rlt := (Array.getElem?_eq_some_iff.1 R).1
        obtain ⟨Oc0, Oc1, Oc2, Oc3⟩ := cells_4 O
        have Olt := (Array.getElem?_eq_some_iff.1 O).1
        obtain ⟨VWc0, VWc1, VWc2⟩ := cells_three VW
        have VWlt := (Array.getElem?_eq_some_iff.1 VW).1
        go_wp2_with fail
        clear Xc0 Xc1 Xc2 Xc3 Xc4 Xc5 Xc6 Xc7 Xc8 Xlt Rc0 Rc1 Rc2 Rc3 Rc4 Rc5 Rc6 Rc7 Rc8 Rlt Oc0 Oc1 Oc2 Oc3 Olt VWc0 VWc1 VWc2 VWlt
        refine (HEV.out lv _ B hl6 hlf).mono ?_
        rintro e wd ⟨ds, ms, rfl, hlen, DO, DB⟩
        rw [← HN0.out.1, ← HN0.out.2] at DO
        have pr := pair_rd ((prodR coreR msgsR).own_rd DO) hlen
        obtain ⟨dga, dgc, dgb, dgd, dha, dhc, dia, dic, dja, djc, rfl⟩ := core_shape pr.1
        obtain ⟨sa, sc, ro, -, -, -⟩ := pr.2
        simp only [List.cons.injEq, and_true] at ro
        obtain rfl := ro
        rw [show aggV [.slice dga n0.1.1.length dgc, .slice dgb n0.1.2.length dgd, .slice dha n0.2.1.length dhc, .int .i64 n0.2.2.1, .int .i64 n0.2.2.2.1, .int .i64 n0.2.2.2.2.1.1, .int .i64 n0.2.2.2.2.1.2.1, .slice dia n0.2.2.2.2.1.2.2.length dic, .slice dja n0.2.2.2.2.2.length djc] = .agg #[.slice dga n0.1.1.length dgc, .slice dgb n0.1.2.length dgd, .slice dha n0.2.1.length dhc, .int .i64 n0.2.2.1, .int .i64 n0.2.2.2.1, .int .i64 n0.2.2.2.2.1.1, .int .i64 n0.2.2.2.2.1.2.1, .slice dia n0.2.2.2.2.1.2.2.length dic, .slice dja n0.2.2.2.2.2.length djc] from rfl]
        have hS := HSS.out
        have szd := DB.size
        have bsz := B.size
        have R2 := row_keep DB R
        obtain ⟨z0, z1, z2, z3, z4, z5, z6, z7, z8⟩ := cells_core R2
        obtain ⟨zf0, zf1, zf2, zf3, zf4, zf5, zf6, zf7, zf8⟩ := froz_core R2
        have zlt := (Array.getElem?_eq_some_iff.1 R2).1
        have HZ : Hid _ := And.intro DO (And.intro DB (And.intro R2 B))
        clear DO DB R2 X R O VW F B pr hl2
        go_wp2
        obtain ⟨DO, DB, R2, B⟩ := HZ.out
        obtain ⟨r0, r1, r2, r3, r4, r5, r6, r7, r8⟩ := cells_core (put_core (y0 := .slice dga n0.1.1.length dgc) (y1 := .slice dgb n0.1.2.length dgd) (y2 := .slice dha n0.2.1.length dhc) (y3 := .int .i64 n0.2.2.1) (y4 := .int .i64 n0.2.2.2.1) (y5 := .int .i64 n0.2.2.2.2.1.1) (y6 := .int .i64 n0.2.2.2.2.1.2.1) (y7 := .slice dia n0.2.2.2.2.1.2.2.length dic) (y8 := .slice dja n0.2.2.2.2.2.length djc) R2)
        have FS : (setCs wd (w.heap.size + 1) 0 [.slice dga n0.1.1.length dgc, .slice dgb n0.1.2.length dgd, .slice dha n0.2.1.length dhc, .int .i64 n0.2.2.1, .int .i64 n0.2.2.2.1, .int .i64 n0.2.2.2.2.1.1, .int .i64 n0.2.2.2.2.1.2.1, .slice dia n0.2.2.2.2.1.2.2.length dic, .slice dja n0.2.2.2.2.2.length djc]).heap.size = wd.heap.size := setCs_size _ _ _
        have FO := (prodR coreR msgsR).own_mono (T := fun k => S k ∨ (w.heap.size ≤ k ∧ k < (setCs wd (w.heap.size + 1) 0 [.slice dga n0.1.1.length dgc, .slice dgb n0.1.2.length dgd, .slice dha n0.2.1.length dhc, .int .i64 n0.2.2.1, .int .i64 n0.2.2.2.1, .int .i64 n0.2.2.2.2.1.1, .int .i64 n0.2.2.2.2.1.2.1, .slice dia n0.2.2.2.2.1.2.2.length dic, .slice dja n0.2.2.2.2.2.length djc]).heap.size)) (own_setCs (g := w.heap.size + 1) (o := 0) (vs := [.slice dga n0.1.1.length dgc, .slice dgb n0.1.2.length dgd, .slice dha n0.2.1.length dhc, .int .i64 n0.2.2.1, .int .i64 n0.2.2.2.1, .int .i64 n0.2.2.2.2.1.1, .int .i64 n0.2.2.2.2.1.2.1, .slice dia n0.2.2.2.2.1.2.2.length dic, .slice dja n0.2.2.2.2.2.length djc]) DO (fun q => by rcases q with q | q; (have := hS _ q; omega); (have := q.1; omega))) (fun k q => by rw [FS]; rcases q with q | q; exact .inl q; exact .inr ⟨by have := q.1; omega, q.2⟩)
        have FC : Chg S w (setCs wd (w.heap.size + 1) 0 [.slice dga n0.1.1.length dgc, .slice dgb n0.1.2.length dgd, .slice dha n0.2.1.length dhc, .int .i64 n0.2.2.1, .int .i64 n0.2.2.2.1, .int .i64 n0.2.2.2.2.1.1, .int .i64 n0.2.2.2.2.1.2.1, .slice dia n0.2.2.2.2.1.2.2.length dic, .slice dja n0.2.2.2.2.2.length djc]) := chg_below (below_setCs0 (g := w.heap.size + 1) (o := 0) (vs := [.slice dga n0.1.1.length dgc, .slice dgb n0.1.2.length dgd, .slice dha n0.2.1.length dhc, .int .i64 n0.2.2.1, .int .i64 n0.2.2.2.1, .int .i64 n0.2.2.2.2.1.1, .int .i64 n0.2.2.2.2.1.2.1, .slice dia n0.2.2.2.2.1.2.2.length dic, .slice dja n0.2.2.2.2.2.length djc]) (below_step B DB) (by omega))
        simp only [setCs_cons, setCs_nil, Nat.reduceAdd] at FO FC
        clear DO DB R2 FS B HZ
        exact bodyPost_ret (v := .tuple #[.agg #[.slice dga n0.1.1.length dgc, .slice dgb n0.1.2.length dgd, .slice dha n0.2.1.length dhc, .int .i64 n0.2.2.1, .int .i64 n0.2.2.2.1, .int .i64 n0.2.2.2.2.1.1, .int .i64 n0.2.2.2.2.1.2.1, .slice dia n0.2.2.2.2.1.2.2.length dic, .slice dja n0.2.2.2.2.2.length djc], .slice sa [m0].length sc, .int .i64 2]) (by simp [results, Tryz.results45, go_sem, r0, r1, r2, r3, r4, r5, r6, r7, r8]) rfl ⟨[.slice dga n0.1.1.length dgc, .slice dgb n0.1.2.length dgd, .slice dha n0.2.1.length dhc, .int .i64 n0.2.2.1, .int .i64 n0.2.2.2.1, .int .i64 n0.2.2.2.2.1.1, .int .i64 n0.2.2.2.2.1.2.1, .slice dia n0.2.2.2.2.1.2.2.length dic, .slice dja n0.2.2.2.2.2.length djc], .slice sa [m0].length sc, rfl, rfl, FO, FC⟩
end Go.Proofs.YthbclkpmgcfdnaaGreatDoor
