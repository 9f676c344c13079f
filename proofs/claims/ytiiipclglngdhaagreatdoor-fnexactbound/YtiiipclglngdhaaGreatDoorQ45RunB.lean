import Derived.Test.YtiiipclglngdhaaGreatDoorQ00Box
import Derived.Test.YtiiipclglngdhaaGreatDoorQ44FabI
import Derived.Test.YtiiipclglngdhaaGreatDoorQ42FabDefs
import Derived.Test.YtiiipclglngdhaaGreatDoorQ02Nums
import Derived.Test.YtiiipclglngdhaaGreatDoorQ14Lines6
namespace Go.Proofs.YtiiipclglngdhaaGreatDoor
set_option maxHeartbeats 4000000
set_option maxRecDepth 20000
open Go.ChangeShapes Go.WideShapes Go.ChangeAt Go.RowKit
set_option linter.unusedVariables false
set_option linter.unusedSimpArgs false
def hdrR : Rep (List Value) where
 size := 1
 tys := []
 rd _ cs a := cs = a ∧ a.length = 1
 own _ _ cs a := cs = a ∧ a.length = 1
 rd_len h := by rw [h.1]; exact h.2
 rd_keep h _ := h
 own_rd h := h
 own_mono h _ := h
 own_keep h _ := h
 own_tight h := h
theorem lrd_hdr {w : World} : ∀ {rows : List Value} {hs : List (List Value)} {ps : List (List OpD)}, lrd hdrR w rows hs → hs.length = ps.length → (∀ (j : Nat) h p, hs[j]? = some h → ps[j]? = some p → opsR.rd w h p) → lrd opsR w rows ps
 | _, [], [], h, _, _ => h
 | _, [], _ :: _, _, e, _ => by cases e
 | _, _ :: _, [], _, e, _ => by cases e
 | _, a :: hs, p :: ps, ⟨c1, c2, e, h1, h2⟩, hl, hr => ⟨c1, c2, e, by rw [h1.1]; exact hr 0 a p rfl rfl, lrd_hdr h2 (by simpa using hl) fun j b q hb hq => hr (j + 1) b q hb hq⟩
structure Progs (w : World) (x : FabricD) (k : Nat) (v : Value) (wr : World) : Prop where
 ex : ∃ (a : Option Addr) (cap : Nat) (hs : List (List Value)), v = .slice a k cap ∧ hs.length = k ∧ MadeR (slR 76 hdrR) w wr [v] hs ∧ ∀ (j : Nat) h u, hs[j]? = some h → x.2.2.1[j]? = some u → opsR.rd w h u.2.1
theorem progs_start (w : World) (x : FabricD) : Progs w x 0 (.slice (some ⟨w.heap.size, 0, none⟩) 0 0) (w.alloc (.cells #[] 76)) :=
 ⟨_, _, [], rfl, rfl, made_cap (R := hdrR) w #[] 0 (Nat.zero_le _) rfl, fun j h u hj => by simp at hj⟩
theorem progs_end {w wr : World} {x : FabricD} {v : Value} (h : Progs w x x.2.2.1.length v wr) : ∃ (a : Option Addr) (cap : Nat), v = .slice a (progsL x).length cap ∧ SlRd opsR wr a (progsL x) ∧ Below w.heap.size w wr := by
 obtain ⟨a, cap, hs, rfl, hl, M, hr⟩ := h.ex
 have el : (progsL x).length = x.2.2.1.length := by simp [progsL]
 obtain ⟨a', cap', e, -, -, q⟩ := (slR 76 hdrR).own_rd M.1
 simp only [List.cons.injEq, Value.slice.injEq, and_true] at e
 obtain ⟨rfl, -, rfl⟩ := e
 refine ⟨a, cap, by rw [el], ?_, M.2⟩
 rcases q with q | ⟨b, off, rows, rfl, h4, h5⟩
 ·left
  exact List.eq_nil_of_length_eq_zero (by rw [el, ← hl, q]; rfl)
 ·refine .inr ⟨b, off, rows, rfl, lrd_hdr h4 (by rw [hl, el]) fun j h p hj hp => ?_, h5⟩
  unfold progsL at hp
  rw [List.getElem?_map] at hp
  obtain ⟨u, hu, rfl⟩ := Option.map_eq_some_iff.1 hp
  exact rd_next (hr j h u hj hu) M.2
theorem core_ops {w : World} {u : CoreD} {v0 v1 v3 v4 v5 v6 v7 v8 : Value} {ha : Option Addr} {hc : Nat} (h : coreR.rd w [v0, v1, .slice ha u.2.1.length hc, v3, v4, v5, v6, v7, v8] u) : opsR.rd w [.slice ha u.2.1.length hc] u.2.1 := by
 obtain ⟨z0, z1, z2, z5, z6, z7, z8, e, r0, r1, -⟩ := core_rd h
 simp only [List.cons.injEq, and_true] at e
 obtain ⟨-, -, rfl, -⟩ := e
 exact r1
theorem Tryz.infoOpsL : (Tryz.prog.info? 76).map (fun i => (i.zero, i.size, i.bytes)) = some (some (.slice none 0 0), 1, 24) := by kernel_rfl
theorem programs_any (x : FabricD) (a1 : Option Addr) (c1 : Nat) (b1 : Option Addr) (d1 : Nat) (a2 : Option Addr) (c2 : Nat) (a3 : Option Addr) (c3 : Nat) (b3 : Option Addr) (d3 : Nat) (a4 : Option Addr) (c4 : Nat) (a5 : Option Addr) (c5 : Nat) (w : World) (R : FabRd w x a1 c1 b1 d1 a2 c2 a3 c3 b3 d3 a4 c4 a5 c5) (hl : x.2.2.1.length ≤ 4) :
    Calls Tryz.prog 34 #[.agg #[.int .i64 x.1.1, .int .i64 x.1.2.1, .int .i64 x.1.2.2.1, .int .i64 x.1.2.2.2, .slice a1 x.2.1.1.length c1, .slice b1 x.2.1.2.length d1, .slice a2 x.2.2.1.length c2, .slice a3 x.2.2.2.1.1.length c3, .int .i64 x.2.2.2.1.2.1, .bool x.2.2.2.1.2.2.1, .slice b3 x.2.2.2.1.2.2.2.length d3, .slice a4 x.2.2.2.2.1.length c4, .slice a5 x.2.2.2.2.2.length c5]] w fun e w' => ∃ (a : Option Addr) (cap : Nat), e = .returned (.slice a (progsL x).length cap) ∧ SlRd opsR w' a (progsL x) ∧ Below w.heap.size w w' := by
 have RR : Hid (∀ W, Below w.heap.size w W → SlRd coreR W a2 x.2.2.1) := fun W hb => (fab_next R hb).cores
 have B := Below.refl w.heap.size w
 clear R
 go_enter Tryz.func34, Tryz.ntmps34
 go_upto_region 1 with fail
 generalize hu1w : w.alloc _ = u1w
 have F := boxH hu1w
 have bz := boxB hu1w
 have zF := boxL hu1w
 clear hu1w
 replace B := below_step B bz
 clear bz
 clear zF
 have HF : Hid _ := F
 have HB : Hid _ := B
 have P0 := progs_start u1w x
 obtain ⟨Fc0, Fc1, Fc2, Fc3, Fc4, Fc5, Fc6, Fc7, Fc8, Fc9, Fc10, Fc11, Fc12⟩ := cells_fabric F
 have Flt := (Array.getElem?_eq_some_iff.1 F).1
 clear F B
 go_wp2
 generalize u1w.alloc (.cells #[] 76) = u2w at P0 ⊢
 go_loopw [3, 10] (fun r i wr => ∃ k : Nat, k ≤ x.2.2.1.length ∧ i = .int .i64 k ∧ Progs u1w x k r wr) (fun _ i _ => x.2.2.1.length - (intOf i).toNat)
 case atStart => exact ⟨0, Nat.zero_le _, rfl, P0⟩
 case round =>
  clear P0
  obtain ⟨k, hk, rfl, PP⟩ := hrel
  by_cases hlt : k < x.2.2.1.length
  ·have hlt' : (k : Int) < (x.2.2.1.length : Int) := by omega
   obtain ⟨u, hx⟩ : ∃ u, x.2.2.1[k]? = some u := ⟨_, List.getElem?_eq_getElem hlt⟩
   obtain ⟨pa, pc, hs, rfl, hsl, M, hr⟩ := PP.ex
   obtain ⟨bb, off, cs, ra, hrdx, hcell⟩ := slrd_at (RR.out _ HB.out) hx
   obtain ⟨ga, gc, gb, gd, ha, hc, ia, ic, ja, jc, rfl⟩ := core_shape hrdx
   have HOP : Hid (opsR.rd u1w [Value.slice ha u.2.1.length hc] u.2.1) := core_ops hrdx
   replace hcell := fun i v h => cell_keep M.2 (hcell i v h) (cell_lt (hcell i v h))
   obtain ⟨x0, x1, x2, x3, x4, x5, x6, x7, x8⟩ := cellsAt9 hcell rfl
   subst ra
   have HHS : Hid (∀ (j : Nat) h v, (hs ++ [[Value.slice ha u.2.1.length hc]])[j]? = some h → x.2.2.1[j]? = some v → opsR.rd u1w h v.2.1) := fun j h v hj hv => by
    by_cases he : j < hs.length
    ·rw [List.getElem?_append_left he] at hj
     exact hr j h v hj hv
    ·have hjl : j < (hs ++ [[Value.slice ha u.2.1.length hc]]).length := (List.getElem?_eq_some_iff.1 hj).1
     simp only [List.length_append, List.length_cons, List.length_nil] at hjl
     have e : j = k := by omega
     subst e
     rw [hx] at hv
     rw [List.getElem?_append_right (by omega), hsl, Nat.sub_self] at hj
     simp only [List.getElem?_cons_zero, Option.some.injEq] at hj
     cases hv
     rw [← hj]
     exact HOP.out
   obtain ⟨ti, hi, hz0, hz1, hz2⟩ := info_parts Tryz.infoOpsL
   have HM : Hid _ := M
   have HSL : Hid _ := hsl
   clear hcell hrdx hx M hr PP HOP
   go_upto_region 5 with fail
   clear x0 x1 x2 x3 x4 x5 x6 x7 x8
   generalize hwv : wr.alloc _ = wv
   have X := boxH hwv
   have BZ := boxB hwv
   clear hwv
   obtain ⟨y0, y1, y2, y3, y4, y5, y6, y7, y8⟩ := cells_core X
   have ylt := (Array.getElem?_eq_some_iff.1 X).1
   go_wp2_with (at_builtin; refine wpList_pm (w0 := u1w) (wr := wr) (w1 := wv) rfl _ _ 82 rfl hdrR 76 ti (.slice none 0 0) 24 Tryz.underlying82 hi hz0 hz1 hz2 rfl (by decide) (by decide) (.slice pa k pc) hs [Value.slice ha u.2.1.length hc] [Value.slice ha u.2.1.length hc] 1 rfl _ rfl rfl HM.out BZ ⟨rfl, rfl⟩ ?c1 ?c2 ?c3 ?_)
   case c1 => intro q hq; simp at hq; subst hq; rfl
   case c2 => rw [HSL.out]; unfold maxLen; omega
   case c3 => rw [HSL.out]; omega
   intro g' cap' w2 NM NC
   try rw [HSL.out] at NM
   try rw [HSL.out]
   have HNM : Hid (Progs u1w x (k + 1) (.slice (some ⟨g', 0, none⟩) (k + 1) cap') w2) := ⟨_, _, _, rfl, by rw [List.length_append, HSL.out]; rfl, NM, HHS.out⟩
   clear NM NC BZ HM HHS X y0 y1 y2 y3 y4 y5 y6 y7 y8 ylt
   go_wp2
   go_roundw
   case rel => exact ⟨k + 1, by omega, by go_num, HNM.out⟩
   case measure => simp [intOf]; omega
  ·have hkn : k = x.2.2.1.length := by omega
   subst hkn
   obtain ⟨pa, pc, rfl, HS, HB2⟩ := progs_end PP
   have HH : Hid _ := And.intro HS (below_step HB.out HB2)
   clear PP HS HB2
   go_wp2
   go_ret
   exact ⟨_, _, rfl, HH.out⟩
theorem implBound_any (x : FabricD) (a1 : Option Addr) (c1 : Nat) (b1 : Option Addr) (d1 : Nat) (a2 : Option Addr) (c2 : Nat) (a3 : Option Addr) (c3 : Nat) (b3 : Option Addr) (d3 : Nat) (a4 : Option Addr) (c4 : Nat) (a5 : Option Addr) (c5 : Nat) (w : World) (R : FabRd w x a1 c1 b1 d1 a2 c2 a3 c3 b3 d3 a4 c4 a5 c5) (hh : Hold w) :
    Calls Tryz.prog 11 #[.agg #[.int .i64 x.1.1, .int .i64 x.1.2.1, .int .i64 x.1.2.2.1, .int .i64 x.1.2.2.2, .slice a1 x.2.1.1.length c1, .slice b1 x.2.1.2.length d1, .slice a2 x.2.2.1.length c2, .slice a3 x.2.2.2.1.1.length c3, .int .i64 x.2.2.2.1.2.1, .bool x.2.2.2.1.2.2.1, .slice b3 x.2.2.2.1.2.2.2.length d3, .slice a4 x.2.2.2.2.1.length c4, .slice a5 x.2.2.2.2.2.length c5]] w fun e w' => e = .returned (.int .i64 (bouI x)) ∧ Below w.heap.size w w' := by
 have H0 : Hid (∀ W, Below w.heap.size w W → Calls Tryz.prog 25 #[.agg #[.int .i64 x.1.1, .int .i64 x.1.2.1, .int .i64 x.1.2.2.1, .int .i64 x.1.2.2.2, .slice a1 x.2.1.1.length c1, .slice b1 x.2.1.2.length d1, .slice a2 x.2.2.1.length c2, .slice a3 x.2.2.2.1.1.length c3, .int .i64 x.2.2.2.1.2.1, .bool x.2.2.2.1.2.2.1, .slice b3 x.2.2.2.1.2.2.2.length d3, .slice a4 x.2.2.2.2.1.length c4, .slice a5 x.2.2.2.2.2.length c5]] W fun e w' => e = .returned (.bool (fabI x)) ∧ Below W.heap.size W w') := fun W hb => implFabricOk_any x a1 c1 b1 d1 a2 c2 a3 c3 b3 d3 a4 c4 a5 c5 W (fab_next R hb) (hh.goes hb)
 have B := Below.refl w.heap.size w
 cases hf : fabI x
 ·have HV : Hid (bouI x = -1) := by unfold Hid bouI; rw [hf]; rfl
  rw [hf] at H0
  clear R hh
  go_enter Tryz.func11, Tryz.ntmps11
  go_upto_region 1 with fail
  generalize hu1w : w.alloc _ = u1w
  have F := boxH hu1w
  have bz := boxB hu1w
  have zF := boxL hu1w
  clear hu1w
  replace B := below_step B bz
  clear bz
  clear zF
  obtain ⟨Fc0, Fc1, Fc2, Fc3, Fc4, Fc5, Fc6, Fc7, Fc8, Fc9, Fc10, Fc11, Fc12⟩ := cells_fabric F
  have Flt := (Array.getElem?_eq_some_iff.1 F).1
  go_wp2_with fail
  clear Fc0 Fc1 Fc2 Fc3 Fc4 Fc5 Fc6 Fc7 Fc8 Fc9 Fc10 Fc11 Fc12 Flt
  refine (H0.out _ B).mono ?_
  rintro e u2w ⟨rfl, bq⟩
  replace B := below_step B bq
  replace F := row_keep bq F
  clear bq
  obtain ⟨Fc0, Fc1, Fc2, Fc3, Fc4, Fc5, Fc6, Fc7, Fc8, Fc9, Fc10, Fc11, Fc12⟩ := cells_fabric F
  have Flt := (Array.getElem?_eq_some_iff.1 F).1
  have HB : Hid _ := B
  clear B F
  go_wp2
  go_ret
  exact ⟨ret_int HV.out.symm, HB.out⟩
 ·have HV : Hid (bouI x = ((x.2.2.2.1.1.length + lensI (progsL x) : Nat) : Int) * (7 + 2 * x.1.1)) := by unfold Hid bouI; rw [if_pos hf]
  obtain ⟨hp4, hlen⟩ := progs_le hf
  obtain ⟨⟨hc1, hc4⟩, hcl, -⟩ := fab_facts hf
  have H1 : Hid (∀ W, Below w.heap.size w W → Calls Tryz.prog 34 #[.agg #[.int .i64 x.1.1, .int .i64 x.1.2.1, .int .i64 x.1.2.2.1, .int .i64 x.1.2.2.2, .slice a1 x.2.1.1.length c1, .slice b1 x.2.1.2.length d1, .slice a2 x.2.2.1.length c2, .slice a3 x.2.2.2.1.1.length c3, .int .i64 x.2.2.2.1.2.1, .bool x.2.2.2.1.2.2.1, .slice b3 x.2.2.2.1.2.2.2.length d3, .slice a4 x.2.2.2.2.1.length c4, .slice a5 x.2.2.2.2.2.length c5]] W fun e w' => ∃ (a : Option Addr) (cap : Nat), e = .returned (.slice a (progsL x).length cap) ∧ SlRd opsR w' a (progsL x) ∧ Below W.heap.size W w') := fun W hb => programs_any x a1 c1 b1 d1 a2 c2 a3 c3 b3 d3 a4 c4 a5 c5 W (fab_next R hb) (by omega)
  rw [hf] at H0
  clear R hh
  go_enter Tryz.func11, Tryz.ntmps11
  go_upto_region 1 with fail
  generalize hu1w : w.alloc _ = u1w
  have F := boxH hu1w
  have bz := boxB hu1w
  have zF := boxL hu1w
  clear hu1w
  replace B := below_step B bz
  clear bz
  clear zF
  obtain ⟨Fc0, Fc1, Fc2, Fc3, Fc4, Fc5, Fc6, Fc7, Fc8, Fc9, Fc10, Fc11, Fc12⟩ := cells_fabric F
  have Flt := (Array.getElem?_eq_some_iff.1 F).1
  go_wp2_with fail
  clear Fc0 Fc1 Fc2 Fc3 Fc4 Fc5 Fc6 Fc7 Fc8 Fc9 Fc10 Fc11 Fc12 Flt
  refine (H0.out _ B).mono ?_
  rintro e u2w ⟨rfl, bq⟩
  replace B := below_step B bq
  replace F := row_keep bq F
  clear bq
  obtain ⟨Fc0, Fc1, Fc2, Fc3, Fc4, Fc5, Fc6, Fc7, Fc8, Fc9, Fc10, Fc11, Fc12⟩ := cells_fabric F
  have Flt := (Array.getElem?_eq_some_iff.1 F).1
  go_upto_region 3 with fail
  clear Fc0 Fc1 Fc2 Fc3 Fc4 Fc5 Fc6 Fc7 Fc8 Fc9 Fc10 Fc11 Fc12 Flt
  replace B := B.drew
  obtain ⟨Fc0, Fc1, Fc2, Fc3, Fc4, Fc5, Fc6, Fc7, Fc8, Fc9, Fc10, Fc11, Fc12⟩ := cells_fabric F
  have Flt := (Array.getElem?_eq_some_iff.1 F).1
  have HN : Hid _ := bound_num (N := x.2.2.2.1.1.length + lensI (progsL x)) hlen hc1 hc4
  go_region_with (first | (go_at_call 34; refine (H1.out _ B).mono ?_; rintro e wq ⟨pa, pc, rfl, HS, mb⟩; clear Fc0 Fc1 Fc2 Fc3 Fc4 Fc5 Fc6 Fc7 Fc8 Fc9 Fc10 Fc11 Fc12 Flt; replace B := below_step B mb; replace F := row_keep mb F; obtain ⟨Fc0, Fc1, Fc2, Fc3, Fc4, Fc5, Fc6, Fc7, Fc8, Fc9, Fc10, Fc11, Fc12⟩ := cells_fabric F; have Flt := (Array.getElem?_eq_some_iff.1 F).1; clear mb) | (go_at_call 33; refine (implWork_any _ (progsL x) _ _ x.2.2.2.1.1.length _ _ HS (by omega) (by omega)).mono ?_; rintro e wq ⟨rfl, mb⟩; clear Fc0 Fc1 Fc2 Fc3 Fc4 Fc5 Fc6 Fc7 Fc8 Fc9 Fc10 Fc11 Fc12 Flt; replace B := below_step B mb; replace F := row_keep mb F; obtain ⟨Fc0, Fc1, Fc2, Fc3, Fc4, Fc5, Fc6, Fc7, Fc8, Fc9, Fc10, Fc11, Fc12⟩ := cells_fabric F; have Flt := (Array.getElem?_eq_some_iff.1 F).1; clear mb HS))
  all_goals
   clear Fc0 Fc1 Fc2 Fc3 Fc4 Fc5 Fc6 Fc7 Fc8 Fc9 Fc10 Fc11 Fc12 Flt F
   go_wp2
   go_ret
   exact ⟨ret_int (by first | (rw [HV.out, ← HN.out]; done) | rw [HV.out, ← HN.out, Int.natCast_add]), B⟩
def loopsOf : Code → List Code
 | .loop c => [c]
 | .seq a b => loopsOf a ++ loopsOf b
 | .block _ c => loopsOf c
 | .scope c => loopsOf c
 | .cond _ a b => loopsOf a ++ loopsOf b
 | _ => []
noncomputable def fabCode (n : Nat) : Code := ((Tryz.f17.body.map loopsOf).getD []).getD n .skip
theorem all_upto {α : Type} {p : α → Bool} {xs : List α} (h : ∀ (j : Nat) v, xs[j]? = some v → p v = true) : xs.all p = true := List.all_eq_true.2 fun v hv => by
 obtain ⟨j, hj⟩ := List.getElem?_of_mem hv
 exact h j v hj
structure UptoF (w : World) (x : FabricD) (a1 b1 a2 a3 b3 a4 a5 : Option Addr) (c1 d1 c2 c3 d3 c4 c5 : Nat) (n : Nat) (p : Nat → Prop) (i : Value) (wr : World) : Prop where
 ex : ∃ k : Nat, k ≤ n ∧ i = .int .i64 k ∧ (∀ j, j < k → p j) ∧ Below w.heap.size w wr ∧ wr.heap[w.heap.size]? = some (.cells #[.int .i64 x.1.1, .int .i64 x.1.2.1, .int .i64 x.1.2.2.1, .int .i64 x.1.2.2.2, .slice a1 x.2.1.1.length c1, .slice b1 x.2.1.2.length d1, .slice a2 x.2.2.1.length c2, .slice a3 x.2.2.2.1.1.length c3, .int .i64 x.2.2.2.1.2.1, .bool x.2.2.2.1.2.2.1, .slice b3 x.2.2.2.1.2.2.2.length d3, .slice a4 x.2.2.2.2.1.length c4, .slice a5 x.2.2.2.2.2.length c5] 49 (0, 0))
theorem wrap_u64c {c : Int} (h0 : 0 ≤ c) (h4 : c ≤ 4) : IntKind.u64.wrap c = c := by
 rcases (by omega : c = 0 ∨ c = 1 ∨ c = 2 ∨ c = 3 ∨ c = 4) with rfl | rfl | rfl | rfl | rfl <;> rfl
end Go.Proofs.YtiiipclglngdhaaGreatDoor
