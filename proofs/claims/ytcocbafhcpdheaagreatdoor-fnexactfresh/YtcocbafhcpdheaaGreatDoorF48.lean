import Derived.Test.YtcocbafhcpdheaaGreatDoorF00Box
import Derived.Test.YtcocbafhcpdheaaGreatDoorF47
namespace Go.Proofs.YtcocbafhcpdheaaGreatDoor
open Go.ChangeShapes Go.WideShapes Go.ChangeAt Go.RowKit
set_option linter.unusedVariables false
theorem specFab_u (cs : List Value) (x : FabricD) (w : World) (h : fabricR.rd w cs x) (hbk : fabricM.bk x ≤ 1048576) :
    Calls Tryz.prog 49 #[aggV cs] w fun e w' => e = .returned (.bool (fabI x)) ∧ Below w.heap.size w w' := by
 rw [← fab_eq];exact specFabricOk_u cs x w h hbk
variable {α : Type}
set_option linter.unusedSimpArgs false
theorem made_from {α : Type} {Q : Rep α} {w u wr : World} {cs : List Value} {xs : α} (B : Below w.heap.size w u) (M : MadeR Q u wr cs xs) : MadeR Q w wr cs xs :=
 ⟨Q.own_mono M.1 (rng_sub B.size (Nat.le_refl _)), below_step B M.2⟩
theorem house_mem {w : World} {x : FabricD} {a1 b1 a2 a3 b3 a4 a5 : Option Addr} {c1 d1 c2 c3 d3 c4 c5 : Nat} (R : FabRd w x a1 c1 b1 d1 a2 c2 a3 c3 b3 d3 a4 c4 a5 c5) : SlRd intsR w a1 x.2.1.1 ∧ x.2.1.1.length ≤ maxLen := by
 obtain ⟨v0, v1, e, ⟨a, c, e0, l1, l2, q⟩, -⟩ := house_rd R.house;simp only [List.cons.injEq, and_true] at e e0;obtain ⟨rfl, rfl⟩ := e;simp only [Value.slice.injEq] at e0;obtain ⟨rfl, -, rfl⟩ := e0;exact ⟨q, Nat.le_trans l1 l2⟩
theorem core_held {w : World} {u : CoreD} {v0 v1 v2 v3 v4 v8 : Value} {ia : Option Addr} {ic : Nat} {z5 z6 : Value} (h : coreR.rd w [v0, v1, v2, v3, v4, z5, z6, .slice ia u.2.2.2.2.1.2.2.length ic, v8] u) : SlRd intR w ia u.2.2.2.2.1.2.2 := by
 obtain ⟨y0, y1, y2, y5, y6, y7, y8, e, r0, r1, i2, i3, r4, r5⟩ := core_rd h;simp only [List.cons.injEq, and_true] at e;obtain ⟨-, -, -, -, -, rfl, rfl, rfl, -⟩ := e;obtain ⟨ad, cpw, e, -, -, -, -, q⟩ := way_rd r4;simp only [List.cons.injEq, and_true, Value.slice.injEq] at e;obtain ⟨-, -, rfl, -⟩ := e;exact q
theorem ent_in {w : World} {cs : List Value} {u : EntryD} (h : entR.rd w cs u) : In64 u.1 := by
 obtain ⟨a, c, -, i0, -⟩ := ent_rd h;exact i0
theorem msg_at {w : World} {cs : List Value} {m : MsgD} (h : msgR.rd w cs m) : ∃ (na : Option Addr) (nc : Nat), cs = [.int .i64 m.1, .int .i64 m.2.1, .int .i64 m.2.2.1, .int .i64 m.2.2.2.1, .int .i64 m.2.2.2.2.1, .slice na m.2.2.2.2.2.1.length nc, .int .i64 m.2.2.2.2.2.2] ∧ m.2.2.2.2.2.1.length ≤ nc ∧ nc ≤ maxLen ∧ SlRd intR w na m.2.2.2.2.2.1 := by
 obtain ⟨a, c, e, -, -, -, -, -, -, l1, l2, q⟩ := msg_rd h;exact ⟨a, c, e, l1, l2, q⟩
def heldQ (x : FabricD) (o k : Int) : Bool := if 0 ≤ o then (match x.2.2.1[o.toNat]? with
 | some u => heldB k u
 | none => false) else false
theorem held_at {x : FabricD} {on : Nat} {k : Int} {u : CoreD} (h : x.2.2.1[on]? = some u) : heldQ x on k = heldB k u := by
 unfold heldQ;rw [if_pos (by omega), Int.toNat_natCast, h]
theorem held_rest {x : FabricD} {o k : Int} (h : heldQ x o k = false) (ho : o < (x.2.2.1.length : Int)) : heldT x o k = restT x o k := by
 unfold heldT;by_cases h0 : 0 ≤ o
 ·obtain ⟨on, rfl⟩ : ∃ on : Nat, o = on := ⟨o.toNat, by omega⟩;obtain ⟨u, hu⟩ : ∃ u, x.2.2.1[on]? = some u := ⟨_, List.getElem?_eq_getElem (by omega)⟩;rw [held_at hu] at h;rw [if_pos h0, Int.toNat_natCast, hu];simp only
  rw [if_neg (by rw [h]; exact Bool.false_ne_true)]
 ·rw [if_neg h0]
theorem held_yes {x : FabricD} {o k : Int} {t : List Int} (h : heldQ x o k = true) (ht : t = heldT x o k) : ∃ (on : Nat) (u : CoreD), o = on ∧ x.2.2.1[on]? = some u ∧ t = u.2.2.2.2.1.2.2 := by
 by_cases h0 : 0 ≤ o
 ·obtain ⟨on, rfl⟩ : ∃ on : Nat, o = on := ⟨o.toNat, by omega⟩;cases hu : x.2.2.1[on]? with
  | none =>
   unfold heldQ at h;rw [if_pos h0, Int.toNat_natCast, hu] at h;cases h
  | some u =>
   rw [held_at hu] at h;refine ⟨on, u, rfl, hu, ?_⟩;rw [ht];unfold heldT;rw [if_pos h0, Int.toNat_natCast, hu];simp only
   rw [if_pos h]
 ·unfold heldQ at h;rw [if_neg h0] at h;cases h
set_option maxHeartbeats 16000000 in
set_option maxRecDepth 20000 in
theorem l17Truth_u (x : FabricD) (a1 : Option Addr) (c1 : Nat) (b1 : Option Addr) (d1 : Nat) (a2 : Option Addr) (c2 : Nat) (a3 : Option Addr) (c3 : Nat) (b3 : Option Addr) (d3 : Nat) (a4 : Option Addr) (c4 : Nat) (a5 : Option Addr) (c5 : Nat) (w : World) (R : FabRd w x a1 c1 b1 d1 a2 c2 a3 c3 b3 d3 a4 c4 a5 c5) (hf : fabI x = true) (hbk : fabricM.bk x ≤ 1048576) (k : Int) (hk0 : 0 ≤ k) (hk1 : k < x.1.2.2.2) :
    Calls Tryz.prog 52 #[.agg #[.int .i64 x.1.1, .int .i64 x.1.2.1, .int .i64 x.1.2.2.1, .int .i64 x.1.2.2.2, .slice a1 x.2.1.1.length c1, .slice b1 x.2.1.2.length d1, .slice a2 x.2.2.1.length c2, .slice a3 x.2.2.2.1.1.length c3, .int .i64 x.2.2.2.1.2.1, .bool x.2.2.2.1.2.2.1, .slice b3 x.2.2.2.1.2.2.2.length d3, .slice a4 x.2.2.2.2.1.length c4, .slice a5 x.2.2.2.2.2.length c5], .int .i64 k] w fun e w' => ∃ v, e = .returned v ∧ MadeR intsR w w' [v] (truthI x k) := by
 have RR : Hid (∀ W, Below w.heap.size w W → FabRd W x a1 c1 b1 d1 a2 c2 a3 c3 b3 d3 a4 c4 a5 c5) := fun W hb => fab_next R hb;have HOK : Hid (∀ u, u ∈ x.2.2.1 → OkC isL treeB u.1) := fun u hu => fab_core hf hu;obtain ⟨⟨hc1, hc4⟩, hcl, -⟩ := fab_facts hf;obtain ⟨⟨hl1, hl16⟩, hbl⟩ := fab_lines hf;have hml := fab_mem hf;have HBO : Hid (∀ e, e ∈ x.2.1.2 → e.1 < (x.2.2.1.length : Int)) := fun e he => by have := fab_book hf he; omega
 have HBK : Hid _ := hbk;obtain ⟨kn, rfl⟩ : ∃ kn : Nat, k = kn := ⟨k.toNat, by omega⟩;have hkb : kn < x.2.1.2.length := by omega
 have hkb' : (kn : Int) < (x.2.1.2.length : Int) := by omega
 have hkm : kn < x.2.1.1.length := by omega
 have hkm' : (kn : Int) < (x.2.1.1.length : Int) := by omega
 have hnl : x.2.2.2.2.1.length ≤ 9223372036854775807 := R.netl;have hcl4 : x.2.2.1.length ≤ 4 := by omega
 have B := Below.refl w.heap.size w;clear R hf hbk hk1 hml hcl hbl hc1 hc4 hl1 hl16;go_enter Tryz.func52, Tryz.ntmps52;go_upto_region 1 with fail
 have F := heap_at w (.cells #[.int .i64 x.1.1, .int .i64 x.1.2.1, .int .i64 x.1.2.2.1, .int .i64 x.1.2.2.2, .slice a1 x.2.1.1.length c1, .slice b1 x.2.1.2.length d1, .slice a2 x.2.2.1.length c2, .slice a3 x.2.2.2.1.1.length c3, .int .i64 x.2.2.2.1.2.1, .bool x.2.2.2.1.2.2.1, .slice b3 x.2.2.2.1.2.2.2.length d3, .slice a4 x.2.2.2.2.1.length c4, .slice a5 x.2.2.2.2.2.length c5] 50);have bz := box_below w (.cells #[.int .i64 x.1.1, .int .i64 x.1.2.1, .int .i64 x.1.2.2.1, .int .i64 x.1.2.2.2, .slice a1 x.2.1.1.length c1, .slice b1 x.2.1.2.length d1, .slice a2 x.2.2.1.length c2, .slice a3 x.2.2.2.1.1.length c3, .int .i64 x.2.2.2.1.2.1, .bool x.2.2.2.1.2.2.1, .slice b3 x.2.2.2.1.2.2.2.length d3, .slice a4 x.2.2.2.2.1.length c4, .slice a5 x.2.2.2.2.2.length c5] 50);have zF := alloc_len w (.cells #[.int .i64 x.1.1, .int .i64 x.1.2.1, .int .i64 x.1.2.2.1, .int .i64 x.1.2.2.2, .slice a1 x.2.1.1.length c1, .slice b1 x.2.1.2.length d1, .slice a2 x.2.2.1.length c2, .slice a3 x.2.2.2.1.1.length c3, .int .i64 x.2.2.2.1.2.1, .bool x.2.2.2.1.2.2.1, .slice b3 x.2.2.2.1.2.2.2.length d3, .slice a4 x.2.2.2.2.1.length c4, .slice a5 x.2.2.2.2.2.length c5] 50);replace B := below_step B bz;clear bz;generalize w.alloc (.cells #[.int .i64 x.1.1, .int .i64 x.1.2.1, .int .i64 x.1.2.2.1, .int .i64 x.1.2.2.2, .slice a1 x.2.1.1.length c1, .slice b1 x.2.1.2.length d1, .slice a2 x.2.2.1.length c2, .slice a3 x.2.2.2.1.1.length c3, .int .i64 x.2.2.2.1.2.1, .bool x.2.2.2.1.2.2.1, .slice b3 x.2.2.2.1.2.2.2.length d3, .slice a4 x.2.2.2.2.1.length c4, .slice a5 x.2.2.2.2.2.length c5] 50) = u1w at B F zF ⊢;clear zF;go_wp2;go_loopw [5] (fun i wr => ∃ j : Nat, j ≤ x.2.2.1.length ∧ i = .int .i64 j ∧ NoP (dirtyC kn) x.2.2.1 j ∧ Below w.heap.size w wr ∧ wr.heap[w.heap.size]? = some (.cells #[.int .i64 x.1.1, .int .i64 x.1.2.1, .int .i64 x.1.2.2.1, .int .i64 x.1.2.2.2, .slice a1 x.2.1.1.length c1, .slice b1 x.2.1.2.length d1, .slice a2 x.2.2.1.length c2, .slice a3 x.2.2.2.1.1.length c3, .int .i64 x.2.2.2.1.2.1, .bool x.2.2.2.1.2.2.1, .slice b3 x.2.2.2.1.2.2.2.length d3, .slice a4 x.2.2.2.2.1.length c4, .slice a5 x.2.2.2.2.2.length c5] 50 (0, 0))) (fun i _ => x.2.2.1.length - (intOf i).toNat)
 case atStart => exact ⟨0, Nat.zero_le _, rfl, fun i v hi => by omega, B, F⟩
 case round =>
  clear B F;obtain ⟨j, hj, rfl, hno, BB, F⟩ := hrel;obtain ⟨p0, p1, p2, p3, p4, p5, p6, p7, p8, p9, p10, p11, p12⟩ := cells_fabric F;by_cases hlt : j < x.2.2.1.length
  ·have hlt' : (j : Int) < (x.2.2.1.length : Int) := by omega
   obtain ⟨u, hx⟩ : ∃ u, x.2.2.1[j]? = some u := ⟨_, List.getElem?_eq_getElem hlt⟩;have hmem := List.mem_of_getElem? hx;obtain ⟨bb, off, cs, ra, hrdx, hcell⟩ := slrd_at (RR.out w (Below.refl _ _)).cores hx;have HC := l17Has_u cs u kn w wr (HOK.out u hmem) hrdx BB;obtain ⟨ga, gc, gb, gd, ha, hc, ia, ic, ja, jc, rfl⟩ := core_shape hrdx;rw [show aggV [.slice ga u.1.1.length gc, .slice gb u.1.2.length gd, .slice ha u.2.1.length hc, .int .i64 u.2.2.1, .int .i64 u.2.2.2.1, .int .i64 u.2.2.2.2.1.1, .int .i64 u.2.2.2.2.1.2.1, .slice ia u.2.2.2.2.1.2.2.length ic, .slice ja u.2.2.2.2.2.length jc] = .agg #[.slice ga u.1.1.length gc, .slice gb u.1.2.length gd, .slice ha u.2.1.length hc, .int .i64 u.2.2.1, .int .i64 u.2.2.2.1, .int .i64 u.2.2.2.2.1.1, .int .i64 u.2.2.2.2.1.2.1, .slice ia u.2.2.2.2.1.2.2.length ic, .slice ja u.2.2.2.2.2.length jc] from rfl] at HC;replace hcell := fun i v h => cell_keep BB (hcell i v h) (cell_lt (hcell i v h));obtain ⟨x0, x1, x2, x3, x4, x5, x6, x7, x8⟩ := cellsAt9 hcell rfl;subst ra;have hsm : (wayOf u.1 kn).2.2.length ≤ 1048576 := Nat.le_trans (wayOf_bk (HOK.out u hmem) kn) (Nat.le_trans (core_bk hmem).1 HBK.out);have HX : Hid _ := hx;have HNO : Hid _ := hno;have HF : Hid _ := F;clear hcell hrdx hx hmem hno F;go_wp2_with fail
   clear x0 x1 x2 x3 x4 x5 x6 x7 x8 p0 p1 p2 p3 p4 p5 p6 p7 p8 p9 p10 p11 p12;refine HC.mono ?_;rintro e w9 ⟨us, rfl, hr, bq⟩;clear HC;have hr1 := hr w9 (below_step BB bq);obtain ⟨ea, ec, rfl, -, i1, -, -, -⟩ := way_rd hr1;rw [show aggV [.int .i64 (wayOf u.1 kn).1, .int .i64 (wayOf u.1 kn).2.1, .slice ea (wayOf u.1 kn).2.2.length ec] = .agg #[.int .i64 (wayOf u.1 kn).1, .int .i64 (wayOf u.1 kn).2.1, .slice ea (wayOf u.1 kn).2.2.length ec] from rfl];have HWD : Hid (∀ W', Below w.heap.size w W' → SlRd intR W' ea (wayOf u.1 kn).2.2) := fun W' hb => by
    obtain ⟨ea', ec', e9, -, -, -, -, q⟩ := way_rd (hr W' hb);simp only [List.cons.injEq, and_true, Value.slice.injEq] at e9;obtain ⟨-, -, rfl, -⟩ := e9;exact q
   replace BB := below_step BB bq;have F := row_keep bq HF.out;clear hr hr1 bq HF;have HTR : Hid (dirtyC kn u = true → truthI x kn = (wayOf u.1 kn).2.2) := fun hd => by unfold truthI; rw [find_at HX.out hd HNO.out]
   have hds : dirtyC kn u = decide (2 ≤ (wayOf u.1 kn).2.1) := rfl;generalize wayOf u.1 kn = y at HWD HTR hsm hds i1 ⊢;go_upto_region 5 with fail
   have BZ := box_below w9 (.cells #[.int .i64 y.1, .int .i64 y.2.1, .slice ea y.2.2.length ec] 88);have Y := heap_at w9 (.cells #[.int .i64 y.1, .int .i64 y.2.1, .slice ea y.2.2.length ec] 88);generalize w9.alloc (.cells #[.int .i64 y.1, .int .i64 y.2.1, .slice ea y.2.2.length ec] 88) = wz at BZ Y ⊢;replace BB := below_step BB BZ;replace F := row_keep BZ F;obtain ⟨y0, y1, y2⟩ := cells_three Y;by_cases hd : 2 ≤ y.2.1
   ·have HTV : Hid (truthI x kn = y.2.2) := HTR.out (by rw [hds]; exact decide_eq_true hd);have HBB : Hid _ := BB;clear F HNO HTR hds Y BZ BB;go_wp2_with fail
    refine (l1Copy_rep ea y.2.2 ec _ (HWD.out _ HBB.out) hsm).mono ?_;rintro e w5 ⟨v5, rfl, M5⟩;have HM : Hid (MadeR intsR w w5 [v5] (truthI x kn)) := by
     unfold Hid;rw [HTV.out];exact made_from HBB.out M5
    clear M5;go_wp2;go_ret
    exact ⟨_, rfl, HM.out⟩
   ·have HE : Hid _ := no_step HNO.out HX.out (by rw [hds]; exact decide_eq_false hd);have HBF : Hid _ := And.intro BB F;clear F HNO HTR hds Y BZ BB;go_wp2;go_roundw
    case rel => exact ⟨j + 1, by omega, by go_num, HE.out, HBF.out⟩
    case measure => simp [intOf]; omega
  ·have HD : Hid (x.2.2.1.find? (dirtyC kn) = none) := find_no fun i v hv => hno i v (by have := (List.getElem?_eq_some_iff.1 hv).1; omega) hv;have hge : ¬ ((j : Int) < (x.2.2.1.length : Int)) := by omega
   obtain ⟨en, hen⟩ : ∃ en, x.2.1.2[kn]? = some en := ⟨_, List.getElem?_eq_getElem hkb⟩;have HTR : Hid (truthI x kn = heldT x en.1 kn) := by
    unfold Hid truthI ownerI;rw [HD.out, Int.toNat_natCast, hen]
   have how := HBO.out en (List.mem_of_getElem? hen);obtain ⟨be, oe, ce, rae, hrde, hcelle⟩ := slrd_at (RR.out _ BB).book hen;obtain ⟨ga, gc, rfl⟩ := ent_shape hrde;have e0 := hcelle 0 _ rfl;rw [show oe + (kn * entR.size + 0) = oe + kn * 8 from rfl] at e0;have i0 : In64 en.1 := (ent_in hrde);rw [rae] at p5;clear rae;have HF : Hid _ := F;clear hno hcelle hrde hen HD F hlt hj HBO;generalize en.1 = o at HTR how e0 i0;go_upto_region 8 with fail
   clear e0 p0 p1 p2 p3 p4 p5 p6 p7 p8 p9 p10 p11 p12;have F := HF.out;clear HF;obtain ⟨p0, p1, p2, p3, p4, p5, p6, p7, p8, p9, p10, p11, p12⟩ := cells_fabric F;go_cut [59] (fun q wx => q = .bool (heldQ x o kn) ∧ Below w.heap.size w wx ∧ wx.heap[w.heap.size]? = some (.cells #[.int .i64 x.1.1, .int .i64 x.1.2.1, .int .i64 x.1.2.2.1, .int .i64 x.1.2.2.2, .slice a1 x.2.1.1.length c1, .slice b1 x.2.1.2.length d1, .slice a2 x.2.2.1.length c2, .slice a3 x.2.2.2.1.1.length c3, .int .i64 x.2.2.2.1.2.1, .bool x.2.2.2.1.2.2.1, .slice b3 x.2.2.2.1.2.2.2.length d3, .slice a4 x.2.2.2.2.1.length c4, .slice a5 x.2.2.2.2.2.length c5] 50 (0, 0)))
   case first =>
    by_cases ho : 0 ≤ o
    ·obtain ⟨on, rfl⟩ : ∃ on : Nat, o = on := ⟨o.toNat, by omega⟩;have hol : on < x.2.2.1.length := by omega
     have hol' : (on : Int) < (x.2.2.1.length : Int) := by omega
     obtain ⟨u, hx⟩ : ∃ u, x.2.2.1[on]? = some u := ⟨_, List.getElem?_eq_getElem hol⟩;obtain ⟨bb, off, cs, ra, hrdx, hcell⟩ := slrd_at (RR.out _ BB).cores hx;obtain ⟨ga, gc, gb, gd, ha, hc, ia, ic, ja, jc, rfl⟩ := core_shape hrdx;obtain ⟨x0, x1, x2, x3, x4, x5, x6, x7, x8⟩ := cellsAt9 hcell rfl;subst ra;have HQ : Hid (heldQ x on kn = heldB kn u) := held_at hx;have HF : Hid _ := And.intro BB F;clear hcell hrdx hx BB F;by_cases h1 : u.2.2.2.2.1.1 = (kn : Int)
     ·by_cases h2 : 2 ≤ u.2.2.2.2.1.2.1
      ·go_wp2_with fail
       go_meet
       exact ⟨by rw [HQ.out]; simp [heldB, h1, h2], HF.out⟩
      ·go_wp2_with fail
       go_meet
       exact ⟨by rw [HQ.out]; simp [heldB, h1, h2], HF.out⟩
     ·go_wp2_with fail
      go_meet
      exact ⟨by rw [HQ.out]; simp [heldB, h1], HF.out⟩
    ·have HQ : Hid (heldQ x o kn = false) := by unfold Hid heldQ; rw [if_neg ho]
     have HF : Hid _ := And.intro BB F;clear BB F;go_wp2_with fail
     go_meet
     exact ⟨by rw [HQ.out], HF.out⟩
   case rest =>
    clear BB F p0 p1 p2 p3 p4 p5 p6 p7 p8 p9 p10 p11 p12;obtain ⟨rfl, BB, F⟩ := hcut;generalize wc = W3 at BB F ⊢;cases hq : heldQ x o kn
    ·have HTV : Hid (truthI x kn = restT x o kn) := by unfold Hid; rw [HTR.out, held_rest hq (by omega)]
     clear HTR hq;go_wp2;go_loopw [8] (fun i wr => ∃ j : Nat, j ≤ x.2.2.2.2.1.length ∧ i = .int .i64 j ∧ NoP (msgT o kn) x.2.2.2.2.1 j ∧ Below w.heap.size w wr ∧ wr.heap[w.heap.size]? = some (.cells #[.int .i64 x.1.1, .int .i64 x.1.2.1, .int .i64 x.1.2.2.1, .int .i64 x.1.2.2.2, .slice a1 x.2.1.1.length c1, .slice b1 x.2.1.2.length d1, .slice a2 x.2.2.1.length c2, .slice a3 x.2.2.2.1.1.length c3, .int .i64 x.2.2.2.1.2.1, .bool x.2.2.2.1.2.2.1, .slice b3 x.2.2.2.1.2.2.2.length d3, .slice a4 x.2.2.2.2.1.length c4, .slice a5 x.2.2.2.2.2.length c5] 50 (0, 0))) (fun i _ => x.2.2.2.2.1.length - (intOf i).toNat)
     case atStart => exact ⟨0, Nat.zero_le _, rfl, fun i v hi => by omega, BB, F⟩
     case round =>
      clear BB F;obtain ⟨j, hj, rfl, hno, BB, F⟩ := hrel;obtain ⟨p0, p1, p2, p3, p4, p5, p6, p7, p8, p9, p10, p11, p12⟩ := cells_fabric F;by_cases hlt : j < x.2.2.2.2.1.length
      ·have hlt' : (j : Int) < (x.2.2.2.2.1.length : Int) := by omega
       obtain ⟨m, hx⟩ : ∃ m, x.2.2.2.2.1[j]? = some m := ⟨_, List.getElem?_eq_getElem hlt⟩;obtain ⟨bb, off, cs, ra, hrdx, hcell⟩ := slrd_at (RR.out _ BB).net hx;obtain ⟨na, nc, rfl, l1, l2, HMD⟩ := msg_at hrdx;obtain ⟨x0, x1, x2, x3, x4, x5, x6⟩ := cellsAt7 hcell rfl;subst ra;have hml2 : m.2.2.2.2.2.1.length ≤ 9223372036854775807 := Nat.le_trans l1 l2;have hsm : m.2.2.2.2.2.1.length ≤ 1048576 := Nat.le_trans (net_bk (List.mem_of_getElem? hx)) HBK.out;have HX : Hid _ := hx;have HNO : Hid _ := hno;have HMR : Hid _ := HMD;have HF : Hid _ := F;clear hcell hrdx hx hno F HMD l1 l2;go_upto_region 14 with fail
       clear x0 x1 x2 x3 x4 x5 x6 p0 p1 p2 p3 p4 p5 p6 p7 p8 p9 p10 p11 p12;have F := HF.out;clear HF;have BZ := box_below wr (.cells #[.int .i64 m.1, .int .i64 m.2.1, .int .i64 m.2.2.1, .int .i64 m.2.2.2.1, .int .i64 m.2.2.2.2.1, .slice na m.2.2.2.2.2.1.length nc, .int .i64 m.2.2.2.2.2.2] 119);have Y := heap_at wr (.cells #[.int .i64 m.1, .int .i64 m.2.1, .int .i64 m.2.2.1, .int .i64 m.2.2.2.1, .int .i64 m.2.2.2.2.1, .slice na m.2.2.2.2.2.1.length nc, .int .i64 m.2.2.2.2.2.2] 119);generalize wr.alloc (.cells #[.int .i64 m.1, .int .i64 m.2.1, .int .i64 m.2.2.1, .int .i64 m.2.2.2.1, .int .i64 m.2.2.2.2.1, .slice na m.2.2.2.2.2.1.length nc, .int .i64 m.2.2.2.2.2.2] 119) = wz at BZ Y ⊢;replace BB := below_step BB BZ;replace F := row_keep BZ F;have HMD : Hid (SlRd intR wz na m.2.2.2.2.2.1) := slrd_next HMR.out BZ;obtain ⟨y0, y1, y2, y3, y4, y5, y6⟩ := cells_7 Y;have HF : Hid _ := And.intro BB (And.intro F (And.intro Y HMD.out));clear BB F Y BZ HMR HMD;go_cut [105] (fun q wx => q = .bool (msgT o kn m) ∧ wx = wz)
       case first =>
        by_cases h8 : m.2.2.2.1 = 8
        ·by_cases h4 : m.2.2.2.2.1 = (kn : Int)
         ·by_cases h5 : 0 < m.2.2.2.2.2.1.length
          ·have h5' : (0 : Int) < (m.2.2.2.2.2.1.length : Int) := by omega
           by_cases h1 : m.2.1 = o
           ·go_wp2_with fail
            go_meet
            exact ⟨by simp [msgT, h8, h4, h5, h1], rfl⟩
           ·go_wp2_with fail
            go_meet
            exact ⟨by simp [msgT, h8, h4, h5, h1], rfl⟩
          ·have h5' : ¬ (0 : Int) < (m.2.2.2.2.2.1.length : Int) := by omega
           go_wp2_with fail
           go_meet
           exact ⟨by simp [msgT, h5], rfl⟩
         ·go_wp2_with fail
          go_meet
          exact ⟨by simp [msgT, h4], rfl⟩
        ·by_cases h3 : m.2.2.2.1 = 3
         ·by_cases h4 : m.2.2.2.2.1 = (kn : Int)
          ·by_cases h5 : 0 < m.2.2.2.2.2.1.length
           ·have h5' : (0 : Int) < (m.2.2.2.2.2.1.length : Int) := by omega
            by_cases h1 : m.2.1 = o
            ·go_wp2_with fail
             go_meet
             exact ⟨by simp [msgT, h3, h4, h5, h1], rfl⟩
            ·go_wp2_with fail
             go_meet
             exact ⟨by simp [msgT, h3, h4, h5, h1], rfl⟩
           ·have h5' : ¬ (0 : Int) < (m.2.2.2.2.2.1.length : Int) := by omega
            go_wp2_with fail
            go_meet
            exact ⟨by simp [msgT, h5], rfl⟩
          ·go_wp2_with fail
           go_meet
           exact ⟨by simp [msgT, h4], rfl⟩
         ·go_wp2_with fail
          go_meet
          exact ⟨by simp [msgT, h8, h3], rfl⟩
       case rest =>
        obtain ⟨rfl, rfl⟩ := hcut;obtain ⟨BB, F, Y, HMD⟩ := HF.out;cases hq : msgT o kn m
        ·have HE : Hid _ := no_step HNO.out HX.out hq;have HBF : Hid _ := And.intro BB F;clear F Y HMD BB y0 y1 y2 y3 y4 y5 y6 HNO;go_wp2;go_roundw
         case rel => exact ⟨j + 1, by omega, by go_num, HE.out, HBF.out⟩
         case measure => simp [intOf]; omega
        ·have HTW : Hid (truthI x kn = m.2.2.2.2.2.1) := by unfold Hid; rw [HTV.out]; unfold restT; rw [find_at HX.out hq HNO.out]
         have HMM : Hid _ := HMD;have HBB : Hid _ := BB;clear F Y HMD BB HNO;go_wp2_with fail
         refine (l1Copy_rep na m.2.2.2.2.2.1 nc _ HMM.out hsm).mono ?_;rintro e w5 ⟨v5, rfl, M5⟩;have HM : Hid (MadeR intsR w w5 [v5] (truthI x kn)) := by
          unfold Hid;rw [HTW.out];exact made_from HBB.out M5
         clear M5;go_wp2;go_ret
         exact ⟨_, rfl, HM.out⟩
      ·have HN : Hid (x.2.2.2.2.1.find? (msgT o kn) = none) := find_no fun i v hv => hno i v (by have := (List.getElem?_eq_some_iff.1 hv).1; omega) hv;have hge2 : ¬ ((j : Int) < (x.2.2.2.2.1.length : Int)) := by omega
       obtain ⟨d, hd⟩ : ∃ d, x.2.1.1[kn]? = some d := ⟨_, List.getElem?_eq_getElem hkm⟩;have HTW : Hid (truthI x kn = d) := by
        unfold Hid;rw [HTV.out];unfold restT;rw [HN.out, Int.toNat_natCast, List.getD_eq_getElem?_getD, hd];rfl
       obtain ⟨bm, om, cm, ram, ⟨aj, cj, rfl, -, -, hrdm⟩, hcellm⟩ := slrd_at (house_mem (RR.out _ BB)).1 hd;have m0 := hcellm 0 _ rfl;rw [show om + (kn * intsR.size + 0) = om + kn from by rw [show intsR.size = 1 from rfl]; omega] at m0;have hsm : d.length ≤ 1048576 := Nat.le_trans (mem_bk (List.mem_of_getElem? hd)) HBK.out;subst ram;have HMM : Hid _ := hrdm;have HBB : Hid _ := BB;clear hcellm hrdm hd hno F HN BB;go_wp2_with fail
       refine (l1Copy_rep aj d cj _ HMM.out hsm).mono ?_;rintro e w5 ⟨v5, rfl, M5⟩;have HM : Hid (MadeR intsR w w5 [v5] (truthI x kn)) := by
        unfold Hid;rw [HTW.out];exact made_from HBB.out M5
       clear M5;go_wp2;go_ret
       exact ⟨_, rfl, HM.out⟩
    ·obtain ⟨on, u, rfl, hx, HTV⟩ := held_yes hq HTR.out;have hol := (List.getElem?_eq_some_iff.1 hx).1;have hol' : (on : Int) < (x.2.2.1.length : Int) := by omega
     obtain ⟨bb, off, cs, ra, hrdx, hcell⟩ := slrd_at (RR.out _ BB).cores hx;have hsm : u.2.2.2.2.1.2.2.length ≤ 1048576 := Nat.le_trans (core_bk (List.mem_of_getElem? hx)).2 HBK.out;obtain ⟨ga, gc, gb, gd, ha, hc, ia, ic, ja, jc, rfl⟩ := core_shape hrdx;have HMM : Hid _ := core_held hrdx;obtain ⟨x0, x1, x2, x3, x4, x5, x6, x7, x8⟩ := cellsAt9 hcell rfl;subst ra;obtain ⟨p0, p1, p2, p3, p4, p5, p6, p7, p8, p9, p10, p11, p12⟩ := cells_fabric F;have HBB : Hid _ := BB;have HTW : Hid _ := HTV;clear hcell hrdx hx F BB HTR hq HTV;go_wp2_with fail
     refine (l1Copy_rep ia u.2.2.2.2.1.2.2 ic _ HMM.out hsm).mono ?_;rintro e w5 ⟨v5, rfl, M5⟩;have HM : Hid (MadeR intsR w w5 [v5] (truthI x kn)) := by
      unfold Hid;rw [HTW.out];exact made_from HBB.out M5
     clear M5;go_wp2;go_ret
     exact ⟨_, rfl, HM.out⟩
end Go.Proofs.YtcocbafhcpdheaaGreatDoor
