import Derived.Test.YtcocbafhcpdheaaGreatDoorT00Box
import Derived.Test.YtcocbafhcpdheaaGreatDoorT50
namespace Go.Proofs.YtcocbafhcpdheaaGreatDoor
set_option maxHeartbeats 16000000
set_option maxRecDepth 20000
open Go.ChangeShapes Go.WideShapes Go.ChangeAt Go.RowKit
set_option linter.unusedVariables false
set_option linter.unusedSimpArgs false
theorem zLL (x : zA2) (o k : Int) : (zHv x o k).length ≤ zAX.bk x := by
 unfold zHv;split
 ·rename_i m hm
  exact net_bk (List.mem_of_find?_eq_some hm)
 ·rw [List.getD_eq_getElem?_getD];cases h : x.2.1.1[k.toNat]? with
  | none => exact Nat.zero_le _
  | some d => exact mem_bk (List.mem_of_getElem? h)
theorem zJQ {x : zA2} (hf : zFj x = true) (k : Int) : (zB5 x k).length ≤ zAX.bk x := by
 unfold zB5;split
 ·rename_i u hu
  have a := List.mem_of_find?_eq_some hu;exact Nat.le_trans (zLH (zI5 hf a) k) (zI6 a).1
 ·unfold zGh;split
  ·split
   ·rename_i u hu
    split
    ·exact (zI6 (List.mem_of_getElem? hu)).2
    ·exact zLL x _ k
   ·exact Nat.zero_le _
  ·exact zLL x _ k
theorem truth_u (x : zA2) (a1 : Option Addr) (c1 : Nat) (b1 : Option Addr) (d1 : Nat) (a2 : Option Addr) (c2 : Nat) (a3 : Option Addr) (c3 : Nat) (b3 : Option Addr) (d3 : Nat) (a4 : Option Addr) (c4 : Nat) (a5 : Option Addr) (c5 : Nat) (w : World) (R : FabRd w x a1 c1 b1 d1 a2 c2 a3 c3 b3 d3 a4 c4 a5 c5) (hh : HoldT w) (hf : zFj x = true) (k : Int) (hk0 : 0 ≤ k) (hk1 : k < x.1.2.2.2) :
    Calls Tryz.prog 54 #[.agg #[.int .i64 x.1.1, .int .i64 x.1.2.1, .int .i64 x.1.2.2.1, .int .i64 x.1.2.2.2, .slice a1 x.2.1.1.length c1, .slice b1 x.2.1.2.length d1, .slice a2 x.2.2.1.length c2, .slice a3 x.2.2.2.1.1.length c3, .int .i64 x.2.2.2.1.2.1, .bool x.2.2.2.1.2.2.1, .slice b3 x.2.2.2.1.2.2.2.length d3, .slice a4 x.2.2.2.2.1.length c4, .slice a5 x.2.2.2.2.2.length c5], .int .i64 k] w fun e w' => AnsL w (zB5 x k) e w' := by
 have RR : Hid (∀ W, Below w.heap.size w W → FabRd W x a1 c1 b1 d1 a2 c2 a3 c3 b3 d3 a4 c4 a5 c5) := fun W hb => zBP R hb;have HH : Hid (∀ W, Below w.heap.size w W → HoldT W) := fun W hb => hh.goes hb;have mA : Hid (∀ u, u ∈ x.2.2.1 → OkC isL zAH u.1) := fun u K => zI5 hf K;have qA : Hid (∀ u, u ∈ x.2.2.1 → zA8 u.2.2.2.2.1.2.1 0 3 = true) := fun u K => held_rng (zOS hf K);obtain ⟨⟨CA, OA⟩, AA, -⟩ := zJM hf;obtain ⟨⟨sA, lA⟩, ZA⟩ := zJN hf;have DA := zOO hf;have Z : Hid (∀ e, e ∈ x.2.1.2 → -1 ≤ e.1 ∧ e.1 < (x.2.2.1.length : Int)) := fun e he => ⟨zOU hf he, by have := zLI hf he; omega⟩;have bA : Hid _ := held_no hf;obtain ⟨a, rfl⟩ : ∃ a : Nat, k = a := ⟨k.toNat, by omega⟩;have MA : a < x.2.1.2.length := by omega
 have dB : (a : Int) < (x.2.1.2.length : Int) := by omega
 have eA : a < x.2.1.1.length := by omega
 have jB : (a : Int) < (x.2.1.1.length : Int) := by omega
 have aA : x.2.1.2.length ≤ 16 := by omega
 have dA : x.2.2.1.length ≤ 4 := by omega
 have B := Below.refl w.heap.size w;clear R hf hk1 DA AA ZA CA OA sA lA hh;go_enter Tryz.func54, Tryz.ntmps54;go_upto_region 1 with fail
 generalize n : w.alloc _ = u1w;have F := boxH n;have bz := boxB n;have zF := boxL n;clear n;replace B := zAa B bz;clear bz;clear zF;have HF : Hid _ := F;obtain ⟨Fc0, Fc1, Fc2, Fc3, Fc4, Fc5, Fc6, Fc7, Fc8, Fc9, Fc10, Fc11, Fc12⟩ := zAd F;have Flt := (ltH F);clear F;go_wp2;clear Fc0 Fc1 Fc2 Fc3 Fc4 Fc5 Fc6 Fc7 Fc8 Fc9 Fc10 Fc11 Fc12 Flt;go_loopw [13] (fun i wr => ∃ j : Nat, j ≤ x.2.2.1.length ∧ i = .int .i64 j ∧ NoP (zF0 a) x.2.2.1 j ∧ Below w.heap.size w wr ∧ wr.heap[w.heap.size]? = some (.cells #[.int .i64 x.1.1, .int .i64 x.1.2.1, .int .i64 x.1.2.2.1, .int .i64 x.1.2.2.2, .slice a1 x.2.1.1.length c1, .slice b1 x.2.1.2.length d1, .slice a2 x.2.2.1.length c2, .slice a3 x.2.2.2.1.1.length c3, .int .i64 x.2.2.2.1.2.1, .bool x.2.2.2.1.2.2.1, .slice b3 x.2.2.2.1.2.2.2.length d3, .slice a4 x.2.2.2.2.1.length c4, .slice a5 x.2.2.2.2.2.length c5] 50 (0, 0))) (fun i _ => x.2.2.1.length - (intOf i).toNat)
 case atStart => exact ⟨0, Nat.zero_le _, rfl, fun i v hi => by omega, B, HF.out⟩
 case round =>
  clear B HF;obtain ⟨j, hj, rfl, H, c, F⟩ := hrel;by_cases kA : j < x.2.2.1.length
  ·have eB : (j : Int) < (x.2.2.1.length : Int) := by omega
   obtain ⟨u, hx⟩ : ∃ u, x.2.2.1[j]? = some u := ⟨_, List.getElem?_eq_getElem kA⟩;have A := List.mem_of_getElem? hx;obtain ⟨bb, DB, cs, ra, E, C⟩ := zAy (RR.out _ c).cores hx;have HC : Hid _ := fun (V : World) (hv : Below wr.heap.size wr V) => own_u cs u a V (mA.out u A) (zAr E hv);obtain ⟨ga, gc, gb, gd, ha, hc, ia, ic, ja, jc, rfl⟩ := zBd E;rw [show zBq _ = .agg _ from rfl] at HC;obtain ⟨x0, x1, x2, x3, x4, x5, x6, x7, x8⟩ := cellsAt9 C rfl;subst ra;have T : Hid _ := (way_rng4 (mA.out u A) a).1;have HX : Hid _ := hx;have G : Hid _ := H;clear C E hx A H;go_upto_region 4 with fail
   clear x0 x1 x2 x3 x4 x5 x6 x7 x8;generalize S : wr.alloc _ = wv;have X := boxH S;have J := boxB S;clear S;obtain ⟨x0, x1, x2, x3, x4, x5, x6, x7, x8⟩ := zAh X;go_wp2_with fail
   clear x0 x1 x2 x3 x4 x5 x6 x7 x8 X;refine (HC.out _ J).mono ?_;rintro e w9 ⟨us, rfl, M9⟩;clear HC;have p := zAa J M9.2;obtain ⟨ea, ec, rfl, -, i1, -, -, q⟩ := zBz (zBu.own_rd M9.1);rw [show zBq _ = .agg _ from rfl];replace c := zAa c p;replace F := zAb p F;clear M9 J p;have l : Hid (zF0 a u = true → zB5 x a = (zCc u.1 a).2.2) := fun r => by unfold zB5; rw [zGV HX.out r G.out]
   have s : Hid (zF0 a u = decide (2 ≤ (zCc u.1 a).2.1)) := rfl;generalize zCc u.1 a = y at q l s T i1 ⊢;have gA : Hid _ := q;clear q i1;go_upto_region 5 with fail
   have J := zAf w9 (.cells #[.int .i64 y.1, .int .i64 y.2.1, .slice ea y.2.2.length ec] 88);generalize nA : w9.alloc _ = wz;have Y := boxH nA;clear nA;replace c := zAa c J;replace F := zAb J F;have q : Hid (zA4 zAG wz ea y.2.2) := zAm gA.out J;clear J gA;obtain ⟨y0, y1, y2⟩ := zAJ Y;go_wp2_with fail
   clear y0 y1 y2;refine (aloneL _ y.2.1 _ ea ec wz (HH.out _ c) T.out).mono ?_;rintro e w8 ⟨rfl, p⟩;replace c := zAa c p;replace F := zAb p F;replace Y := zAb p Y;have HA : Hid (zA4 zAG w8 ea y.2.2) := zAm q.out p;clear p q T;cases r : decide (2 ≤ y.2.1)
   ·have HE : Hid _ := zI7 G.out HX.out (by rw [s.out, r]);have rA : Hid _ := And.intro c F;clear F G l s Y c;go_wp2;go_roundw
    case rel => exact ⟨j + 1, by omega, by go_num, HE.out, rA.out⟩
    case measure => simp [intOf]; omega
   ·have f : Hid (zB5 x a = y.2.2) := l.out (by rw [s.out, r]);have m : Hid _ := c;obtain ⟨y0, y1, y2⟩ := zAJ Y;clear F G l s Y c;go_wp2;go_ret
    exact ⟨ea, ec, by rw [f.out]; first | done | rfl, by rw [f.out]; exact HA.out, m.out⟩
  ·have HD : Hid (x.2.2.1.find? (zF0 a) = none) := zGW fun i v hv => H i v (by have := (List.getElem?_eq_some_iff.1 hv).1; omega) hv;have IB : ¬ ((j : Int) < (x.2.2.1.length : Int)) := by omega
   obtain ⟨L, D⟩ : ∃ L, x.2.1.2[a]? = some L := ⟨_, List.getElem?_eq_getElem MA⟩;have l : Hid (zB5 x a = zGh x L.1 a) := by
    unfold Hid zB5 zON;rw [HD.out, Int.toNat_natCast, D]
   obtain ⟨fB, sB⟩ := Z.out L (List.mem_of_getElem? D);obtain ⟨be, oe, ce, jA, I, o⟩ := zAy (RR.out _ c).book D;obtain ⟨ga, gc, rfl⟩ := zDK I;have e0 := o 0 _ rfl;rw [show oe + (a * zBT.size + 0) = oe + a * 8 from rfl] at e0;have SA : Hid _ := D;clear H o I D HD kA hj Z;by_cases ho : L.1 = -1
   ·have f : Hid (zB5 x a = x.2.1.1.getD (a : Int).toNat []) := by unfold Hid; rw [l.out, ho]; exact bA.out a
    subst jA;obtain ⟨Fc0, Fc1, Fc2, Fc3, Fc4, Fc5, Fc6, Fc7, Fc8, Fc9, Fc10, Fc11, Fc12⟩ := zAd F;have Flt := (ltH F);go_upto_region 12 with fail
    clear e0 Fc0 Fc1 Fc2 Fc3 Fc4 Fc5 Fc6 Fc7 Fc8 Fc9 Fc10 Fc11 Fc12 Flt;obtain ⟨d, r⟩ : ∃ d, x.2.1.1[a]? = some d := ⟨_, List.getElem?_eq_getElem eA⟩;have z : Hid (zB5 x a = d) := by
     unfold Hid;rw [f.out, Int.toNat_natCast, List.getD_eq_getElem?_getD, r];rfl
    obtain ⟨bm, om, cm, N, ⟨aj, cj, rfl, -, -, g⟩, b⟩ := zAy (zGY (RR.out _ c)).1 r;have m0 := b 0 _ rfl;rw [show om + (a * zA0.size + 0) = om + a from by rw [show zA0.size = 1 from rfl]; omega] at m0;subst N;obtain ⟨Fc0, Fc1, Fc2, Fc3, Fc4, Fc5, Fc6, Fc7, Fc8, Fc9, Fc10, Fc11, Fc12⟩ := zAd F;have Flt := (ltH F);have O : Hid _ := g;have m : Hid _ := c;clear b g r F c;go_wp2;go_ret
    exact ⟨aj, cj, by rw [z.out]; first | done | rfl, by rw [z.out]; exact O.out, m.out⟩
   ·obtain ⟨U, iA⟩ : ∃ U : Nat, L.1 = U := ⟨L.1.toNat, by omega⟩;obtain ⟨u, K⟩ : ∃ u, x.2.2.1[U]? = some u := ⟨_, List.getElem?_eq_getElem (by omega)⟩;have M : Hid (zB5 x a = (zOT x U a u).getD (x.2.1.1.getD (a : Int).toNat [])) := by unfold Hid; rw [l.out, iA]; exact held_own K
    have H1 : Hid _ := fun (W : World) (hb : Below w.heap.size w W) => zPa x a1 c1 b1 d1 a2 c2 a3 c3 b3 d3 a4 c4 a5 c5 W (RR.out W hb) (HH.out W hb) a U L u SA.out iA K (qA.out u (List.mem_of_getElem? K)) aA dA;generalize zOT x U a u = od at M H1;clear l K;subst jA;obtain ⟨Fc0, Fc1, Fc2, Fc3, Fc4, Fc5, Fc6, Fc7, Fc8, Fc9, Fc10, Fc11, Fc12⟩ := zAd F;have Flt := (ltH F);go_wp2_with fail
    clear e0 Fc0 Fc1 Fc2 Fc3 Fc4 Fc5 Fc6 Fc7 Fc8 Fc9 Fc10 Fc11 Fc12 Flt;refine (H1.out _ c).mono ?_;rintro e w7 ⟨pa, pc, rfl, hs, p⟩;replace c := zAa c p;replace F := zAb p F;clear p H1;cases od with
    | some d =>
     have f : Hid (zB5 x a = d) := M.out;have HS : Hid (zA4 zAG w7 pa d) := hs;have m : Hid _ := c;clear hs c F;rw [show (some d).getD [] = d from rfl, show (some d).isSome = true from rfl];go_wp2;go_ret
     exact ⟨pa, pc, by rw [f.out]; first | done | rfl, by rw [f.out]; exact HS.out, m.out⟩
    | none =>
     have f : Hid (zB5 x a = x.2.1.1.getD (a : Int).toNat []) := M.out;clear hs;rw [show (none : Option (List Int)).getD [] = [] from rfl, show (none : Option (List Int)).isSome = false from rfl];go_upto_region 12 with fail
     obtain ⟨d, r⟩ : ∃ d, x.2.1.1[a]? = some d := ⟨_, List.getElem?_eq_getElem eA⟩;have z : Hid (zB5 x a = d) := by
      unfold Hid;rw [f.out, Int.toNat_natCast, List.getD_eq_getElem?_getD, r];rfl
     obtain ⟨bm, om, cm, N, ⟨aj, cj, rfl, -, -, g⟩, b⟩ := zAy (zGY (RR.out _ c)).1 r;have m0 := b 0 _ rfl;rw [show om + (a * zA0.size + 0) = om + a from by rw [show zA0.size = 1 from rfl]; omega] at m0;subst N;obtain ⟨Fc0, Fc1, Fc2, Fc3, Fc4, Fc5, Fc6, Fc7, Fc8, Fc9, Fc10, Fc11, Fc12⟩ := zAd F;have Flt := (ltH F);have O : Hid _ := g;have m : Hid _ := c;clear b g r F c;go_wp2;go_ret
     exact ⟨aj, cj, by rw [z.out]; first | done | rfl, by rw [z.out]; exact O.out, m.out⟩
theorem zHa (x : zA2) (a1 : Option Addr) (c1 : Nat) (b1 : Option Addr) (d1 : Nat) (a2 : Option Addr) (c2 : Nat) (a3 : Option Addr) (c3 : Nat) (b3 : Option Addr) (d3 : Nat) (a4 : Option Addr) (c4 : Nat) (a5 : Option Addr) (c5 : Nat) (w : World) (R : FabRd w x a1 c1 b1 d1 a2 c2 a3 c3 b3 d3 a4 c4 a5 c5) (hh : Hold w) (ht : HoldT w) (hbk : zAX.bk x ≤ 1048576) (k : Int) :
    Calls Tryz.prog 19 #[.agg #[.int .i64 x.1.1, .int .i64 x.1.2.1, .int .i64 x.1.2.2.1, .int .i64 x.1.2.2.2, .slice a1 x.2.1.1.length c1, .slice b1 x.2.1.2.length d1, .slice a2 x.2.2.1.length c2, .slice a3 x.2.2.2.1.1.length c3, .int .i64 x.2.2.2.1.2.1, .bool x.2.2.2.1.2.2.1, .slice b3 x.2.2.2.1.2.2.2.length d3, .slice a4 x.2.2.2.2.1.length c4, .slice a5 x.2.2.2.2.2.length c5], .int .i64 k] w fun e w' => ∃ v, e = .returned v ∧ zAI zA0 w w' [v] (zHw x k) := by
 have l : Hid _ := fun (W : World) (hb : Below w.heap.size w W) => zGi x a1 c1 b1 d1 a2 c2 a3 c3 b3 d3 a4 c4 a5 c5 W (zBP R hb) (hh.goes hb);have B := Below.refl w.heap.size w;cases f : zFj x
 ·have i : Hid (zHw x k = []) := by unfold Hid zHw zI4; rw [f]; rfl
  rw [f] at l;clear R hh;go_enter Tryz.func19, Tryz.ntmps19;go_upto_region 1 with fail
  generalize a : w.alloc _ = u1w;have F := boxH a;have g := boxB a;have j := boxL a;clear a;replace B := zAa B g;clear g;clear j;obtain ⟨Fc0, Fc1, Fc2, Fc3, Fc4, Fc5, Fc6, Fc7, Fc8, Fc9, Fc10, Fc11, Fc12⟩ := zAd F;have Flt := (ltH F);go_wp2_with fail
  clear Fc0 Fc1 Fc2 Fc3 Fc4 Fc5 Fc6 Fc7 Fc8 Fc9 Fc10 Fc11 Fc12 Flt;refine (l.out _ B).mono ?_;rintro e c ⟨rfl, b⟩;replace B := zAa B b;replace F := zAb b F;clear b;obtain ⟨Fc0, Fc1, Fc2, Fc3, Fc4, Fc5, Fc6, Fc7, Fc8, Fc9, Fc10, Fc11, Fc12⟩ := zAd F;have Flt := (ltH F);have n : Hid (zAI zA0 w (c.alloc (.cells #[] 2)) [.slice (some ⟨c.heap.size, 0, none⟩) 0 0] (zHw x k)) := by
   unfold Hid;rw [i.out];exact zCL B (zIA (e := 2) (R := zAG) c #[] 0 (Nat.zero_le _) rfl)
  clear B F;go_wp2;go_ret
  exact ⟨_, rfl, n.out⟩
 ·have p : Hid (∀ W, Calls Tryz.prog 36 #[.agg #[.int .i64 x.1.1, .int .i64 x.1.2.1, .int .i64 x.1.2.2.1, .int .i64 x.1.2.2.2], .int .i64 k] W fun e w' => e = .returned (.bool (zD7 x.1.2.2.2 k)) ∧ Below W.heap.size W w') := fun W => by rw [← zK5 (fab_code f)]; exact zCR _ _ _ _ k W
  rw [f] at l;cases o : zD7 x.1.2.2.2 k
  ·have i : Hid (zHw x k = []) := by unfold Hid zHw zI4; rw [f, zLK, o]; rfl
   rw [o] at p;clear R hh;go_enter Tryz.func19, Tryz.ntmps19;go_upto_region 1 with fail
   generalize a : w.alloc _ = u1w;have F := boxH a;have g := boxB a;have j := boxL a;clear a;replace B := zAa B g;clear g;clear j;obtain ⟨Fc0, Fc1, Fc2, Fc3, Fc4, Fc5, Fc6, Fc7, Fc8, Fc9, Fc10, Fc11, Fc12⟩ := zAd F;have Flt := (ltH F);go_wp2_with fail
   clear Fc0 Fc1 Fc2 Fc3 Fc4 Fc5 Fc6 Fc7 Fc8 Fc9 Fc10 Fc11 Fc12 Flt;refine (l.out _ B).mono ?_;rintro e c ⟨rfl, b⟩;replace B := zAa B b;replace F := zAb b F;clear b;obtain ⟨Fc0, Fc1, Fc2, Fc3, Fc4, Fc5, Fc6, Fc7, Fc8, Fc9, Fc10, Fc11, Fc12⟩ := zAd F;have Flt := (ltH F);go_wp2_with fail
   clear Fc0 Fc1 Fc2 Fc3 Fc4 Fc5 Fc6 Fc7 Fc8 Fc9 Fc10 Fc11 Fc12 Flt;refine (p.out _).mono ?_;rintro e d ⟨rfl, b⟩;replace B := zAa B b;replace F := zAb b F;clear b;obtain ⟨Fc0, Fc1, Fc2, Fc3, Fc4, Fc5, Fc6, Fc7, Fc8, Fc9, Fc10, Fc11, Fc12⟩ := zAd F;have Flt := (ltH F);have n : Hid (zAI zA0 w (d.alloc (.cells #[] 2)) [.slice (some ⟨d.heap.size, 0, none⟩) 0 0] (zHw x k)) := by
    unfold Hid;rw [i.out];exact zCL B (zIA (e := 2) (R := zAG) d #[] 0 (Nat.zero_le _) rfl)
   clear B F;go_wp2;go_ret
   exact ⟨_, rfl, n.out⟩
  ·have i : Hid (zHw x k = zB5 x k) := by unfold Hid zHw zI4; rw [f, zLK, o]; rfl
   have y : 0 ≤ k ∧ k < x.1.2.2.2 := by simp [zD7, zA8] at o; omega
   have s : Hid _ := fun (W : World) (hb : Below w.heap.size w W) => truth_u x a1 c1 b1 d1 a2 c2 a3 c3 b3 d3 a4 c4 a5 c5 W (zBP R hb) (ht.goes hb) f k y.1 y.2;have m : (zB5 x k).length ≤ 1048576 := Nat.le_trans (zJQ f k) hbk;rw [o] at p;clear R hh;go_enter Tryz.func19, Tryz.ntmps19;go_upto_region 1 with fail
   generalize a : w.alloc _ = u1w;have F := boxH a;have g := boxB a;have j := boxL a;clear a;replace B := zAa B g;clear g;clear j;obtain ⟨Fc0, Fc1, Fc2, Fc3, Fc4, Fc5, Fc6, Fc7, Fc8, Fc9, Fc10, Fc11, Fc12⟩ := zAd F;have Flt := (ltH F);go_wp2_with fail
   clear Fc0 Fc1 Fc2 Fc3 Fc4 Fc5 Fc6 Fc7 Fc8 Fc9 Fc10 Fc11 Fc12 Flt;refine (l.out _ B).mono ?_;rintro e c ⟨rfl, b⟩;replace B := zAa B b;replace F := zAb b F;clear b;obtain ⟨Fc0, Fc1, Fc2, Fc3, Fc4, Fc5, Fc6, Fc7, Fc8, Fc9, Fc10, Fc11, Fc12⟩ := zAd F;have Flt := (ltH F);go_wp2_with fail
   clear Fc0 Fc1 Fc2 Fc3 Fc4 Fc5 Fc6 Fc7 Fc8 Fc9 Fc10 Fc11 Fc12 Flt;refine (p.out _).mono ?_;rintro e d ⟨rfl, b⟩;replace B := zAa B b;replace F := zAb b F;clear b;obtain ⟨Fc0, Fc1, Fc2, Fc3, Fc4, Fc5, Fc6, Fc7, Fc8, Fc9, Fc10, Fc11, Fc12⟩ := zAd F;have Flt := (ltH F);go_wp2_with fail
   clear Fc0 Fc1 Fc2 Fc3 Fc4 Fc5 Fc6 Fc7 Fc8 Fc9 Fc10 Fc11 Fc12 Flt;refine (s.out _ B).mono ?_;rintro e z ⟨A, C, rfl, q, b⟩;replace B := zAa B b;clear b F s;generalize zB5 x k = tt at q m i ⊢;go_wp2_with fail
   refine (zMY A tt C _ q m).mono ?_;rintro e r ⟨v, rfl, M⟩;have n : Hid (zAI zA0 w r [v] (zHw x k)) := by
    unfold Hid;rw [i.out];exact zCL B M
   clear B M q;go_wp2;go_ret
   exact ⟨_, rfl, n.out⟩
theorem zHb (x : zA2) (a1 : Option Addr) (c1 : Nat) (b1 : Option Addr) (d1 : Nat) (a2 : Option Addr) (c2 : Nat) (a3 : Option Addr) (c3 : Nat) (b3 : Option Addr) (d3 : Nat) (a4 : Option Addr) (c4 : Nat) (a5 : Option Addr) (c5 : Nat) (w : World) (R : FabRd w x a1 c1 b1 d1 a2 c2 a3 c3 b3 d3 a4 c4 a5 c5) (h : zCr.rd w [.int .i64 x.1.1, .int .i64 x.1.2.1, .int .i64 x.1.2.2.1, .int .i64 x.1.2.2.2, .slice a1 x.2.1.1.length c1, .slice b1 x.2.1.2.length d1, .slice a2 x.2.2.1.length c2, .slice a3 x.2.2.2.1.1.length c3, .int .i64 x.2.2.2.1.2.1, .bool x.2.2.2.1.2.2.1, .slice b3 x.2.2.2.1.2.2.2.length d3, .slice a4 x.2.2.2.2.1.length c4, .slice a5 x.2.2.2.2.2.length c5] x) (hbk : zAX.bk x ≤ 1048576) (k : Int) :
    Calls Tryz.prog 18 #[.agg #[.int .i64 x.1.1, .int .i64 x.1.2.1, .int .i64 x.1.2.2.1, .int .i64 x.1.2.2.2, .slice a1 x.2.1.1.length c1, .slice b1 x.2.1.2.length d1, .slice a2 x.2.2.1.length c2, .slice a3 x.2.2.2.1.1.length c3, .int .i64 x.2.2.2.1.2.1, .bool x.2.2.2.1.2.2.1, .slice b3 x.2.2.2.1.2.2.2.length d3, .slice a4 x.2.2.2.2.1.length c4, .slice a5 x.2.2.2.2.2.length c5], .int .i64 k] w fun e w' => ∃ v, e = .returned v ∧ zAI zA0 w w' [v] (zHw x k) := by
 have g : Hid _ := fun (W : World) (hb : Below w.heap.size w W) => zOY x a1 c1 b1 d1 a2 c2 a3 c3 b3 d3 a4 c4 a5 c5 W (zBP R hb) (zAr h hb) hbk k;have B := Below.refl w.heap.size w;cases d : zI4 x k
 ·have n : Hid (zHw x k = []) := by unfold Hid zHw; rw [d]; rfl
  rw [d] at g;clear R h;go_enter Tryz.func18, Tryz.ntmps18;go_upto_region 1 with fail
  generalize a : w.alloc _ = u1w;have F := boxH a;have f := boxB a;have i := boxL a;clear a;replace B := zAa B f;clear f;clear i;obtain ⟨Fc0, Fc1, Fc2, Fc3, Fc4, Fc5, Fc6, Fc7, Fc8, Fc9, Fc10, Fc11, Fc12⟩ := zAd F;have Flt := (ltH F);go_wp2_with fail
  clear Fc0 Fc1 Fc2 Fc3 Fc4 Fc5 Fc6 Fc7 Fc8 Fc9 Fc10 Fc11 Fc12 Flt;refine (g.out _ B).mono ?_;rintro e b ⟨rfl, c⟩;replace B := zAa B c;replace F := zAb c F;clear c;obtain ⟨Fc0, Fc1, Fc2, Fc3, Fc4, Fc5, Fc6, Fc7, Fc8, Fc9, Fc10, Fc11, Fc12⟩ := zAd F;have Flt := (ltH F);have m : Hid (zAI zA0 w (b.alloc (.cells #[] 2)) [.slice (some ⟨b.heap.size, 0, none⟩) 0 0] (zHw x k)) := by
   unfold Hid;rw [n.out];exact zCL B (zIA (e := 2) (R := zAG) b #[] 0 (Nat.zero_le _) rfl)
  clear B F;go_wp2;go_ret
  exact ⟨_, rfl, m.out⟩
 ·have n : Hid (zHw x k = zB5 x k) := by unfold Hid zHw; rw [if_pos d]
  have l : zFj x = true ∧ 0 ≤ k ∧ k < x.1.2.2.2 := by
   unfold zI4 at d;simpa using d
  have o : Hid _ := fun (W : World) (hb : Below w.heap.size w W) => zMZ x a1 c1 b1 d1 a2 c2 a3 c3 b3 d3 a4 c4 a5 c5 W (zBP R hb) l.1 hbk k l.2.1 l.2.2;rw [d] at g;clear R h;go_enter Tryz.func18, Tryz.ntmps18;go_upto_region 1 with fail
  generalize a : w.alloc _ = u1w;have F := boxH a;have f := boxB a;have i := boxL a;clear a;replace B := zAa B f;clear f;clear i;obtain ⟨Fc0, Fc1, Fc2, Fc3, Fc4, Fc5, Fc6, Fc7, Fc8, Fc9, Fc10, Fc11, Fc12⟩ := zAd F;have Flt := (ltH F);go_wp2_with fail
  clear Fc0 Fc1 Fc2 Fc3 Fc4 Fc5 Fc6 Fc7 Fc8 Fc9 Fc10 Fc11 Fc12 Flt;refine (g.out _ B).mono ?_;rintro e b ⟨rfl, c⟩;replace B := zAa B c;replace F := zAb c F;clear c;obtain ⟨Fc0, Fc1, Fc2, Fc3, Fc4, Fc5, Fc6, Fc7, Fc8, Fc9, Fc10, Fc11, Fc12⟩ := zAd F;have Flt := (ltH F);go_wp2_with fail
  clear Fc0 Fc1 Fc2 Fc3 Fc4 Fc5 Fc6 Fc7 Fc8 Fc9 Fc10 Fc11 Fc12 Flt;refine (o.out _ B).mono ?_;rintro e j ⟨v, rfl, M⟩;have m : Hid (zAI zA0 w j [v] (zHw x k)) := by
   unfold Hid;rw [n.out];exact zCL B M
  clear B F M;go_wp2;go_ret
  exact ⟨_, rfl, m.out⟩
theorem specTruthOf_u (cs : List Value) (x : zA2) (k : Int) (w : World) (h : zCr.rd w cs x) (hbk : zAX.bk x ≤ 1048576) :
    Calls Tryz.prog 18 #[zBq cs, .int .i64 k] w fun e a => ∃ ds, e = .returned (zCk ds) ∧ zA0.rd a ds (zHw x k) ∧ Below w.heap.size w a := by
 obtain ⟨f, o, c, b, d, r, p, n, i, l, m, q, g, j, rfl, R⟩ := zI2 h;refine (zHb x f o c b d r p n i l m q g j w R h hbk k).mono ?_;rintro e a ⟨v, rfl, M⟩;exact ⟨[v], rfl, zA0.own_rd M.1, M.2⟩
theorem bk_intsY (d : List Int) : zAs.bk d = d.length := by
 show d.length + zA6 zBa d = d.length
 rw [zM8];rfl
theorem tru_small (x : zA2) (k : Int) (hbk : zAX.bk x ≤ 1048576) : zAs.bk (zHw x k) ≤ 8388608 := by
 rw [bk_intsY];unfold zHw;split
 ·rename_i h
  unfold zI4 at h;simp only [Bool.and_eq_true] at h;have := zJQ h.1 k;omega
 ·decide
theorem implTruthOf_u (cs : List Value) (x : zA2) (k : Int) (w : World) (hh : Hold w) (ht : HoldT w) (h : zCr.rd w cs x) (hbk : zAX.bk x ≤ 1048576) :
    Calls Tryz.prog 19 #[zBq cs, .int .i64 k] w fun e a => ∃ ds, e = .returned (zCk ds) ∧ zAI zA0 w a ds (zHw x k) := by
 obtain ⟨f, o, c, b, d, r, p, n, i, l, m, q, g, j, rfl, R⟩ := zI2 h;refine (zHa x f o c b d r p n i l m q g j w R hh ht hbk k).mono ?_;rintro e a ⟨v, rfl, M⟩;exact ⟨[v], rfl, M⟩
end Go.Proofs.YtcocbafhcpdheaaGreatDoor
