import Derived.Test.YtdamokokcdcedaaGreatDoorG00Box
import Derived.Test.YtdamokokcdcedaaGreatDoorG50
namespace Go.Proofs.YtdamokokcdcedaaGreatDoor
set_option maxHeartbeats 4000000
set_option maxRecDepth 20000
open Go.ChangeShapes Go.WideShapes Go.ChangeAt Go.RowKit
set_option linter.unusedVariables false
set_option linter.unusedSimpArgs false
theorem way_isL {c : CacheD} (hok : OkC isL treeB c) {k : Int} (h2 : 2 ≤ (wayOf c k).2.1) : isL (wayOf c k).2.2 = true := by
 cases a : atC c k with
 | none => unfold wayOf at h2; rw [a] at h2; simp [emptyW] at h2
 | some i =>
  obtain ⟨-, v, f, he⟩ := at_some a;have g : wayOf c k = v := by unfold wayOf; rw [a]; exact getD_of f
  obtain ⟨hp, d, -⟩ := ok_row hok k;obtain ⟨-, -, m, -, j⟩ := hok;rw [g] at h2 ⊢;rcases (j _ _ d).2.2.1 _ _ f with b | ⟨b, -⟩
  ·unfold clearB at b;simp only [decide_eq_true_eq] at b;omega
  ·unfold fullB at b;simp only [decide_eq_true_eq] at b;exact b.2.2
theorem isL_ne {d : List Int} (h : isL d = true) : d ≠ [] := fun e => by rw [e] at h; cases h
def flC (x : FabricD) (n k i j : Nat) : List Int := flL x j (if j < k then n else if j = k then i else 0)
def flR (x : FabricD) (L n k i : Nat) : List (List Int) := (List.range L).map (flC x n k i)
theorem flR_len (x : FabricD) (L n k i : Nat) : (flR x L n k i).length = L := by simp [flR]
theorem flR_start {x : FabricD} {L n : Nat} (h : x.2.1.1.length = L) : flR x L n 0 0 = x.2.1.1 := by
 apply List.ext_getElem?
 intro j;unfold flR;rw [List.getElem?_map];by_cases b : j < L
 ·rw [List.getElem?_range b];simp only [Option.map_some, flC];rw [if_neg (by omega)];have a : (if j = 0 then 0 else 0 : Nat) = 0 := by split <;> rfl
  rw [a, flL, Int.toNat_natCast, List.getD_eq_getElem?_getD, List.getElem?_eq_getElem (by omega)];rfl
 ·rw [List.getElem?_eq_none (by simp; omega), List.getElem?_eq_none (by omega)];rfl
theorem flR_next (x : FabricD) (L n k : Nat) : flR x L n k n = flR x L n (k + 1) 0 := by
 unfold flR;refine List.map_congr_left fun j hj => ?_;unfold flC;congr 1
 by_cases a : j < k
 ·rw [if_pos a, if_pos (by omega)]
 ·by_cases b : j = k
  ·rw [if_neg a, if_pos b, if_pos (by omega)]
  ·rw [if_neg a, if_neg b, if_neg (by omega)];split <;> rfl
theorem flR_end {x : FabricD} {L : Nat} (hL : L = x.1.2.2.2.toNat) : flR x L x.2.2.1.length L 0 = flushL x := by
 unfold flR flushL;rw [← hL];refine List.map_congr_left fun j hj => ?_;unfold flC;rw [if_pos (by simpa using hj)]
theorem flR_same {x : FabricD} {L n k i : Nat} {u : CoreD} (hu : x.2.2.1[i]? = some u) (h2 : ¬ 2 ≤ (wayOf u.1 (k : Int)).2.1) : flR x L n k (i + 1) = flR x L n k i := by
 unfold flR;refine List.map_congr_left fun j hj => ?_;unfold flC;by_cases a : j < k
 ·rw [if_pos a, if_pos a]
 ·by_cases b : j = k
  ·subst b;rw [if_neg a, if_pos rfl, if_neg a, if_pos rfl, flL, cacheAt_of hu, if_neg h2]
  ·rw [if_neg a, if_neg b, if_neg a, if_neg b]
theorem flR_set {x : FabricD} {L n k i : Nat} {u : CoreD} (hu : x.2.2.1[i]? = some u) (h2 : 2 ≤ (wayOf u.1 (k : Int)).2.1) (hk : k < L) : (flR x L n k i).set k (wayOf u.1 (k : Int)).2.2 = flR x L n k (i + 1) := by
 apply List.ext_getElem?
 intro j;rw [List.getElem?_set];unfold flR;rw [List.getElem?_map, List.getElem?_map];by_cases e : k = j
 ·subst e;rw [if_pos rfl, if_pos (by simp; exact hk), List.getElem?_range hk];simp only [Option.map_some, flC];rw [if_neg (Nat.lt_irrefl k), if_pos trivial, flL, cacheAt_of hu, if_pos h2]
 ·rw [if_neg e];by_cases b : j < L
  ·rw [List.getElem?_range b];simp only [Option.map_some, flC];congr 2
   by_cases a : j < k
   ·rw [if_pos a, if_pos a]
   ·rw [if_neg a, if_neg (fun q => e q.symm), if_neg a, if_neg (fun q => e q.symm)]
  ·rw [List.getElem?_eq_none (by simp; omega)];rfl
theorem l19_any (x : FabricD) (a1 : Option Addr) (c1 : Nat) (b1 : Option Addr) (d1 : Nat) (a2 : Option Addr) (c2 : Nat) (a3 : Option Addr) (c3 : Nat) (b3 : Option Addr) (d3 : Nat) (a4 : Option Addr) (c4 : Nat) (a5 : Option Addr) (c5 : Nat) (w : World) (R : FabRd w x a1 c1 b1 d1 a2 c2 a3 c3 b3 d3 a4 c4 a5 c5) (hf : fabI x = true) (hbk : fabricM.bk x ≤ 1048576) :
    Calls Tryz.prog 25 #[.agg #[nI x.1.1, nI x.1.2.1, nI x.1.2.2.1, nI x.1.2.2.2, sL a1 x.2.1.1.length c1, sL b1 x.2.1.2.length d1, sL a2 x.2.2.1.length c2, sL a3 x.2.2.2.1.1.length c3, nI x.2.2.2.1.2.1, .bool x.2.2.2.1.2.2.1, sL b3 x.2.2.2.1.2.2.2.length d3, sL a4 x.2.2.2.2.1.length c4, sL a5 x.2.2.2.2.2.length c5]] w fun e w' => ∃ v, e = .returned v ∧ MadeM w w' v (flushL x) := by
 obtain ⟨⟨RA, T⟩, jA⟩ := fab_lines hf;have Y := fab_memOk hf;have yA := fab_mem hf;obtain ⟨L, hL⟩ : ∃ L : Nat, (L : Int) = x.1.2.2.2 := ⟨x.1.2.2.2.toNat, by omega⟩;have S : Hid (x.2.1.1.length = L) := by unfold Hid; omega
 have bA : Hid (L = x.1.2.2.2.toNat) := by unfold Hid; omega
 have UA : L ≤ 16 := by omega
 have hN : x.2.2.1.length ≤ 4 := by
  obtain ⟨⟨cB, EB⟩, AB, -⟩ := fab_facts hf;omega
 have cA : Hid ((L : Int) = x.1.2.2.2) := hL;have iA : Hid _ := fun (W : World) (hb : Bl w W) => l4Copy_any a1 x.2.1.1 c1 W (readsM_of (slrd_next (fab_rows R).1 hb)) Y;have RR : Hid (∀ W, Bl w W → SlRd coreR W a2 x.2.2.1) := fun W hb => (fab_next R hb).cores;have Z : Hid (∀ u, u ∈ x.2.2.1 → OkC isL treeB u.1) := fun u hu => fab_core hf hu;have lA : Hid (∀ u, u ∈ x.2.2.1 → ∀ k : Int, (wayOf u.1 k).2.2.length ≤ 1048576) := fun u hu k => Nat.le_trans (wayOf_bk (fab_core hf hu) k) (Nat.le_trans (core_bk hu).1 hbk);have B := Below.refl w.heap.size w;clear R hf Y yA jA RA T hL hbk;go_enter Tryz.func25, Tryz.ntmps25;go_upto_region 1 with fail
 generalize j : w.alloc _ = u1w;have F := boxH j;have q := boxB j;have zF := boxL j;clear j;replace B := below_step B q;clear q zF;have l : Hid _ := aI B F;obtain ⟨Fc0, Fc1, Fc2, Fc3, Fc4, Fc5, Fc6, Fc7, Fc8, Fc9, Fc10, Fc11, Fc12⟩ := cells_fabric F;have Flt := (ltH F);clear B F;go_wp2_with fail
 clear Fc0 Fc1 Fc2 Fc3 Fc4 Fc5 Fc6 Fc7 Fc8 Fc9 Fc10 Fc11 Fc12 Flt;refine (iA.out _ l.out.1).mono ?_;rintro e H ⟨v, rfl, G, C, rfl, g1, g2, a, r⟩;replace a : OwnM u1w.heap.size H.heap.size H G C (flR x L x.2.2.1.length 0 0) := by rw [flR_start S.out]; exact a
 have I : Hid _ := aI a r;clear a r;rw [S.out];go_wp2;go_loopw [4] (fun i wr => ∃ k : Nat, k ≤ L ∧ i = nI k ∧ OwnM u1w.heap.size wr.heap.size wr G C (flR x L x.2.2.1.length k 0) ∧ Bl u1w wr) (fun i _ => L - (intOf i).toNat)
 case atStart => exact ⟨0, Nat.zero_le _, rfl, I.out⟩
 case round =>
  clear I g2;obtain ⟨d, hk, rfl, a, b⟩ := hrel;have s := row_keep b l.out.2;obtain ⟨p0, p1, p2, p3, p4, p5, p6, p7, p8, p9, A, y, z⟩ := cells_fabric s;by_cases M : d < L
  ·have U : (d : Int) < x.1.2.2.2 := by have := cA.out; omega
   have f : Hid _ := aI a b;clear a b s;go_wp2;clear p0 p1 p2 p3 p4 p5 p6 p7 p8 p9 A y z U;go_loopw [5] (fun i wr => ∃ m : Nat, m ≤ x.2.2.1.length ∧ i = nI m ∧ OwnM u1w.heap.size wr.heap.size wr G C (flR x L x.2.2.1.length d m) ∧ Bl u1w wr) (fun i _ => x.2.2.1.length - (intOf i).toNat)
   case atStart => exact ⟨0, Nat.zero_le _, rfl, f.out⟩
   case round =>
    clear f;obtain ⟨m, hm, rfl, a, b⟩ := hrel;have s := row_keep b l.out.2;obtain ⟨p0, p1, p2, p3, p4, p5, p6, p7, p8, p9, A, y, z⟩ := cells_fabric s;by_cases KA : m < x.2.2.1.length
    ·have bB : (m : Int) < (x.2.2.1.length : Int) := by omega
     obtain ⟨u, X⟩ : ∃ u, x.2.2.1[m]? = some u := ⟨_, List.getElem?_eq_getElem KA⟩;obtain ⟨bb, zB, cs, ra, o, p⟩ := slrd_at (RR.out _ (below_step l.out.1 b)) X;have HH : Hid _ := fun (V : World) (hb : Bl wr V) => l17Has_u cs u d wr V (Z.out u (List.mem_of_getElem? X)) o hb;have JA := lA.out u (List.mem_of_getElem? X) d;obtain ⟨ga, gc, gb, gd, ha, hc, ia, ic, ja, jc, rfl⟩ := core_shape o;rw [aE] at HH;obtain ⟨x0, x1, x2, x3, x4, x5, x6, x7, x8⟩ := cellsAt9 p rfl;subst ra;have HX : Hid _ := X;have f : Hid _ := aI a b;clear p o X a b s;go_wp2_with fail
     clear x0 x1 x2 x3 x4 x5 x6 x7 x8 p0 p1 p2 p3 p4 p5 p6 p7 p8 p9 A y z;refine (HH.out _ (Below.refl _ _)).mono ?_;rintro e E ⟨us, rfl, N, r⟩;clear HH;obtain ⟨D, ec, rfl, i0, i1, l1, l2, l3⟩ := way_rd (N E r);rw [aE];have HD : Hid (∀ W, Bl E W → SlRd intR W D (wayOf u.1 d).2.2) := fun W hb => slrd_next l3 hb;obtain ⟨a, b⟩ := f.out;clear f N l1 l2 l3 i0 i1;replace a := ownM_mono (ownM_below a r (Nat.le_refl _)) r.size;replace b := below_step b r;clear r;have WW := heap_at E (.cells #[nI (wayOf u.1 d).1, nI (wayOf u.1 d).2.1, sL D (wayOf u.1 d).2.2.length ec] 74);have q := box_below E (.cells #[nI (wayOf u.1 d).1, nI (wayOf u.1 d).2.1, sL D (wayOf u.1 d).2.2.length ec] 74);go_upto_region 9 with fail
     replace HD : Hid (∀ W, Bl E W → SlRd intR W D (wayOf u.1 d).2.2) := HD;generalize vA : E.alloc (.cells #[nI (wayOf u.1 d).1, nI (wayOf u.1 d).2.1, sL D (wayOf u.1 d).2.2.length ec] 74) = w6 at WW q ⊢;clear vA;have K : Hid (SlRd intR w6 D (wayOf u.1 d).2.2) := HD.out w6 q;replace a := ownM_mono (ownM_below a q (Nat.le_refl _)) q.size;replace b := below_step b q;clear HD q;obtain ⟨y0, y1, y2⟩ := cells_three WW;by_cases h2 : 2 ≤ (wayOf u.1 d).2.1
     ·have HS : Hid _ := flR_set (n := x.2.2.1.length) HX.out h2 M;have f : Hid _ := aI a b;clear a b WW;have GA := K.out;rcases GA with EA | ⟨b8, o8, kA, rfl, zA, OA⟩
      ·exact (isL_ne (way_isL (Z.out u (List.mem_of_getElem? HX.out)) h2) EA).elim
      clear zA OA;go_wp2_with fail
      clear y0 y1 y2;refine (l1Copy_any ⟨b8, o8, none⟩ (wayOf u.1 d).2.2 ec w6 (reads_of K.out) JA).mono ?_;rintro e w7 ⟨v, rfl, g, c, rfl, q1, q2, q3, q4⟩;obtain ⟨a, b⟩ := f.out;clear f;have M2 := ownM_set (ownM_below a q4 (Nat.le_refl _)) (owni_less q3 b.size) q1 q2 (show d < (flR x L x.2.2.1.length d m).length by rw [flR_len]; exact M);obtain ⟨⟨v0, sB⟩, iB, J, O⟩ := M2;rw [HS.out] at J;have mA : Hid _ := aI J (aI O (below_step b q4));clear J O q1 q2 q3 q4 b a HS;go_wp2;go_roundw
      case rel =>
       obtain ⟨J, O, b⟩ := mA.out;exact ⟨m + 1, by omega, by go_num, ownM_mono J O.size, b.grown O b.size (by intro k hk; cases hk; exact g1)⟩
      case measure => simp [intOf]; omega
     ·have HS : Hid _ := flR_same (L := L) (n := x.2.2.1.length) (k := d) HX.out h2;have f : Hid _ := aI a b;clear a b WW;go_wp2;go_roundw
      case rel => exact ⟨m + 1, by omega, by go_num, by rw [HS.out]; exact f.out.1, f.out.2⟩
      case measure => simp [intOf]; omega
    ·have aA : m = x.2.2.1.length := by omega
     have CA : ¬ ((m : Int) < (x.2.2.1.length : Int)) := by omega
     have f : Hid (OwnM u1w.heap.size wr.heap.size wr G C (flR x L x.2.2.1.length (d + 1) 0) ∧ Bl u1w wr) := ⟨by rw [← flR_next]; rw [aA] at a; exact a, b⟩;clear a b s aA;go_wp2;go_roundw
     case rel => exact ⟨d + 1, by omega, by go_num, f.out⟩
     case measure => simp [intOf]; omega
  ·have oA : d = L := by omega
   have CA : ¬ ((d : Int) < x.1.2.2.2) := by have := cA.out; omega
   have f : Hid (MadeM w wr (sL (some ⟨G, 0, none⟩) L C) (flushL x)) := by
    rw [oA, flR_end bA.out] at a;have e : (flushL x).length = L := by unfold flushL; rw [List.length_map, List.length_range]; exact bA.out.symm
    exact madeM_step l.out.1 ⟨G, C, by rw [e], g1, (ownM_lt a).2.1, a, b⟩
   clear a b s;go_wp2;go_ret
   exact ⟨_, rfl, f.out⟩
theorem specFlushed_any (x : FabricD) (a1 : Option Addr) (c1 : Nat) (b1 : Option Addr) (d1 : Nat) (a2 : Option Addr) (c2 : Nat) (a3 : Option Addr) (c3 : Nat) (b3 : Option Addr) (d3 : Nat) (a4 : Option Addr) (c4 : Nat) (a5 : Option Addr) (c5 : Nat) (w : World) (R : FabRd w x a1 c1 b1 d1 a2 c2 a3 c3 b3 d3 a4 c4 a5 c5) (h : fabricR.rd w [nI x.1.1, nI x.1.2.1, nI x.1.2.2.1, nI x.1.2.2.2, sL a1 x.2.1.1.length c1, sL b1 x.2.1.2.length d1, sL a2 x.2.2.1.length c2, sL a3 x.2.2.2.1.1.length c3, nI x.2.2.2.1.2.1, .bool x.2.2.2.1.2.2.1, sL b3 x.2.2.2.1.2.2.2.length d3, sL a4 x.2.2.2.2.1.length c4, sL a5 x.2.2.2.2.2.length c5] x) (hbk : fabricM.bk x ≤ 1048576) :
    Calls Tryz.prog 7 #[.agg #[nI x.1.1, nI x.1.2.1, nI x.1.2.2.1, nI x.1.2.2.2, sL a1 x.2.1.1.length c1, sL b1 x.2.1.2.length d1, sL a2 x.2.2.1.length c2, sL a3 x.2.2.2.1.1.length c3, nI x.2.2.2.1.2.1, .bool x.2.2.2.1.2.2.1, sL b3 x.2.2.2.1.2.2.2.length d3, sL a4 x.2.2.2.2.1.length c4, sL a5 x.2.2.2.2.2.length c5]] w fun e w' => ∃ v, e = .returned v ∧ MadeR rowsR w w' [v] (flushI x) := by
 have i : Hid _ := fun (W : World) (hb : Bl w W) => specFab_u [nI x.1.1, nI x.1.2.1, nI x.1.2.2.1, nI x.1.2.2.2, sL a1 x.2.1.1.length c1, sL b1 x.2.1.2.length d1, sL a2 x.2.2.1.length c2, sL a3 x.2.2.2.1.1.length c3, nI x.2.2.2.1.2.1, .bool x.2.2.2.1.2.2.1, sL b3 x.2.2.2.1.2.2.2.length d3, sL a4 x.2.2.2.2.1.length c4, sL a5 x.2.2.2.2.2.length c5] x W (rd_next h hb) hbk;have B := Below.refl w.heap.size w;cases d : fabI x
 ·have k : Hid (flushI x = []) := by unfold Hid flushI; rw [d]; rfl
  rw [d] at i;clear R h;go_enter Tryz.func7, Tryz.ntmps7;go_upto_region 1 with fail
  generalize a : w.alloc _ = u1w;have F := boxH a;have g := boxB a;have m := boxL a;clear a;replace B := below_step B g;clear g m;obtain ⟨Fc0, Fc1, Fc2, Fc3, Fc4, Fc5, Fc6, Fc7, Fc8, Fc9, Fc10, Fc11, Fc12⟩ := cells_fabric F;have Flt := (ltH F);go_wp2_with fail
  clear Fc0 Fc1 Fc2 Fc3 Fc4 Fc5 Fc6 Fc7 Fc8 Fc9 Fc10 Fc11 Fc12 Flt;refine (i.out _ B).mono ?_;rintro e b ⟨rfl, c⟩;replace B := below_step B c;replace F := row_keep c F;clear c;obtain ⟨Fc0, Fc1, Fc2, Fc3, Fc4, Fc5, Fc6, Fc7, Fc8, Fc9, Fc10, Fc11, Fc12⟩ := cells_fabric F;have Flt := (ltH F);have j : Hid (MadeR rowsR w (b.alloc (.cells #[] 68)) [sL (some ⟨b.heap.size, 0, none⟩) 0 0] (flushI x)) := by
   unfold Hid;rw [k.out];exact made_from B (made_cap (e := 68) (R := intsR) b #[] 0 (Nat.zero_le _) rfl)
  clear B F;go_wp2;go_ret
  exact ⟨_, rfl, j.out⟩
 ·have k : Hid (flushI x = flushL x) := by unfold Hid flushI; rw [if_pos d]
  have o : Hid _ := fun (W : World) (hb : Bl w W) => l19_any x a1 c1 b1 d1 a2 c2 a3 c3 b3 d3 a4 c4 a5 c5 W (fab_next R hb) d hbk;have f : Hid (∀ xs ∈ flushL x, ∀ y ∈ xs, In64 y) := flush_in64 d;rw [d] at i;clear R h d;go_enter Tryz.func7, Tryz.ntmps7;go_upto_region 1 with fail
  generalize a : w.alloc _ = u1w;have F := boxH a;have g := boxB a;have m := boxL a;clear a;replace B := below_step B g;clear g m;obtain ⟨Fc0, Fc1, Fc2, Fc3, Fc4, Fc5, Fc6, Fc7, Fc8, Fc9, Fc10, Fc11, Fc12⟩ := cells_fabric F;have Flt := (ltH F);go_wp2_with fail
  clear Fc0 Fc1 Fc2 Fc3 Fc4 Fc5 Fc6 Fc7 Fc8 Fc9 Fc10 Fc11 Fc12 Flt;refine (i.out _ B).mono ?_;rintro e b ⟨rfl, c⟩;replace B := below_step B c;replace F := row_keep c F;clear c;obtain ⟨Fc0, Fc1, Fc2, Fc3, Fc4, Fc5, Fc6, Fc7, Fc8, Fc9, Fc10, Fc11, Fc12⟩ := cells_fabric F;have Flt := (ltH F);go_wp2_with fail
  clear Fc0 Fc1 Fc2 Fc3 Fc4 Fc5 Fc6 Fc7 Fc8 Fc9 Fc10 Fc11 Fc12 Flt;refine (o.out _ B).mono ?_;rintro e l ⟨v, rfl, n⟩;have j : Hid (MadeR rowsR w l [v] (flushI x)) := by
   unfold Hid;rw [k.out];exact made_from B (madeM_rep n f.out)
  clear n B F;go_wp2;go_ret
  exact ⟨_, rfl, j.out⟩
theorem flush_small (x : FabricD) : rowsM.bk (flushI x) ≤ 8388608 := by
 unfold flushI;split
 ·rename_i h
  obtain ⟨⟨h1, h2⟩, h3⟩ := fab_lines h;have e : rowsM.bk (flushL x) = (flushL x).length + sumbk intsM (flushL x) := rfl;have hl : (flushL x).length ≤ 16 := by unfold flushL; rw [List.length_map, List.length_range]; omega
  have hs : sumbk intsM (flushL x) ≤ (flushL x).length * 2 := by
   refine sumbk_le fun xs hx => ?_;rw [bk_ints7];rcases isL_cases xs with a | ⟨p, q, rfl, -, -⟩
   ·rw [flush_isL h xs hx] at a; cases a
   ·exact Nat.le_refl _
  omega
 ·decide
theorem bv_rows : Bv rowsM 1 := bv_sl (bd_sl bd_int)
theorem specFlushed_u (cs : List Value) (x : FabricD) (w : World) (h : fabricR.rd w cs x) (hbk : fabricM.bk x ≤ 1048576) :
    Calls Tryz.prog 7 #[aggV cs] w fun e a => ∃ ds, e = .returned (cell1 ds) ∧ rowsR.rd a ds (flushI x) ∧ Bl w a := by
 obtain ⟨j, k, d, g, q, n, o, i, l, f, b, c, p, r, rfl, R⟩ := fab_open h;refine (specFlushed_any x j k d g q n o i l f b c p r w R h hbk).mono ?_;rintro e a ⟨v, rfl, m⟩;exact ⟨[v], rfl, rowsR.own_rd m.1, m.2⟩
theorem implFlushed_u (cs : List Value) (x : FabricD) (w : World) (hh : Hold w) (ht : HoldT w) (h : fabricR.rd w cs x) :
    Calls Tryz.prog 9 #[aggV cs] w fun e a => ∃ ds, e = .returned (cell1 ds) ∧ MadeR rowsR w a ds (flushI x) := by
 obtain ⟨j, k, d, g, q, n, o, i, l, f, b, c, p, r, rfl, R⟩ := fab_open h;refine (implFlushed_any x j k d g q n o i l f b c p r w R hh ht).mono ?_;rintro e a ⟨v, rfl, m⟩;exact ⟨[v], rfl, m⟩
end Go.Proofs.YtdamokokcdcedaaGreatDoor
