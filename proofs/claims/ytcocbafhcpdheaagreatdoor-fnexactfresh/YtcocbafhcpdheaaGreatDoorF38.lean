import Derived.Test.YtcocbafhcpdheaaGreatDoorF00Box
import Derived.Test.YtcocbafhcpdheaaGreatDoorF37
namespace Go.Proofs.YtcocbafhcpdheaaGreatDoor
set_option maxHeartbeats 4000000
set_option maxRecDepth 20000
open Go.ChangeShapes Go.WideShapes Go.ChangeAt Go.RowKit
set_option linter.unusedVariables false
set_option linter.unusedSimpArgs false
def headB (x : DmaD) : Bool := decide (x.1.length ≤ 30) && (betw x.2.1 0 x.1.length && (!(x.2.2.1 && decide (x.2.1 = (x.1.length : Int))) && decide ((x.2.2.2.length : Int) = x.2.1)))
def line15 (u : DescD) : Bool := betw u.2.1 0 15
def dmaS (x : DmaD) : Bool := dmaB x && x.1.all line15
def GdA (x : DmaD) (k : Nat) (u : DescD) : Prop := descB u = true ∧ line15 u = true ∧ ((k : Int) < x.2.1 → ∀ v, x.2.2.2[k]? = some v → toldB u v = true)
def goodAt (x : DmaD) (k : Nat) : Prop := ∀ u, x.1[k]? = some u → GdA x k u
theorem head_no {x : DmaD} (h : headB x = false) : dmaS x = false := by
 cases q : dmaS x
 ·rfl
 ·exfalso
  simp only [dmaS, dmaB, descsB, placeB1, waitB1, toldL, Bool.and_eq_true, decide_eq_true_eq, Bool.or_eq_true, Bool.not_eq_true', betw] at q;obtain ⟨⟨⟨q1, q2⟩, q3, q4, q5, q6⟩, q7⟩ := q;rw [List.length_take] at q5;have : headB x = true := by
   simp only [headB, betw, Bool.and_eq_true, decide_eq_true_eq, Bool.not_eq_true', Bool.and_eq_false_iff, decide_eq_false_iff_not];refine ⟨q1, q3, ?_, by omega⟩;rcases q4 with q4 | q4
   ·exact .inl q4
   ·exact .inr (by omega)
  rw [h] at this;cases this
theorem good_yes {x : DmaD} (h : headB x = true) (hg : ∀ k, k < x.1.length → goodAt x k) : dmaS x = true := by
 simp only [headB, betw, Bool.and_eq_true, decide_eq_true_eq, Bool.not_eq_true', Bool.and_eq_false_iff, decide_eq_false_iff_not] at h;obtain ⟨h1, h2, h3, h4⟩ := h;have hk : ∀ u ∈ x.1, ∃ k, k < x.1.length ∧ x.1[k]? = some u := fun u hu => by
  obtain ⟨k, hk⟩ := List.getElem?_of_mem hu;exact ⟨k, (List.getElem?_eq_some_iff.1 hk).1, hk⟩
 have a1 : x.1.all descB = true := List.all_eq_true.2 fun u hu => by obtain ⟨k, k1, k2⟩ := hk u hu; exact (hg k k1 u k2).1
 have a2 : x.1.all line15 = true := List.all_eq_true.2 fun u hu => by obtain ⟨k, k1, k2⟩ := hk u hu; exact (hg k k1 u k2).2.1
 have a3 : toldL (x.1.take x.2.1.toNat) x.2.2.2 = true := by
  refine toldL_yes (by rw [List.length_take]; omega) fun k u v hu hv => ?_;rw [List.getElem?_take] at hu;split at hu
  ·rename_i hlt
   have hl := (List.getElem?_eq_some_iff.1 hu).1;exact (hg k hl u hu).2.2 (by omega) v hv
  ·cases hu
 unfold dmaS dmaB descsB placeB1 waitB1;rw [a1, a2, a3, decide_eq_true h1];have : betw x.2.1 0 x.1.length = true := by simp [betw]; omega
 rw [this];rcases h3 with h3 | h3
 ·rw [h3]; rfl
 ·have : decide (x.2.1 < (x.1.length : Int)) = true := decide_eq_true (by omega);rw [this]; simp
theorem good_no {x : DmaD} (h : headB x = true) {k : Nat} {u : DescD} (hu : x.1[k]? = some u) (hn : descB u = false ∨ line15 u = false ∨ ((k : Int) < x.2.1 ∧ ∃ v, x.2.2.2[k]? = some v ∧ toldB u v = false)) : dmaS x = false := by
 have hm := List.mem_of_getElem? hu;rcases hn with hn | hn | ⟨hk, v, hv, hn⟩
 ·have : x.1.all descB = false := all_not hu hn;unfold dmaS dmaB descsB;rw [this];simp
 ·have : x.1.all line15 = false := all_not hu hn;unfold dmaS;rw [this];simp
 ·have : toldL (x.1.take x.2.1.toNat) x.2.2.2 = false := toldL_no (k := k) (u := u) (v := v) (by rw [List.getElem?_take, if_pos (by omega)]; exact hu) hv hn;unfold dmaS dmaB;rw [this];simp
theorem specDmaOk_u (cs : List Value) (x : DmaD) (w : World) (h : dmaR.rd w cs x) :
    Calls Tryz.prog 91 #[aggV cs] w fun e w' => e = .returned (.bool (dmaS x)) ∧ Below w.heap.size w w' := by
 obtain ⟨z0, z3, rfl, ⟨a, ca, g1, n1, n2, q1⟩, i1, -, ⟨b, cb, g2, m1, m2, q2⟩⟩ := dma_rd h;simp only [List.cons.injEq, and_true] at g1 g2;obtain rfl := g1;obtain rfl := g2;change Calls Tryz.prog 91 #[.agg #[.slice a x.1.length ca, .int .i64 x.2.1, .bool x.2.2.1, .slice b x.2.2.2.length cb]] w _
 have hn1 : x.1.length ≤ 9223372036854775807 := Nat.le_trans n1 n2;have hm1 : x.2.2.2.length ≤ 9223372036854775807 := Nat.le_trans m1 m2;have HD : Hid (∀ W, Below w.heap.size w W → SlRd descR W a x.1) := fun W hb => slrd_next q1 hb;have HT : Hid (∀ W, Below w.heap.size w W → SlRd intsR W b x.2.2.2) := fun W hb => slrd_next q2 hb;have HIN : Hid (∀ W, Calls Tryz.prog 98 #[.int .i64 x.2.1, .int .i64 0, .int .i64 (x.1.length : Int)] W fun e w' => e = .returned (.bool (betw x.2.1 0 x.1.length)) ∧ w' = W) := fun W => l1In_any x.2.1 0 x.1.length W;have HNO : Hid (headB x = false → dmaS x = false) := fun e => head_no e;have HY : Hid (headB x = true → (∀ k, k < x.1.length → goodAt x k) → dmaS x = true) := fun e f => good_yes e f;have HN : Hid (headB x = true → ∀ (k : Nat) (u : DescD), x.1[k]? = some u → (descB u = false ∨ line15 u = false ∨ ((k : Int) < x.2.1 ∧ ∃ v, x.2.2.2[k]? = some v ∧ toldB u v = false)) → dmaS x = false) := fun e k u hu hn => good_no e hu hn;have HTL : Hid (headB x = true → (x.2.2.2.length : Int) = x.2.1) := fun e => by
  simp only [headB, Bool.and_eq_true, decide_eq_true_eq] at e;exact e.2.2.2
 clear h q1 q2 n1 n2 m1 m2 i1;go_enter Tryz.func91, Tryz.ntmps91;go_upto_region 1 with fail
 generalize hW0 : w.alloc _ = W0;have X := boxH hW0;have B := boxB hW0;clear hW0;obtain ⟨d0, d1, d2, d3⟩ := cells_4 X;go_upto_region 2 with fail
 go_cut [35] (fun q wx => q = .bool (!headB x) ∧ wx = W0)
 case first =>
  by_cases e1 : x.1.length ≤ 30
  ·have f1 : ¬ (30 < (x.1.length : Int)) := by omega
   cases e2 : betw x.2.1 0 x.1.length
   ·rw [e2] at HIN;go_wp2_with fail
    refine (HIN.out _).mono ?_;rintro e w1 ⟨rfl, rfl⟩;go_wp2_with fail
    go_meet
    exact ⟨by simp [headB, e2], rfl⟩
   ·rw [e2] at HIN;by_cases e3t : x.2.2.1 = true;rotate_left
    ·have e3 : Hid (x.2.2.1 = false) := by unfold Hid; simpa using e3t
     clear e3t;rw [e3.out] at d2;by_cases e5 : (x.2.2.2.length : Int) = x.2.1
     ·have f5 : ((x.2.2.2.length : Int) != x.2.1) = false := by simp [e5]
      have E5 : Hid ((x.2.2.2.length : Int) = x.2.1) := e5;clear e5;go_wp2_with fail
      refine (HIN.out _).mono ?_;rintro e w1 ⟨rfl, rfl⟩;go_wp2_with fail
      go_meet
      exact ⟨by simp [headB, e1, e2, e3.out, E5.out], rfl⟩
     ·have f5 : ((x.2.2.2.length : Int) != x.2.1) = true := by simp [e5]
      have E5 : Hid (¬ (x.2.2.2.length : Int) = x.2.1) := e5;clear e5;go_wp2_with fail
      refine (HIN.out _).mono ?_;rintro e w1 ⟨rfl, rfl⟩;go_wp2_with fail
      go_meet
      exact ⟨by simp [headB, e1, e2, e3.out, E5.out], rfl⟩
    ·have e3 : Hid (x.2.2.1 = true) := e3t;clear e3t;rw [e3.out] at d2;by_cases e4 : x.2.1 = (x.1.length : Int)
     ·have f4 : (x.2.1 == (x.1.length : Int)) = true := by simp [e4]
      have E4 : Hid (x.2.1 = (x.1.length : Int)) := e4;clear e4;go_wp2_with fail
      refine (HIN.out _).mono ?_;rintro e w1 ⟨rfl, rfl⟩;go_wp2_with fail
      go_meet
      exact ⟨by simp [headB, e1, e2, e3.out, E4.out], rfl⟩
     ·have f4 : (x.2.1 == (x.1.length : Int)) = false := by simp [e4]
      have E4 : Hid (¬ x.2.1 = (x.1.length : Int)) := e4;clear e4;by_cases e5 : (x.2.2.2.length : Int) = x.2.1
      ·have f5 : ((x.2.2.2.length : Int) != x.2.1) = false := by simp [e5]
       have E5 : Hid ((x.2.2.2.length : Int) = x.2.1) := e5;clear e5;go_wp2_with fail
       refine (HIN.out _).mono ?_;rintro e w1 ⟨rfl, rfl⟩;go_wp2_with fail
       go_meet
       exact ⟨by simp [headB, e1, e2, e3.out, E4.out, E5.out], rfl⟩
      ·have f5 : ((x.2.2.2.length : Int) != x.2.1) = true := by simp [e5]
       have E5 : Hid (¬ (x.2.2.2.length : Int) = x.2.1) := e5;clear e5;go_wp2_with fail
       refine (HIN.out _).mono ?_;rintro e w1 ⟨rfl, rfl⟩;go_wp2_with fail
       go_meet
       exact ⟨by simp [headB, e1, e2, e3.out, E4.out, E5.out], rfl⟩
  ·have f1 : 30 < (x.1.length : Int) := by omega
   go_wp2_with fail
   go_meet
   exact ⟨by simp [headB, e1], rfl⟩
 case rest =>
  obtain ⟨rfl, rfl⟩ := hcut;clear HIN;cases hh : headB x
  ·have HR : Hid (dmaS x = false) := HNO.out hh;clear X HNO HY HN HTL hh;go_wp2;go_ret
   exact ⟨ret_bool HR.out.symm, B⟩
  ·have HY2 : Hid ((∀ k, k < x.1.length → goodAt x k) → dmaS x = true) := HY.out hh;have HN2 : Hid (∀ (k : Nat) (u : DescD), x.1[k]? = some u → (descB u = false ∨ line15 u = false ∨ ((k : Int) < x.2.1 ∧ ∃ v, x.2.2.2[k]? = some v ∧ toldB u v = false)) → dmaS x = false) := HN.out hh;have HT2 : Hid ((x.2.2.2.length : Int) = x.2.1) := HTL.out hh;clear HNO HY HN HTL hh d0 d1 d2 d3;go_wp2;go_loopw [4] (fun i wr => ∃ k : Nat, k ≤ x.1.length ∧ i = .int .i64 k ∧ (∀ j, j < k → goodAt x j) ∧ Below w.heap.size w wr ∧ wr.heap[w.heap.size]? = some (.cells #[.slice a x.1.length ca, .int .i64 x.2.1, .bool x.2.2.1, .slice b x.2.2.2.length cb] 46 (0, 0))) (fun i _ => x.1.length - (intOf i).toNat)
   case atStart => exact ⟨0, Nat.zero_le _, rfl, fun j hj => by omega, B, X⟩
   case round =>
    clear X B;obtain ⟨k, hk, rfl, hno, BB, XX⟩ := hrel;by_cases hlt : k < x.1.length
    ·have hlt' : (k : Int) < (x.1.length : Int) := by omega
     obtain ⟨u, hx⟩ : ∃ u, x.1[k]? = some u := ⟨_, List.getElem?_eq_getElem hlt⟩;obtain ⟨bb, off, cs, ra, hrdx, hcell⟩ := slrd_at (HD.out _ BB) hx;subst ra;obtain ⟨ua, uc, rfl, hd⟩ := desc_shape hrdx;obtain ⟨x0, x1, x2, x3⟩ := cellsAt4 hcell rfl;have xlt : bb < wr.heap.size := cell_lt x0;have HX : Hid (x.1[k]? = some u) := hx;have HL1 : Hid (∀ W, Below wr.heap.size wr W → Calls Tryz.prog 143 #[.agg #[.bool u.1, .int .i64 u.2.1, .int .i64 u.2.2.1, .slice ua u.2.2.2.length uc]] W fun e w' => e = .returned (.bool (descB u)) ∧ Below W.heap.size W w') := fun W hb => l11Desc_any u.1 u.2.1 u.2.2.1 u.2.2.2 ua uc W (slrd_next hd hb);have HL2 : Hid (∀ W, Calls Tryz.prog 98 #[.int .i64 u.2.1, .int .i64 0, .int .i64 15] W fun e w' => e = .returned (.bool (line15 u)) ∧ Below W.heap.size W w') := fun W => (l1In_any u.2.1 0 15 W).mono fun e w' ⟨q, r⟩ => ⟨q, be_eq r⟩;have E := heap_at wr (.cells #[.bool u.1, .int .i64 u.2.1, .int .i64 u.2.2.1, .slice ua u.2.2.2.length uc] 165);have bz := box_below wr (.cells #[.bool u.1, .int .i64 u.2.1, .int .i64 u.2.2.1, .slice ua u.2.2.2.length uc] 165);clear hx hcell hrdx hd;obtain ⟨p0, p1, p2, p3⟩ := cells_4 XX;have plt := (ltH XX);go_upto_region 8 with fail
     clear p0 p1 p2 p3 plt x0 x1 x2 x3 xlt;have BBw : Hid _ := BB;replace BB := below_step BB bz;replace XX := row_keep bz XX;have bz0 : Hid _ := bz;clear bz;generalize wr.alloc (.cells #[.bool u.1, .int .i64 u.2.1, .int .i64 u.2.2.1, .slice ua u.2.2.2.length uc] 165) = wv at E BB XX bz0 ⊢;obtain ⟨p0, p1, p2, p3⟩ := cells_4 XX;obtain ⟨e0, e1, e2, e3⟩ := cells_4 E;have elt := (ltH E);have plt := (ltH XX);go_wp2_with fail
     clear p0 p1 p2 p3 e0 e1 e2 e3 elt plt;cases hb1 : descB u
     ·have HR : Hid (dmaS x = false) := HN2.out k u HX.out (.inl hb1);rw [hb1] at HL1;refine (HL1.out _ bz0.out).mono ?_;rintro e w2 ⟨rfl, bq⟩;replace BB := below_step BB bq;replace XX := row_keep bq XX;replace E := row_keep bq E;clear bq;clear XX E;go_wp2;go_ret
      exact ⟨ret_bool HR.out.symm, BB⟩
     ·rw [hb1] at HL1;refine (HL1.out _ bz0.out).mono ?_;rintro e w2 ⟨rfl, bq⟩;replace BB := below_step BB bq;replace XX := row_keep bq XX;replace E := row_keep bq E;clear bq;obtain ⟨p0, p1, p2, p3⟩ := cells_4 XX;obtain ⟨e0, e1, e2, e3⟩ := cells_4 E;have elt := (ltH E);have plt := (ltH XX);go_wp2_with fail
      clear p0 p1 p2 p3 e0 e1 e2 e3 elt plt;cases hb2 : line15 u
      ·have HR : Hid (dmaS x = false) := HN2.out k u HX.out (.inr (.inl hb2));rw [hb2] at HL2;refine (HL2.out _).mono ?_;rintro e w2 ⟨rfl, bq⟩;replace BB := below_step BB bq;replace XX := row_keep bq XX;replace E := row_keep bq E;clear bq;clear XX E;go_wp2;go_ret
       exact ⟨ret_bool HR.out.symm, BB⟩
      ·rw [hb2] at HL2;refine (HL2.out _).mono ?_;rintro e w2 ⟨rfl, bq⟩;replace BB := below_step BB bq;replace XX := row_keep bq XX;replace E := row_keep bq E;clear bq;by_cases hka : (k : Int) < x.2.1
       ·obtain ⟨v, hv⟩ : ∃ v, x.2.2.2[k]? = some v := ⟨_, List.getElem?_eq_getElem (by have := HT2.out; omega)⟩;obtain ⟨bc, of2, ds, rb, hrdv, hcel2⟩ := slrd_at (HT.out _ BB) hv;have hvl : k < x.2.2.2.length := (List.getElem?_eq_some_iff.1 hv).1;have hvl2 : (k : Int) < (x.2.2.2.length : Int) := by omega
        subst rb;obtain ⟨wa, wc, rfl, n1, n2, hdv⟩ := hrdv;have y0 := hcel2 0 _ rfl;rw [show of2 + (k * intsR.size + 0) = of2 + k from by rw [show intsR.size = 1 from rfl]; omega] at y0;have hvm : v.length ≤ 9223372036854775807 := Nat.le_trans n1 n2;have HLN := specLineOk_any wa v wc w2 (reads_of hdv);have HV : Hid (x.2.2.2[k]? = some v) := hv;have HKA : Hid ((k : Int) < x.2.1) := hka;have HNT : Hid (toldB u v = false → dmaS x = false) := fun q => HN2.out k u HX.out (.inr (.inr ⟨HKA.out, v, HV.out, q⟩));have HGT : Hid (toldB u v = true → GdA x k u) := fun q => ⟨hb1, hb2, fun _ v' hv' => by rw [HV.out] at hv'; cases hv'; exact q⟩;clear hv hcel2 hdv n1 n2;obtain ⟨p0, p1, p2, p3⟩ := cells_4 XX;obtain ⟨e0, e1, e2, e3⟩ := cells_4 E;have elt := (ltH E);have plt := (ltH XX);by_cases hw : u.1 = true
        ·have tb : toldB u v = decide (v.length = 0) := by unfold toldB; rw [hw]; rfl
         rw [tb] at HNT HGT;rw [hw] at e0;clear hw tb HLN;by_cases hz : v.length = 0
         ·have HGD : Hid (GdA x k u) := HGT.out (decide_eq_true hz);have hz2 : ((v.length : Int) != 0) = false := by simp [hz]
          clear hz HNT HGT;have HE9 : Hid (∀ j, j < k + 1 → goodAt x j) := fun j hj => by
           by_cases he : j < k
           ·exact hno j he
           ·have : j = k := by omega
            subst this;intro u' hu';rw [HX.out] at hu';cases hu'
            exact HGD.out
          go_wp2;go_roundw
          case rel =>
           first
            | exact ⟨k + 1, by omega, by go_num, HE9.out, BB, XX⟩
            | exact ⟨k + 1, by omega, by go_num, HE9.out⟩
            | exact ⟨k + 1, by omega, by omega, HE9.out⟩
            | (iterate 53 (apply Exists.intro)
               refine ⟨?_, rfl⟩
               exact ⟨k + 1, by omega, by go_num, HE9.out, BB, XX⟩)
          case measure => simp [intOf]; omega
         ·have HR : Hid (dmaS x = false) := HNT.out (decide_eq_false hz);have hz2 : ((v.length : Int) != 0) = true := by simp [hz]
          clear hz HNT HGT XX E;go_wp2;go_ret
          exact ⟨ret_bool HR.out.symm, BB⟩
        ·have hw2 : u.1 = false := by simpa using hw
         have tb : toldB u v = isL v := by unfold toldB; rw [hw2]; rfl
         rw [tb] at HNT HGT;rw [hw2] at e0;clear hw hw2 tb;cases hl : isL v
         ·have HR : Hid (dmaS x = false) := HNT.out hl;rw [hl] at HLN;clear HNT HGT hl;go_wp2_with fail
          refine HLN.mono ?_;rintro e w3 ⟨rfl, rfl⟩;clear p0 p1 p2 p3 e0 e1 e2 e3 elt plt y0;clear XX E;go_wp2;go_ret
          exact ⟨ret_bool HR.out.symm, BB⟩
         ·have HGD : Hid (GdA x k u) := HGT.out hl;rw [hl] at HLN;clear HNT HGT hl;go_wp2_with fail
          refine HLN.mono ?_;rintro e w3 ⟨rfl, rfl⟩;clear p0 p1 p2 p3 e0 e1 e2 e3 elt plt y0;clear E;have HE9 : Hid (∀ j, j < k + 1 → goodAt x j) := fun j hj => by
           by_cases he : j < k
           ·exact hno j he
           ·have : j = k := by omega
            subst this;intro u' hu';rw [HX.out] at hu';cases hu'
            exact HGD.out
          go_wp2;go_roundw
          case rel =>
           first
            | exact ⟨k + 1, by omega, by go_num, HE9.out, BB, XX⟩
            | exact ⟨k + 1, by omega, by go_num, HE9.out⟩
            | exact ⟨k + 1, by omega, by omega, HE9.out⟩
            | (iterate 53 (apply Exists.intro)
               refine ⟨?_, rfl⟩
               exact ⟨k + 1, by omega, by go_num, HE9.out, BB, XX⟩)
          case measure => simp [intOf]; omega
       ·have HGD : Hid (GdA x k u) := ⟨hb1, hb2, fun q => absurd q hka⟩;obtain ⟨p0, p1, p2, p3⟩ := cells_4 XX;obtain ⟨e0, e1, e2, e3⟩ := cells_4 E;have elt := (ltH E);have plt := (ltH XX);clear E plt elt;have HE9 : Hid (∀ j, j < k + 1 → goodAt x j) := fun j hj => by
         by_cases he : j < k
         ·exact hno j he
         ·have : j = k := by omega
          subst this;intro u' hu';rw [HX.out] at hu';cases hu'
          exact HGD.out
        go_wp2;go_roundw
        case rel =>
         first
          | exact ⟨k + 1, by omega, by go_num, HE9.out, BB, XX⟩
          | exact ⟨k + 1, by omega, by go_num, HE9.out⟩
          | exact ⟨k + 1, by omega, by omega, HE9.out⟩
          | (iterate 53 (apply Exists.intro)
             refine ⟨?_, rfl⟩
             exact ⟨k + 1, by omega, by go_num, HE9.out, BB, XX⟩)
        case measure => simp [intOf]; omega
    ·have HR : Hid (dmaS x = true) := HY2.out fun j hj => hno j (by omega);obtain ⟨p0, p1, p2, p3⟩ := cells_4 XX;clear XX;go_wp2;go_ret
     exact ⟨ret_bool HR.out.symm, BB⟩
def dmaFit (x : FabricD) : Bool := dmaB x.2.2.2.1 && decide (descI x.1.1 x.1.2.1 x.1.2.2.1 x.1.2.2.2 x.2.2.2.1.1 = 0)
theorem fabDma_any (x : FabricD) (a1 : Option Addr) (c1 : Nat) (b1 : Option Addr) (d1 : Nat) (a2 : Option Addr) (c2 : Nat) (a3 : Option Addr) (c3 : Nat) (b3 : Option Addr) (d3 : Nat) (a4 : Option Addr) (c4 : Nat) (a5 : Option Addr) (c5 : Nat) (w : World) (hc : codeI x.1.1 x.1.2.1 x.1.2.2.1 x.1.2.2.2 = 0) (R : FabRd w x a1 c1 b1 d1 a2 c2 a3 c3 b3 d3 a4 c4 a5 c5) (hh : Hold w) :
    Calls Tryz.prog 73 #[.agg #[.int .i64 x.1.1, .int .i64 x.1.2.1, .int .i64 x.1.2.2.1, .int .i64 x.1.2.2.2, .slice a1 x.2.1.1.length c1, .slice b1 x.2.1.2.length d1, .slice a2 x.2.2.1.length c2, .slice a3 x.2.2.2.1.1.length c3, .int .i64 x.2.2.2.1.2.1, .bool x.2.2.2.1.2.2.1, .slice b3 x.2.2.2.1.2.2.2.length d3, .slice a4 x.2.2.2.2.1.length c4, .slice a5 x.2.2.2.2.2.length c5]] w fun e w' => e = .returned (.bool (dmaFit x)) ∧ Below w.heap.size w w' := by
 have H1 : Hid (∀ W, Below w.heap.size w W → Calls Tryz.prog 125 #[.agg #[.slice a3 x.2.2.2.1.1.length c3, .int .i64 x.2.2.2.1.2.1, .bool x.2.2.2.1.2.2.1, .slice b3 x.2.2.2.1.2.2.2.length d3]] W fun e w' => e = .returned (.bool (dmaB x.2.2.2.1)) ∧ Below W.heap.size W w') := fun W hb => implDmaOk_u _ x.2.2.2.1 W (rd_next R.dma hb);have H2 : Hid (∀ W, Below w.heap.size w W → Calls Tryz.prog 126 #[.agg #[.int .i64 x.1.1, .int .i64 x.1.2.1, .int .i64 x.1.2.2.1, .int .i64 x.1.2.2.2], .slice a3 x.2.2.2.1.1.length c3] W fun e w' => e = .returned (.int .i64 (descI x.1.1 x.1.2.1 x.1.2.2.1 x.1.2.2.2 x.2.2.2.1.1)) ∧ Below W.heap.size W w') := fun W hb => implDescCode_any x.1.1 x.1.2.1 x.1.2.2.1 x.1.2.2.2 a3 x.2.2.2.1.1 c3 W (hh.goes hb) (slrd_next R.descs hb) R.descsl;unfold dmaFit;generalize dmaB x.2.2.2.1 = q1 at H1 ⊢;generalize descI x.1.1 x.1.2.1 x.1.2.2.1 x.1.2.2.2 x.2.2.2.1.1 = kd at H2 ⊢;clear hc R hh;have B := Below.refl w.heap.size w;go_enter Tryz.func73, Tryz.ntmps73;go_upto_region 1 with fail
 generalize hu1w : w.alloc _ = u1w;have F := boxH hu1w;have bz := boxB hu1w;have zF := boxL hu1w;clear hu1w;replace B := below_step B bz;clear bz;have zFa := Nat.le_of_eq zF;have zFb := Nat.le_of_eq zF.symm;clear zF;obtain ⟨Fc0, Fc1, Fc2, Fc3, Fc4, Fc5, Fc6, Fc7, Fc8, Fc9, Fc10, Fc11, Fc12⟩ := cells_fabric F;have Flt := (ltH F);go_wp2_with fail
 clear Fc0 Fc1 Fc2 Fc3 Fc4 Fc5 Fc6 Fc7 Fc8 Fc9 Fc10 Fc11 Fc12 Flt;refine (H1.out _ B).mono ?_;rintro e u2w ⟨rfl, bq⟩;have tu2w : u1w.heap.size ≤ u2w.heap.size := bq.size;replace B := below_step B bq;replace F := row_keep bq F;clear bq;cases q1
 ·skip
  obtain ⟨Fc0, Fc1, Fc2, Fc3, Fc4, Fc5, Fc6, Fc7, Fc8, Fc9, Fc10, Fc11, Fc12⟩ := cells_fabric F;have Flt := (ltH F);have HB : Hid _ := B;clear B F;go_wp2;go_ret
  exact ⟨rfl, HB.out⟩
 ·skip
  obtain ⟨Fc0, Fc1, Fc2, Fc3, Fc4, Fc5, Fc6, Fc7, Fc8, Fc9, Fc10, Fc11, Fc12⟩ := cells_fabric F;have Flt := (ltH F);go_wp2_with fail
  clear Fc0 Fc1 Fc2 Fc3 Fc4 Fc5 Fc6 Fc7 Fc8 Fc9 Fc10 Fc11 Fc12 Flt;refine (H2.out _ B).mono ?_;rintro e u3w ⟨rfl, bq⟩;have tu3w : u2w.heap.size ≤ u3w.heap.size := bq.size;replace B := below_step B bq;replace F := row_keep bq F;clear bq;by_cases hz : kd = 0
  ·have zt : (kd == 0) = true := by simp [hz]
   have HZ : Hid (kd = 0) := hz;clear hz;obtain ⟨Fc0, Fc1, Fc2, Fc3, Fc4, Fc5, Fc6, Fc7, Fc8, Fc9, Fc10, Fc11, Fc12⟩ := cells_fabric F;have Flt := (ltH F);have HB : Hid _ := B;clear B F;go_wp2;go_ret
   exact ⟨by simp [HZ.out], HB.out⟩
  ·have zt : (kd == 0) = false := by simp [hz]
   have HZ : Hid (¬ kd = 0) := hz;clear hz;obtain ⟨Fc0, Fc1, Fc2, Fc3, Fc4, Fc5, Fc6, Fc7, Fc8, Fc9, Fc10, Fc11, Fc12⟩ := cells_fabric F;have Flt := (ltH F);have HB : Hid _ := B;clear B F;go_wp2;go_ret
   exact ⟨by simp [HZ.out], HB.out⟩
end Go.Proofs.YtcocbafhcpdheaaGreatDoor
