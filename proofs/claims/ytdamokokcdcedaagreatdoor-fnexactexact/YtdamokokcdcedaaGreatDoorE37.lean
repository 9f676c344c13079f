import Derived.Test.YtdamokokcdcedaaGreatDoorE00Box
import Derived.Test.YtdamokokcdcedaaGreatDoorE36
namespace Go.Proofs.YtdamokokcdcedaaGreatDoor
set_option maxHeartbeats 4000000
set_option maxRecDepth 20000
open Go.ChangeShapes Go.WideShapes Go.ChangeAt Go.RowKit
set_option linter.unusedVariables false
set_option linter.unusedSimpArgs false
def headB (x : DmaD) : Bool := decide (x.1.length ≤ 30) && (betw x.2.1 0 x.1.length && (!(x.2.2.1 && decide (x.2.1 = (x.1.length : Int))) && decide ((x.2.2.2.length : Int) = x.2.1)))
def line15 (u : DescD) : Bool := betw u.2.1 0 15
def dmaS (x : DmaD) : Bool := dmaB x && x.1.all line15
def GdA (x : DmaD) (k : Nat) (u : DescD) : Prop := descB u = true ∧ line15 u = true ∧ ((k : Int) < x.2.1 → ∀ v, x.2.2.2[k]? = some v → toldB u v = true)
def goodAt (x : DmaD) (k : Nat) : Prop := ∀ u, x.1[k]? = some u → GdA x k u
theorem head_no {x : DmaD} (h : headB x = false) : dmaS x = false := by
 cases q : dmaS x
 ·rfl
 ·exfalso
  simp only [dmaS, dmaB, descsB, placeB1, waitB1, toldL, Bool.and_eq_true, decide_eq_true_eq, Bool.or_eq_true, Bool.not_eq_true', betw] at q;obtain ⟨⟨⟨b, q2⟩, d, a, c, q6⟩, q7⟩ := q;rw [List.length_take] at c;have : headB x = true := by
   simp only [headB, betw, Bool.and_eq_true, decide_eq_true_eq, Bool.not_eq_true', Bool.and_eq_false_iff, decide_eq_false_iff_not];refine ⟨b, d, ?_, by omega⟩;rcases a with a | a
   ·exact .inl a
   ·exact .inr (by omega)
  rw [h] at this;cases this
theorem good_yes {x : DmaD} (h : headB x = true) (hg : ∀ k, k < x.1.length → goodAt x k) : dmaS x = true := by
 simp only [headB, betw, Bool.and_eq_true, decide_eq_true_eq, Bool.not_eq_true', Bool.and_eq_false_iff, decide_eq_false_iff_not] at h;obtain ⟨l, h2, b, h4⟩ := h;have a : ∀ u ∈ x.1, ∃ k, k < x.1.length ∧ x.1[k]? = some u := fun u hu => by
  obtain ⟨k, a⟩ := List.getElem?_of_mem hu;exact ⟨k, (List.getElem?_eq_some_iff.1 a).1, a⟩
 have j : x.1.all descB = true := List.all_eq_true.2 fun u hu => by obtain ⟨k, d, c⟩ := a u hu; exact (hg k d u c).1
 have f : x.1.all line15 = true := List.all_eq_true.2 fun u hu => by obtain ⟨k, d, c⟩ := a u hu; exact (hg k d u c).2.1
 have i : toldL (x.1.take x.2.1.toNat) x.2.2.2 = true := by
  refine toldL_yes (by rw [List.length_take]; omega) fun k u v hu hv => ?_;rw [List.getElem?_take] at hu;split at hu
  ·rename_i hlt
   have g := (List.getElem?_eq_some_iff.1 hu).1;exact (hg k g u hu).2.2 (by omega) v hv
  ·cases hu
 unfold dmaS dmaB descsB placeB1 waitB1;rw [j, f, i, decide_eq_true l];have : betw x.2.1 0 x.1.length = true := by simp [betw]; omega
 rw [this];rcases b with b | b
 ·rw [b]; rfl
 ·have : decide (x.2.1 < (x.1.length : Int)) = true := decide_eq_true (by omega);rw [this]; simp
theorem good_no {x : DmaD} (h : headB x = true) {k : Nat} {u : DescD} (hu : x.1[k]? = some u) (a : descB u = false ∨ line15 u = false ∨ ((k : Int) < x.2.1 ∧ ∃ v, x.2.2.2[k]? = some v ∧ toldB u v = false)) : dmaS x = false := by
 have hm := List.mem_of_getElem? hu;rcases a with a | a | ⟨hk, v, b, a⟩
 ·have : x.1.all descB = false := all_not hu a;unfold dmaS dmaB descsB;rw [this];simp
 ·have : x.1.all line15 = false := all_not hu a;unfold dmaS;rw [this];simp
 ·have : toldL (x.1.take x.2.1.toNat) x.2.2.2 = false := toldL_no (k := k) (u := u) (v := v) (by rw [List.getElem?_take, if_pos (by omega)]; exact hu) b a;unfold dmaS dmaB;rw [this];simp
theorem specDmaOk_u (cs : List Value) (x : DmaD) (w : World) (h : dmaR.rd w cs x) :
    Calls Tryz.prog 68 #[aggV cs] w fun e w' => e = .returned (.bool (dmaS x)) ∧ Bl w w' := by
 obtain ⟨z0, z3, rfl, ⟨a, ca, g1, n1, n2, q1⟩, i1, -, ⟨b, cb, g2, m1, m2, q2⟩⟩ := dma_rd h;simp only [List.cons.injEq, and_true] at g1 g2;obtain rfl := g1;obtain rfl := g2;change Calls Tryz.prog 68 #[.agg #[sL a x.1.length ca, nI x.2.1, .bool x.2.2.1, sL b x.2.2.2.length cb]] w _
 have MB : x.1.length ≤ 9223372036854775807 := Nat.le_trans n1 n2;have CB : x.2.2.2.length ≤ 9223372036854775807 := Nat.le_trans m1 m2;have HD : Hid (∀ W, Bl w W → SlRd descR W a x.1) := fun W hb => slrd_next q1 hb;have HT : Hid (∀ W, Bl w W → SlRd intsR W b x.2.2.2) := fun W hb => slrd_next q2 hb;have n : Hid (∀ W, Calls Tryz.prog 126 #[nI x.2.1, nI 0, nI (x.1.length : Int)] W fun e w' => e = .returned (.bool (betw x.2.1 0 x.1.length)) ∧ w' = W) := fun W => l1In_any x.2.1 0 x.1.length W;have gA : Hid (headB x = false → dmaS x = false) := fun e => head_no e;have HY : Hid (headB x = true → (∀ k, k < x.1.length → goodAt x k) → dmaS x = true) := fun e f => good_yes e f;have HN : Hid (headB x = true → ∀ (k : Nat) (u : DescD), x.1[k]? = some u → (descB u = false ∨ line15 u = false ∨ ((k : Int) < x.2.1 ∧ ∃ v, x.2.2.2[k]? = some v ∧ toldB u v = false)) → dmaS x = false) := fun e k u hu hn => good_no e hu hn;have eA : Hid (headB x = true → (x.2.2.2.length : Int) = x.2.1) := fun e => by
  simp only [headB, Bool.and_eq_true, decide_eq_true_eq] at e;exact e.2.2.2
 clear h q1 q2 n1 n2 m1 m2 i1;go_enter Tryz.func68, Tryz.ntmps68;go_upto_region 1 with fail
 generalize aA : w.alloc _ = W0;have X := boxH aA;have B := boxB aA;clear aA;obtain ⟨d0, d1, d2, d3⟩ := cells_4 X;go_upto_region 2 with fail
 go_cut [35] (fun q wx => q = .bool (!headB x) ∧ wx = W0)
 case first =>
  by_cases C : x.1.length ≤ 30
  ·have f1 : ¬ (30 < (x.1.length : Int)) := by omega
   cases A : betw x.2.1 0 x.1.length
   ·rw [A] at n;go_wp2_with fail
    refine (n.out _).mono ?_;rintro e w1 ⟨rfl, rfl⟩;go_wp2_with fail
    go_meet
    exact ⟨by simp [headB, A], rfl⟩
   ·rw [A] at n;by_cases U : x.2.2.1 = true;rotate_left
    ·have z : Hid (x.2.2.1 = false) := by unfold Hid; simpa using U
     clear U;rw [z.out] at d2;by_cases D : (x.2.2.2.length : Int) = x.2.1
     ·have f5 : ((x.2.2.2.length : Int) != x.2.1) = false := by simp [D]
      have E5 : Hid ((x.2.2.2.length : Int) = x.2.1) := D;clear D;go_wp2_with fail
      refine (n.out _).mono ?_;rintro e w1 ⟨rfl, rfl⟩;go_wp2_with fail
      go_meet
      exact ⟨by simp [headB, C, A, z.out, E5.out], rfl⟩
     ·have f5 : ((x.2.2.2.length : Int) != x.2.1) = true := by simp [D]
      have E5 : Hid (¬ (x.2.2.2.length : Int) = x.2.1) := D;clear D;go_wp2_with fail
      refine (n.out _).mono ?_;rintro e w1 ⟨rfl, rfl⟩;go_wp2_with fail
      go_meet
      exact ⟨by simp [headB, C, A, z.out, E5.out], rfl⟩
    ·have z : Hid (x.2.2.1 = true) := U;clear U;rw [z.out] at d2;by_cases e4 : x.2.1 = (x.1.length : Int)
     ·have f4 : (x.2.1 == (x.1.length : Int)) = true := by simp [e4]
      have E4 : Hid (x.2.1 = (x.1.length : Int)) := e4;clear e4;go_wp2_with fail
      refine (n.out _).mono ?_;rintro e w1 ⟨rfl, rfl⟩;go_wp2_with fail
      go_meet
      exact ⟨by simp [headB, C, A, z.out, E4.out], rfl⟩
     ·have f4 : (x.2.1 == (x.1.length : Int)) = false := by simp [e4]
      have E4 : Hid (¬ x.2.1 = (x.1.length : Int)) := e4;clear e4;by_cases D : (x.2.2.2.length : Int) = x.2.1
      ·have f5 : ((x.2.2.2.length : Int) != x.2.1) = false := by simp [D]
       have E5 : Hid ((x.2.2.2.length : Int) = x.2.1) := D;clear D;go_wp2_with fail
       refine (n.out _).mono ?_;rintro e w1 ⟨rfl, rfl⟩;go_wp2_with fail
       go_meet
       exact ⟨by simp [headB, C, A, z.out, E4.out, E5.out], rfl⟩
      ·have f5 : ((x.2.2.2.length : Int) != x.2.1) = true := by simp [D]
       have E5 : Hid (¬ (x.2.2.2.length : Int) = x.2.1) := D;clear D;go_wp2_with fail
       refine (n.out _).mono ?_;rintro e w1 ⟨rfl, rfl⟩;go_wp2_with fail
       go_meet
       exact ⟨by simp [headB, C, A, z.out, E4.out, E5.out], rfl⟩
  ·have f1 : 30 < (x.1.length : Int) := by omega
   go_wp2_with fail
   go_meet
   exact ⟨by simp [headB, C], rfl⟩
 case rest =>
  obtain ⟨rfl, rfl⟩ := hcut;clear n;cases hh : headB x
  ·have G : Hid (dmaS x = false) := gA.out hh;clear X gA HY HN eA hh;go_wp2;go_ret
   exact ⟨ret_bool G.out.symm, B⟩
  ·have OA : Hid ((∀ k, k < x.1.length → goodAt x k) → dmaS x = true) := HY.out hh;have fA : Hid (∀ (k : Nat) (u : DescD), x.1[k]? = some u → (descB u = false ∨ line15 u = false ∨ ((k : Int) < x.2.1 ∧ ∃ v, x.2.2.2[k]? = some v ∧ toldB u v = false)) → dmaS x = false) := HN.out hh;have IA : Hid ((x.2.2.2.length : Int) = x.2.1) := eA.out hh;clear gA HY HN eA hh d0 d1 d2 d3;go_wp2;go_loopw [4] (fun i wr => ∃ k : Nat, k ≤ x.1.length ∧ i = nI k ∧ (∀ j, j < k → goodAt x j) ∧ Bl w wr ∧ wr.heap[w.heap.size]? = some (.cells #[sL a x.1.length ca, nI x.2.1, .bool x.2.2.1, sL b x.2.2.2.length cb] 45 (0, 0))) (fun i _ => x.1.length - (intOf i).toNat)
   case atStart => exact ⟨0, Nat.zero_le _, rfl, fun j hj => by omega, B, X⟩
   case round =>
    clear X B;obtain ⟨k, hk, rfl, S, g, c⟩ := hrel;by_cases UA : k < x.1.length
    ·have cB : (k : Int) < (x.1.length : Int) := by omega
     obtain ⟨u, hx⟩ : ∃ u, x.1[k]? = some u := ⟨_, List.getElem?_eq_getElem UA⟩;obtain ⟨bb, nB, cs, ra, Z, H⟩ := slrd_at (HD.out _ g) hx;subst ra;obtain ⟨ua, uc, rfl, hd⟩ := desc_shape Z;obtain ⟨x0, x1, x2, x3⟩ := cellsAt4 H rfl;have KA : bb < wr.heap.size := cell_lt x0;have HX : Hid (x.1[k]? = some u) := hx;have T : Hid _ := fun (W : World) (hb : Bl wr W) => l11Desc_any u.1 u.2.1 u.2.2.1 u.2.2.2 ua uc W (slrd_next hd hb);have Y : Hid (∀ W, Calls Tryz.prog 126 #[nI u.2.1, nI 0, nI 15] W fun e w' => e = .returned (.bool (line15 u)) ∧ Bl W w') := fun W => (l1In_any u.2.1 0 15 W).mono fun e w' ⟨q, r⟩ => ⟨q, be_eq r⟩;have E := heap_at wr (.cells #[.bool u.1, nI u.2.1, nI u.2.2.1, sL ua u.2.2.2.length uc] 187);have bz := box_below wr (.cells #[.bool u.1, nI u.2.1, nI u.2.2.1, sL ua u.2.2.2.length uc] 187);clear hx H Z hd;obtain ⟨O, R, M, N⟩ := cells_4 c;have l := (ltH c);go_upto_region 8 with fail
     clear O R M N l x0 x1 x2 x3 KA;have AB : Hid _ := g;replace g := below_step g bz;replace c := row_keep bz c;have bA : Hid _ := bz;clear bz;generalize wr.alloc (.cells #[.bool u.1, nI u.2.1, nI u.2.2.1, sL ua u.2.2.2.length uc] 187) = wv at E g c bA ⊢;obtain ⟨O, R, M, N⟩ := cells_4 c;obtain ⟨V, C, A, z⟩ := cells_4 E;have o := (ltH E);have l := (ltH c);go_wp2_with fail
     clear O R M N V C A z o l;cases J : descB u
     ·have G : Hid (dmaS x = false) := fA.out k u HX.out (.inl J);rw [J] at T;refine (T.out _ bA.out).mono ?_;rintro e w2 ⟨rfl, m⟩;replace g := below_step g m;replace c := row_keep m c;replace E := row_keep m E;clear m c E;go_wp2;go_ret
      exact ⟨ret_bool G.out.symm, g⟩
     ·rw [J] at T;refine (T.out _ bA.out).mono ?_;rintro e w2 ⟨rfl, m⟩;replace g := below_step g m;replace c := row_keep m c;replace E := row_keep m E;clear m;obtain ⟨O, R, M, N⟩ := cells_4 c;obtain ⟨V, C, A, z⟩ := cells_4 E;have o := (ltH E);have l := (ltH c);go_wp2_with fail
      clear O R M N V C A z o l;cases F : line15 u
      ·have G : Hid (dmaS x = false) := fA.out k u HX.out (.inr (.inl F));rw [F] at Y;refine (Y.out _).mono ?_;rintro e w2 ⟨rfl, m⟩;replace g := below_step g m;replace c := row_keep m c;replace E := row_keep m E;clear m c E;go_wp2;go_ret
       exact ⟨ret_bool G.out.symm, g⟩
      ·rw [F] at Y;refine (Y.out _).mono ?_;rintro e w2 ⟨rfl, m⟩;replace g := below_step g m;replace c := row_keep m c;replace E := row_keep m E;clear m;by_cases AA : (k : Int) < x.2.1
       ·obtain ⟨v, hv⟩ : ∃ v, x.2.2.2[k]? = some v := ⟨_, List.getElem?_eq_getElem (by have := IA.out; omega)⟩;obtain ⟨bc, yA, ds, rb, vA, I⟩ := slrd_at (HT.out _ g) hv;have JB : k < x.2.2.2.length := (List.getElem?_eq_some_iff.1 hv).1;have aB : (k : Int) < (x.2.2.2.length : Int) := by omega
        subst rb;obtain ⟨wa, wc, rfl, n1, n2, nA⟩ := vA;have y0 := I 0 _ rfl;rw [show yA + (k * intsR.size + 0) = yA + k from by rw [show intsR.size = 1 from rfl]; omega] at y0;have qB : v.length ≤ 9223372036854775807 := Nat.le_trans n1 n2;have K := specLineOk_any wa v wc w2 (reads_of nA);have HV : Hid (x.2.2.2[k]? = some v) := hv;have TA : Hid ((k : Int) < x.2.1) := AA;have s : Hid (toldB u v = false → dmaS x = false) := fun q => fA.out k u HX.out (.inr (.inr ⟨TA.out, v, HV.out, q⟩));have y : Hid (toldB u v = true → GdA x k u) := fun q => ⟨J, F, fun _ v' hv' => by rw [HV.out] at hv'; cases hv'; exact q⟩;clear hv I nA n1 n2;obtain ⟨O, R, M, N⟩ := cells_4 c;obtain ⟨V, C, A, z⟩ := cells_4 E;have o := (ltH E);have l := (ltH c);by_cases hw : u.1 = true
        ·have tb : toldB u v = decide (v.length = 0) := by unfold toldB; rw [hw]; rfl
         rw [tb] at s y;rw [hw] at V;clear hw tb K;by_cases hz : v.length = 0
         ·have L : Hid (GdA x k u) := y.out (decide_eq_true hz);have JA : ((v.length : Int) != 0) = false := by simp [hz]
          clear hz s y;have d : Hid (∀ j, j < k + 1 → goodAt x j) := fun j hj => by
           by_cases he : j < k
           ·exact S j he
           ·have : j = k := by omega
            subst this;intro u' p;rw [HX.out] at p;cases p;exact L.out
          go_wp2;go_roundw
          case rel =>
           first
            | exact ⟨k + 1, by omega, by go_num, d.out, g, c⟩
            | exact ⟨k + 1, by omega, by go_num, d.out⟩
            | exact ⟨k + 1, by omega, by omega, d.out⟩
            | (iterate 53 (apply Exists.intro)
               refine ⟨?_, rfl⟩
               exact ⟨k + 1, by omega, by go_num, d.out, g, c⟩)
          case measure => simp [intOf]; omega
         ·have G : Hid (dmaS x = false) := s.out (decide_eq_false hz);have JA : ((v.length : Int) != 0) = true := by simp [hz]
          clear hz s y c E;go_wp2;go_ret
          exact ⟨ret_bool G.out.symm, g⟩
        ·have dA : u.1 = false := by simpa using hw
         have tb : toldB u v = isL v := by unfold toldB; rw [dA]; rfl
         rw [tb] at s y;rw [dA] at V;clear hw dA tb;cases hl : isL v
         ·have G : Hid (dmaS x = false) := s.out hl;rw [hl] at K;clear s y hl;go_wp2_with fail
          refine K.mono ?_;rintro e w3 ⟨rfl, rfl⟩;clear O R M N V C A z o l y0 c E;go_wp2;go_ret
          exact ⟨ret_bool G.out.symm, g⟩
         ·have L : Hid (GdA x k u) := y.out hl;rw [hl] at K;clear s y hl;go_wp2_with fail
          refine K.mono ?_;rintro e w3 ⟨rfl, rfl⟩;clear O R M N V C A z o l y0 E;have d : Hid (∀ j, j < k + 1 → goodAt x j) := fun j hj => by
           by_cases he : j < k
           ·exact S j he
           ·have : j = k := by omega
            subst this;intro u' p;rw [HX.out] at p;cases p;exact L.out
          go_wp2;go_roundw
          case rel =>
           first
            | exact ⟨k + 1, by omega, by go_num, d.out, g, c⟩
            | exact ⟨k + 1, by omega, by go_num, d.out⟩
            | exact ⟨k + 1, by omega, by omega, d.out⟩
            | (iterate 53 (apply Exists.intro)
               refine ⟨?_, rfl⟩
               exact ⟨k + 1, by omega, by go_num, d.out, g, c⟩)
          case measure => simp [intOf]; omega
       ·have L : Hid (GdA x k u) := ⟨J, F, fun q => absurd q AA⟩;obtain ⟨O, R, M, N⟩ := cells_4 c;obtain ⟨V, C, A, z⟩ := cells_4 E;have o := (ltH E);have l := (ltH c);clear E l o;have d : Hid (∀ j, j < k + 1 → goodAt x j) := fun j hj => by
         by_cases he : j < k
         ·exact S j he
         ·have : j = k := by omega
          subst this;intro u' p;rw [HX.out] at p;cases p;exact L.out
        go_wp2;go_roundw
        case rel =>
         first
          | exact ⟨k + 1, by omega, by go_num, d.out, g, c⟩
          | exact ⟨k + 1, by omega, by go_num, d.out⟩
          | exact ⟨k + 1, by omega, by omega, d.out⟩
          | (iterate 53 (apply Exists.intro)
             refine ⟨?_, rfl⟩
             exact ⟨k + 1, by omega, by go_num, d.out, g, c⟩)
        case measure => simp [intOf]; omega
    ·have G : Hid (dmaS x = true) := OA.out fun j hj => S j (by omega);obtain ⟨O, R, M, N⟩ := cells_4 c;clear c;go_wp2;go_ret
     exact ⟨ret_bool G.out.symm, g⟩
def dmaFit (x : FabricD) : Bool := dmaB x.2.2.2.1 && decide (descI x.1.1 x.1.2.1 x.1.2.2.1 x.1.2.2.2 x.2.2.2.1.1 = 0)
theorem fabDma_any (x : FabricD) (a1 : Option Addr) (c1 : Nat) (b1 : Option Addr) (d1 : Nat) (a2 : Option Addr) (c2 : Nat) (a3 : Option Addr) (c3 : Nat) (b3 : Option Addr) (d3 : Nat) (a4 : Option Addr) (c4 : Nat) (a5 : Option Addr) (c5 : Nat) (w : World) (hc : codeI x.1.1 x.1.2.1 x.1.2.2.1 x.1.2.2.2 = 0) (R : FabRd w x a1 c1 b1 d1 a2 c2 a3 c3 b3 d3 a4 c4 a5 c5) (hh : Hold w) :
    Calls Tryz.prog 86 #[.agg #[nI x.1.1, nI x.1.2.1, nI x.1.2.2.1, nI x.1.2.2.2, sL a1 x.2.1.1.length c1, sL b1 x.2.1.2.length d1, sL a2 x.2.2.1.length c2, sL a3 x.2.2.2.1.1.length c3, nI x.2.2.2.1.2.1, .bool x.2.2.2.1.2.2.1, sL b3 x.2.2.2.1.2.2.2.length d3, sL a4 x.2.2.2.2.1.length c4, sL a5 x.2.2.2.2.2.length c5]] w fun e w' => e = .returned (.bool (dmaFit x)) ∧ Bl w w' := by
 have m : Hid (∀ W, Bl w W → Calls Tryz.prog 149 #[.agg #[sL a3 x.2.2.2.1.1.length c3, nI x.2.2.2.1.2.1, .bool x.2.2.2.1.2.2.1, sL b3 x.2.2.2.1.2.2.2.length d3]] W fun e w' => e = .returned (.bool (dmaB x.2.2.2.1)) ∧ Bl W w') := fun W hb => implDmaOk_u _ x.2.2.2.1 W (rd_next R.dma hb);have l : Hid _ := fun (W : World) (hb : Bl w W) => implDescCode_any x.1.1 x.1.2.1 x.1.2.2.1 x.1.2.2.2 a3 x.2.2.2.1.1 c3 W (hh.goes hb) (slrd_next R.descs hb) R.descsl;unfold dmaFit;generalize dmaB x.2.2.2.1 = q1 at m ⊢;generalize descI x.1.1 x.1.2.1 x.1.2.2.1 x.1.2.2.2 x.2.2.2.1.1 = kd at l ⊢;clear hc R hh;have B := Below.refl w.heap.size w;go_enter Tryz.func86, Tryz.ntmps86;go_upto_region 1 with fail
 generalize a : w.alloc _ = u1w;have F := boxH a;have k := boxB a;have j := boxL a;clear a;replace B := below_step B k;clear k;have q := lE j;have r := lE j.symm;clear j;obtain ⟨Fc0, Fc1, Fc2, Fc3, Fc4, Fc5, Fc6, Fc7, Fc8, Fc9, Fc10, Fc11, Fc12⟩ := cells_fabric F;have Flt := (ltH F);go_wp2_with fail
 clear Fc0 Fc1 Fc2 Fc3 Fc4 Fc5 Fc6 Fc7 Fc8 Fc9 Fc10 Fc11 Fc12 Flt;refine (m.out _ B).mono ?_;rintro e d ⟨rfl, b⟩;have n : u1w.heap.size ≤ d.heap.size := b.size;replace B := below_step B b;replace F := row_keep b F;clear b;cases q1
 ·skip
  obtain ⟨Fc0, Fc1, Fc2, Fc3, Fc4, Fc5, Fc6, Fc7, Fc8, Fc9, Fc10, Fc11, Fc12⟩ := cells_fabric F;have Flt := (ltH F);have f : Hid _ := B;clear B F;go_wp2;go_ret
  exact ⟨rfl, f.out⟩
 ·skip
  obtain ⟨Fc0, Fc1, Fc2, Fc3, Fc4, Fc5, Fc6, Fc7, Fc8, Fc9, Fc10, Fc11, Fc12⟩ := cells_fabric F;have Flt := (ltH F);go_wp2_with fail
  clear Fc0 Fc1 Fc2 Fc3 Fc4 Fc5 Fc6 Fc7 Fc8 Fc9 Fc10 Fc11 Fc12 Flt;refine (l.out _ B).mono ?_;rintro e i ⟨rfl, b⟩;have o : d.heap.size ≤ i.heap.size := b.size;replace B := below_step B b;replace F := row_keep b F;clear b;by_cases c : kd = 0
  ·have p : (kd == 0) = true := by simp [c]
   have g : Hid (kd = 0) := c;clear c;obtain ⟨Fc0, Fc1, Fc2, Fc3, Fc4, Fc5, Fc6, Fc7, Fc8, Fc9, Fc10, Fc11, Fc12⟩ := cells_fabric F;have Flt := (ltH F);have f : Hid _ := B;clear B F;go_wp2;go_ret
   exact ⟨by simp [g.out], f.out⟩
  ·have p : (kd == 0) = false := by simp [c]
   have g : Hid (¬ kd = 0) := c;clear c;obtain ⟨Fc0, Fc1, Fc2, Fc3, Fc4, Fc5, Fc6, Fc7, Fc8, Fc9, Fc10, Fc11, Fc12⟩ := cells_fabric F;have Flt := (ltH F);have f : Hid _ := B;clear B F;go_wp2;go_ret
   exact ⟨by simp [g.out], f.out⟩
end Go.Proofs.YtdamokokcdcedaaGreatDoor
