import Derived.Test.YtcocbafhcpdheaaGreatDoorT00Box
import Derived.Test.YtcocbafhcpdheaaGreatDoorT39
namespace Go.Proofs.YtcocbafhcpdheaaGreatDoor
set_option maxHeartbeats 4000000
set_option maxRecDepth 20000
open Go.ChangeShapes Go.WideShapes Go.ChangeAt Go.RowKit
set_option linter.unusedVariables false
set_option linter.unusedSimpArgs false
def zDL (x : zFt) : Bool := decide (x.1.length ≤ 30) && (zA8 x.2.1 0 x.1.length && (!(x.2.2.1 && decide (x.2.1 = (x.1.length : Int))) && decide ((x.2.2.2.length : Int) = x.2.1)))
def zE1 (u : zBU) : Bool := zA8 u.2.1 0 15
def zF2 (x : zFt) : Bool := zMP x && x.1.all zE1
def GdA (x : zFt) (k : Nat) (u : zBU) : Prop := zBn u = true ∧ zE1 u = true ∧ ((k : Int) < x.2.1 → ∀ v, x.2.2.2[k]? = some v → zDU u v = true)
def zGS (x : zFt) (k : Nat) : Prop := ∀ u, x.1[k]? = some u → GdA x k u
theorem head_no {x : zFt} (h : zDL x = false) : zF2 x = false := by
 cases q : zF2 x
 ·rfl
 ·exfalso
  simp only [zF2, zMP, zFT, zCV, zGQ, zFg, Bool.and_eq_true, decide_eq_true_eq, Bool.or_eq_true, Bool.not_eq_true', zA8] at q;obtain ⟨⟨⟨d, q2⟩, b, a, c, q6⟩, q7⟩ := q;rw [List.length_take] at c;have : zDL x = true := by
   simp only [zDL, zA8, Bool.and_eq_true, decide_eq_true_eq, Bool.not_eq_true', Bool.and_eq_false_iff, decide_eq_false_iff_not];refine ⟨d, b, ?_, by omega⟩;rcases a with a | a
   ·exact .inl a
   ·exact .inr (by omega)
  rw [h] at this;cases this
theorem good_yes {x : zFt} (h : zDL x = true) (hg : ∀ k, k < x.1.length → zGS x k) : zF2 x = true := by
 simp only [zDL, zA8, Bool.and_eq_true, decide_eq_true_eq, Bool.not_eq_true', Bool.and_eq_false_iff, decide_eq_false_iff_not] at h;obtain ⟨g, h2, b, h4⟩ := h;have a : ∀ u ∈ x.1, ∃ k, k < x.1.length ∧ x.1[k]? = some u := fun u hu => by
  obtain ⟨k, a⟩ := List.getElem?_of_mem hu;exact ⟨k, (List.getElem?_eq_some_iff.1 a).1, a⟩
 have j : x.1.all zBn = true := List.all_eq_true.2 fun u hu => by obtain ⟨k, c, d⟩ := a u hu; exact (hg k c u d).1
 have i : x.1.all zE1 = true := List.all_eq_true.2 fun u hu => by obtain ⟨k, c, d⟩ := a u hu; exact (hg k c u d).2.1
 have f : zFg (x.1.take x.2.1.toNat) x.2.2.2 = true := by
  refine zJI (by rw [List.length_take]; omega) fun k u v hu hv => ?_;rw [List.getElem?_take] at hu;split at hu
  ·rename_i hlt
   have l := (List.getElem?_eq_some_iff.1 hu).1;exact (hg k l u hu).2.2 (by omega) v hv
  ·cases hu
 unfold zF2 zMP zFT zCV zGQ;rw [j, i, f, decide_eq_true g];have : zA8 x.2.1 0 x.1.length = true := by simp [zA8]; omega
 rw [this];rcases b with b | b
 ·rw [b]; rfl
 ·have : decide (x.2.1 < (x.1.length : Int)) = true := decide_eq_true (by omega);rw [this]; simp
theorem good_no {x : zFt} (h : zDL x = true) {k : Nat} {u : zBU} (hu : x.1[k]? = some u) (a : zBn u = false ∨ zE1 u = false ∨ ((k : Int) < x.2.1 ∧ ∃ v, x.2.2.2[k]? = some v ∧ zDU u v = false)) : zF2 x = false := by
 have hm := List.mem_of_getElem? hu;rcases a with a | a | ⟨hk, v, b, a⟩
 ·have : x.1.all zBn = false := zBZ hu a;unfold zF2 zMP zFT;rw [this];simp
 ·have : x.1.all zE1 = false := zBZ hu a;unfold zF2;rw [this];simp
 ·have : zFg (x.1.take x.2.1.toNat) x.2.2.2 = false := zLG (k := k) (u := u) (v := v) (by rw [List.getElem?_take, if_pos (by omega)]; exact hu) b a;unfold zF2 zMP;rw [this];simp
theorem zKS (cs : List Value) (x : zFt) (w : World) (h : zFA.rd w cs x) :
    Calls Tryz.prog 91 #[zBq cs] w fun e w' => e = .returned (.bool (zF2 x)) ∧ Below w.heap.size w w' := by
 obtain ⟨z0, z3, rfl, ⟨a, ca, g1, n1, n2, q1⟩, i1, -, ⟨b, cb, g2, m1, m2, q2⟩⟩ := zFN h;simp only [List.cons.injEq, and_true] at g1 g2;obtain rfl := g1;obtain rfl := g2;change Calls Tryz.prog 91 #[.agg #[.slice a x.1.length ca, .int .i64 x.2.1, .bool x.2.2.1, .slice b x.2.2.2.length cb]] w _
 have HB : x.1.length ≤ 9223372036854775807 := Nat.le_trans n1 n2;have LB : x.2.2.2.length ≤ 9223372036854775807 := Nat.le_trans m1 m2;have HD : Hid (∀ W, Below w.heap.size w W → zA4 zAR W a x.1) := fun W hb => zAm q1 hb;have HT : Hid (∀ W, Below w.heap.size w W → zA4 zA0 W b x.2.2.2) := fun W hb => zAm q2 hb;have n : Hid (∀ W, Calls Tryz.prog 98 #[.int .i64 x.2.1, .int .i64 0, .int .i64 (x.1.length : Int)] W fun e w' => e = .returned (.bool (zA8 x.2.1 0 x.1.length)) ∧ w' = W) := fun W => zAo x.2.1 0 x.1.length W;have cA : Hid (zDL x = false → zF2 x = false) := fun e => head_no e;have HY : Hid (zDL x = true → (∀ k, k < x.1.length → zGS x k) → zF2 x = true) := fun e f => good_yes e f;have HN : Hid (zDL x = true → ∀ (k : Nat) (u : zBU), x.1[k]? = some u → (zBn u = false ∨ zE1 u = false ∨ ((k : Int) < x.2.1 ∧ ∃ v, x.2.2.2[k]? = some v ∧ zDU u v = false)) → zF2 x = false) := fun e k u hu hn => good_no e hu hn;have fA : Hid (zDL x = true → (x.2.2.2.length : Int) = x.2.1) := fun e => by
  simp only [zDL, Bool.and_eq_true, decide_eq_true_eq] at e;exact e.2.2.2
 clear h q1 q2 n1 n2 m1 m2 i1;go_enter Tryz.func91, Tryz.ntmps91;go_upto_region 1 with fail
 generalize dA : w.alloc _ = W0;have X := boxH dA;have B := boxB dA;clear dA;obtain ⟨d0, d1, d2, d3⟩ := zA5 X;go_upto_region 2 with fail
 go_cut [35] (fun q wx => q = .bool (!zDL x) ∧ wx = W0)
 case first =>
  by_cases C : x.1.length ≤ 30
  ·have f1 : ¬ (30 < (x.1.length : Int)) := by omega
   cases A : zA8 x.2.1 0 x.1.length
   ·rw [A] at n;go_wp2_with fail
    refine (n.out _).mono ?_;rintro e w1 ⟨rfl, rfl⟩;go_wp2_with fail
    go_meet
    exact ⟨by simp [zDL, A], rfl⟩
   ·rw [A] at n;by_cases U : x.2.2.1 = true;rotate_left
    ·have z : Hid (x.2.2.1 = false) := by unfold Hid; simpa using U
     clear U;rw [z.out] at d2;by_cases D : (x.2.2.2.length : Int) = x.2.1
     ·have f5 : ((x.2.2.2.length : Int) != x.2.1) = false := by simp [D]
      have E5 : Hid ((x.2.2.2.length : Int) = x.2.1) := D;clear D;go_wp2_with fail
      refine (n.out _).mono ?_;rintro e w1 ⟨rfl, rfl⟩;go_wp2_with fail
      go_meet
      exact ⟨by simp [zDL, C, A, z.out, E5.out], rfl⟩
     ·have f5 : ((x.2.2.2.length : Int) != x.2.1) = true := by simp [D]
      have E5 : Hid (¬ (x.2.2.2.length : Int) = x.2.1) := D;clear D;go_wp2_with fail
      refine (n.out _).mono ?_;rintro e w1 ⟨rfl, rfl⟩;go_wp2_with fail
      go_meet
      exact ⟨by simp [zDL, C, A, z.out, E5.out], rfl⟩
    ·have z : Hid (x.2.2.1 = true) := U;clear U;rw [z.out] at d2;by_cases e4 : x.2.1 = (x.1.length : Int)
     ·have f4 : (x.2.1 == (x.1.length : Int)) = true := by simp [e4]
      have E4 : Hid (x.2.1 = (x.1.length : Int)) := e4;clear e4;go_wp2_with fail
      refine (n.out _).mono ?_;rintro e w1 ⟨rfl, rfl⟩;go_wp2_with fail
      go_meet
      exact ⟨by simp [zDL, C, A, z.out, E4.out], rfl⟩
     ·have f4 : (x.2.1 == (x.1.length : Int)) = false := by simp [e4]
      have E4 : Hid (¬ x.2.1 = (x.1.length : Int)) := e4;clear e4;by_cases D : (x.2.2.2.length : Int) = x.2.1
      ·have f5 : ((x.2.2.2.length : Int) != x.2.1) = false := by simp [D]
       have E5 : Hid ((x.2.2.2.length : Int) = x.2.1) := D;clear D;go_wp2_with fail
       refine (n.out _).mono ?_;rintro e w1 ⟨rfl, rfl⟩;go_wp2_with fail
       go_meet
       exact ⟨by simp [zDL, C, A, z.out, E4.out, E5.out], rfl⟩
      ·have f5 : ((x.2.2.2.length : Int) != x.2.1) = true := by simp [D]
       have E5 : Hid (¬ (x.2.2.2.length : Int) = x.2.1) := D;clear D;go_wp2_with fail
       refine (n.out _).mono ?_;rintro e w1 ⟨rfl, rfl⟩;go_wp2_with fail
       go_meet
       exact ⟨by simp [zDL, C, A, z.out, E4.out, E5.out], rfl⟩
  ·have f1 : 30 < (x.1.length : Int) := by omega
   go_wp2_with fail
   go_meet
   exact ⟨by simp [zDL, C], rfl⟩
 case rest =>
  obtain ⟨rfl, rfl⟩ := hcut;clear n;cases hh : zDL x
  ·have G : Hid (zF2 x = false) := cA.out hh;clear X cA HY HN fA hh;go_wp2;go_ret
   exact ⟨zAl G.out.symm, B⟩
  ·have IA : Hid ((∀ k, k < x.1.length → zGS x k) → zF2 x = true) := HY.out hh;have aA : Hid (∀ (k : Nat) (u : zBU), x.1[k]? = some u → (zBn u = false ∨ zE1 u = false ∨ ((k : Int) < x.2.1 ∧ ∃ v, x.2.2.2[k]? = some v ∧ zDU u v = false)) → zF2 x = false) := HN.out hh;have OA : Hid ((x.2.2.2.length : Int) = x.2.1) := fA.out hh;clear cA HY HN fA hh d0 d1 d2 d3;go_wp2;go_loopw [4] (fun i wr => ∃ k : Nat, k ≤ x.1.length ∧ i = .int .i64 k ∧ (∀ j, j < k → zGS x j) ∧ Below w.heap.size w wr ∧ wr.heap[w.heap.size]? = some (.cells #[.slice a x.1.length ca, .int .i64 x.2.1, .bool x.2.2.1, .slice b x.2.2.2.length cb] 46 (0, 0))) (fun i _ => x.1.length - (intOf i).toNat)
   case atStart => exact ⟨0, Nat.zero_le _, rfl, fun j hj => by omega, B, X⟩
   case round =>
    clear X B;obtain ⟨k, hk, rfl, T, g, c⟩ := hrel;by_cases UA : k < x.1.length
    ·have ZA : (k : Int) < (x.1.length : Int) := by omega
     obtain ⟨u, hx⟩ : ∃ u, x.1[k]? = some u := ⟨_, List.getElem?_eq_getElem UA⟩;obtain ⟨bb, AB, cs, ra, Z, I⟩ := zAy (HD.out _ g) hx;subst ra;obtain ⟨ua, uc, rfl, hd⟩ := zFF Z;obtain ⟨x0, x1, x2, x3⟩ := cellsAt4 I rfl;have VA : bb < wr.heap.size := zAk x0;have HX : Hid (x.1[k]? = some u) := hx;have Y : Hid _ := fun (W : World) (hb : Below wr.heap.size wr W) => zFc u.1 u.2.1 u.2.2.1 u.2.2.2 ua uc W (zAm hd hb);have S : Hid (∀ W, Calls Tryz.prog 98 #[.int .i64 u.2.1, .int .i64 0, .int .i64 15] W fun e w' => e = .returned (.bool (zE1 u)) ∧ Below W.heap.size W w') := fun W => (zAo u.2.1 0 15 W).mono fun e w' ⟨q, r⟩ => ⟨q, zEO r⟩;have E := zAn wr (.cells #[.bool u.1, .int .i64 u.2.1, .int .i64 u.2.2.1, .slice ua u.2.2.2.length uc] 165);have bz := zAf wr (.cells #[.bool u.1, .int .i64 u.2.1, .int .i64 u.2.2.1, .slice ua u.2.2.2.length uc] 165);clear hx I Z hd;obtain ⟨N, O, R, M⟩ := zA5 c;have l := (ltH c);go_upto_region 8 with fail
     clear N O R M l x0 x1 x2 x3 VA;have JB : Hid _ := g;replace g := zAa g bz;replace c := zAb bz c;have bA : Hid _ := bz;clear bz;generalize wr.alloc (.cells #[.bool u.1, .int .i64 u.2.1, .int .i64 u.2.2.1, .slice ua u.2.2.2.length uc] 165) = wv at E g c bA ⊢;obtain ⟨N, O, R, M⟩ := zA5 c;obtain ⟨V, C, A, z⟩ := zA5 E;have o := (ltH E);have l := (ltH c);go_wp2_with fail
     clear N O R M V C A z o l;cases K : zBn u
     ·have G : Hid (zF2 x = false) := aA.out k u HX.out (.inl K);rw [K] at Y;refine (Y.out _ bA.out).mono ?_;rintro e w2 ⟨rfl, m⟩;replace g := zAa g m;replace c := zAb m c;replace E := zAb m E;clear m;clear c E;go_wp2;go_ret
      exact ⟨zAl G.out.symm, g⟩
     ·rw [K] at Y;refine (Y.out _ bA.out).mono ?_;rintro e w2 ⟨rfl, m⟩;replace g := zAa g m;replace c := zAb m c;replace E := zAb m E;clear m;obtain ⟨N, O, R, M⟩ := zA5 c;obtain ⟨V, C, A, z⟩ := zA5 E;have o := (ltH E);have l := (ltH c);go_wp2_with fail
      clear N O R M V C A z o l;cases J : zE1 u
      ·have G : Hid (zF2 x = false) := aA.out k u HX.out (.inr (.inl J));rw [J] at S;refine (S.out _).mono ?_;rintro e w2 ⟨rfl, m⟩;replace g := zAa g m;replace c := zAb m c;replace E := zAb m E;clear m;clear c E;go_wp2;go_ret
       exact ⟨zAl G.out.symm, g⟩
      ·rw [J] at S;refine (S.out _).mono ?_;rintro e w2 ⟨rfl, m⟩;replace g := zAa g m;replace c := zAb m c;replace E := zAb m E;clear m;by_cases zA : (k : Int) < x.2.1
       ·obtain ⟨v, hv⟩ : ∃ v, x.2.2.2[k]? = some v := ⟨_, List.getElem?_eq_getElem (by have := OA.out; omega)⟩;obtain ⟨bc, vA, ds, rb, rA, L⟩ := zAy (HT.out _ g) hv;have DB : k < x.2.2.2.length := (List.getElem?_eq_some_iff.1 hv).1;have cB : (k : Int) < (x.2.2.2.length : Int) := by omega
        subst rb;obtain ⟨wa, wc, rfl, n1, n2, nA⟩ := rA;have y0 := L 0 _ rfl;rw [show vA + (k * zA0.size + 0) = vA + k from by rw [show zA0.size = 1 from rfl]; omega] at y0;have sB : v.length ≤ 9223372036854775807 := Nat.le_trans n1 n2;have H := zB4 wa v wc w2 (zBv nA);have HV : Hid (x.2.2.2[k]? = some v) := hv;have NA : Hid ((k : Int) < x.2.1) := zA;have p : Hid (zDU u v = false → zF2 x = false) := fun q => aA.out k u HX.out (.inr (.inr ⟨NA.out, v, HV.out, q⟩));have y : Hid (zDU u v = true → GdA x k u) := fun q => ⟨K, J, fun _ v' hv' => by rw [HV.out] at hv'; cases hv'; exact q⟩;clear hv L nA n1 n2;obtain ⟨N, O, R, M⟩ := zA5 c;obtain ⟨V, C, A, z⟩ := zA5 E;have o := (ltH E);have l := (ltH c);by_cases hw : u.1 = true
        ·have tb : zDU u v = decide (v.length = 0) := by unfold zDU; rw [hw]; rfl
         rw [tb] at p y;rw [hw] at V;clear hw tb H;by_cases hz : v.length = 0
         ·have F : Hid (GdA x k u) := y.out (decide_eq_true hz);have HA : ((v.length : Int) != 0) = false := by simp [hz]
          clear hz p y;have d : Hid (∀ j, j < k + 1 → zGS x j) := fun j hj => by
           by_cases he : j < k
           ·exact T j he
           ·have : j = k := by omega
            subst this;intro u' s;rw [HX.out] at s;cases s;exact F.out
          go_wp2;go_roundw
          case rel =>
           first
            | exact ⟨k + 1, by omega, by go_num, d.out, g, c⟩
            | exact ⟨k + 1, by omega, by go_num, d.out⟩
            | exact ⟨k + 1, by omega, by omega, d.out⟩
            | (iterate 53 (apply Exists.intro)
               refine ⟨?_, rfl⟩
               exact ⟨k + 1, by omega, by go_num, d.out, g, c⟩)
          case measure => simp [intOf]; omega
         ·have G : Hid (zF2 x = false) := p.out (decide_eq_false hz);have HA : ((v.length : Int) != 0) = true := by simp [hz]
          clear hz p y c E;go_wp2;go_ret
          exact ⟨zAl G.out.symm, g⟩
        ·have eA : u.1 = false := by simpa using hw
         have tb : zDU u v = isL v := by unfold zDU; rw [eA]; rfl
         rw [tb] at p y;rw [eA] at V;clear hw eA tb;cases hl : isL v
         ·have G : Hid (zF2 x = false) := p.out hl;rw [hl] at H;clear p y hl;go_wp2_with fail
          refine H.mono ?_;rintro e w3 ⟨rfl, rfl⟩;clear N O R M V C A z o l y0;clear c E;go_wp2;go_ret
          exact ⟨zAl G.out.symm, g⟩
         ·have F : Hid (GdA x k u) := y.out hl;rw [hl] at H;clear p y hl;go_wp2_with fail
          refine H.mono ?_;rintro e w3 ⟨rfl, rfl⟩;clear N O R M V C A z o l y0;clear E;have d : Hid (∀ j, j < k + 1 → zGS x j) := fun j hj => by
           by_cases he : j < k
           ·exact T j he
           ·have : j = k := by omega
            subst this;intro u' s;rw [HX.out] at s;cases s;exact F.out
          go_wp2;go_roundw
          case rel =>
           first
            | exact ⟨k + 1, by omega, by go_num, d.out, g, c⟩
            | exact ⟨k + 1, by omega, by go_num, d.out⟩
            | exact ⟨k + 1, by omega, by omega, d.out⟩
            | (iterate 53 (apply Exists.intro)
               refine ⟨?_, rfl⟩
               exact ⟨k + 1, by omega, by go_num, d.out, g, c⟩)
          case measure => simp [intOf]; omega
       ·have F : Hid (GdA x k u) := ⟨K, J, fun q => absurd q zA⟩;obtain ⟨N, O, R, M⟩ := zA5 c;obtain ⟨V, C, A, z⟩ := zA5 E;have o := (ltH E);have l := (ltH c);clear E l o;have d : Hid (∀ j, j < k + 1 → zGS x j) := fun j hj => by
         by_cases he : j < k
         ·exact T j he
         ·have : j = k := by omega
          subst this;intro u' s;rw [HX.out] at s;cases s;exact F.out
        go_wp2;go_roundw
        case rel =>
         first
          | exact ⟨k + 1, by omega, by go_num, d.out, g, c⟩
          | exact ⟨k + 1, by omega, by go_num, d.out⟩
          | exact ⟨k + 1, by omega, by omega, d.out⟩
          | (iterate 53 (apply Exists.intro)
             refine ⟨?_, rfl⟩
             exact ⟨k + 1, by omega, by go_num, d.out, g, c⟩)
        case measure => simp [intOf]; omega
    ·have G : Hid (zF2 x = true) := IA.out fun j hj => T j (by omega);obtain ⟨N, O, R, M⟩ := zA5 c;clear c;go_wp2;go_ret
     exact ⟨zAl G.out.symm, g⟩
def zGT (x : zA2) : Bool := zMP x.2.2.2.1 && decide (zDd x.1.1 x.1.2.1 x.1.2.2.1 x.1.2.2.2 x.2.2.2.1.1 = 0)
theorem zMS (x : zA2) (a1 : Option Addr) (c1 : Nat) (b1 : Option Addr) (d1 : Nat) (a2 : Option Addr) (c2 : Nat) (a3 : Option Addr) (c3 : Nat) (b3 : Option Addr) (d3 : Nat) (a4 : Option Addr) (c4 : Nat) (a5 : Option Addr) (c5 : Nat) (w : World) (hc : zBe x.1.1 x.1.2.1 x.1.2.2.1 x.1.2.2.2 = 0) (R : FabRd w x a1 c1 b1 d1 a2 c2 a3 c3 b3 d3 a4 c4 a5 c5) (hh : Hold w) :
    Calls Tryz.prog 73 #[.agg #[.int .i64 x.1.1, .int .i64 x.1.2.1, .int .i64 x.1.2.2.1, .int .i64 x.1.2.2.2, .slice a1 x.2.1.1.length c1, .slice b1 x.2.1.2.length d1, .slice a2 x.2.2.1.length c2, .slice a3 x.2.2.2.1.1.length c3, .int .i64 x.2.2.2.1.2.1, .bool x.2.2.2.1.2.2.1, .slice b3 x.2.2.2.1.2.2.2.length d3, .slice a4 x.2.2.2.2.1.length c4, .slice a5 x.2.2.2.2.2.length c5]] w fun e w' => e = .returned (.bool (zGT x)) ∧ Below w.heap.size w w' := by
 have l : Hid (∀ W, Below w.heap.size w W → Calls Tryz.prog 125 #[.agg #[.slice a3 x.2.2.2.1.1.length c3, .int .i64 x.2.2.2.1.2.1, .bool x.2.2.2.1.2.2.1, .slice b3 x.2.2.2.1.2.2.2.length d3]] W fun e w' => e = .returned (.bool (zMP x.2.2.2.1)) ∧ Below W.heap.size W w') := fun W hb => zKR _ x.2.2.2.1 W (zAr R.dma hb);have m : Hid _ := fun (W : World) (hb : Below w.heap.size w W) => zGb x.1.1 x.1.2.1 x.1.2.2.1 x.1.2.2.2 a3 x.2.2.2.1.1 c3 W (hh.goes hb) (zAm R.descs hb) R.descsl;unfold zGT;generalize zMP x.2.2.2.1 = q1 at l ⊢;generalize zDd x.1.1 x.1.2.1 x.1.2.2.1 x.1.2.2.2 x.2.2.2.1.1 = kd at m ⊢;clear hc R hh;have B := Below.refl w.heap.size w;go_enter Tryz.func73, Tryz.ntmps73;go_upto_region 1 with fail
 generalize a : w.alloc _ = u1w;have F := boxH a;have n := boxB a;have g := boxL a;clear a;replace B := zAa B n;clear n;have r := Nat.le_of_eq g;have q := Nat.le_of_eq g.symm;clear g;obtain ⟨Fc0, Fc1, Fc2, Fc3, Fc4, Fc5, Fc6, Fc7, Fc8, Fc9, Fc10, Fc11, Fc12⟩ := zAd F;have Flt := (ltH F);go_wp2_with fail
 clear Fc0 Fc1 Fc2 Fc3 Fc4 Fc5 Fc6 Fc7 Fc8 Fc9 Fc10 Fc11 Fc12 Flt;refine (l.out _ B).mono ?_;rintro e d ⟨rfl, b⟩;have k : u1w.heap.size ≤ d.heap.size := b.size;replace B := zAa B b;replace F := zAb b F;clear b;cases q1
 ·skip
  obtain ⟨Fc0, Fc1, Fc2, Fc3, Fc4, Fc5, Fc6, Fc7, Fc8, Fc9, Fc10, Fc11, Fc12⟩ := zAd F;have Flt := (ltH F);have f : Hid _ := B;clear B F;go_wp2;go_ret
  exact ⟨rfl, f.out⟩
 ·skip
  obtain ⟨Fc0, Fc1, Fc2, Fc3, Fc4, Fc5, Fc6, Fc7, Fc8, Fc9, Fc10, Fc11, Fc12⟩ := zAd F;have Flt := (ltH F);go_wp2_with fail
  clear Fc0 Fc1 Fc2 Fc3 Fc4 Fc5 Fc6 Fc7 Fc8 Fc9 Fc10 Fc11 Fc12 Flt;refine (m.out _ B).mono ?_;rintro e i ⟨rfl, b⟩;have o : d.heap.size ≤ i.heap.size := b.size;replace B := zAa B b;replace F := zAb b F;clear b;by_cases c : kd = 0
  ·have p : (kd == 0) = true := by simp [c]
   have j : Hid (kd = 0) := c;clear c;obtain ⟨Fc0, Fc1, Fc2, Fc3, Fc4, Fc5, Fc6, Fc7, Fc8, Fc9, Fc10, Fc11, Fc12⟩ := zAd F;have Flt := (ltH F);have f : Hid _ := B;clear B F;go_wp2;go_ret
   exact ⟨by simp [j.out], f.out⟩
  ·have p : (kd == 0) = false := by simp [c]
   have j : Hid (¬ kd = 0) := c;clear c;obtain ⟨Fc0, Fc1, Fc2, Fc3, Fc4, Fc5, Fc6, Fc7, Fc8, Fc9, Fc10, Fc11, Fc12⟩ := zAd F;have Flt := (ltH F);have f : Hid _ := B;clear B F;go_wp2;go_ret
   exact ⟨by simp [j.out], f.out⟩
end Go.Proofs.YtcocbafhcpdheaaGreatDoor
