import Derived.Test.YtcocbafhcpdheaaGreatDoorS00Box
import Derived.Test.YtcocbafhcpdheaaGreatDoorS36
namespace Go.Proofs.YtcocbafhcpdheaaGreatDoor
set_option maxHeartbeats 4000000
set_option maxRecDepth 20000
open Go.ChangeShapes Go.WideShapes Go.ChangeAt Go.RowKit
set_option linter.unusedVariables false
def holdE (x : EntryD) : List Int := if entB x then hoI x.1 x.2.1 else []
def entIn (c : Int) (x : EntryD) : Bool := agentIn c x.2.2.2.2.1 && (holdE x).all (coreIn c)
theorem hold_in (x : EntryD) : ∀ k ∈ holdE x, In64 k := (hold_small x).2
theorem fitsE1_any (c s y l k : Int) (g : Nat) (w : World) (hc : codeI c s y l = 0) (G : w.heap[g]? = some (.cells #[.int .i64 c, .int .i64 s, .int .i64 y, .int .i64 l] 39 (0, 0))) :
    Calls Tryz.prog 168 #[.int .i64 k, .pointer (some ⟨g, 0, none⟩)] w fun e w' => e = .returned (.bool (!coreIn c k)) ∧ Below w.heap.size w w' := by
 have a := hasCore_any c s y l k w hc;generalize coreIn c k = q at a ⊢;obtain ⟨d, b, f, i⟩ := cells_4 G;clear hc G;go_enter Tryz.func168, Tryz.ntmps168;go_wp2_with fail
 refine a.mono ?_;rintro e w1 ⟨rfl, j⟩;clear d b f i;go_wp2;go_ret
 exact ⟨rfl, j⟩
theorem idxFnI (c s y l : Int) (g : Nat) (a : Option Addr) (xs : List Int) (cap : Nat) (w : World) (hc : codeI c s y l = 0) (G : w.heap[g]? = some (.cells #[.int .i64 c, .int .i64 s, .int .i64 y, .int .i64 l] 39 (0, 0))) (h : SlRd intR w a xs) (hm : xs.length ≤ maxLen) :
    Calls Tryz.prog 208 #[.slice a xs.length cap, .func (.func 168) #[] #[.pointer (some ⟨g, 0, none⟩)]] w fun e w' => e = .returned (.int .i64 (badP (coreIn c) xs)) ∧ Below w.heap.size w w' := by
 have H : xs.length ≤ 9223372036854775807 := hm;have I : Hid (∀ W, Below w.heap.size w W → SlRd intR W a xs) := fun W m => slrd_keep h fun k F => m.block k F;have r : Hid (∀ k W, Below w.heap.size w W → Calls Tryz.prog 168 #[.int .i64 k, .pointer (some ⟨g, 0, none⟩)] W fun e w' => e = .returned (.bool (!coreIn c k)) ∧ Below W.heap.size W w') := fun k W m => fitsE1_any c s y l k g W hc (row_keep m G);clear h hm hc G;go_enter Tryz.func208, Tryz.ntmps208;go_wp2;go_loopw [8] (fun i wr => ∃ k : Nat, k ≤ xs.length ∧ i = .int .i64 k ∧ (∀ j v, j < k → xs[j]? = some v → coreIn c v = true) ∧ Below w.heap.size w wr) (fun i _ => xs.length - (intOf i).toNat)
 case atStart => exact ⟨0, Nat.zero_le _, rfl, fun j v hj => by omega, Below.refl _ _⟩
 case round =>
  obtain ⟨k, F, rfl, n, f⟩ := hrel;by_cases A : k < xs.length
  ·have E : (k : Int) < (xs.length : Int) := by omega
   obtain ⟨x, B⟩ : ∃ x, xs[k]? = some x := ⟨_, List.getElem?_eq_getElem A⟩;obtain ⟨b, o, cs, rfl, ⟨rfl, -⟩, d⟩ := slrd_at (I.out _ f) B;have q := r.out x wr f;have z := d 0 _ rfl;rw [show o + (k * intR.size + 0) = o + k from by rw [show intR.size = 1 from rfl]; omega] at z;have D : Hid (xs[k]? = some x) := B;clear B d;cases m : coreIn c x
   ·have C : Hid (badP (coreIn c) xs = k) := badP_at D.out m n;rw [m] at q;go_wp2_with fail
    refine q.mono ?_;rintro e J ⟨rfl, p⟩;replace f := below_step f p;clear p z;go_wp2;go_ret
    exact ⟨ret_int C.out.symm, f⟩
   ·rw [m] at q;go_wp2_with fail
    refine q.mono ?_;rintro e J ⟨rfl, p⟩;replace f := below_step f p;clear p z;go_wp2;go_roundw
    case rel =>
     refine ⟨k + 1, by omega, by go_num, fun j v hj hv => ?_, f⟩;by_cases K : j < k
     ·exact n j v K hv
     ·have : j = k := by omega
      subst this;rw [D.out] at hv;cases hv;exact m
    case measure => simp [intOf]; omega
  ·have C : Hid (badP (coreIn c) xs = -1) := badP_no fun j v hv => n j v (by have := (List.getElem?_eq_some_iff.1 hv).1; omega) hv;go_wp2;go_ret
   exact ⟨ret_int C.out.symm, f⟩
theorem conFnI (c s y l : Int) (g : Nat) (a : Option Addr) (xs : List Int) (cap : Nat) (w : World) (hc : codeI c s y l = 0) (G : w.heap[g]? = some (.cells #[.int .i64 c, .int .i64 s, .int .i64 y, .int .i64 l] 39 (0, 0))) (h : SlRd intR w a xs) (hm : xs.length ≤ maxLen) :
    Calls Tryz.prog 166 #[.slice a xs.length cap, .func (.func 168) #[] #[.pointer (some ⟨g, 0, none⟩)]] w fun e w' => e = .returned (.bool (!xs.all (coreIn c))) ∧ Below w.heap.size w w' := by
 have f := idxFnI c s y l g a xs cap w hc G h hm;have b := badP_all (coreIn c) xs;clear h hm hc G;generalize badP (coreIn c) xs = q at f b;generalize xs.all (coreIn c) = z at b ⊢;subst b;by_cases j : q < 0
 ·have d : ¬ (0 ≤ q) := by omega
  go_enter Tryz.func166, Tryz.ntmps166;go_wp2_with fail
  refine f.mono ?_;rintro e k ⟨rfl, i⟩;go_wp2;go_ret
  exact ⟨by simp [j], i⟩
 ·have d : 0 ≤ q := by omega
  go_enter Tryz.func166, Tryz.ntmps166;go_wp2_with fail
  refine f.mono ?_;rintro e k ⟨rfl, i⟩;go_wp2;go_ret
  exact ⟨by simp [j], i⟩
theorem fitsEntry_any (c s y l : Int) (x : EntryD) (xa : Option Addr) (xc : Nat) (w : World) (hc : codeI c s y l = 0) (h : SlRd intR w xa x.2.2.2.2.2.2.2) :
    Calls Tryz.prog 122 #[.agg #[.int .i64 c, .int .i64 s, .int .i64 y, .int .i64 l], .agg #[.int .i64 x.1, .int .i64 x.2.1, .bool x.2.2.1, .int .i64 x.2.2.2.1, .int .i64 x.2.2.2.2.1, .int .i64 x.2.2.2.2.2.1, .int .i64 x.2.2.2.2.2.2.1, .slice xa x.2.2.2.2.2.2.2.length xc]] w fun e w' => e = .returned (.bool (entIn c x)) ∧ Below w.heap.size w w' := by
 have z : Hid (∀ W, Calls Tryz.prog 165 #[.agg #[.int .i64 c, .int .i64 s, .int .i64 y, .int .i64 l], .int .i64 x.2.2.2.2.1] W fun e w' => e = .returned (.bool (agentIn c x.2.2.2.2.1)) ∧ Below W.heap.size W w') := fun W => hasAgent_any c s y l x.2.2.2.2.1 W hc;have G : Hid _ := fun (W : World) (hb : Below w.heap.size w W) => implHolders_any x.1 x.2.1 x.2.2.2.1 x.2.2.2.2.1 x.2.2.2.2.2.1 x.2.2.2.2.2.2.1 x.2.2.1 x.2.2.2.2.2.2.2 xa xc W (slrd_next h hb);unfold entIn;generalize agentIn c x.2.2.2.2.1 = q1 at z ⊢;clear h;have B := Below.refl w.heap.size w;go_enter Tryz.func122, Tryz.ntmps122;go_upto_region 1 with fail
 generalize b : w.alloc _ = u1w;have X := boxH b;have f := boxB b;have n := boxL b;clear b;replace B := below_step B f;clear f;have D := Nat.le_of_eq n;have F := Nat.le_of_eq n.symm;clear n;generalize a : u1w.alloc _ = u2w;have E := boxH a;have f := boxB a;have k := boxL a;clear a;rw [show u1w.heap.size = w.heap.size + 1 from by omega] at E;replace B := below_step B f;replace X := row_keep f X;clear f;have H := Nat.le_of_eq k;have K := Nat.le_of_eq k.symm;clear k;obtain ⟨Xc0, Xc1, Xc2, Xc3⟩ := cells_4 X;have Xlt := (ltH X);obtain ⟨Ec0, Ec1, Ec2, Ec3, Ec4, Ec5, Ec6, Ec7⟩ := cells_8 E;have Elt := (ltH E);go_wp2_with fail
 clear Xc0 Xc1 Xc2 Xc3 Xlt Ec0 Ec1 Ec2 Ec3 Ec4 Ec5 Ec6 Ec7 Elt;refine (z.out _).mono ?_;rintro e i ⟨rfl, d⟩;have q : u2w.heap.size ≤ i.heap.size := d.size;replace B := below_step B d;replace X := row_keep d X;replace E := row_keep d E;clear d;cases q1
 ·skip
  obtain ⟨Xc0, Xc1, Xc2, Xc3⟩ := cells_4 X;have Xlt := (ltH X);obtain ⟨Ec0, Ec1, Ec2, Ec3, Ec4, Ec5, Ec6, Ec7⟩ := cells_8 E;have Elt := (ltH E);have m : Hid _ := B;clear B X E;go_wp2;go_ret
  exact ⟨rfl, m.out⟩
 ·skip
  obtain ⟨Xc0, Xc1, Xc2, Xc3⟩ := cells_4 X;have Xlt := (ltH X);obtain ⟨Ec0, Ec1, Ec2, Ec3, Ec4, Ec5, Ec6, Ec7⟩ := cells_8 E;have Elt := (ltH E);go_wp2_with fail
  clear Xc0 Xc1 Xc2 Xc3 Xlt Ec0 Ec1 Ec2 Ec3 Ec4 Ec5 Ec6 Ec7 Elt;refine (G.out _ B).mono ?_;rintro e L ⟨v, rfl, r⟩;have j := madeR_ints r (hold_in x);obtain ⟨J, C, A, o, p, I⟩ := intsR.own_rd j.1;simp only [List.cons.injEq, and_true] at A;obtain rfl := A;have g := j.2;clear r j;replace B := below_step B g;replace X := row_keep g X;replace E := row_keep g E;clear g;obtain ⟨Xc0, Xc1, Xc2, Xc3⟩ := cells_4 X;have Xlt := (ltH X);obtain ⟨Ec0, Ec1, Ec2, Ec3, Ec4, Ec5, Ec6, Ec7⟩ := cells_8 E;have Elt := (ltH E);go_wp2_with fail
  clear Xc0 Xc1 Xc2 Xc3 Xlt Ec0 Ec1 Ec2 Ec3 Ec4 Ec5 Ec6 Ec7 Elt;refine (conFnI c s y l w.heap.size J (holdE x) C _ hc X I (Nat.le_trans o p)).mono ?_;rintro e M ⟨rfl, d⟩;replace B := below_step B d;replace X := row_keep d X;replace E := row_keep d E;clear d;obtain ⟨Xc0, Xc1, Xc2, Xc3⟩ := cells_4 X;have Xlt := (ltH X);obtain ⟨Ec0, Ec1, Ec2, Ec3, Ec4, Ec5, Ec6, Ec7⟩ := cells_8 E;have Elt := (ltH E);have m : Hid _ := B;clear B X E;go_wp2;go_ret
  exact ⟨by simp, m.out⟩
def endsB (r f t : Int) : Bool := betw r 0 2 && (betw f 0 5 && betw t 0 5)
def dataB (d : List Int) : Bool := d.isEmpty || isL d
def msgB (u : MsgD) : Bool := endsB u.1 u.2.1 u.2.2.1 && (betw u.2.2.2.1 1 15 && (betw u.2.2.2.2.1 0 15 && (dataB u.2.2.2.2.2.1 && betw u.2.2.2.2.2.2 0 15)))
theorem data_nil {d : List Int} (h : d.length = 0) : dataB d = true := by
 have : d = [] := List.eq_nil_of_length_eq_zero h;subst this;rfl
theorem data_line {d : List Int} (h : ¬ d.length = 0) : dataB d = isL d := by
 cases d with
 | nil => exact (h rfl).elim
 | cons x r => rfl
theorem mb {r f t k l g : Int} {d : List Int} : msgB (r, f, t, k, l, d, g) = (endsB r f t && (betw k 1 15 && (betw l 0 15 && (dataB d && betw g 0 15)))) := rfl
theorem lineNo_any (k : Int) (w : World) : Calls Tryz.prog 229 #[.int .i64 k] w fun e a => e = .returned (.bool (betw k 0 15)) ∧ a = w := by
 go_enter Tryz.func229, Tryz.ntmps229;go_wp2_with (go_at_call 76; refine (between_any _ _ _ _).mono ?_; rintro e a ⟨rfl, rfl⟩)
 go_ret
 exact ⟨rfl, rfl⟩
theorem implEnds_any (f0 f1 f2 f3 f4 f6 : Int) (d : List Int) (a : Option Addr) (cap : Nat) (w : World) :
    Calls Tryz.prog 228 #[.agg #[.int .i64 f0, .int .i64 f1, .int .i64 f2, .int .i64 f3, .int .i64 f4, .slice a d.length cap, .int .i64 f6]] w fun e b => e = .returned (.bool (endsB f0 f1 f2)) ∧ Below w.heap.size w b := by
 have c : Hid _ := box_below w;unfold endsB;cases h1 : betw f0 0 2
 ·go_enter Tryz.func228, Tryz.ntmps228;go_wp2_with (go_at_call 76; refine (between_any _ _ _ _).mono ?_; rintro e b ⟨rfl, rfl⟩)
  go_ret
  exact ⟨rfl, c.out _⟩
 ·cases h2 : betw f1 0 5
  ·go_enter Tryz.func228, Tryz.ntmps228;go_wp2_with (go_at_call 76; refine (between_any _ _ _ _).mono ?_; rintro e b ⟨rfl, rfl⟩)
   go_ret
   exact ⟨rfl, c.out _⟩
  ·go_enter Tryz.func228, Tryz.ntmps228;go_wp2_with (go_at_call 76; refine (between_any _ _ _ _).mono ?_; rintro e b ⟨rfl, rfl⟩)
   go_ret
   exact ⟨rfl, c.out _⟩
theorem implMsgOk_any (f0 f1 f2 f3 f4 f6 : Int) (d : List Int) (a : Option Addr) (cap : Nat) (w : World) (h : SlRd intR w a d) :
    Calls Tryz.prog 188 #[.agg #[.int .i64 f0, .int .i64 f1, .int .i64 f2, .int .i64 f3, .int .i64 f4, .slice a d.length cap, .int .i64 f6]] w fun e f => e = .returned (.bool (msgB (f0, f1, f2, f3, f4, d, f6))) ∧ Below w.heap.size w f := by
 have g : Hid (∀ W, Calls Tryz.prog 228 #[.agg #[.int .i64 f0, .int .i64 f1, .int .i64 f2, .int .i64 f3, .int .i64 f4, .slice a d.length cap, .int .i64 f6]] W fun e f => e = .returned (.bool (endsB f0 f1 f2)) ∧ Below W.heap.size W f) := fun W => implEnds_any f0 f1 f2 f3 f4 f6 d a cap W;have r : Hid _ := fun (W : World) (i : Below w.heap.size w W) => implLineOk_any a d cap W (reads_of (slrd_next h i));have X := heap_at w (.cells #[.int .i64 f0, .int .i64 f1, .int .i64 f2, .int .i64 f3, .int .i64 f4, .slice a d.length cap, .int .i64 f6] 119);have B := box_below w (.cells #[.int .i64 f0, .int .i64 f1, .int .i64 f2, .int .i64 f3, .int .i64 f4, .slice a d.length cap, .int .i64 f6] 119);clear h;rw [mb];cases A : endsB f0 f1 f2
 ·rw [A] at g;go_enter Tryz.func188, Tryz.ntmps188;go_wp2_with fail
  generalize w.alloc (.cells #[.int .i64 f0, .int .i64 f1, .int .i64 f2, .int .i64 f3, .int .i64 f4, .slice a d.length cap, .int .i64 f6] 119) = W0 at X B ⊢;refine (g.out _).mono ?_;rintro e s ⟨rfl, c⟩;replace X := row_keep c X;replace B := below_step B c;clear c g;obtain ⟨j, n, o, l, m, k, p⟩ := cells_7 X;go_wp2_with (first | (b 76; refine (between_any _ _ _ _).mono ?_; rintro e f ⟨rfl, rfl⟩) | (b 229; refine (lineNo_any _ _).mono ?_; rintro e f ⟨rfl, rfl⟩))
  go_ret
  exact ⟨rfl, B⟩
 ·rw [A] at g;cases h2 : betw f3 1 15
  ·clear r;go_enter Tryz.func188, Tryz.ntmps188;go_wp2_with fail
   generalize w.alloc (.cells #[.int .i64 f0, .int .i64 f1, .int .i64 f2, .int .i64 f3, .int .i64 f4, .slice a d.length cap, .int .i64 f6] 119) = W0 at X B ⊢;refine (g.out _).mono ?_;rintro e s ⟨rfl, c⟩;replace X := row_keep c X;replace B := below_step B c;clear c g;obtain ⟨j, n, o, l, m, k, p⟩ := cells_7 X;go_wp2_with (first | (b 76; refine (between_any _ _ _ _).mono ?_; rintro e f ⟨rfl, rfl⟩) | (b 229; refine (lineNo_any _ _).mono ?_; rintro e f ⟨rfl, rfl⟩))
   go_ret
   exact ⟨rfl, B⟩
  ·cases h3 : betw f4 0 15
   ·clear r;go_enter Tryz.func188, Tryz.ntmps188;go_wp2_with fail
    generalize w.alloc (.cells #[.int .i64 f0, .int .i64 f1, .int .i64 f2, .int .i64 f3, .int .i64 f4, .slice a d.length cap, .int .i64 f6] 119) = W0 at X B ⊢;refine (g.out _).mono ?_;rintro e s ⟨rfl, c⟩;replace X := row_keep c X;replace B := below_step B c;clear c g;obtain ⟨j, n, o, l, m, k, p⟩ := cells_7 X;go_wp2_with (first | (b 76; refine (between_any _ _ _ _).mono ?_; rintro e f ⟨rfl, rfl⟩) | (b 229; refine (lineNo_any _ _).mono ?_; rintro e f ⟨rfl, rfl⟩))
    go_ret
    exact ⟨rfl, B⟩
   ·by_cases q : d.length = 0
    ·have C : Hid (dataB d = true) := data_nil q;rw [C.out];have v : d = [] := List.eq_nil_of_length_eq_zero q;clear r;cases G : betw f6 0 15
     ·subst v;go_enter Tryz.func188, Tryz.ntmps188;go_wp2_with fail
      generalize w.alloc (.cells #[.int .i64 f0, .int .i64 f1, .int .i64 f2, .int .i64 f3, .int .i64 f4, .slice a ([] : List Int).length cap, .int .i64 f6] 119) = W0 at X B ⊢;refine (g.out _).mono ?_;rintro e s ⟨rfl, c⟩;replace X := row_keep c X;replace B := below_step B c;clear c g;obtain ⟨j, n, o, l, m, k, p⟩ := cells_7 X;go_wp2_with (first | (b 76; refine (between_any _ _ _ _).mono ?_; rintro e f ⟨rfl, rfl⟩) | (b 229; refine (lineNo_any _ _).mono ?_; rintro e f ⟨rfl, rfl⟩))
      go_ret
      exact ⟨rfl, B⟩
     ·subst v;go_enter Tryz.func188, Tryz.ntmps188;go_wp2_with fail
      generalize w.alloc (.cells #[.int .i64 f0, .int .i64 f1, .int .i64 f2, .int .i64 f3, .int .i64 f4, .slice a ([] : List Int).length cap, .int .i64 f6] 119) = W0 at X B ⊢;refine (g.out _).mono ?_;rintro e s ⟨rfl, c⟩;replace X := row_keep c X;replace B := below_step B c;clear c g;obtain ⟨j, n, o, l, m, k, p⟩ := cells_7 X;go_wp2_with (first | (b 76; refine (between_any _ _ _ _).mono ?_; rintro e f ⟨rfl, rfl⟩) | (b 229; refine (lineNo_any _ _).mono ?_; rintro e f ⟨rfl, rfl⟩))
      go_ret
      exact ⟨rfl, B⟩
    ·rw [data_line q];have E : ¬ (d = []) := fun e => q (by rw [e]; rfl);have F : ¬ ((d.length : Int) = 0) := by omega
     have D : ((d.length : Int) == 0) = false := beq_false_of_ne F;cases y : isL d
     ·rw [y] at r;go_enter Tryz.func188, Tryz.ntmps188;go_wp2_with fail
      generalize w.alloc (.cells #[.int .i64 f0, .int .i64 f1, .int .i64 f2, .int .i64 f3, .int .i64 f4, .slice a d.length cap, .int .i64 f6] 119) = W0 at X B ⊢;refine (g.out _).mono ?_;rintro e s ⟨rfl, c⟩;replace X := row_keep c X;replace B := below_step B c;clear c g;obtain ⟨j, n, o, l, m, k, p⟩ := cells_7 X;go_wp2_with (first | (b 76; refine (between_any _ _ _ _).mono ?_; rintro e f ⟨rfl, rfl⟩) | (b 229; refine (lineNo_any _ _).mono ?_; rintro e f ⟨rfl, rfl⟩) | (b 224; refine (r.out _ B).mono ?_; rintro e z ⟨rfl, i⟩; replace X := row_keep i X; replace B := below_step B i; clear i j n o l m k p; obtain ⟨j, n, o, l, m, k, p⟩ := cells_7 X))
      go_ret
      exact ⟨rfl, B⟩
     ·rw [y] at r;cases G : betw f6 0 15
      ·skip
       go_enter Tryz.func188, Tryz.ntmps188;go_wp2_with fail
       generalize w.alloc (.cells #[.int .i64 f0, .int .i64 f1, .int .i64 f2, .int .i64 f3, .int .i64 f4, .slice a d.length cap, .int .i64 f6] 119) = W0 at X B ⊢;refine (g.out _).mono ?_;rintro e s ⟨rfl, c⟩;replace X := row_keep c X;replace B := below_step B c;clear c g;obtain ⟨j, n, o, l, m, k, p⟩ := cells_7 X;go_wp2_with (first | (b 76; refine (between_any _ _ _ _).mono ?_; rintro e f ⟨rfl, rfl⟩) | (b 229; refine (lineNo_any _ _).mono ?_; rintro e f ⟨rfl, rfl⟩) | (b 224; refine (r.out _ B).mono ?_; rintro e z ⟨rfl, i⟩; replace X := row_keep i X; replace B := below_step B i; clear i j n o l m k p; obtain ⟨j, n, o, l, m, k, p⟩ := cells_7 X))
       go_ret
       exact ⟨rfl, B⟩
      ·skip
       go_enter Tryz.func188, Tryz.ntmps188;go_wp2_with fail
       generalize w.alloc (.cells #[.int .i64 f0, .int .i64 f1, .int .i64 f2, .int .i64 f3, .int .i64 f4, .slice a d.length cap, .int .i64 f6] 119) = W0 at X B ⊢;refine (g.out _).mono ?_;rintro e s ⟨rfl, c⟩;replace X := row_keep c X;replace B := below_step B c;clear c g;obtain ⟨j, n, o, l, m, k, p⟩ := cells_7 X;go_wp2_with (first | (b 76; refine (between_any _ _ _ _).mono ?_; rintro e f ⟨rfl, rfl⟩) | (b 229; refine (lineNo_any _ _).mono ?_; rintro e f ⟨rfl, rfl⟩) | (b 224; refine (r.out _ B).mono ?_; rintro e z ⟨rfl, i⟩; replace X := row_keep i X; replace B := below_step B i; clear i j n o l m k p; obtain ⟨j, n, o, l, m, k, p⟩ := cells_7 X))
       go_ret
       exact ⟨rfl, B⟩
theorem specMsg_any (f0 f1 f2 f3 f4 f6 : Int) (d : List Int) (a : Option Addr) (cap : Nat) (w : World) (h : SlRd intR w a d) :
    Calls Tryz.prog 145 #[.agg #[.int .i64 f0, .int .i64 f1, .int .i64 f2, .int .i64 f3, .int .i64 f4, .slice a d.length cap, .int .i64 f6]] w fun e f => e = .returned (.bool (msgB (f0, f1, f2, f3, f4, d, f6))) ∧ Below w.heap.size w f := by
 have g : Hid _ := fun (W : World) (hb : Below w.heap.size w W) => specLineOk_any a d cap W (reads_of (slrd_next h hb));have B := box_below w (.cells #[.int .i64 f0, .int .i64 f1, .int .i64 f2, .int .i64 f3, .int .i64 f4, .slice a d.length cap, .int .i64 f6] 119);clear h;cases q : betw f0 0 2
 ·clear g;have c : Hid (msgB (f0, f1, f2, f3, f4, d, f6) = false) := by unfold Hid; rw [mb]; unfold endsB; simp [q]
  go_enter Tryz.func145, Tryz.ntmps145;go_wp2_with (first | (b 98; refine (l1In_any _ _ _ _).mono ?_; rintro e f ⟨rfl, rfl⟩))
  go_ret
  exact ⟨ret_bool c.out.symm, B⟩
 ·cases n : betw f1 0 5
  ·clear g;have c : Hid (msgB (f0, f1, f2, f3, f4, d, f6) = false) := by unfold Hid; rw [mb]; unfold endsB; simp [n]
   go_enter Tryz.func145, Tryz.ntmps145;go_wp2_with (first | (b 98; refine (l1In_any _ _ _ _).mono ?_; rintro e f ⟨rfl, rfl⟩))
   go_ret
   exact ⟨ret_bool c.out.symm, B⟩
  ·cases r : betw f2 0 5
   ·clear g;have c : Hid (msgB (f0, f1, f2, f3, f4, d, f6) = false) := by unfold Hid; rw [mb]; unfold endsB; simp [r]
    go_enter Tryz.func145, Tryz.ntmps145;go_wp2_with (first | (b 98; refine (l1In_any _ _ _ _).mono ?_; rintro e f ⟨rfl, rfl⟩))
    go_ret
    exact ⟨ret_bool c.out.symm, B⟩
   ·cases p : betw f4 0 15
    ·clear g;have c : Hid (msgB (f0, f1, f2, f3, f4, d, f6) = false) := by unfold Hid; rw [mb]; unfold endsB; simp [p]
     go_enter Tryz.func145, Tryz.ntmps145;go_wp2_with (first | (b 98; refine (l1In_any _ _ _ _).mono ?_; rintro e f ⟨rfl, rfl⟩))
     go_ret
     exact ⟨ret_bool c.out.symm, B⟩
    ·by_cases i : d.length = 0
     ·have l : Hid (dataB d = true) := data_nil i;have o : d = [] := List.eq_nil_of_length_eq_zero i;clear g;subst o;cases k : betw f3 1 15
      ·skip
       have c : Hid (msgB (f0, f1, f2, f3, f4, [], f6) = false) := by unfold Hid; rw [mb]; unfold endsB; simp [k]
       go_enter Tryz.func145, Tryz.ntmps145;go_wp2_with (first | (b 98; refine (l1In_any _ _ _ _).mono ?_; rintro e f ⟨rfl, rfl⟩))
       go_ret
       exact ⟨ret_bool c.out.symm, B⟩
      ·cases j : betw f6 0 15
       ·skip
        have c : Hid (msgB (f0, f1, f2, f3, f4, [], f6) = false) := by unfold Hid; rw [mb]; unfold endsB; simp [j]
        go_enter Tryz.func145, Tryz.ntmps145;go_wp2_with (first | (b 98; refine (l1In_any _ _ _ _).mono ?_; rintro e f ⟨rfl, rfl⟩))
        go_ret
        exact ⟨ret_bool c.out.symm, B⟩
       ·skip
        have c : Hid (msgB (f0, f1, f2, f3, f4, [], f6) = true) := by unfold Hid; rw [mb]; unfold endsB; simp [q, n, r, p, k, j, l.out]
        go_enter Tryz.func145, Tryz.ntmps145;go_wp2_with (first | (b 98; refine (l1In_any _ _ _ _).mono ?_; rintro e f ⟨rfl, rfl⟩))
        go_ret
        exact ⟨ret_bool c.out.symm, B⟩
     ·have l : Hid (dataB d = isL d) := data_line i;have v : ¬ (d = []) := fun e => i (by rw [e]; rfl);have y : ¬ ((d.length : Int) = 0) := by omega
      have s : ((d.length : Int) == 0) = false := beq_false_of_ne y;cases m : isL d
      ·rw [m] at g;have c : Hid (msgB (f0, f1, f2, f3, f4, d, f6) = false) := by unfold Hid; rw [mb]; unfold endsB; simp [l.out, m]
       go_enter Tryz.func145, Tryz.ntmps145;go_wp2_with (first | (b 98; refine (l1In_any _ _ _ _).mono ?_; rintro e f ⟨rfl, rfl⟩) | (b 144; refine (g.out _ B).mono ?_; rintro e f ⟨rfl, rfl⟩))
       go_ret
       exact ⟨ret_bool c.out.symm, B⟩
      ·rw [m] at g;cases k : betw f3 1 15
       ·skip
        have c : Hid (msgB (f0, f1, f2, f3, f4, d, f6) = false) := by unfold Hid; rw [mb]; unfold endsB; simp [k]
        go_enter Tryz.func145, Tryz.ntmps145;go_wp2_with (first | (b 98; refine (l1In_any _ _ _ _).mono ?_; rintro e f ⟨rfl, rfl⟩) | (b 144; refine (g.out _ B).mono ?_; rintro e f ⟨rfl, rfl⟩))
        go_ret
        exact ⟨ret_bool c.out.symm, B⟩
       ·cases j : betw f6 0 15
        ·skip
         have c : Hid (msgB (f0, f1, f2, f3, f4, d, f6) = false) := by unfold Hid; rw [mb]; unfold endsB; simp [j]
         go_enter Tryz.func145, Tryz.ntmps145;go_wp2_with (first | (b 98; refine (l1In_any _ _ _ _).mono ?_; rintro e f ⟨rfl, rfl⟩) | (b 144; refine (g.out _ B).mono ?_; rintro e f ⟨rfl, rfl⟩))
         go_ret
         exact ⟨ret_bool c.out.symm, B⟩
        ·skip
         have c : Hid (msgB (f0, f1, f2, f3, f4, d, f6) = true) := by unfold Hid; rw [mb]; unfold endsB; simp [q, n, r, p, k, j, l.out, m]
         go_enter Tryz.func145, Tryz.ntmps145;go_wp2_with (first | (b 98; refine (l1In_any _ _ _ _).mono ?_; rintro e f ⟨rfl, rfl⟩) | (b 144; refine (g.out _ B).mono ?_; rintro e f ⟨rfl, rfl⟩))
         go_ret
         exact ⟨ret_bool c.out.symm, B⟩
end Go.Proofs.YtcocbafhcpdheaaGreatDoor
