import Derived.Test.YtdamokokcdcedaaGreatDoorG00Box
import Derived.Test.YtdamokokcdcedaaGreatDoorG35
namespace Go.Proofs.YtdamokokcdcedaaGreatDoor
set_option maxHeartbeats 4000000
set_option maxRecDepth 20000
open Go.ChangeShapes Go.WideShapes Go.ChangeAt Go.RowKit
set_option linter.unusedVariables false
def holdE (x : EntryD) : List Int := if entB x then hoI x.1 x.2.1 else []
def entIn (c : Int) (x : EntryD) : Bool := agentIn c x.2.2.2.2.1 && (holdE x).all (coreIn c)
theorem hold_in (x : EntryD) : ∀ k ∈ holdE x, In64 k := (hold_small x).2
theorem fitsE1_any (c s y l k : Int) (g : Nat) (w : World) (hc : codeI c s y l = 0) (G : w.heap[g]? = some (.cells #[nI c, nI s, nI y, nI l] 38 (0, 0))) :
    Calls Tryz.prog 193 #[nI k, .pointer (some ⟨g, 0, none⟩)] w fun e w' => e = .returned (.bool (!coreIn c k)) ∧ Bl w w' := by
 have a := hasCore_any c s y l k w hc;generalize coreIn c k = q at a ⊢;obtain ⟨d, b, i, j⟩ := cells_4 G;clear hc G;go_enter Tryz.func193, Tryz.ntmps193;go_wp2_with fail
 refine a.mono ?_;rintro e w1 ⟨rfl, f⟩;clear d b i j;go_wp2;go_ret
 exact ⟨rfl, f⟩
theorem idxFnI (c s y l : Int) (g : Nat) (a : Option Addr) (xs : List Int) (cap : Nat) (w : World) (hc : codeI c s y l = 0) (G : w.heap[g]? = some (.cells #[nI c, nI s, nI y, nI l] 38 (0, 0))) (h : SlRd intR w a xs) (hm : xs.length ≤ maxLen) :
    Calls Tryz.prog 230 #[sL a xs.length cap, .func (.func 193) #[] #[.pointer (some ⟨g, 0, none⟩)]] w fun e w' => e = .returned (nI (badP (coreIn c) xs)) ∧ Bl w w' := by
 have I : xs.length ≤ 9223372036854775807 := hm;have K : Hid (∀ W, Bl w W → SlRd intR W a xs) := fun W m => slrd_keep h fun k D => m.block k D;have A : Hid (∀ k W, Bl w W → Calls Tryz.prog 193 #[nI k, .pointer (some ⟨g, 0, none⟩)] W fun e w' => e = .returned (.bool (!coreIn c k)) ∧ Bl W w') := fun k W m => fitsE1_any c s y l k g W hc (row_keep m G);clear h hm hc G;go_enter Tryz.func230, Tryz.ntmps230;go_wp2;go_loopw [8] (fun i wr => ∃ k : Nat, k ≤ xs.length ∧ i = nI k ∧ (∀ j v, j < k → xs[j]? = some v → coreIn c v = true) ∧ Bl w wr) (fun i _ => xs.length - (intOf i).toNat)
 case atStart => exact ⟨0, Nat.zero_le _, rfl, fun j v hj => by omega, Below.refl _ _⟩
 case round =>
  obtain ⟨k, D, rfl, n, f⟩ := hrel;by_cases C : k < xs.length
  ·have E : (k : Int) < (xs.length : Int) := by omega
   obtain ⟨x, B⟩ : ∃ x, xs[k]? = some x := ⟨_, List.getElem?_eq_getElem C⟩;obtain ⟨b, p, cs, rfl, ⟨rfl, -⟩, d⟩ := slrd_at (K.out _ f) B;have q := A.out x wr f;have r := d 0 _ rfl;rw [show p + (k * intR.size + 0) = p + k from by rw [show intR.size = 1 from rfl]; omega] at r;have F : Hid (xs[k]? = some x) := B;clear B d;cases m : coreIn c x
   ·have z : Hid (badP (coreIn c) xs = k) := badP_at F.out m n;rw [m] at q;go_wp2_with fail
    refine q.mono ?_;rintro e J ⟨rfl, o⟩;replace f := below_step f o;clear o r;go_wp2;go_ret
    exact ⟨ret_int z.out.symm, f⟩
   ·rw [m] at q;go_wp2_with fail
    refine q.mono ?_;rintro e J ⟨rfl, o⟩;replace f := below_step f o;clear o r;go_wp2;go_roundw
    case rel =>
     refine ⟨k + 1, by omega, by go_num, fun j v hj hv => ?_, f⟩;by_cases H : j < k
     ·exact n j v H hv
     ·have : j = k := by omega
      subst this;rw [F.out] at hv;cases hv;exact m
    case measure => simp [intOf]; omega
  ·have z : Hid (badP (coreIn c) xs = -1) := badP_no fun j v hv => n j v (by have := (List.getElem?_eq_some_iff.1 hv).1; omega) hv;go_wp2;go_ret
   exact ⟨ret_int z.out.symm, f⟩
theorem conFnI (c s y l : Int) (g : Nat) (a : Option Addr) (xs : List Int) (cap : Nat) (w : World) (hc : codeI c s y l = 0) (G : w.heap[g]? = some (.cells #[nI c, nI s, nI y, nI l] 38 (0, 0))) (h : SlRd intR w a xs) (hm : xs.length ≤ maxLen) :
    Calls Tryz.prog 192 #[sL a xs.length cap, .func (.func 193) #[] #[.pointer (some ⟨g, 0, none⟩)]] w fun e w' => e = .returned (.bool (!xs.all (coreIn c))) ∧ Bl w w' := by
 have f := idxFnI c s y l g a xs cap w hc G h hm;have b := badP_all (coreIn c) xs;clear h hm hc G;generalize badP (coreIn c) xs = q at f b;generalize xs.all (coreIn c) = z at b ⊢;subst b;by_cases j : q < 0
 ·have d : ¬ (0 ≤ q) := by omega
  go_enter Tryz.func192, Tryz.ntmps192;go_wp2_with fail
  refine f.mono ?_;rintro e k ⟨rfl, i⟩;go_wp2;go_ret
  exact ⟨by simp [j], i⟩
 ·have d : 0 ≤ q := by omega
  go_enter Tryz.func192, Tryz.ntmps192;go_wp2_with fail
  refine f.mono ?_;rintro e k ⟨rfl, i⟩;go_wp2;go_ret
  exact ⟨by simp [j], i⟩
theorem fitsEntry_any (c s y l : Int) (x : EntryD) (xa : Option Addr) (xc : Nat) (w : World) (hc : codeI c s y l = 0) (h : SlRd intR w xa x.2.2.2.2.2.2.2) :
    Calls Tryz.prog 147 #[.agg #[nI c, nI s, nI y, nI l], .agg #[nI x.1, nI x.2.1, .bool x.2.2.1, nI x.2.2.2.1, nI x.2.2.2.2.1, nI x.2.2.2.2.2.1, nI x.2.2.2.2.2.2.1, sL xa x.2.2.2.2.2.2.2.length xc]] w fun e w' => e = .returned (.bool (entIn c x)) ∧ Bl w w' := by
 have q : Hid (∀ W, Calls Tryz.prog 191 #[.agg #[nI c, nI s, nI y, nI l], nI x.2.2.2.2.1] W fun e w' => e = .returned (.bool (agentIn c x.2.2.2.2.1)) ∧ Bl W w') := fun W => hasAgent_any c s y l x.2.2.2.2.1 W hc;have J : Hid (∀ W, Bl w W → Calls Tryz.prog 176 #[.agg #[nI x.1, nI x.2.1, .bool x.2.2.1, nI x.2.2.2.1, nI x.2.2.2.2.1, nI x.2.2.2.2.2.1, nI x.2.2.2.2.2.2.1, sL xa x.2.2.2.2.2.2.2.length xc]] W fun e w' => ∃ v, e = .returned v ∧ Made W w' v (holdE x)) := fun W hb => implHolders_any x.1 x.2.1 x.2.2.2.1 x.2.2.2.2.1 x.2.2.2.2.2.1 x.2.2.2.2.2.2.1 x.2.2.1 x.2.2.2.2.2.2.2 xa xc W (slrd_next h hb);unfold entIn;generalize agentIn c x.2.2.2.2.1 = q1 at q ⊢;clear h;have B := Below.refl w.heap.size w;go_enter Tryz.func147, Tryz.ntmps147;go_upto_region 1 with fail
 generalize a : w.alloc _ = u1w;have X := boxH a;have f := boxB a;have j := boxL a;clear a;replace B := below_step B f;clear f;have C := lE j;have D := lE j.symm;clear j;generalize b : u1w.alloc _ = u2w;have E := boxH b;have f := boxB b;have p := boxL b;clear b;rw [show u1w.heap.size = w.heap.size + 1 from by omega] at E;replace B := below_step B f;replace X := row_keep f X;clear f;have G := lE p;have I := lE p.symm;clear p;obtain ⟨Xc0, Xc1, Xc2, Xc3⟩ := cells_4 X;have Xlt := (ltH X);obtain ⟨Ec0, Ec1, Ec2, Ec3, Ec4, Ec5, Ec6, Ec7⟩ := cells_8 E;have Elt := (ltH E);go_wp2_with fail
 clear Xc0 Xc1 Xc2 Xc3 Xlt Ec0 Ec1 Ec2 Ec3 Ec4 Ec5 Ec6 Ec7 Elt;refine (q.out _).mono ?_;rintro e n ⟨rfl, d⟩;have r : u2w.heap.size ≤ n.heap.size := d.size;replace B := below_step B d;replace X := row_keep d X;replace E := row_keep d E;clear d;cases q1
 ·skip
  obtain ⟨Xc0, Xc1, Xc2, Xc3⟩ := cells_4 X;have Xlt := (ltH X);obtain ⟨Ec0, Ec1, Ec2, Ec3, Ec4, Ec5, Ec6, Ec7⟩ := cells_8 E;have Elt := (ltH E);have m : Hid _ := B;clear B X E;go_wp2;go_ret
  exact ⟨rfl, m.out⟩
 ·skip
  obtain ⟨Xc0, Xc1, Xc2, Xc3⟩ := cells_4 X;have Xlt := (ltH X);obtain ⟨Ec0, Ec1, Ec2, Ec3, Ec4, Ec5, Ec6, Ec7⟩ := cells_8 E;have Elt := (ltH E);go_wp2_with fail
  clear Xc0 Xc1 Xc2 Xc3 Xlt Ec0 Ec1 Ec2 Ec3 Ec4 Ec5 Ec6 Ec7 Elt;refine (J.out _ B).mono ?_;rintro e M ⟨v, rfl, A⟩;have k := madeR_ints A (hold_in x);obtain ⟨F, L, z, i, o, H⟩ := intsR.own_rd k.1;simp only [List.cons.injEq, and_true] at z;obtain rfl := z;have g := k.2;clear A k;replace B := below_step B g;replace X := row_keep g X;replace E := row_keep g E;clear g;obtain ⟨Xc0, Xc1, Xc2, Xc3⟩ := cells_4 X;have Xlt := (ltH X);obtain ⟨Ec0, Ec1, Ec2, Ec3, Ec4, Ec5, Ec6, Ec7⟩ := cells_8 E;have Elt := (ltH E);go_wp2_with fail
  clear Xc0 Xc1 Xc2 Xc3 Xlt Ec0 Ec1 Ec2 Ec3 Ec4 Ec5 Ec6 Ec7 Elt;refine (conFnI c s y l w.heap.size F (holdE x) L _ hc X H (Nat.le_trans i o)).mono ?_;rintro e K ⟨rfl, d⟩;replace B := below_step B d;replace X := row_keep d X;replace E := row_keep d E;clear d;obtain ⟨Xc0, Xc1, Xc2, Xc3⟩ := cells_4 X;have Xlt := (ltH X);obtain ⟨Ec0, Ec1, Ec2, Ec3, Ec4, Ec5, Ec6, Ec7⟩ := cells_8 E;have Elt := (ltH E);have m : Hid _ := B;clear B X E;go_wp2;go_ret
  exact ⟨by simp, m.out⟩
def endsB (r f t : Int) : Bool := betw r 0 2 && (betw f 0 5 && betw t 0 5)
def dataB (d : List Int) : Bool := d.isEmpty || isL d
def msgB (u : MsgD) : Bool := endsB u.1 u.2.1 u.2.2.1 && (betw u.2.2.2.1 1 15 && (betw u.2.2.2.2.1 0 15 && (dataB u.2.2.2.2.2.1 && betw u.2.2.2.2.2.2 0 15)))
theorem data_nil {d : List Int} (h : d.length = 0) : dataB d = true := by
 have : d = [] := List.eq_nil_of_length_eq_zero h;subst this;rfl
theorem data_line {d : List Int} (h : ¬ d.length = 0) : dataB d = isL d := by
 cases d with
 | nil => exact (h rfl).elim
 | cons x r => rfl
theorem mb {r f t k l g : Int} {d : List Int} : msgB (r, f, t, k, l, d, g) = (endsB r f t && (betw k 1 15 && (betw l 0 15 && (dataB d && betw g 0 15)))) := rfl
theorem lineNo_any (k : Int) (w : World) : Calls Tryz.prog 245 #[nI k] w fun e a => e = .returned (.bool (betw k 0 15)) ∧ a = w := by
 go_enter Tryz.func245, Tryz.ntmps245;go_wp2_with (go_at_call 156; refine (between_any _ _ _ _).mono ?_; rintro e a ⟨rfl, rfl⟩)
 go_ret
 exact ⟨rfl, rfl⟩
theorem implEnds_any (f0 f1 f2 f3 f4 f6 : Int) (d : List Int) (a : Option Addr) (cap : Nat) (w : World) :
    Calls Tryz.prog 244 #[.agg #[nI f0, nI f1, nI f2, nI f3, nI f4, sL a d.length cap, nI f6]] w fun e b => e = .returned (.bool (endsB f0 f1 f2)) ∧ Bl w b := by
 have c : Hid _ := box_below w;unfold endsB;cases h1 : betw f0 0 2
 ·go_enter Tryz.func244, Tryz.ntmps244;go_wp2_with (go_at_call 156; refine (between_any _ _ _ _).mono ?_; rintro e b ⟨rfl, rfl⟩)
  go_ret
  exact ⟨rfl, c.out _⟩
 ·cases h2 : betw f1 0 5
  ·go_enter Tryz.func244, Tryz.ntmps244;go_wp2_with (go_at_call 156; refine (between_any _ _ _ _).mono ?_; rintro e b ⟨rfl, rfl⟩)
   go_ret
   exact ⟨rfl, c.out _⟩
  ·go_enter Tryz.func244, Tryz.ntmps244;go_wp2_with (go_at_call 156; refine (between_any _ _ _ _).mono ?_; rintro e b ⟨rfl, rfl⟩)
   go_ret
   exact ⟨rfl, c.out _⟩
theorem implMsgOk_any (f0 f1 f2 f3 f4 f6 : Int) (d : List Int) (a : Option Addr) (cap : Nat) (w : World) (h : SlRd intR w a d) :
    Calls Tryz.prog 210 #[.agg #[nI f0, nI f1, nI f2, nI f3, nI f4, sL a d.length cap, nI f6]] w fun e c => e = .returned (.bool (msgB (f0, f1, f2, f3, f4, d, f6))) ∧ Bl w c := by
 have f : Hid (∀ W, Calls Tryz.prog 244 #[.agg #[nI f0, nI f1, nI f2, nI f3, nI f4, sL a d.length cap, nI f6]] W fun e c => e = .returned (.bool (endsB f0 f1 f2)) ∧ Bl W c) := fun W => implEnds_any f0 f1 f2 f3 f4 f6 d a cap W;have q : Hid _ := fun (W : World) (m : Bl w W) => implLineOk_any a d cap W (reads_of (slrd_next h m));have X := heap_at w (.cells #[nI f0, nI f1, nI f2, nI f3, nI f4, sL a d.length cap, nI f6] 131);have B := box_below w (.cells #[nI f0, nI f1, nI f2, nI f3, nI f4, sL a d.length cap, nI f6] 131);clear h;rw [mb];cases v : endsB f0 f1 f2
 ·rw [v] at f;go_enter Tryz.func210, Tryz.ntmps210;go_wp2_with fail
  generalize w.alloc (.cells #[nI f0, nI f1, nI f2, nI f3, nI f4, sL a d.length cap, nI f6] 131) = W0 at X B ⊢;refine (f.out _).mono ?_;rintro e r ⟨rfl, b⟩;replace X := row_keep b X;replace B := below_step B b;clear b f;obtain ⟨g, i, j, k, n, o, l⟩ := cells_7 X;go_wp2_with (first | (go_at_call 156; refine (between_any _ _ _ _).mono ?_; rintro e c ⟨rfl, rfl⟩) | (go_at_call 245; refine (lineNo_any _ _).mono ?_; rintro e c ⟨rfl, rfl⟩))
  go_ret
  exact ⟨rfl, B⟩
 ·rw [v] at f;cases h2 : betw f3 1 15
  ·clear q;go_enter Tryz.func210, Tryz.ntmps210;go_wp2_with fail
   generalize w.alloc (.cells #[nI f0, nI f1, nI f2, nI f3, nI f4, sL a d.length cap, nI f6] 131) = W0 at X B ⊢;refine (f.out _).mono ?_;rintro e r ⟨rfl, b⟩;replace X := row_keep b X;replace B := below_step B b;clear b f;obtain ⟨g, i, j, k, n, o, l⟩ := cells_7 X;go_wp2_with (first | (go_at_call 156; refine (between_any _ _ _ _).mono ?_; rintro e c ⟨rfl, rfl⟩) | (go_at_call 245; refine (lineNo_any _ _).mono ?_; rintro e c ⟨rfl, rfl⟩))
   go_ret
   exact ⟨rfl, B⟩
  ·cases h3 : betw f4 0 15
   ·clear q;go_enter Tryz.func210, Tryz.ntmps210;go_wp2_with fail
    generalize w.alloc (.cells #[nI f0, nI f1, nI f2, nI f3, nI f4, sL a d.length cap, nI f6] 131) = W0 at X B ⊢;refine (f.out _).mono ?_;rintro e r ⟨rfl, b⟩;replace X := row_keep b X;replace B := below_step B b;clear b f;obtain ⟨g, i, j, k, n, o, l⟩ := cells_7 X;go_wp2_with (first | (go_at_call 156; refine (between_any _ _ _ _).mono ?_; rintro e c ⟨rfl, rfl⟩) | (go_at_call 245; refine (lineNo_any _ _).mono ?_; rintro e c ⟨rfl, rfl⟩))
    go_ret
    exact ⟨rfl, B⟩
   ·by_cases p : d.length = 0
    ·have E : Hid (dataB d = true) := data_nil p;rw [E.out];have s : d = [] := List.eq_nil_of_length_eq_zero p;clear q;cases A : betw f6 0 15
     ·subst s;go_enter Tryz.func210, Tryz.ntmps210;go_wp2_with fail
      generalize w.alloc (.cells #[nI f0, nI f1, nI f2, nI f3, nI f4, sL a ([] : List Int).length cap, nI f6] 131) = W0 at X B ⊢;refine (f.out _).mono ?_;rintro e r ⟨rfl, b⟩;replace X := row_keep b X;replace B := below_step B b;clear b f;obtain ⟨g, i, j, k, n, o, l⟩ := cells_7 X;go_wp2_with (first | (go_at_call 156; refine (between_any _ _ _ _).mono ?_; rintro e c ⟨rfl, rfl⟩) | (go_at_call 245; refine (lineNo_any _ _).mono ?_; rintro e c ⟨rfl, rfl⟩))
      go_ret
      exact ⟨rfl, B⟩
     ·subst s;go_enter Tryz.func210, Tryz.ntmps210;go_wp2_with fail
      generalize w.alloc (.cells #[nI f0, nI f1, nI f2, nI f3, nI f4, sL a ([] : List Int).length cap, nI f6] 131) = W0 at X B ⊢;refine (f.out _).mono ?_;rintro e r ⟨rfl, b⟩;replace X := row_keep b X;replace B := below_step B b;clear b f;obtain ⟨g, i, j, k, n, o, l⟩ := cells_7 X;go_wp2_with (first | (go_at_call 156; refine (between_any _ _ _ _).mono ?_; rintro e c ⟨rfl, rfl⟩) | (go_at_call 245; refine (lineNo_any _ _).mono ?_; rintro e c ⟨rfl, rfl⟩))
      go_ret
      exact ⟨rfl, B⟩
    ·rw [data_line p];have D : ¬ (d = []) := fun e => p (by rw [e]; rfl);have C : ¬ ((d.length : Int) = 0) := by omega
     have F : ((d.length : Int) == 0) = false := beq_false_of_ne C;cases z : isL d
     ·rw [z] at q;go_enter Tryz.func210, Tryz.ntmps210;go_wp2_with fail
      generalize w.alloc (.cells #[nI f0, nI f1, nI f2, nI f3, nI f4, sL a d.length cap, nI f6] 131) = W0 at X B ⊢;refine (f.out _).mono ?_;rintro e r ⟨rfl, b⟩;replace X := row_keep b X;replace B := below_step B b;clear b f;obtain ⟨g, i, j, k, n, o, l⟩ := cells_7 X;go_wp2_with (first | (go_at_call 156; refine (between_any _ _ _ _).mono ?_; rintro e c ⟨rfl, rfl⟩) | (go_at_call 245; refine (lineNo_any _ _).mono ?_; rintro e c ⟨rfl, rfl⟩) | (go_at_call 91; refine (q.out _ B).mono ?_; rintro e y ⟨rfl, m⟩; replace X := row_keep m X; replace B := below_step B m; clear m g i j k n o l; obtain ⟨g, i, j, k, n, o, l⟩ := cells_7 X))
      go_ret
      exact ⟨rfl, B⟩
     ·rw [z] at q;cases A : betw f6 0 15
      ·skip
       go_enter Tryz.func210, Tryz.ntmps210;go_wp2_with fail
       generalize w.alloc (.cells #[nI f0, nI f1, nI f2, nI f3, nI f4, sL a d.length cap, nI f6] 131) = W0 at X B ⊢;refine (f.out _).mono ?_;rintro e r ⟨rfl, b⟩;replace X := row_keep b X;replace B := below_step B b;clear b f;obtain ⟨g, i, j, k, n, o, l⟩ := cells_7 X;go_wp2_with (first | (go_at_call 156; refine (between_any _ _ _ _).mono ?_; rintro e c ⟨rfl, rfl⟩) | (go_at_call 245; refine (lineNo_any _ _).mono ?_; rintro e c ⟨rfl, rfl⟩) | (go_at_call 91; refine (q.out _ B).mono ?_; rintro e y ⟨rfl, m⟩; replace X := row_keep m X; replace B := below_step B m; clear m g i j k n o l; obtain ⟨g, i, j, k, n, o, l⟩ := cells_7 X))
       go_ret
       exact ⟨rfl, B⟩
      ·skip
       go_enter Tryz.func210, Tryz.ntmps210;go_wp2_with fail
       generalize w.alloc (.cells #[nI f0, nI f1, nI f2, nI f3, nI f4, sL a d.length cap, nI f6] 131) = W0 at X B ⊢;refine (f.out _).mono ?_;rintro e r ⟨rfl, b⟩;replace X := row_keep b X;replace B := below_step B b;clear b f;obtain ⟨g, i, j, k, n, o, l⟩ := cells_7 X;go_wp2_with (first | (go_at_call 156; refine (between_any _ _ _ _).mono ?_; rintro e c ⟨rfl, rfl⟩) | (go_at_call 245; refine (lineNo_any _ _).mono ?_; rintro e c ⟨rfl, rfl⟩) | (go_at_call 91; refine (q.out _ B).mono ?_; rintro e y ⟨rfl, m⟩; replace X := row_keep m X; replace B := below_step B m; clear m g i j k n o l; obtain ⟨g, i, j, k, n, o, l⟩ := cells_7 X))
       go_ret
       exact ⟨rfl, B⟩
theorem specMsg_any (f0 f1 f2 f3 f4 f6 : Int) (d : List Int) (a : Option Addr) (cap : Nat) (w : World) (h : SlRd intR w a d) :
    Calls Tryz.prog 132 #[.agg #[nI f0, nI f1, nI f2, nI f3, nI f4, sL a d.length cap, nI f6]] w fun e c => e = .returned (.bool (msgB (f0, f1, f2, f3, f4, d, f6))) ∧ Bl w c := by
 have f : Hid _ := fun (W : World) (hb : Bl w W) => specLineOk_any a d cap W (reads_of (slrd_next h hb));have B := box_below w (.cells #[nI f0, nI f1, nI f2, nI f3, nI f4, sL a d.length cap, nI f6] 131);clear h;cases n : betw f0 0 2
 ·clear f;have b : Hid (msgB (f0, f1, f2, f3, f4, d, f6) = false) := by unfold Hid; rw [mb]; unfold endsB; simp [n]
  go_enter Tryz.func132, Tryz.ntmps132;go_wp2_with (first | (go_at_call 126; refine (l1In_any _ _ _ _).mono ?_; rintro e c ⟨rfl, rfl⟩))
  go_ret
  exact ⟨ret_bool b.out.symm, B⟩
 ·cases q : betw f1 0 5
  ·clear f;have b : Hid (msgB (f0, f1, f2, f3, f4, d, f6) = false) := by unfold Hid; rw [mb]; unfold endsB; simp [q]
   go_enter Tryz.func132, Tryz.ntmps132;go_wp2_with (first | (go_at_call 126; refine (l1In_any _ _ _ _).mono ?_; rintro e c ⟨rfl, rfl⟩))
   go_ret
   exact ⟨ret_bool b.out.symm, B⟩
  ·cases m : betw f2 0 5
   ·clear f;have b : Hid (msgB (f0, f1, f2, f3, f4, d, f6) = false) := by unfold Hid; rw [mb]; unfold endsB; simp [m]
    go_enter Tryz.func132, Tryz.ntmps132;go_wp2_with (first | (go_at_call 126; refine (l1In_any _ _ _ _).mono ?_; rintro e c ⟨rfl, rfl⟩))
    go_ret
    exact ⟨ret_bool b.out.symm, B⟩
   ·cases p : betw f4 0 15
    ·clear f;have b : Hid (msgB (f0, f1, f2, f3, f4, d, f6) = false) := by unfold Hid; rw [mb]; unfold endsB; simp [p]
     go_enter Tryz.func132, Tryz.ntmps132;go_wp2_with (first | (go_at_call 126; refine (l1In_any _ _ _ _).mono ?_; rintro e c ⟨rfl, rfl⟩))
     go_ret
     exact ⟨ret_bool b.out.symm, B⟩
    ·by_cases g : d.length = 0
     ·have l : Hid (dataB d = true) := data_nil g;have o : d = [] := List.eq_nil_of_length_eq_zero g;clear f;subst o;cases i : betw f3 1 15
      ·skip
       have b : Hid (msgB (f0, f1, f2, f3, f4, [], f6) = false) := by unfold Hid; rw [mb]; unfold endsB; simp [i]
       go_enter Tryz.func132, Tryz.ntmps132;go_wp2_with (first | (go_at_call 126; refine (l1In_any _ _ _ _).mono ?_; rintro e c ⟨rfl, rfl⟩))
       go_ret
       exact ⟨ret_bool b.out.symm, B⟩
      ·cases j : betw f6 0 15
       ·skip
        have b : Hid (msgB (f0, f1, f2, f3, f4, [], f6) = false) := by unfold Hid; rw [mb]; unfold endsB; simp [j]
        go_enter Tryz.func132, Tryz.ntmps132;go_wp2_with (first | (go_at_call 126; refine (l1In_any _ _ _ _).mono ?_; rintro e c ⟨rfl, rfl⟩))
        go_ret
        exact ⟨ret_bool b.out.symm, B⟩
       ·skip
        have b : Hid (msgB (f0, f1, f2, f3, f4, [], f6) = true) := by unfold Hid; rw [mb]; unfold endsB; simp [n, q, m, p, i, j, l.out]
        go_enter Tryz.func132, Tryz.ntmps132;go_wp2_with (first | (go_at_call 126; refine (l1In_any _ _ _ _).mono ?_; rintro e c ⟨rfl, rfl⟩))
        go_ret
        exact ⟨ret_bool b.out.symm, B⟩
     ·have l : Hid (dataB d = isL d) := data_line g;have s : ¬ (d = []) := fun e => g (by rw [e]; rfl);have r : ¬ ((d.length : Int) = 0) := by omega
      have v : ((d.length : Int) == 0) = false := beq_false_of_ne r;cases k : isL d
      ·rw [k] at f;have b : Hid (msgB (f0, f1, f2, f3, f4, d, f6) = false) := by unfold Hid; rw [mb]; unfold endsB; simp [l.out, k]
       go_enter Tryz.func132, Tryz.ntmps132;go_wp2_with (first | (go_at_call 126; refine (l1In_any _ _ _ _).mono ?_; rintro e c ⟨rfl, rfl⟩) | (go_at_call 131; refine (f.out _ B).mono ?_; rintro e c ⟨rfl, rfl⟩))
       go_ret
       exact ⟨ret_bool b.out.symm, B⟩
      ·rw [k] at f;cases i : betw f3 1 15
       ·skip
        have b : Hid (msgB (f0, f1, f2, f3, f4, d, f6) = false) := by unfold Hid; rw [mb]; unfold endsB; simp [i]
        go_enter Tryz.func132, Tryz.ntmps132;go_wp2_with (first | (go_at_call 126; refine (l1In_any _ _ _ _).mono ?_; rintro e c ⟨rfl, rfl⟩) | (go_at_call 131; refine (f.out _ B).mono ?_; rintro e c ⟨rfl, rfl⟩))
        go_ret
        exact ⟨ret_bool b.out.symm, B⟩
       ·cases j : betw f6 0 15
        ·skip
         have b : Hid (msgB (f0, f1, f2, f3, f4, d, f6) = false) := by unfold Hid; rw [mb]; unfold endsB; simp [j]
         go_enter Tryz.func132, Tryz.ntmps132;go_wp2_with (first | (go_at_call 126; refine (l1In_any _ _ _ _).mono ?_; rintro e c ⟨rfl, rfl⟩) | (go_at_call 131; refine (f.out _ B).mono ?_; rintro e c ⟨rfl, rfl⟩))
         go_ret
         exact ⟨ret_bool b.out.symm, B⟩
        ·skip
         have b : Hid (msgB (f0, f1, f2, f3, f4, d, f6) = true) := by unfold Hid; rw [mb]; unfold endsB; simp [n, q, m, p, i, j, l.out, k]
         go_enter Tryz.func132, Tryz.ntmps132;go_wp2_with (first | (go_at_call 126; refine (l1In_any _ _ _ _).mono ?_; rintro e c ⟨rfl, rfl⟩) | (go_at_call 131; refine (f.out _ B).mono ?_; rintro e c ⟨rfl, rfl⟩))
         go_ret
         exact ⟨ret_bool b.out.symm, B⟩
end Go.Proofs.YtdamokokcdcedaaGreatDoor
