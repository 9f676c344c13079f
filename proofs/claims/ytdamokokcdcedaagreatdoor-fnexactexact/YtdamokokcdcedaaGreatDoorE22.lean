import Derived.Test.YtdamokokcdcedaaGreatDoorE00Box
import Derived.Test.YtdamokokcdcedaaGreatDoorE21
namespace Go.Proofs.YtdamokokcdcedaaGreatDoor
set_option maxHeartbeats 4000000
set_option maxRecDepth 20000
open Go.ChangeShapes Go.WideShapes Go.ChangeAt Go.RowKit
set_option linter.unusedVariables false
theorem size_two (w : World) (o : Obj) : (w.alloc o).heap.size = w.heap.size + 1 := by simp
def oneV (ok ad : Bool) (q : Int) : Value := if ok then (if ad then .nilIface else refV 4) else refV q
def FltV (v : Value) (q : Int) : Prop := (q = 0 ∧ v = .nilIface) ∨ (q ≠ 0 ∧ ErrV v q)
theorem addr_hw {k a x y : Int} (h : opB k a x y = true) : 0 ≤ a → wrap64 (a.tdiv 2) = a / 2 := by
 intro b;have := op_addr (u := (k, a, x, y)) h;replace this : 0 ≤ a ∧ a ≤ 31 := this;rw [tdiv_two b];unfold wrap64;omega
def adB (c s y l : Int) (u : OpD) : Bool := addrB c s y l u.2.1
def lnB (c s y l : Int) (u : DescD) : Bool := lineB c s y l u.2.1
theorem ad_eq {c s y l : Int} (h : codeI c s y l = 0) : adB c s y l = adrOk l := by
 funext u
 unfold adB addrB adrOk;rw [h, Bool.eq_iff_iff];simp [betw]
 omega
theorem ln_eq {c s y l : Int} (h : codeI c s y l = 0) : lnB c s y l = dlnOk l := by
 funext u
 unfold lnB lineB dlnOk;rw [h, Bool.eq_iff_iff];simp [betw]
 omega
def KeptI {α : Type} (xs : List α) (ok ad : α → Bool) (k : Nat) (v : Value) : Prop := (xs.take k).all ok = true ∧ ((v = .nilIface ∧ (xs.take k).all ad = true) ∨ ∃ m : Int, v = fltV m 4 ∧ xs.all ad = false)
theorem kept_end {α : Type} {xs : List α} {ok ad : α → Bool} {v : Value} (q : Int) (h : KeptI xs ok ad xs.length v) : FltV v (codeV (xs.all ok) (xs.all ad) q) := by
 obtain ⟨b, a⟩ := h;rw [List.take_length] at b a;rw [b];rcases a with ⟨rfl, a⟩ | ⟨m, rfl, a⟩
 ·rw [a]; exact .inl ⟨rfl, rfl⟩
 ·rw [a]; exact .inr ⟨by simp [codeV], .inr ⟨m, by simp [codeV]⟩⟩
theorem kept_nil {α : Type} {xs : List α} {ok ad : α → Bool} {k : Nat} {v : Value} {x : α} (h : KeptI xs ok ad k v) (hx : xs[k]? = some x) (h1 : ok x = true) (h2 : ad x = true) : KeptI xs ok ad (k + 1) v := by
 refine ⟨all_step h.1 hx h1, ?_⟩;rcases h.2 with ⟨e, a⟩ | a
 ·exact .inl ⟨e, all_step a hx h2⟩
 ·exact .inr a
theorem kept_flt {α : Type} {xs : List α} {ok ad : α → Bool} {k : Nat} {v : Value} {x : α} (m : Int) (h : KeptI xs ok ad k v) (hx : xs[k]? = some x) (h1 : ok x = true) (h2 : ad x = false) : KeptI xs ok ad (k + 1) (fltV m 4) :=
 ⟨all_step h.1 hx h1, .inr ⟨m, rfl, all_not hx h2⟩⟩
theorem flt_now {α : Type} {xs : List α} {ok ad : α → Bool} {k : Nat} {x : α} (m q : Int) (hq : q ≠ 0) (hx : xs[k]? = some x) (h1 : ok x = false) : FltV (fltV m q) (codeV (xs.all ok) (xs.all ad) q) := by
 rw [all_not hx h1];exact .inr ⟨by simpa [codeV] using hq, .inr ⟨m, by simp [codeV]⟩⟩
theorem implCodeOf_flt (v : Value) (q : Int) (a : FltV v q) (w : World) (hh : Hold w) : Calls Tryz.prog 205 #[v] w fun e w' => e = .returned (nI q) ∧ Bl w w' := by
 rcases a with ⟨rfl, rfl⟩ | ⟨_, a⟩
 ·exact implCodeOf_nil w
 ·exact implCodeOf_any v q a w hh
theorem implDescOk_any (p : Bool) (q m : Int) (d : List Int) (a : Option Addr) (cap : Nat) (w : World) (h : SlRd intR w a d) :
    Calls Tryz.prog 240 #[.agg #[.bool p, nI q, nI m, sL a d.length cap]] w fun e f => e = .returned (.bool (descB (p, q, m, d))) ∧ Bl w f := by
 have g : Hid _ := box_below w;have l : Hid (∀ W, Bl w W → Calls Tryz.prog 91 #[sL a d.length cap] W fun e f => e = .returned (.bool (isL d)) ∧ Bl w f) := fun W b => (implLineOk_any a d cap W (reads_of (slrd_next h b))).mono fun e f ⟨h1, h2⟩ => ⟨h1, below_step b h2⟩;clear h;cases p
 ·by_cases i : m = 0
  ·subst i;by_cases k : d.length = 0
   ·have j : d = [] := List.eq_nil_of_length_eq_zero k;subst j;go_enter Tryz.func240, Tryz.ntmps240;go_wp2_with fail
    go_ret
    exact ⟨rfl, g.out _⟩
   ·have o : ¬ ((d.length : Int) = 0) := by omega
    have n : ((d.length : Int) == 0) = false := beq_false_of_ne o;have c : Hid (descB (false, q, 0, d) = false) := by unfold Hid descB; simp [k]
    rw [c.out];go_enter Tryz.func240, Tryz.ntmps240;go_wp2_with fail
    go_ret
    exact ⟨rfl, g.out _⟩
  ·have s : (m == 0) = false := beq_false_of_ne i;have c : Hid (descB (false, q, m, d) = false) := by unfold Hid descB; simp [i]
   rw [c.out];go_enter Tryz.func240, Tryz.ntmps240;go_wp2_with fail
   go_ret
   exact ⟨rfl, g.out _⟩
 ·cases b : betw m 1 3
  ·have c : Hid (descB (true, q, m, d) = false) := by unfold Hid descB; simp [b]
   rw [c.out];go_enter Tryz.func240, Tryz.ntmps240;go_wp2_with (go_at_call 156; refine (between_any _ _ _ _).mono ?_; rintro e f ⟨rfl, rfl⟩; rw [b])
   go_ret
   exact ⟨rfl, g.out _⟩
  ·have c : Hid (descB (true, q, m, d) = isL d) := by unfold Hid descB; simp [b]
   rw [c.out];go_enter Tryz.func240, Tryz.ntmps240;go_wp2_with (first | (go_at_call 156; refine (between_any _ _ _ _).mono ?_; rintro e f ⟨rfl, rfl⟩; rw [b]) | (go_at_call 91; refine (l.out _ (g.out _)).mono ?_; rintro e w2 ⟨rfl, r⟩))
   go_ret
   exact ⟨rfl, r⟩
theorem implOpFault_any (c s y l k a x z : Int) (w : World) :
    Calls Tryz.prog 236 #[.agg #[nI c, nI s, nI y, nI l], .agg #[nI k, nI a, nI x, nI z]] w fun e w' => e = .returned (oneV (opB k a x z) (addrB c s y l a) 3) ∧ Bl w w' := by
 have g := heap_on (.cells #[nI k, nI a, nI x, nI z] 133) (heap_at w (.cells #[nI c, nI s, nI y, nI l] 38));have d := heap_at (w.alloc (.cells #[nI c, nI s, nI y, nI l] 38)) (.cells #[nI k, nI a, nI x, nI z] 133);rw [size_two] at d;have B := below_step (box_below w (.cells #[nI c, nI s, nI y, nI l] 38)) (box_below (w.alloc (.cells #[nI c, nI s, nI y, nI l] 38)) (.cells #[nI k, nI a, nI x, nI z] 133));go_enter Tryz.func236, Tryz.ntmps236;go_wp2_with fail
 generalize (w.alloc (.cells #[nI c, nI s, nI y, nI l] 38)).alloc (.cells #[nI k, nI a, nI x, nI z] 133) = W0 at g d B ⊢;refine (implOpOk_any _ _ _ _ _).mono ?_;rintro e n ⟨rfl, b⟩;cases f : opB k a x z
 ·have i : Hid (Bl w n) := below_step B b;clear g d B b;go_wp2;go_ret
  exact ⟨by rw [f]; rfl, i.out⟩
 ·obtain ⟨p0, p1, p2, p3⟩ := cells_4 (row_keep b g);obtain ⟨q0, q1, q2, q3⟩ := cells_4 (row_keep b d);have i : Hid (Bl w n) := below_step B b;clear g d B b;have o := addr_hw f;cases j : addrB c s y l a
  ·go_wp2_with (go_at_call 264; refine (hasAddr_any _ _ _ _ _ _ o).mono ?_; rintro e p ⟨rfl, m⟩; rw [j])
   go_ret
   exact ⟨by rw [f, j]; rfl, below_step i.out m⟩
  ·go_wp2_with (go_at_call 264; refine (hasAddr_any _ _ _ _ _ _ o).mono ?_; rintro e p ⟨rfl, m⟩; rw [j])
   go_ret
   exact ⟨by rw [f, j]; rfl, below_step i.out m⟩
theorem implFaultOp_any (c s y l : Int) (a : Option Addr) (xs : List OpD) (cap : Nat) (w : World) (h : SlRd opR w a xs) (hm : xs.length ≤ 30) :
    Calls Tryz.prog 263 #[.agg #[nI c, nI s, nI y, nI l], sL a xs.length cap, (.func (.func 236) #[] #[])] w fun e w' => ∃ v, e = .returned v ∧ FltV v (codeV (xs.all opOkD) (xs.all (adB c s y l)) 3) ∧ Bl w w' := by
 have T : Hid (∀ W, Bl w W → SlRd opR W a xs) := fun W hb => slrd_next h hb;clear h;go_enter Tryz.func263, Tryz.ntmps263;go_wp2;generalize g : w.alloc _ = W0;have X := boxH g;have B := boxB g;clear g;go_loopw [7, 13] (fun v i wr => ∃ k : Nat, k ≤ xs.length ∧ i = nI k ∧ KeptI xs opOkD (adB c s y l) k v ∧ Bl W0 wr) (fun _ i _ => xs.length - (intOf i).toNat)
 case atStart => exact ⟨0, Nat.zero_le _, rfl, ⟨rfl, .inl ⟨rfl, rfl⟩⟩, Below.refl _ _⟩
 case round =>
  obtain ⟨k, hk, rfl, K, d⟩ := hrel;have r : Hid _ := K;clear K;by_cases C : k < xs.length
  ·have G : (k : Int) < (xs.length : Int) := by omega
   obtain ⟨x, D⟩ : ∃ x, xs[k]? = some x := ⟨_, List.getElem?_eq_getElem C⟩;obtain ⟨b, N, rfl, M, S, V, U, -⟩ := op_at (T.out _ (below_step B d)) D;have p : Hid _ := D;clear D;have E := row_keep d X;have F : w.heap.size < wr.heap.size := (ltH E);obtain ⟨R, Y, O, Z⟩ := cells_4 E;have j : Hid (Bl w wr) := below_step B d;have n : Hid _ := aI X (aI B d);clear E X B d;have I := box_below wr (.cells #[nI x.1, nI x.2.1, nI x.2.2.1, nI x.2.2.2] 133);go_wp2_with fail
   refine (implOpFault_any c s y l x.1 x.2.1 x.2.2.1 x.2.2.2 _).mono ?_;rintro e w1 ⟨rfl, J⟩;obtain ⟨X, B, d⟩ := n.out;have z := below_step d (below_step I J);have H := below_step B z;have f : Hid _ := aI z H;clear M S V U R Y O Z F I J z H d X B n j;cases m : opOkD x
   ·first | rw [show opB x.1 x.2.1 x.2.2.1 x.2.2.2 = _ from m] | skip
    rw [show oneV false (addrB c s y l x.2.1) 3 = refV 3 from rfl];go_wp2_with (go_at_call 270; refine (isFault_any _ _ _ _).mono ?_; rintro e L ⟨rfl, A⟩)
    go_ret
    exact ⟨_, rfl, flt_now _ 3 (by decide) p.out m, below_step f.out.2 A⟩
   ·cases o : adB c s y l x
    ·first | rw [show opB x.1 x.2.1 x.2.2.1 x.2.2.2 = _ from m] | skip
     rw [show addrB c s y l x.2.1 = _ from o, show oneV true false 3 = refV 4 from rfl];go_wp2_with (go_at_call 270; refine (isFault_any _ _ _ _).mono ?_; rintro e L ⟨rfl, A⟩)
     go_roundw
     case rel => exact ⟨k + 1, by omega, by go_num, kept_flt _ r.out p.out m o, below_step f.out.1 A⟩
     case measure => simp [intOf]; omega
    ·first | rw [show opB x.1 x.2.1 x.2.2.1 x.2.2.2 = _ from m] | skip
     rw [show addrB c s y l x.2.1 = _ from o, show oneV true true 3 = .nilIface from rfl];go_wp2;go_roundw
     case rel => exact ⟨k + 1, by omega, by go_num, kept_nil r.out p.out m o, f.out.1⟩
     case measure => simp [intOf]; omega
  ·have q : k = xs.length := by omega
   subst q;have j : Hid (Bl w wr) := below_step B d;clear X B d;go_wp2;go_ret
   exact ⟨_, rfl, kept_end 3 r.out, j.out⟩
theorem implRefusedOp_any (c s y l : Int) (a : Option Addr) (xs : List OpD) (cap : Nat) (w : World) (h : SlRd opR w a xs) (hm : xs.length ≤ maxLen) :
    Calls Tryz.prog 235 #[.agg #[nI c, nI s, nI y, nI l], sL a xs.length cap, (.func (.func 236) #[] #[])] w fun e w' => ∃ v, e = .returned v ∧ FltV v (progI c s y l xs) ∧ Bl w w' := by
 have o : xs.length ≤ 9223372036854775807 := hm;have q : Hid (∀ W, Bl w W → SlRd opR W a xs) := fun W hb => slrd_next h hb;clear h hm;go_enter Tryz.func235, Tryz.ntmps235;go_wp2_with fail
 generalize d : w.alloc _ = W0;have X := boxH d;have B := boxB d;clear d;refine (implCode_any _ _ _ _ _).mono ?_;rintro e n ⟨rfl, j⟩;obtain ⟨p0, p1, p2, p3⟩ := cells_4 (row_keep j X);have g : Hid (Bl w n) := below_step B j;clear X B j;by_cases b : codeI c s y l = 0
 ·by_cases i : xs.length ≤ 30
  ·have k : ¬ ((30 : Int) < (xs.length : Int)) := by omega
   have f : Hid (progI c s y l xs = codeV (xs.all opOkD) (xs.all (adB c s y l)) 3) := by unfold Hid progI codeV; rw [if_pos b, if_pos i, ad_eq b]
   have r := implFaultOp_any c s y l a xs cap n (q.out _ g.out) i;rw [b];clear b;go_wp2_with (go_at_call 263; refine r.mono ?_; rintro e w2 ⟨v, rfl, A, p⟩)
   go_ret
   exact ⟨_, rfl, by rw [f.out]; exact A, below_step g.out p⟩
  ·have k : (30 : Int) < (xs.length : Int) := by omega
   have f : Hid (progI c s y l xs = 2) := by unfold Hid progI; rw [if_pos b, if_neg i]
   rw [b];clear b;go_wp2;go_ret
   exact ⟨_, rfl, by rw [f.out]; exact .inr ⟨by decide, .inl rfl⟩, g.out⟩
 ·have m : (codeI c s y l != 0) = true := by simp [b]
  have f : Hid (progI c s y l xs = 1) := by unfold Hid progI; rw [if_neg b]
  generalize codeI c s y l = z at m ⊢;clear b;go_wp2;go_ret
  exact ⟨_, rfl, by rw [f.out]; exact .inr ⟨by decide, .inl rfl⟩, g.out⟩
theorem implProgramCode_any (c s y l : Int) (a : Option Addr) (xs : List OpD) (cap : Nat) (w : World) (hh : Hold w) (h : SlRd opR w a xs) (hm : xs.length ≤ maxLen) :
    Calls Tryz.prog 196 #[.agg #[nI c, nI s, nI y, nI l], sL a xs.length cap] w fun e w' => e = .returned (nI (progI c s y l xs)) ∧ Bl w w' := by
 have B := box_below w (.cells #[nI c, nI s, nI y, nI l] 38);have b := implRefusedOp_any c s y l a xs cap (w.alloc (.cells #[nI c, nI s, nI y, nI l] 38)) (slrd_next h B) hm;have i : Hid (∀ W, Bl w W → Hold W) := fun W hb => hh.goes hb;clear h hm hh;generalize progI c s y l xs = q at b ⊢;go_enter Tryz.func196, Tryz.ntmps196;go_wp2_with fail
 refine b.mono ?_;rintro e g ⟨v, rfl, f, k⟩;have d := below_step B k;have j := implCodeOf_flt v q f g (i.out _ d);clear f b;go_wp2_with (go_at_call 205; refine j.mono ?_; rintro e w2 ⟨rfl, m⟩)
 go_ret
 exact ⟨rfl, below_step d m⟩
theorem implDescFault_any (c s y l : Int) (p : Bool) (q m : Int) (d : List Int) (a : Option Addr) (cap : Nat) (w : World) (h : SlRd intR w a d) :
    Calls Tryz.prog 207 #[.agg #[nI c, nI s, nI y, nI l], .agg #[.bool p, nI q, nI m, sL a d.length cap]] w fun e w' => e = .returned (oneV (descB (p, q, m, d)) (lineB c s y l q) 5) ∧ Bl w w' := by
 have g := heap_on (.cells #[.bool p, nI q, nI m, sL a d.length cap] 187) (heap_at w (.cells #[nI c, nI s, nI y, nI l] 38));have f := heap_at (w.alloc (.cells #[nI c, nI s, nI y, nI l] 38)) (.cells #[.bool p, nI q, nI m, sL a d.length cap] 187);rw [size_two] at f;have B := below_step (box_below w (.cells #[nI c, nI s, nI y, nI l] 38)) (box_below (w.alloc (.cells #[nI c, nI s, nI y, nI l] 38)) (.cells #[.bool p, nI q, nI m, sL a d.length cap] 187));have o : Hid (Calls Tryz.prog 240 #[.agg #[.bool p, nI q, nI m, sL a d.length cap]] ((w.alloc (.cells #[nI c, nI s, nI y, nI l] 38)).alloc (.cells #[.bool p, nI q, nI m, sL a d.length cap] 187)) fun e w' => e = .returned (.bool (descB (p, q, m, d))) ∧ Below ((w.alloc (.cells #[nI c, nI s, nI y, nI l] 38)).alloc (.cells #[.bool p, nI q, nI m, sL a d.length cap] 187)).heap.size ((w.alloc (.cells #[nI c, nI s, nI y, nI l] 38)).alloc (.cells #[.bool p, nI q, nI m, sL a d.length cap] 187)) w') := implDescOk_any p q m d a cap _ (slrd_next h B);clear h;go_enter Tryz.func207, Tryz.ntmps207;go_wp2_with fail
 generalize (w.alloc (.cells #[nI c, nI s, nI y, nI l] 38)).alloc (.cells #[.bool p, nI q, nI m, sL a d.length cap] 187) = W0 at g f B o ⊢;refine (o.out).mono ?_;rintro e r ⟨rfl, b⟩;cases k : descB (p, q, m, d)
 ·have i : Hid (Bl w r) := below_step B b;clear g f B b;go_wp2;go_ret
  exact ⟨by rw [k]; rfl, i.out⟩
 ·obtain ⟨p0, p1, p2, p3⟩ := cells_4 (row_keep b g);obtain ⟨q0, q1, q2, q3⟩ := cells_4 (row_keep b f);have i : Hid (Bl w r) := below_step B b;clear g f B b;cases j : lineB c s y l q
  ·go_wp2_with (go_at_call 212; refine (hasLine_any _ _ _ _ _ _).mono ?_; rintro e v ⟨rfl, n⟩; rw [j])
   go_ret
   exact ⟨by rw [k, j]; rfl, below_step i.out n⟩
  ·go_wp2_with (go_at_call 212; refine (hasLine_any _ _ _ _ _ _).mono ?_; rintro e v ⟨rfl, n⟩; rw [j])
   go_ret
   exact ⟨by rw [k, j]; rfl, below_step i.out n⟩
theorem implFaultDesc_any (c s y l : Int) (a : Option Addr) (xs : List DescD) (cap : Nat) (w : World) (h : SlRd descR w a xs) (hm : xs.length ≤ 30) :
    Calls Tryz.prog 242 #[.agg #[nI c, nI s, nI y, nI l], sL a xs.length cap, (.func (.func 207) #[] #[])] w fun e w' => ∃ v, e = .returned v ∧ FltV v (codeV (xs.all descB) (xs.all (lnB c s y l)) 5) ∧ Bl w w' := by
 have HS : Hid (∀ W, Bl w W → SlRd descR W a xs) := fun W hb => slrd_next h hb;clear h;go_enter Tryz.func242, Tryz.ntmps242;go_wp2;generalize n : w.alloc _ = W0;have X := boxH n;have B := boxB n;clear n;go_loopw [7, 13] (fun v i wr => ∃ k : Nat, k ≤ xs.length ∧ i = nI k ∧ KeptI xs descB (lnB c s y l) k v ∧ Bl W0 wr) (fun _ i _ => xs.length - (intOf i).toNat)
 case atStart => exact ⟨0, Nat.zero_le _, rfl, ⟨rfl, .inl ⟨rfl, rfl⟩⟩, Below.refl _ _⟩
 case round =>
  obtain ⟨k, hk, rfl, Z, g⟩ := hrel;have F : Hid _ := Z;clear Z;by_cases J : k < xs.length
  ·have N : (k : Int) < (xs.length : Int) := by omega
   obtain ⟨x, K⟩ : ∃ x, xs[k]? = some x := ⟨_, List.getElem?_eq_getElem J⟩;obtain ⟨b, f, cs, rfl, z, d⟩ := slrd_at (HS.out _ (below_step B g)) K;obtain ⟨r, j, rfl, -, -, -, -, q⟩ := desc_rd z;have Y := d 0 _ rfl;have S := d 1 _ rfl;have V := d 2 _ rfl;have U := d 3 _ rfl;rw [show f + (k * descR.size + 0) = f + k * 4 from rfl] at Y;rw [show f + (k * descR.size + 1) = f + k * 4 + 1 from rfl] at S;rw [show f + (k * descR.size + 2) = f + k * 4 + 2 from rfl] at V;rw [show f + (k * descR.size + 3) = f + k * 4 + 3 from rfl] at U;clear d z;have D : Hid _ := K;clear K;have L := row_keep g X;have M : w.heap.size < wr.heap.size := (ltH L);obtain ⟨p0, p1, p2, p3⟩ := cells_4 L;have o : Hid (Bl w wr) := below_step B g;have A : Hid _ := aI X (aI B g);clear L X B g;have G : Hid (SlRd intR (wr.alloc (.cells #[.bool x.1, nI x.2.1, nI x.2.2.1, sL r x.2.2.2.length j] 187)) r x.2.2.2) := slrd_next q (box_below wr (.cells #[.bool x.1, nI x.2.1, nI x.2.2.1, sL r x.2.2.2.length j] 187));clear q;have R := box_below wr (.cells #[.bool x.1, nI x.2.1, nI x.2.2.1, sL r x.2.2.2.length j] 187);go_wp2_with fail
   refine (implDescFault_any c s y l x.1 x.2.1 x.2.2.1 x.2.2.2 r j _ G.out).mono ?_;rintro e w1 ⟨rfl, T⟩;obtain ⟨X, B, g⟩ := A.out;have H := below_step g (below_step R T);have O := below_step B H;have m : Hid _ := aI H O;clear Y S V U p0 p1 p2 p3 M R T H O g X B A o;cases p : descB x
   ·first | rw [show descB (x.1, x.2.1, x.2.2.1, x.2.2.2) = _ from p] | skip
    rw [show oneV false (lineB c s y l x.2.1) 5 = refV 5 from rfl];go_wp2_with (go_at_call 270; refine (isFault_any _ _ _ _).mono ?_; rintro e w2 ⟨rfl, I⟩)
    go_ret
    exact ⟨_, rfl, flt_now _ 5 (by decide) D.out p, below_step m.out.2 I⟩
   ·cases C : lnB c s y l x
    ·first | rw [show descB (x.1, x.2.1, x.2.2.1, x.2.2.2) = _ from p] | skip
     rw [show lineB c s y l x.2.1 = _ from C, show oneV true false 5 = refV 4 from rfl];go_wp2_with (go_at_call 270; refine (isFault_any _ _ _ _).mono ?_; rintro e w2 ⟨rfl, I⟩)
     go_roundw
     case rel => exact ⟨k + 1, by omega, by go_num, kept_flt _ F.out D.out p C, below_step m.out.1 I⟩
     case measure => simp [intOf]; omega
    ·first | rw [show descB (x.1, x.2.1, x.2.2.1, x.2.2.2) = _ from p] | skip
     rw [show lineB c s y l x.2.1 = _ from C, show oneV true true 5 = .nilIface from rfl];go_wp2;go_roundw
     case rel => exact ⟨k + 1, by omega, by go_num, kept_nil F.out D.out p C, m.out.1⟩
     case measure => simp [intOf]; omega
  ·have E : k = xs.length := by omega
   subst E;have o : Hid (Bl w wr) := below_step B g;clear X B g;go_wp2;go_ret
   exact ⟨_, rfl, kept_end 5 F.out, o.out⟩
theorem implRefusedDesc_any (c s y l : Int) (a : Option Addr) (xs : List DescD) (cap : Nat) (w : World) (h : SlRd descR w a xs) (hm : xs.length ≤ maxLen) :
    Calls Tryz.prog 206 #[.agg #[nI c, nI s, nI y, nI l], sL a xs.length cap, (.func (.func 207) #[] #[])] w fun e w' => ∃ v, e = .returned v ∧ FltV v (descI c s y l xs) ∧ Bl w w' := by
 have o : xs.length ≤ 9223372036854775807 := hm;have q : Hid (∀ W, Bl w W → SlRd descR W a xs) := fun W hb => slrd_next h hb;clear h hm;go_enter Tryz.func206, Tryz.ntmps206;go_wp2_with fail
 generalize d : w.alloc _ = W0;have X := boxH d;have B := boxB d;clear d;refine (implCode_any _ _ _ _ _).mono ?_;rintro e n ⟨rfl, j⟩;obtain ⟨p0, p1, p2, p3⟩ := cells_4 (row_keep j X);have g : Hid (Bl w n) := below_step B j;clear X B j;by_cases b : codeI c s y l = 0
 ·by_cases i : xs.length ≤ 30
  ·have k : ¬ ((30 : Int) < (xs.length : Int)) := by omega
   have f : Hid (descI c s y l xs = codeV (xs.all descB) (xs.all (lnB c s y l)) 5) := by unfold Hid descI codeV; rw [if_pos b, if_pos i, ln_eq b]
   have r := implFaultDesc_any c s y l a xs cap n (q.out _ g.out) i;rw [b];clear b;go_wp2_with (go_at_call 242; refine r.mono ?_; rintro e w2 ⟨v, rfl, A, p⟩)
   go_ret
   exact ⟨_, rfl, by rw [f.out]; exact A, below_step g.out p⟩
  ·have k : (30 : Int) < (xs.length : Int) := by omega
   have f : Hid (descI c s y l xs = 2) := by unfold Hid descI; rw [if_pos b, if_neg i]
   rw [b];clear b;go_wp2;go_ret
   exact ⟨_, rfl, by rw [f.out]; exact .inr ⟨by decide, .inl rfl⟩, g.out⟩
 ·have m : (codeI c s y l != 0) = true := by simp [b]
  have f : Hid (descI c s y l xs = 1) := by unfold Hid descI; rw [if_neg b]
  generalize codeI c s y l = z at m ⊢;clear b;go_wp2;go_ret
  exact ⟨_, rfl, by rw [f.out]; exact .inr ⟨by decide, .inl rfl⟩, g.out⟩
theorem implDescCode_any (c s y l : Int) (a : Option Addr) (xs : List DescD) (cap : Nat) (w : World) (hh : Hold w) (h : SlRd descR w a xs) (hm : xs.length ≤ maxLen) :
    Calls Tryz.prog 150 #[.agg #[nI c, nI s, nI y, nI l], sL a xs.length cap] w fun e w' => e = .returned (nI (descI c s y l xs)) ∧ Bl w w' := by
 have B := box_below w (.cells #[nI c, nI s, nI y, nI l] 38);have b := implRefusedDesc_any c s y l a xs cap (w.alloc (.cells #[nI c, nI s, nI y, nI l] 38)) (slrd_next h B) hm;have i : Hid (∀ W, Bl w W → Hold W) := fun W hb => hh.goes hb;clear h hm hh;generalize descI c s y l xs = q at b ⊢;go_enter Tryz.func150, Tryz.ntmps150;go_wp2_with fail
 refine b.mono ?_;rintro e g ⟨v, rfl, f, k⟩;have d := below_step B k;have j := implCodeOf_flt v q f g (i.out _ d);clear f b;go_wp2_with (go_at_call 205; refine j.mono ?_; rintro e w2 ⟨rfl, m⟩)
 go_ret
 exact ⟨rfl, below_step d m⟩
noncomputable def coreFit (c s y l : Int) (x : CoreD) : Bool := coreB x && (decide (progI c s y l x.2.1 = 0) && (cacheIn s y l x.1 (waysN x.1) && wayIn l x.2.2.2.2.1))
theorem core_ok {x : CoreD} (h : coreB x = true) : OkC isL treeB x.1 := by
 unfold coreB at h;rw [Bool.and_eq_true] at h;exact okB_iff.1 h.1
theorem ok_ways {x : CacheD} (h : OkC isL treeB x) : (x.1.length = 1 ∨ x.1.length = 2 ∨ x.1.length = 4) ∧ (waysN x = 1 ∨ waysN x = 2 ∨ waysN x = 4) ∧ ∀ row ∈ x.1, row.length = waysN x := by
 obtain ⟨g, h2, m, f, c⟩ := h;have b : x.1.length = 1 ∨ x.1.length = 2 ∨ x.1.length = 4 := g;have a : 0 < x.1.length := by omega
 have e : waysN x = m := by
  unfold waysN;rw [List.getD_eq_getElem?_getD, List.getElem?_eq_getElem a];exact (c 0 _ (List.getElem?_eq_getElem a)).1
 refine ⟨b, by rw [e]; exact f, fun row hr => ?_⟩;obtain ⟨i, d⟩ := List.getElem?_of_mem hr;rw [e];exact (c i row d).1
theorem fitsCore_u (c s y l : Int) (cs : List Value) (x : CoreD) (w : World) (hh : Hold w) (hc : codeI c s y l = 0) (h : coreR.rd w cs x) :
    Calls Tryz.prog 148 #[.agg #[nI c, nI s, nI y, nI l], aggV cs] w fun e w' => e = .returned (.bool (coreFit c s y l x)) ∧ Bl w w' := by
 have A : Hid _ := fun (W : World) (hb : Bl w W) => implCoreOk_u cs x W (rd_next h hb);obtain ⟨v0, v1, v2, v5, v6, v7, v8, rfl, K, r1, i2, i3, Z, r5⟩ := core_rd h;obtain ⟨M, U, V, Y, R, -, -, -, -, T, -⟩ := cache_rd K;simp only [List.cons.injEq, and_true] at R;obtain ⟨rfl, rfl⟩ := R;obtain ⟨a1, c1, N, m, j, k⟩ := r1;simp only [List.cons.injEq, and_true] at N;obtain rfl := N;obtain ⟨F, I, J, -⟩ := way_rd Z;simp only [List.cons.injEq, and_true] at J;obtain ⟨rfl, rfl, rfl⟩ := J;obtain ⟨a5, c5, D, -, -, -⟩ := r5;simp only [List.cons.injEq, and_true] at D;obtain rfl := D;have H : Hid _ := fun (W : World) (hb : Bl w W) => implProgramCode_any c s y l a1 x.2.1 c1 W (hh.goes hb) (slrd_next k hb) (Nat.le_trans m j);have q : Hid (coreB x = true → ∀ W, Bl w W → Calls Tryz.prog 197 #[.agg #[nI c, nI s, nI y, nI l], .agg #[sL M x.1.1.length U, sL V x.1.2.length Y]] W fun e w' => e = .returned (.bool (cacheIn s y l x.1 (waysN x.1))) ∧ Bl W w') := fun hk W hb => by
  obtain ⟨p1, p2, p3⟩ := ok_ways (core_ok hk);exact fitsCache_any c s y l M V x.1 U Y (waysN x.1) W hc (slrd_next T hb) p1 p2 p3
 have G : Hid (∀ W, Calls Tryz.prog 198 #[.agg #[nI c, nI s, nI y, nI l], .agg #[nI x.2.2.2.2.1.1, nI x.2.2.2.2.1.2.1, sL F x.2.2.2.2.1.2.2.length I]] W fun e w' => e = .returned (.bool (wayIn l x.2.2.2.2.1)) ∧ Bl W w') := fun W => fitsWay_any c s y l x.2.2.2.2.1 F I W hc;unfold coreFit;generalize coreB x = q1 at A q ⊢;generalize progI c s y l x.2.1 = kp at H ⊢;generalize cacheIn s y l x.1 (waysN x.1) = q3 at q ⊢;generalize wayIn l x.2.2.2.2.1 = q4 at G ⊢;rw [aE] at A ⊢;clear h K Z i2 i3 hc hh k m j T;have B := Below.refl w.heap.size w;go_enter Tryz.func148, Tryz.ntmps148;go_upto_region 1 with fail
 generalize d : w.alloc _ = u1w;have X := boxH d;have i := boxB d;have v := boxL d;clear d;replace B := below_step B i;clear i;have jA := lE v;have aA := lE v.symm;clear v;generalize b : u1w.alloc _ = u2w;have C := boxH b;have i := boxB b;have z := boxL b;clear b;rw [show u1w.heap.size = w.heap.size + 1 from by omega] at C;replace B := below_step B i;replace X := row_keep i X;clear i;have pA := lE z;have gA := lE z.symm;clear z;obtain ⟨Xc0, Xc1, Xc2, Xc3⟩ := cells_4 X;have Xlt := (ltH X);obtain ⟨Cc0, Cc1, Cc2, Cc3, Cc4, Cc5, Cc6, Cc7, Cc8⟩ := cells_core C;have Clt := (ltH C);go_wp2_with fail
 clear Xc0 Xc1 Xc2 Xc3 Xlt Cc0 Cc1 Cc2 Cc3 Cc4 Cc5 Cc6 Cc7 Cc8 Clt;refine (A.out _ B).mono ?_;rintro e p ⟨rfl, a⟩;have S : u2w.heap.size ≤ p.heap.size := a.size;replace B := below_step B a;replace X := row_keep a X;replace C := row_keep a C;clear a;cases q1
 ·skip
  obtain ⟨Xc0, Xc1, Xc2, Xc3⟩ := cells_4 X;have Xlt := (ltH X);obtain ⟨Cc0, Cc1, Cc2, Cc3, Cc4, Cc5, Cc6, Cc7, Cc8⟩ := cells_core C;have Clt := (ltH C);have g : Hid _ := B;clear B X C;go_wp2;go_ret
  exact ⟨rfl, g.out⟩
 ·skip
  obtain ⟨Xc0, Xc1, Xc2, Xc3⟩ := cells_4 X;have Xlt := (ltH X);obtain ⟨Cc0, Cc1, Cc2, Cc3, Cc4, Cc5, Cc6, Cc7, Cc8⟩ := cells_core C;have Clt := (ltH C);go_wp2_with fail
  clear Xc0 Xc1 Xc2 Xc3 Xlt Cc0 Cc1 Cc2 Cc3 Cc4 Cc5 Cc6 Cc7 Cc8 Clt;refine (H.out _ B).mono ?_;rintro e n ⟨rfl, a⟩;have E : p.heap.size ≤ n.heap.size := a.size;replace B := below_step B a;replace X := row_keep a X;replace C := row_keep a C;clear a;by_cases f : kp = 0
  ·have zt : (kp == 0) = true := by simp [f]
   subst f;have f : (0 : Int) = 0 := rfl;clear f;obtain ⟨Xc0, Xc1, Xc2, Xc3⟩ := cells_4 X;have Xlt := (ltH X);obtain ⟨Cc0, Cc1, Cc2, Cc3, Cc4, Cc5, Cc6, Cc7, Cc8⟩ := cells_core C;have Clt := (ltH C);go_wp2_with fail
   clear Xc0 Xc1 Xc2 Xc3 Xlt Cc0 Cc1 Cc2 Cc3 Cc4 Cc5 Cc6 Cc7 Cc8 Clt;refine (q.out (by first | rfl | trivial) _ B).mono ?_;rintro e o ⟨rfl, a⟩;have O : n.heap.size ≤ o.heap.size := a.size;replace B := below_step B a;replace X := row_keep a X;replace C := row_keep a C;clear a;cases q3
   ·skip
    obtain ⟨Xc0, Xc1, Xc2, Xc3⟩ := cells_4 X;have Xlt := (ltH X);obtain ⟨Cc0, Cc1, Cc2, Cc3, Cc4, Cc5, Cc6, Cc7, Cc8⟩ := cells_core C;have Clt := (ltH C);have g : Hid _ := B;clear B X C;go_wp2;go_ret
    exact ⟨by simp, g.out⟩
   ·skip
    obtain ⟨Xc0, Xc1, Xc2, Xc3⟩ := cells_4 X;have Xlt := (ltH X);obtain ⟨Cc0, Cc1, Cc2, Cc3, Cc4, Cc5, Cc6, Cc7, Cc8⟩ := cells_core C;have Clt := (ltH C);go_wp2_with fail
    clear Xc0 Xc1 Xc2 Xc3 Xlt Cc0 Cc1 Cc2 Cc3 Cc4 Cc5 Cc6 Cc7 Cc8 Clt;refine (G.out _).mono ?_;rintro e r ⟨rfl, a⟩;have L : o.heap.size ≤ r.heap.size := a.size;replace B := below_step B a;replace X := row_keep a X;replace C := row_keep a C;clear a;obtain ⟨Xc0, Xc1, Xc2, Xc3⟩ := cells_4 X;have Xlt := (ltH X);obtain ⟨Cc0, Cc1, Cc2, Cc3, Cc4, Cc5, Cc6, Cc7, Cc8⟩ := cells_core C;have Clt := (ltH C);have g : Hid _ := B;clear B X C;go_wp2;go_ret
    exact ⟨by simp, g.out⟩
  ·have zt : (kp == 0) = false := by simp [f]
   have HZ : Hid (¬ kp = 0) := f;clear f;obtain ⟨Xc0, Xc1, Xc2, Xc3⟩ := cells_4 X;have Xlt := (ltH X);obtain ⟨Cc0, Cc1, Cc2, Cc3, Cc4, Cc5, Cc6, Cc7, Cc8⟩ := cells_core C;have Clt := (ltH C);have g : Hid _ := B;clear B X C;go_wp2;go_ret
   exact ⟨by simp [HZ.out], g.out⟩
end Go.Proofs.YtdamokokcdcedaaGreatDoor
