import Derived.Test.YtcocbafhcpdheaaGreatDoorP00Box
import Derived.Test.YtcocbafhcpdheaaGreatDoorP22Puts
namespace Go.Proofs.YtcocbafhcpdheaaGreatDoor
set_option maxHeartbeats 4000000
set_option maxRecDepth 20000
open Go.ChangeShapes Go.WideShapes Go.ChangeAt Go.RowKit
set_option linter.unusedVariables false
theorem size_two (w : World) (o : Obj) : (w.alloc o).heap.size = w.heap.size + 1 := by simp
def oneV (ok ad : Bool) (q : Int) : Value := if ok then (if ad then .nilIface else refV 4) else refV q
def FltV (v : Value) (q : Int) : Prop := (q = 0 ∧ v = .nilIface) ∨ (q ≠ 0 ∧ ErrV v q)
theorem addr_hw {k a x y : Int} (h : opB k a x y = true) : 0 ≤ a → wrap64 (a.tdiv 2) = a / 2 := by
 intro b;have := op_addr (u := (k, a, x, y)) h;replace this : 0 ≤ a ∧ a ≤ 31 := this;rw [tdiv_two b];unfold wrap64;omega
def adB (c s y l : Int) (u : OpD) : Bool := addrB c s y l u.2.1
def lnB (c s y l : Int) (u : DescD) : Bool := lineB c s y l u.2.1
theorem ad_eq {c s y l : Int} (h : codeI c s y l = 0) : adB c s y l = adrOk l := by
 funext u
 unfold adB addrB adrOk;rw [h, Bool.eq_iff_iff];simp [betw]
 omega
theorem ln_eq {c s y l : Int} (h : codeI c s y l = 0) : lnB c s y l = dlnOk l := by
 funext u
 unfold lnB lineB dlnOk;rw [h, Bool.eq_iff_iff];simp [betw]
 omega
def KeptI {α : Type} (xs : List α) (ok ad : α → Bool) (k : Nat) (v : Value) : Prop := (xs.take k).all ok = true ∧ ((v = .nilIface ∧ (xs.take k).all ad = true) ∨ ∃ m : Int, v = fltV m 4 ∧ xs.all ad = false)
theorem kept_end {α : Type} {xs : List α} {ok ad : α → Bool} {v : Value} (q : Int) (h : KeptI xs ok ad xs.length v) : FltV v (codeV (xs.all ok) (xs.all ad) q) := by
 obtain ⟨b, a⟩ := h;rw [List.take_length] at b a;rw [b];rcases a with ⟨rfl, a⟩ | ⟨m, rfl, a⟩
 ·rw [a]; exact .inl ⟨rfl, rfl⟩
 ·rw [a]; exact .inr ⟨by simp [codeV], .inr ⟨m, by simp [codeV]⟩⟩
theorem kept_nil {α : Type} {xs : List α} {ok ad : α → Bool} {k : Nat} {v : Value} {x : α} (h : KeptI xs ok ad k v) (hx : xs[k]? = some x) (h1 : ok x = true) (h2 : ad x = true) : KeptI xs ok ad (k + 1) v := by
 refine ⟨all_step h.1 hx h1, ?_⟩;rcases h.2 with ⟨e, h3⟩ | h3
 ·exact .inl ⟨e, all_step h3 hx h2⟩
 ·exact .inr h3
theorem kept_flt {α : Type} {xs : List α} {ok ad : α → Bool} {k : Nat} {v : Value} {x : α} (m : Int) (h : KeptI xs ok ad k v) (hx : xs[k]? = some x) (h1 : ok x = true) (h2 : ad x = false) : KeptI xs ok ad (k + 1) (fltV m 4) :=
 ⟨all_step h.1 hx h1, .inr ⟨m, rfl, all_not hx h2⟩⟩
theorem flt_now {α : Type} {xs : List α} {ok ad : α → Bool} {k : Nat} {x : α} (m q : Int) (hq : q ≠ 0) (hx : xs[k]? = some x) (h1 : ok x = false) : FltV (fltV m q) (codeV (xs.all ok) (xs.all ad) q) := by
 rw [all_not hx h1];exact .inr ⟨by simpa [codeV] using hq, .inr ⟨m, by simp [codeV]⟩⟩
theorem implCodeOf_flt (v : Value) (q : Int) (a : FltV v q) (w : World) (hh : Hold w) : Calls Tryz.prog 183 #[v] w fun e w' => e = .returned (.int .i64 q) ∧ Below w.heap.size w w' := by
 rcases a with ⟨rfl, rfl⟩ | ⟨_, a⟩
 ·exact implCodeOf_nil w
 ·exact implCodeOf_any v q a w hh
theorem implDescOk_any (p : Bool) (q m : Int) (d : List Int) (a : Option Addr) (cap : Nat) (w : World) (h : SlRd intR w a d) :
    Calls Tryz.prog 222 #[.agg #[.bool p, .int .i64 q, .int .i64 m, .slice a d.length cap]] w fun e g => e = .returned (.bool (descB (p, q, m, d))) ∧ Below w.heap.size w g := by
 have f : Hid _ := box_below w;have r : Hid _ := fun (W : World) (b : Below w.heap.size w W) => (implLineOk_any a d cap W (reads_of (slrd_next h b))).mono fun e g ⟨h1, h2⟩ => ⟨h1, below_step b h2⟩;clear h;cases p
 ·by_cases i : m = 0
  ·subst i;by_cases k : d.length = 0
   ·have j : d = [] := List.eq_nil_of_length_eq_zero k;subst j;go_enter Tryz.func222, Tryz.ntmps222;go_wp2_with fail
    go_ret
    exact ⟨rfl, f.out _⟩
   ·have l : ¬ ((d.length : Int) = 0) := by omega
    have n : ((d.length : Int) == 0) = false := beq_false_of_ne l;have c : Hid (descB (false, q, 0, d) = false) := by unfold Hid descB; simp [k]
    rw [c.out];go_enter Tryz.func222, Tryz.ntmps222;go_wp2_with fail
    go_ret
    exact ⟨rfl, f.out _⟩
  ·have o : (m == 0) = false := beq_false_of_ne i;have c : Hid (descB (false, q, m, d) = false) := by unfold Hid descB; simp [i]
   rw [c.out];go_enter Tryz.func222, Tryz.ntmps222;go_wp2_with fail
   go_ret
   exact ⟨rfl, f.out _⟩
 ·cases b : betw m 1 3
  ·have c : Hid (descB (true, q, m, d) = false) := by unfold Hid descB; simp [b]
   rw [c.out];go_enter Tryz.func222, Tryz.ntmps222;go_wp2_with (go_at_call 76; refine (between_any _ _ _ _).mono ?_; rintro e g ⟨rfl, rfl⟩; rw [b])
   go_ret
   exact ⟨rfl, f.out _⟩
  ·have c : Hid (descB (true, q, m, d) = isL d) := by unfold Hid descB; simp [b]
   rw [c.out];go_enter Tryz.func222, Tryz.ntmps222;go_wp2_with (first | (go_at_call 76; refine (between_any _ _ _ _).mono ?_; rintro e g ⟨rfl, rfl⟩; rw [b]) | (go_at_call 224; refine (r.out _ (f.out _)).mono ?_; rintro e w2 ⟨rfl, s⟩))
   go_ret
   exact ⟨rfl, s⟩
theorem implOpFault_any (c s y l k a x z : Int) (w : World) :
    Calls Tryz.prog 217 #[.agg #[.int .i64 c, .int .i64 s, .int .i64 y, .int .i64 l], .agg #[.int .i64 k, .int .i64 a, .int .i64 x, .int .i64 z]] w fun e w' => e = .returned (oneV (opB k a x z) (addrB c s y l a) 3) ∧ Below w.heap.size w w' := by
 have i := heap_on (.cells #[.int .i64 k, .int .i64 a, .int .i64 x, .int .i64 z] 121) (heap_at w (.cells #[.int .i64 c, .int .i64 s, .int .i64 y, .int .i64 l] 39));have d := heap_at (w.alloc (.cells #[.int .i64 c, .int .i64 s, .int .i64 y, .int .i64 l] 39)) (.cells #[.int .i64 k, .int .i64 a, .int .i64 x, .int .i64 z] 121);rw [size_two] at d;have B := below_step (box_below w (.cells #[.int .i64 c, .int .i64 s, .int .i64 y, .int .i64 l] 39)) (box_below (w.alloc (.cells #[.int .i64 c, .int .i64 s, .int .i64 y, .int .i64 l] 39)) (.cells #[.int .i64 k, .int .i64 a, .int .i64 x, .int .i64 z] 121));go_enter Tryz.func217, Tryz.ntmps217;go_wp2_with fail
 generalize (w.alloc (.cells #[.int .i64 c, .int .i64 s, .int .i64 y, .int .i64 l] 39)).alloc (.cells #[.int .i64 k, .int .i64 a, .int .i64 x, .int .i64 z] 121) = W0 at i d B ⊢;refine (implOpOk_any _ _ _ _ _).mono ?_;rintro e o ⟨rfl, b⟩;cases g : opB k a x z
 ·have j : Hid (Below w.heap.size w o) := below_step B b;clear i d B b;go_wp2;go_ret
  exact ⟨by rw [g]; rfl, j.out⟩
 ·obtain ⟨p0, p1, p2, p3⟩ := cells_4 (row_keep b i);obtain ⟨q0, q1, q2, q3⟩ := cells_4 (row_keep b d);have j : Hid (Below w.heap.size w o) := below_step B b;clear i d B b;have n := addr_hw g;cases f : addrB c s y l a
  ·go_wp2_with (go_at_call 252; refine (hasAddr_any _ _ _ _ _ _ n).mono ?_; rintro e p ⟨rfl, m⟩; rw [f])
   go_ret
   exact ⟨by rw [g, f]; rfl, below_step j.out m⟩
  ·go_wp2_with (go_at_call 252; refine (hasAddr_any _ _ _ _ _ _ n).mono ?_; rintro e p ⟨rfl, m⟩; rw [f])
   go_ret
   exact ⟨by rw [g, f]; rfl, below_step j.out m⟩
theorem implFaultOp_any (c s y l : Int) (a : Option Addr) (xs : List OpD) (cap : Nat) (w : World) (h : SlRd opR w a xs) (hm : xs.length ≤ 30) :
    Calls Tryz.prog 251 #[.agg #[.int .i64 c, .int .i64 s, .int .i64 y, .int .i64 l], .slice a xs.length cap, (.func (.func 217) #[] #[])] w fun e w' => ∃ v, e = .returned v ∧ FltV v (codeV (xs.all opOkD) (xs.all (adB c s y l)) 3) ∧ Below w.heap.size w w' := by
 have L : Hid (∀ W, Below w.heap.size w W → SlRd opR W a xs) := fun W hb => slrd_next h hb;clear h;go_enter Tryz.func251, Tryz.ntmps251;go_wp2;generalize f : w.alloc _ = W0;have X := boxH f;have B := boxB f;clear f;go_loopw [7, 13] (fun v i wr => ∃ k : Nat, k ≤ xs.length ∧ i = .int .i64 k ∧ KeptI xs opOkD (adB c s y l) k v ∧ Below W0.heap.size W0 wr) (fun _ i _ => xs.length - (intOf i).toNat)
 case atStart => exact ⟨0, Nat.zero_le _, rfl, ⟨rfl, .inl ⟨rfl, rfl⟩⟩, Below.refl _ _⟩
 case round =>
  obtain ⟨k, hk, rfl, J, d⟩ := hrel;have q : Hid _ := J;clear J;by_cases z : k < xs.length
  ·have H : (k : Int) < (xs.length : Int) := by omega
   obtain ⟨x, A⟩ : ∃ x, xs[k]? = some x := ⟨_, List.getElem?_eq_getElem z⟩;obtain ⟨b, Y, rfl, S, N, Z, V, -⟩ := op_at (L.out _ (below_step B d)) A;have D : Hid _ := A;clear A;have p := row_keep d X;have C : w.heap.size < wr.heap.size := (ltH p);obtain ⟨O, U, M, R⟩ := cells_4 p;have j : Hid (Below w.heap.size w wr) := below_step B d;have n : Hid _ := And.intro X (And.intro B d);clear p X B d;have G := box_below wr (.cells #[.int .i64 x.1, .int .i64 x.2.1, .int .i64 x.2.2.1, .int .i64 x.2.2.2] 121);go_wp2_with fail
   refine (implOpFault_any c s y l x.1 x.2.1 x.2.2.1 x.2.2.2 _).mono ?_;rintro e w1 ⟨rfl, I⟩;obtain ⟨X, B, d⟩ := n.out;have r := below_step d (below_step G I);have K := below_step B r;have g : Hid _ := And.intro r K;clear S N Z V O U M R C G I r K d X B n j;cases m : opOkD x
   ·first | rw [show opB x.1 x.2.1 x.2.2.1 x.2.2.2 = _ from m] | skip
    rw [show oneV false (addrB c s y l x.2.1) 3 = refV 3 from rfl];go_wp2_with (go_at_call 261; refine (isFault_any _ _ _ _).mono ?_; rintro e T ⟨rfl, F⟩)
    go_ret
    exact ⟨_, rfl, flt_now _ 3 (by decide) D.out m, below_step g.out.2 F⟩
   ·cases o : adB c s y l x
    ·first | rw [show opB x.1 x.2.1 x.2.2.1 x.2.2.2 = _ from m] | skip
     rw [show addrB c s y l x.2.1 = _ from o, show oneV true false 3 = refV 4 from rfl];go_wp2_with (go_at_call 261; refine (isFault_any _ _ _ _).mono ?_; rintro e T ⟨rfl, F⟩)
     go_roundw
     case rel => exact ⟨k + 1, by omega, by go_num, kept_flt _ q.out D.out m o, below_step g.out.1 F⟩
     case measure => simp [intOf]; omega
    ·first | rw [show opB x.1 x.2.1 x.2.2.1 x.2.2.2 = _ from m] | skip
     rw [show addrB c s y l x.2.1 = _ from o, show oneV true true 3 = .nilIface from rfl];go_wp2;go_roundw
     case rel => exact ⟨k + 1, by omega, by go_num, kept_nil q.out D.out m o, g.out.1⟩
     case measure => simp [intOf]; omega
  ·have E : k = xs.length := by omega
   subst E;have j : Hid (Below w.heap.size w wr) := below_step B d;clear X B d;go_wp2;go_ret
   exact ⟨_, rfl, kept_end 3 q.out, j.out⟩
theorem implRefusedOp_any (c s y l : Int) (a : Option Addr) (xs : List OpD) (cap : Nat) (w : World) (h : SlRd opR w a xs) (hm : xs.length ≤ maxLen) :
    Calls Tryz.prog 216 #[.agg #[.int .i64 c, .int .i64 s, .int .i64 y, .int .i64 l], .slice a xs.length cap, (.func (.func 217) #[] #[])] w fun e w' => ∃ v, e = .returned v ∧ FltV v (progI c s y l xs) ∧ Below w.heap.size w w' := by
 have q : xs.length ≤ 9223372036854775807 := hm;have o : Hid (∀ W, Below w.heap.size w W → SlRd opR W a xs) := fun W hb => slrd_next h hb;clear h hm;go_enter Tryz.func216, Tryz.ntmps216;go_wp2_with fail
 generalize d : w.alloc _ = W0;have X := boxH d;have B := boxB d;clear d;refine (implCode_any _ _ _ _ _).mono ?_;rintro e n ⟨rfl, k⟩;obtain ⟨p0, p1, p2, p3⟩ := cells_4 (row_keep k X);have g : Hid (Below w.heap.size w n) := below_step B k;clear X B k;by_cases b : codeI c s y l = 0
 ·by_cases i : xs.length ≤ 30
  ·have j : ¬ ((30 : Int) < (xs.length : Int)) := by omega
   have f : Hid (progI c s y l xs = codeV (xs.all opOkD) (xs.all (adB c s y l)) 3) := by unfold Hid progI codeV; rw [if_pos b, if_pos i, ad_eq b]
   have p := implFaultOp_any c s y l a xs cap n (o.out _ g.out) i;rw [b];clear b;go_wp2_with (go_at_call 251; refine p.mono ?_; rintro e w2 ⟨v, rfl, r, A⟩)
   go_ret
   exact ⟨_, rfl, by rw [f.out]; exact r, below_step g.out A⟩
  ·have j : (30 : Int) < (xs.length : Int) := by omega
   have f : Hid (progI c s y l xs = 2) := by unfold Hid progI; rw [if_pos b, if_neg i]
   rw [b];clear b;go_wp2;go_ret
   exact ⟨_, rfl, by rw [f.out]; exact .inr ⟨by decide, .inl rfl⟩, g.out⟩
 ·have m : (codeI c s y l != 0) = true := by simp [b]
  have f : Hid (progI c s y l xs = 1) := by unfold Hid progI; rw [if_neg b]
  generalize codeI c s y l = z at m ⊢;clear b;go_wp2;go_ret
  exact ⟨_, rfl, by rw [f.out]; exact .inr ⟨by decide, .inl rfl⟩, g.out⟩
theorem implProgramCode_any (c s y l : Int) (a : Option Addr) (xs : List OpD) (cap : Nat) (w : World) (hh : Hold w) (h : SlRd opR w a xs) (hm : xs.length ≤ maxLen) :
    Calls Tryz.prog 173 #[.agg #[.int .i64 c, .int .i64 s, .int .i64 y, .int .i64 l], .slice a xs.length cap] w fun e w' => e = .returned (.int .i64 (progI c s y l xs)) ∧ Below w.heap.size w w' := by
 have B := box_below w (.cells #[.int .i64 c, .int .i64 s, .int .i64 y, .int .i64 l] 39);have b := implRefusedOp_any c s y l a xs cap (w.alloc (.cells #[.int .i64 c, .int .i64 s, .int .i64 y, .int .i64 l] 39)) (slrd_next h B) hm;have m : Hid (∀ W, Below w.heap.size w W → Hold W) := fun W hb => hh.goes hb;clear h hm hh;generalize progI c s y l xs = q at b ⊢;go_enter Tryz.func173, Tryz.ntmps173;go_wp2_with fail
 refine b.mono ?_;rintro e j ⟨v, rfl, f, g⟩;have d := below_step B g;have k := implCodeOf_flt v q f j (m.out _ d);clear f b;go_wp2_with (go_at_call 183; refine k.mono ?_; rintro e w2 ⟨rfl, i⟩)
 go_ret
 exact ⟨rfl, below_step d i⟩
theorem implDescFault_any (c s y l : Int) (p : Bool) (q m : Int) (d : List Int) (a : Option Addr) (cap : Nat) (w : World) (h : SlRd intR w a d) :
    Calls Tryz.prog 185 #[.agg #[.int .i64 c, .int .i64 s, .int .i64 y, .int .i64 l], .agg #[.bool p, .int .i64 q, .int .i64 m, .slice a d.length cap]] w fun e w' => e = .returned (oneV (descB (p, q, m, d)) (lineB c s y l q) 5) ∧ Below w.heap.size w w' := by
 have i := heap_on (.cells #[.bool p, .int .i64 q, .int .i64 m, .slice a d.length cap] 165) (heap_at w (.cells #[.int .i64 c, .int .i64 s, .int .i64 y, .int .i64 l] 39));have f := heap_at (w.alloc (.cells #[.int .i64 c, .int .i64 s, .int .i64 y, .int .i64 l] 39)) (.cells #[.bool p, .int .i64 q, .int .i64 m, .slice a d.length cap] 165);rw [size_two] at f;have B := below_step (box_below w (.cells #[.int .i64 c, .int .i64 s, .int .i64 y, .int .i64 l] 39)) (box_below (w.alloc (.cells #[.int .i64 c, .int .i64 s, .int .i64 y, .int .i64 l] 39)) (.cells #[.bool p, .int .i64 q, .int .i64 m, .slice a d.length cap] 165));have o : Hid (Calls Tryz.prog 222 #[.agg #[.bool p, .int .i64 q, .int .i64 m, .slice a d.length cap]] ((w.alloc (.cells #[.int .i64 c, .int .i64 s, .int .i64 y, .int .i64 l] 39)).alloc (.cells #[.bool p, .int .i64 q, .int .i64 m, .slice a d.length cap] 165)) fun e w' => e = .returned (.bool (descB (p, q, m, d))) ∧ Below ((w.alloc (.cells #[.int .i64 c, .int .i64 s, .int .i64 y, .int .i64 l] 39)).alloc (.cells #[.bool p, .int .i64 q, .int .i64 m, .slice a d.length cap] 165)).heap.size ((w.alloc (.cells #[.int .i64 c, .int .i64 s, .int .i64 y, .int .i64 l] 39)).alloc (.cells #[.bool p, .int .i64 q, .int .i64 m, .slice a d.length cap] 165)) w') := implDescOk_any p q m d a cap _ (slrd_next h B);clear h;go_enter Tryz.func185, Tryz.ntmps185;go_wp2_with fail
 generalize (w.alloc (.cells #[.int .i64 c, .int .i64 s, .int .i64 y, .int .i64 l] 39)).alloc (.cells #[.bool p, .int .i64 q, .int .i64 m, .slice a d.length cap] 165) = W0 at i f B o ⊢;refine (o.out).mono ?_;rintro e r ⟨rfl, b⟩;cases k : descB (p, q, m, d)
 ·have j : Hid (Below w.heap.size w r) := below_step B b;clear i f B b;go_wp2;go_ret
  exact ⟨by rw [k]; rfl, j.out⟩
 ·obtain ⟨p0, p1, p2, p3⟩ := cells_4 (row_keep b i);obtain ⟨q0, q1, q2, q3⟩ := cells_4 (row_keep b f);have j : Hid (Below w.heap.size w r) := below_step B b;clear i f B b;cases g : lineB c s y l q
  ·go_wp2_with (go_at_call 36; refine (hasLine_any _ _ _ _ _ _).mono ?_; rintro e v ⟨rfl, n⟩; rw [g])
   go_ret
   exact ⟨by rw [k, g]; rfl, below_step j.out n⟩
  ·go_wp2_with (go_at_call 36; refine (hasLine_any _ _ _ _ _ _).mono ?_; rintro e v ⟨rfl, n⟩; rw [g])
   go_ret
   exact ⟨by rw [k, g]; rfl, below_step j.out n⟩
theorem implFaultDesc_any (c s y l : Int) (a : Option Addr) (xs : List DescD) (cap : Nat) (w : World) (h : SlRd descR w a xs) (hm : xs.length ≤ 30) :
    Calls Tryz.prog 226 #[.agg #[.int .i64 c, .int .i64 s, .int .i64 y, .int .i64 l], .slice a xs.length cap, (.func (.func 185) #[] #[])] w fun e w' => ∃ v, e = .returned v ∧ FltV v (codeV (xs.all descB) (xs.all (lnB c s y l)) 5) ∧ Below w.heap.size w w' := by
 have HS : Hid (∀ W, Below w.heap.size w W → SlRd descR W a xs) := fun W hb => slrd_next h hb;clear h;go_enter Tryz.func226, Tryz.ntmps226;go_wp2;generalize m : w.alloc _ = W0;have X := boxH m;have B := boxB m;clear m;go_loopw [7, 13] (fun v i wr => ∃ k : Nat, k ≤ xs.length ∧ i = .int .i64 k ∧ KeptI xs descB (lnB c s y l) k v ∧ Below W0.heap.size W0 wr) (fun _ i _ => xs.length - (intOf i).toNat)
 case atStart => exact ⟨0, Nat.zero_le _, rfl, ⟨rfl, .inl ⟨rfl, rfl⟩⟩, Below.refl _ _⟩
 case round =>
  obtain ⟨k, hk, rfl, V, g⟩ := hrel;have E : Hid _ := V;clear V;by_cases G : k < xs.length
  ·have R : (k : Int) < (xs.length : Int) := by omega
   obtain ⟨x, I⟩ : ∃ x, xs[k]? = some x := ⟨_, List.getElem?_eq_getElem G⟩;obtain ⟨b, f, cs, rfl, q, d⟩ := slrd_at (HS.out _ (below_step B g)) I;obtain ⟨r, j, rfl, -, -, -, -, A⟩ := desc_rd q;have S := d 0 _ rfl;have N := d 1 _ rfl;have Z := d 2 _ rfl;have U := d 3 _ rfl;rw [show f + (k * descR.size + 0) = f + k * 4 from rfl] at S;rw [show f + (k * descR.size + 1) = f + k * 4 + 1 from rfl] at N;rw [show f + (k * descR.size + 2) = f + k * 4 + 2 from rfl] at Z;rw [show f + (k * descR.size + 3) = f + k * 4 + 3 from rfl] at U;clear d q;have K : Hid _ := I;clear I;have D := row_keep g X;have J : w.heap.size < wr.heap.size := (ltH D);obtain ⟨p0, p1, p2, p3⟩ := cells_4 D;have o : Hid (Below w.heap.size w wr) := below_step B g;have z : Hid _ := And.intro X (And.intro B g);clear D X B g;have H : Hid (SlRd intR (wr.alloc (.cells #[.bool x.1, .int .i64 x.2.1, .int .i64 x.2.2.1, .slice r x.2.2.2.length j] 165)) r x.2.2.2) := slrd_next A (box_below wr (.cells #[.bool x.1, .int .i64 x.2.1, .int .i64 x.2.2.1, .slice r x.2.2.2.length j] 165));clear A;have O := box_below wr (.cells #[.bool x.1, .int .i64 x.2.1, .int .i64 x.2.2.1, .slice r x.2.2.2.length j] 165);go_wp2_with fail
   refine (implDescFault_any c s y l x.1 x.2.1 x.2.2.1 x.2.2.2 r j _ H.out).mono ?_;rintro e w1 ⟨rfl, T⟩;obtain ⟨X, B, g⟩ := z.out;have F := below_step g (below_step O T);have Y := below_step B F;have n : Hid _ := And.intro F Y;clear S N Z U p0 p1 p2 p3 J O T F Y g X B z o;cases p : descB x
   ·first | rw [show descB (x.1, x.2.1, x.2.2.1, x.2.2.2) = _ from p] | skip
    rw [show oneV false (lineB c s y l x.2.1) 5 = refV 5 from rfl];go_wp2_with (go_at_call 261; refine (isFault_any _ _ _ _).mono ?_; rintro e w2 ⟨rfl, M⟩)
    go_ret
    exact ⟨_, rfl, flt_now _ 5 (by decide) K.out p, below_step n.out.2 M⟩
   ·cases C : lnB c s y l x
    ·first | rw [show descB (x.1, x.2.1, x.2.2.1, x.2.2.2) = _ from p] | skip
     rw [show lineB c s y l x.2.1 = _ from C, show oneV true false 5 = refV 4 from rfl];go_wp2_with (go_at_call 261; refine (isFault_any _ _ _ _).mono ?_; rintro e w2 ⟨rfl, M⟩)
     go_roundw
     case rel => exact ⟨k + 1, by omega, by go_num, kept_flt _ E.out K.out p C, below_step n.out.1 M⟩
     case measure => simp [intOf]; omega
    ·first | rw [show descB (x.1, x.2.1, x.2.2.1, x.2.2.2) = _ from p] | skip
     rw [show lineB c s y l x.2.1 = _ from C, show oneV true true 5 = .nilIface from rfl];go_wp2;go_roundw
     case rel => exact ⟨k + 1, by omega, by go_num, kept_nil E.out K.out p C, n.out.1⟩
     case measure => simp [intOf]; omega
  ·have L : k = xs.length := by omega
   subst L;have o : Hid (Below w.heap.size w wr) := below_step B g;clear X B g;go_wp2;go_ret
   exact ⟨_, rfl, kept_end 5 E.out, o.out⟩
theorem implRefusedDesc_any (c s y l : Int) (a : Option Addr) (xs : List DescD) (cap : Nat) (w : World) (h : SlRd descR w a xs) (hm : xs.length ≤ maxLen) :
    Calls Tryz.prog 184 #[.agg #[.int .i64 c, .int .i64 s, .int .i64 y, .int .i64 l], .slice a xs.length cap, (.func (.func 185) #[] #[])] w fun e w' => ∃ v, e = .returned v ∧ FltV v (descI c s y l xs) ∧ Below w.heap.size w w' := by
 have q : xs.length ≤ 9223372036854775807 := hm;have o : Hid (∀ W, Below w.heap.size w W → SlRd descR W a xs) := fun W hb => slrd_next h hb;clear h hm;go_enter Tryz.func184, Tryz.ntmps184;go_wp2_with fail
 generalize d : w.alloc _ = W0;have X := boxH d;have B := boxB d;clear d;refine (implCode_any _ _ _ _ _).mono ?_;rintro e n ⟨rfl, k⟩;obtain ⟨p0, p1, p2, p3⟩ := cells_4 (row_keep k X);have g : Hid (Below w.heap.size w n) := below_step B k;clear X B k;by_cases b : codeI c s y l = 0
 ·by_cases i : xs.length ≤ 30
  ·have j : ¬ ((30 : Int) < (xs.length : Int)) := by omega
   have f : Hid (descI c s y l xs = codeV (xs.all descB) (xs.all (lnB c s y l)) 5) := by unfold Hid descI codeV; rw [if_pos b, if_pos i, ln_eq b]
   have p := implFaultDesc_any c s y l a xs cap n (o.out _ g.out) i;rw [b];clear b;go_wp2_with (go_at_call 226; refine p.mono ?_; rintro e w2 ⟨v, rfl, r, A⟩)
   go_ret
   exact ⟨_, rfl, by rw [f.out]; exact r, below_step g.out A⟩
  ·have j : (30 : Int) < (xs.length : Int) := by omega
   have f : Hid (descI c s y l xs = 2) := by unfold Hid descI; rw [if_pos b, if_neg i]
   rw [b];clear b;go_wp2;go_ret
   exact ⟨_, rfl, by rw [f.out]; exact .inr ⟨by decide, .inl rfl⟩, g.out⟩
 ·have m : (codeI c s y l != 0) = true := by simp [b]
  have f : Hid (descI c s y l xs = 1) := by unfold Hid descI; rw [if_neg b]
  generalize codeI c s y l = z at m ⊢;clear b;go_wp2;go_ret
  exact ⟨_, rfl, by rw [f.out]; exact .inr ⟨by decide, .inl rfl⟩, g.out⟩
theorem implDescCode_any (c s y l : Int) (a : Option Addr) (xs : List DescD) (cap : Nat) (w : World) (hh : Hold w) (h : SlRd descR w a xs) (hm : xs.length ≤ maxLen) :
    Calls Tryz.prog 126 #[.agg #[.int .i64 c, .int .i64 s, .int .i64 y, .int .i64 l], .slice a xs.length cap] w fun e w' => e = .returned (.int .i64 (descI c s y l xs)) ∧ Below w.heap.size w w' := by
 have B := box_below w (.cells #[.int .i64 c, .int .i64 s, .int .i64 y, .int .i64 l] 39);have b := implRefusedDesc_any c s y l a xs cap (w.alloc (.cells #[.int .i64 c, .int .i64 s, .int .i64 y, .int .i64 l] 39)) (slrd_next h B) hm;have m : Hid (∀ W, Below w.heap.size w W → Hold W) := fun W hb => hh.goes hb;clear h hm hh;generalize descI c s y l xs = q at b ⊢;go_enter Tryz.func126, Tryz.ntmps126;go_wp2_with fail
 refine b.mono ?_;rintro e j ⟨v, rfl, f, g⟩;have d := below_step B g;have k := implCodeOf_flt v q f j (m.out _ d);clear f b;go_wp2_with (go_at_call 183; refine k.mono ?_; rintro e w2 ⟨rfl, i⟩)
 go_ret
 exact ⟨rfl, below_step d i⟩
noncomputable def coreFit (c s y l : Int) (x : CoreD) : Bool := coreB x && (decide (progI c s y l x.2.1 = 0) && (cacheIn s y l x.1 (waysN x.1) && wayIn l x.2.2.2.2.1))
theorem core_ok {x : CoreD} (h : coreB x = true) : OkC isL treeB x.1 := by
 unfold coreB at h;rw [Bool.and_eq_true] at h;exact okB_iff.1 h.1
theorem ok_ways {x : CacheD} (h : OkC isL treeB x) : (x.1.length = 1 ∨ x.1.length = 2 ∨ x.1.length = 4) ∧ (waysN x = 1 ∨ waysN x = 2 ∨ waysN x = 4) ∧ ∀ row ∈ x.1, row.length = waysN x := by
 obtain ⟨f, h2, m, g, c⟩ := h;have b : x.1.length = 1 ∨ x.1.length = 2 ∨ x.1.length = 4 := f;have a : 0 < x.1.length := by omega
 have e : waysN x = m := by
  unfold waysN;rw [List.getD_eq_getElem?_getD, List.getElem?_eq_getElem a];exact (c 0 _ (List.getElem?_eq_getElem a)).1
 refine ⟨b, by rw [e]; exact g, fun row hr => ?_⟩;obtain ⟨i, d⟩ := List.getElem?_of_mem hr;rw [e];exact (c i row d).1
theorem fitsCore_u (c s y l : Int) (cs : List Value) (x : CoreD) (w : World) (hh : Hold w) (hc : codeI c s y l = 0) (h : coreR.rd w cs x) :
    Calls Tryz.prog 124 #[.agg #[.int .i64 c, .int .i64 s, .int .i64 y, .int .i64 l], aggV cs] w fun e w' => e = .returned (.bool (coreFit c s y l x)) ∧ Below w.heap.size w w' := by
 have r : Hid _ := fun (W : World) (hb : Below w.heap.size w W) => implCoreOk_u cs x W (rd_next h hb);obtain ⟨v0, v1, v2, v5, v6, v7, v8, rfl, Z, r1, i2, i3, H, r5⟩ := core_rd h;obtain ⟨K, M, L, F, T, -, -, -, -, G, -⟩ := cache_rd Z;simp only [List.cons.injEq, and_true] at T;obtain ⟨rfl, rfl⟩ := T;obtain ⟨a1, c1, I, n, p, j⟩ := r1;simp only [List.cons.injEq, and_true] at I;obtain rfl := I;obtain ⟨D, R, Y, -⟩ := way_rd H;simp only [List.cons.injEq, and_true] at Y;obtain ⟨rfl, rfl, rfl⟩ := Y;obtain ⟨a5, c5, J, -, -, -⟩ := r5;simp only [List.cons.injEq, and_true] at J;obtain rfl := J;have V : Hid _ := fun (W : World) (hb : Below w.heap.size w W) => implProgramCode_any c s y l a1 x.2.1 c1 W (hh.goes hb) (slrd_next j hb) (Nat.le_trans n p);have z : Hid (coreB x = true → ∀ W, Below w.heap.size w W → Calls Tryz.prog 174 #[.agg #[.int .i64 c, .int .i64 s, .int .i64 y, .int .i64 l], .agg #[.slice K x.1.1.length M, .slice L x.1.2.length F]] W fun e w' => e = .returned (.bool (cacheIn s y l x.1 (waysN x.1))) ∧ Below W.heap.size W w') := fun hk W hb => by
  obtain ⟨p1, p2, p3⟩ := ok_ways (core_ok hk);exact fitsCache_any c s y l K L x.1 M F (waysN x.1) W hc (slrd_next G hb) p1 p2 p3
 have S : Hid (∀ W, Calls Tryz.prog 175 #[.agg #[.int .i64 c, .int .i64 s, .int .i64 y, .int .i64 l], .agg #[.int .i64 x.2.2.2.2.1.1, .int .i64 x.2.2.2.2.1.2.1, .slice D x.2.2.2.2.1.2.2.length R]] W fun e w' => e = .returned (.bool (wayIn l x.2.2.2.2.1)) ∧ Below W.heap.size W w') := fun W => fitsWay_any c s y l x.2.2.2.2.1 D R W hc;unfold coreFit;generalize coreB x = q1 at r z ⊢;generalize progI c s y l x.2.1 = kp at V ⊢;generalize cacheIn s y l x.1 (waysN x.1) = q3 at z ⊢;generalize wayIn l x.2.2.2.2.1 = q4 at S ⊢;rw [show aggV _ = .agg _ from rfl] at r ⊢;clear h Z H i2 i3 hc hh j n p G;have B := Below.refl w.heap.size w;go_enter Tryz.func124, Tryz.ntmps124;go_upto_region 1 with fail
 generalize b : w.alloc _ = u1w;have X := boxH b;have i := boxB b;have v := boxL b;clear b;replace B := below_step B i;clear i;have jA := Nat.le_of_eq v;have fA := Nat.le_of_eq v.symm;clear v;generalize d : u1w.alloc _ = u2w;have C := boxH d;have i := boxB d;have q := boxL d;clear d;rw [show u1w.heap.size = w.heap.size + 1 from by omega] at C;replace B := below_step B i;replace X := row_keep i X;clear i;have bA := Nat.le_of_eq q;have dA := Nat.le_of_eq q.symm;clear q;obtain ⟨Xc0, Xc1, Xc2, Xc3⟩ := cells_4 X;have Xlt := (ltH X);obtain ⟨Cc0, Cc1, Cc2, Cc3, Cc4, Cc5, Cc6, Cc7, Cc8⟩ := cells_core C;have Clt := (ltH C);go_wp2_with fail
 clear Xc0 Xc1 Xc2 Xc3 Xlt Cc0 Cc1 Cc2 Cc3 Cc4 Cc5 Cc6 Cc7 Cc8 Clt;refine (r.out _ B).mono ?_;rintro e k ⟨rfl, a⟩;have N : u2w.heap.size ≤ k.heap.size := a.size;replace B := below_step B a;replace X := row_keep a X;replace C := row_keep a C;clear a;cases q1
 ·skip
  obtain ⟨Xc0, Xc1, Xc2, Xc3⟩ := cells_4 X;have Xlt := (ltH X);obtain ⟨Cc0, Cc1, Cc2, Cc3, Cc4, Cc5, Cc6, Cc7, Cc8⟩ := cells_core C;have Clt := (ltH C);have g : Hid _ := B;clear B X C;go_wp2;go_ret
  exact ⟨rfl, g.out⟩
 ·skip
  obtain ⟨Xc0, Xc1, Xc2, Xc3⟩ := cells_4 X;have Xlt := (ltH X);obtain ⟨Cc0, Cc1, Cc2, Cc3, Cc4, Cc5, Cc6, Cc7, Cc8⟩ := cells_core C;have Clt := (ltH C);go_wp2_with fail
  clear Xc0 Xc1 Xc2 Xc3 Xlt Cc0 Cc1 Cc2 Cc3 Cc4 Cc5 Cc6 Cc7 Cc8 Clt;refine (V.out _ B).mono ?_;rintro e m ⟨rfl, a⟩;have E : k.heap.size ≤ m.heap.size := a.size;replace B := below_step B a;replace X := row_keep a X;replace C := row_keep a C;clear a;by_cases f : kp = 0
  ·have zt : (kp == 0) = true := by simp [f]
   subst f;have f : (0 : Int) = 0 := rfl;clear f;obtain ⟨Xc0, Xc1, Xc2, Xc3⟩ := cells_4 X;have Xlt := (ltH X);obtain ⟨Cc0, Cc1, Cc2, Cc3, Cc4, Cc5, Cc6, Cc7, Cc8⟩ := cells_core C;have Clt := (ltH C);go_wp2_with fail
   clear Xc0 Xc1 Xc2 Xc3 Xlt Cc0 Cc1 Cc2 Cc3 Cc4 Cc5 Cc6 Cc7 Cc8 Clt;refine (z.out (by first | rfl | trivial) _ B).mono ?_;rintro e o ⟨rfl, a⟩;have U : m.heap.size ≤ o.heap.size := a.size;replace B := below_step B a;replace X := row_keep a X;replace C := row_keep a C;clear a;cases q3
   ·skip
    obtain ⟨Xc0, Xc1, Xc2, Xc3⟩ := cells_4 X;have Xlt := (ltH X);obtain ⟨Cc0, Cc1, Cc2, Cc3, Cc4, Cc5, Cc6, Cc7, Cc8⟩ := cells_core C;have Clt := (ltH C);have g : Hid _ := B;clear B X C;go_wp2;go_ret
    exact ⟨by simp, g.out⟩
   ·skip
    obtain ⟨Xc0, Xc1, Xc2, Xc3⟩ := cells_4 X;have Xlt := (ltH X);obtain ⟨Cc0, Cc1, Cc2, Cc3, Cc4, Cc5, Cc6, Cc7, Cc8⟩ := cells_core C;have Clt := (ltH C);go_wp2_with fail
    clear Xc0 Xc1 Xc2 Xc3 Xlt Cc0 Cc1 Cc2 Cc3 Cc4 Cc5 Cc6 Cc7 Cc8 Clt;refine (S.out _).mono ?_;rintro e A ⟨rfl, a⟩;have O : o.heap.size ≤ A.heap.size := a.size;replace B := below_step B a;replace X := row_keep a X;replace C := row_keep a C;clear a;obtain ⟨Xc0, Xc1, Xc2, Xc3⟩ := cells_4 X;have Xlt := (ltH X);obtain ⟨Cc0, Cc1, Cc2, Cc3, Cc4, Cc5, Cc6, Cc7, Cc8⟩ := cells_core C;have Clt := (ltH C);have g : Hid _ := B;clear B X C;go_wp2;go_ret
    exact ⟨by simp, g.out⟩
  ·have zt : (kp == 0) = false := by simp [f]
   have HZ : Hid (¬ kp = 0) := f;clear f;obtain ⟨Xc0, Xc1, Xc2, Xc3⟩ := cells_4 X;have Xlt := (ltH X);obtain ⟨Cc0, Cc1, Cc2, Cc3, Cc4, Cc5, Cc6, Cc7, Cc8⟩ := cells_core C;have Clt := (ltH C);have g : Hid _ := B;clear B X C;go_wp2;go_ret
   exact ⟨by simp [HZ.out], g.out⟩
end Go.Proofs.YtcocbafhcpdheaaGreatDoor
