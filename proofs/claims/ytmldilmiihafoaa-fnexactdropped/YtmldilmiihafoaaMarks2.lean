/- The contracts of the laws' own helpers: marks of a store and of a way that come by value, and whether they are held. Conditions: lengths that a machine can hold. -/
import Derived.Test.YtmldilmiihafoaaMarks
import Derived.Test.YtmldilmiihafoaaFirsts
namespace Go.Proofs.Ytmldilmiihafoaa
open Go.ChangeShapes Go.WideShapes Go.ChangeAt Go.RowKit
set_option linter.unusedVariables false

/-- What lies in a world, of a foot. -/
def Old (w : World) (S : Foot) : Foot := fun k => S k ∧ k < w.heap.size
theorem own_old {α : Type} {R : Rep α} {w : World} {S : Foot} {cs : List Value} {x : α} (h : R.own w S cs x) : R.own w (Old w S) cs x :=
  R.own_mono (R.own_tight h) fun k hk => ⟨hk.1, by obtain ⟨_, cur, t, _, hh⟩ := hk; exact (Array.getElem?_eq_some_iff.1 hh).1⟩
theorem old_sub {w : World} {S : Foot} : Sub (Old w S) S := fun _ h => h.1
theorem own_box {α : Type} {R : Rep α} {w : World} {S : Foot} {cs : List Value} {x : α} (o : Obj) (h : R.own w S cs x) : R.own (w.alloc o) S cs x := R.own_keep h fun k _ hl => Below.heap_alloc w o k hl
theorem chg_from_box {w w' : World} {S : Foot} {o : Obj} (h : Chg S (w.alloc o) w') : Chg S w w' :=
  ⟨h.os, h.tape, h.output, Nat.le_trans (by simp) h.size, fun k hk hn => (h.block k (by simp; omega) hn).trans (Below.heap_alloc w o k hk)⟩

def markC (k : Int) (c : List (List (Int × Int × List Int)) × List Int) : List (List (Int × Int × List Int)) × List Int := (slmark waysM k c.1, slmark intM (k + slcnt waysM c.1) c.2)
def cntC (c : List (List (Int × Int × List Int)) × List Int) : Nat := slcnt waysM c.1 + slcnt intM c.2

set_option maxHeartbeats 1000000 in
theorem markCache_rep (S : Foot) (u v : Value) (k : Int) (c : List (List (Int × Int × List Int)) × List Int) (w : World) (h0 : 0 ≤ k) (h1 : k ≤ 72057594037927936) (hm : cntC c ≤ 72057594037927936) (hln : c.1.length ≤ 72057594037927936) (h : cacheR.own w S [u, v] c) :
    Calls Try.prog 33 #[.agg #[u, v], .int .i64 k] w fun e' w' => e' = .returned (.int .i64 (k + cntC c)) ∧ cacheR.own w' S [u, v] (markC k c) ∧ Chg S w w' := by
  obtain ⟨u', v', S1, S2, e, o1, o2, a1, a2, d⟩ := cache_own h
  simp only [List.cons.injEq, and_true] at e
  obtain ⟨rfl, rfl⟩ := e
  obtain ⟨a, ca, rfl⟩ := slown_val o1
  obtain ⟨b, cb, rfl⟩ := slown_val o2
  have hcnt : cntC c = slcnt waysM c.1 + slcnt intM c.2 := rfl
  have X := heap_at w (.cells #[.slice a c.1.length ca, .slice b c.2.length cb] 27)
  have HA := own_box (.cells #[.slice a c.1.length ca, .slice b c.2.length cb] 27) (own_old o1)
  have HB := own_box (.cells #[.slice a c.1.length ca, .slice b c.2.length cb] 27) (own_old o2)
  have dd : Dis (Old w S1) (Old w S2) := d.sub old_sub old_sub
  have hn1 : ¬ Old w S1 w.heap.size := fun h => by have := h.2; omega
  clear h o1 o2 d
  have C1 := markWaySS_rep (Old w S1) _ k c.1 _ h0 (by omega) (by omega) (by omega) HA
  have HB' : Hid _ := HB
  have HX : Hid _ := X
  have HD : Hid _ := And.intro dd (And.intro hn1 (And.intro a1 a2))
  clear X HA HB dd hn1 a1 a2
  generalize hT : slcnt waysM c.1 = T at C1 hcnt
  go_enter Try.func33, Try.ntmps33
  go_wp2_with fail
  refine C1.mono ?_
  rintro e w1 ⟨rfl, p1, p2⟩
  obtain ⟨dd, hn1, a1, a2⟩ := HD.out
  have X1 := (p2.block w.heap.size (by simp) hn1).trans HX.out
  have B1 := own_chg HB'.out p2 dd.symm
  obtain ⟨x0, x1⟩ := cell_two X1
  have HP : Hid _ := And.intro p1 p2
  have HB1 : Hid _ := B1
  clear p1 p2 B1 C1 X1 HB' HX
  go_wp2_with fail
  refine (markInt64S_rep (Old w S2) _ _ c.2 _ (by omega) (by omega) (by omega) HB1.out).mono ?_
  rintro e w2 ⟨rfl, q1, q2⟩
  obtain ⟨p1, p2⟩ := HP.out
  have HF : Hid _ := And.intro (own_chg p1 q2 dd) (And.intro q1 (chg_from_box ((p2.mono (old_sub.trans a1)).trans (q2.mono (old_sub.trans a2)))))
  clear p1 p2 q1 q2 x0 x1 HP HB1
  go_wp2
  go_ret
  obtain ⟨r1, r2, r3⟩ := HF.out
  have hE : (k : Int) + (T : Int) + (slcnt intM c.2 : Int) = k + (cntC c : Int) := by omega
  refine ⟨ret_int hE, ⟨[_], [_], Old w S1, Old w S2, rfl, ?_, ?_, old_sub.trans a1, old_sub.trans a2, dd⟩, r3⟩
  · have : (markC k c).1.length = c.1.length := slmark_len _ _ _
    exact r1
  · have e2 : (markC k c).2 = slmark intM (k + (T : Int)) c.2 := by rw [← hT]; rfl
    rw [e2]
    exact r2

set_option maxHeartbeats 1000000 in
theorem markWay_rep (S : Foot) (l s : Int) (v : Value) (k : Int) (d : List Int) (w : World) (h0 : 0 ≤ k) (h1 : k ≤ 72057594037927936) (hm : slcnt intM d ≤ 72057594037927936) (h : intsR.own w S [v] d) :
    Calls Try.prog 34 #[.agg #[.int .i64 l, .int .i64 s, v], .int .i64 k] w fun e' w' => e' = .returned (.int .i64 (k + slcnt intM d)) ∧ intsR.own w' S [v] (slmark intM k d) ∧ Chg S w w' := by
  obtain ⟨a, ca, rfl⟩ := slown_val h
  have HA := own_box (.cells #[.int .i64 l, .int .i64 s, .slice a d.length ca] 29) h
  have C1 := markInt64S_rep S _ k d _ h0 (by omega) (by omega) HA
  clear h HA
  go_enter Try.func34, Try.ntmps34
  go_wp2_with fail
  refine C1.mono ?_
  rintro e w1 ⟨rfl, p1, p2⟩
  have p3 := chg_from_box p2
  clear p2 C1
  go_wp2
  go_ret
  exact ⟨rfl, p1, p3⟩

set_option maxHeartbeats 1000000 in
theorem heldCache_rep (a b : Option Addr) (ca cb : Nat) (k : Int) (c : List (List (Int × Int × List Int)) × List Int) (w : World) (h0 : 0 ≤ k) (h1 : k ≤ 72057594037927936) (hm : cntC c ≤ 72057594037927936) (hln : c.1.length ≤ 72057594037927936) (r1 : SlRd waysR w a (markC k c).1) (r2 : SlRd intR w b (markC k c).2) :
    Calls Try.prog 35 #[.agg #[.slice a c.1.length ca, .slice b c.2.length cb], .int .i64 k] w fun e' w' => e' = .returned (.int .i64 (k + cntC c)) ∧ Below w.heap.size w w' := by
  have hcnt : cntC c = slcnt waysM c.1 + slcnt intM c.2 := rfl
  have B := box_below w (.cells #[.slice a c.1.length ca, .slice b c.2.length cb] 27)
  have X := heap_at w (.cells #[.slice a c.1.length ca, .slice b c.2.length cb] 27)
  have C1 := heldWaySS_rep a ca k c.1 _ h0 (by omega) (by omega) (by omega) (slrd_next r1 B)
  have R2 : Hid (SlRd intR (w.alloc (.cells #[.slice a c.1.length ca, .slice b c.2.length cb] 27)) b (slmark intM (k + slcnt waysM c.1) c.2)) := slrd_next r2 B
  clear r1 r2
  generalize hT : slcnt waysM c.1 = T at C1 hcnt R2
  have n1 : ¬ (k + (T : Int) < 0) := by omega
  have n2 : ¬ (k + (T : Int) + (slcnt intM c.2 : Int) < 0) := by omega
  have hE : Hid ((k : Int) + (T : Int) + (slcnt intM c.2 : Int) = k + (cntC c : Int)) := by unfold Hid; omega
  obtain ⟨x0, x1⟩ := cell_two X
  go_enter Try.func35, Try.ntmps35
  go_wp2_with fail
  refine C1.mono ?_
  rintro e w1 ⟨rfl, hw1⟩
  rw [hw1]
  clear hw1 w1
  go_wp2_with fail
  refine (heldInt64S_rep b cb _ c.2 _ (by omega) (by omega) (by omega) R2.out).mono ?_
  rintro e w2 ⟨rfl, hw2⟩
  rw [hw2]
  clear hw2 w2
  go_wp2
  go_ret
  exact ⟨ret_int hE.out, B⟩


end Go.Proofs.Ytmldilmiihafoaa
