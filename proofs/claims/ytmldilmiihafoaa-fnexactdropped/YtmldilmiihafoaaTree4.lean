/- The contracts of the program's walk by labels that tells who goes, and of its Victim and VictimBut. No condition. -/
import Derived.Test.YtmldilmiihafoaaTree3
namespace Go.Proofs.Ytmldilmiihafoaa
open Go.ChangeShapes Go.WideShapes Go.ChangeAt Go.RowKit

def butL (xs : List Int) (k : Int) : Int := (xs.find? (fun x => !inB k x)).getD (-1)
theorem butL_hit {x k : Int} {xs : List Int} (h : inB k x = false) : butL (x :: xs) k = x := by simp [butL, h]
theorem butL_miss {x k : Int} {xs : List Int} (h : inB k x = true) : butL (x :: xs) k = butL xs k := by simp [butL, h]

set_option maxHeartbeats 400000 in
theorem bitOfPair_4 (p : Int) (h0 : 0 ≤ p) (h1 : p ≤ 1) (w : World) :
    Calls Try.prog 117 #[.int .i64 4, .int .i64 p] w fun e w' => e = .returned (.int .i64 (1 + p)) ∧ w' = w := by
  go_enter Try.func117, Try.ntmps117
  go_wp2
  go_ret
  exact ⟨rfl, rfl⟩

set_option maxHeartbeats 400000 in
theorem goes_1 (t k : Int) (w : World) :
    Calls Try.prog 112 #[.int .i64 t, .int .i64 1, .int .i64 k] w fun e w' => e = .returned (.int .i64 (butL [0] k)) ∧ w' = w := by
  cases h : inB k 0
  · have H : Hid (butL [0] k = 0) := by unfold Hid; simp [butL, h]
    go_enter Try.func112, Try.ntmps112
    go_wp2
    refine wp_scope_once 0 rfl ?_
    go_wp2
    go_step3
    refine ⟨rfl, ?_⟩
    go_wp2_with (go_at_call 119; refine (has_any _ _ _).mono ?_; rintro e w' ⟨rfl, rfl⟩)
    rw [Exit.noGoto_ret]
    go_ret
    exact ⟨ret_int H.out.symm, rfl⟩
  · have H : Hid (butL [0] k = -1) := by unfold Hid; simp [butL, h]
    go_enter Try.func112, Try.ntmps112
    go_wp2
    refine wp_scope_once 0 rfl ?_
    go_wp2
    go_step3
    refine ⟨rfl, ?_⟩
    go_wp2_with (go_at_call 119; refine (has_any _ _ _).mono ?_; rintro e w' ⟨rfl, rfl⟩)
    rw [Exit.noGoto_ret]
    go_ret
    exact ⟨ret_int H.out.symm, rfl⟩

set_option maxHeartbeats 1000000 in
theorem goes_2 (t k q b : Int) (w : World) (hq : toldI t 0 = q) (q0 : 0 ≤ q) (q1 : q ≤ 1) (hb : otherI q = b) :
    Calls Try.prog 112 #[.int .i64 t, .int .i64 2, .int .i64 k] w fun e w' => e = .returned (.int .i64 (butL [q, b] k)) ∧ w' = w := by
  have hq' : Hid _ := hq
  have hb' : Hid _ := hb
  clear hq hb
  cases h1 : inB k q
  · have H : Hid (butL [q, b] k = q) := by unfold Hid; simp [butL, *]
    go_enter Try.func112, Try.ntmps112
    go_wp2
    refine wp_scope_once 1 rfl ?_
    go_wp2
    go_step3
    refine ⟨rfl, ?_⟩
    go_wp2_with (first
      | (go_at_call 119; refine (has_any _ _ _).mono ?_; rintro e w' ⟨rfl, rfl⟩)
      | (go_at_call 117; refine (bitOfPair_at _ _ 0 (by omega) _).mono ?_; rintro e w' ⟨rfl, rfl⟩)
      | (go_at_call 118; refine (toldBy_at _ _ q hq'.out _).mono ?_; rintro e w' ⟨rfl, rfl⟩)
      | (go_at_call 116; refine (otherOf_at _ b hb'.out _).mono ?_; rintro e w' ⟨rfl, rfl⟩))
    rw [Exit.noGoto_ret]
    go_ret
    exact ⟨ret_int H.out.symm, rfl⟩
  cases h2 : inB k b
  · have H : Hid (butL [q, b] k = b) := by unfold Hid; simp [butL, *]
    go_enter Try.func112, Try.ntmps112
    go_wp2
    refine wp_scope_once 1 rfl ?_
    go_wp2
    go_step3
    refine ⟨rfl, ?_⟩
    go_wp2_with (first
      | (go_at_call 119; refine (has_any _ _ _).mono ?_; rintro e w' ⟨rfl, rfl⟩)
      | (go_at_call 117; refine (bitOfPair_at _ _ 0 (by omega) _).mono ?_; rintro e w' ⟨rfl, rfl⟩)
      | (go_at_call 118; refine (toldBy_at _ _ q hq'.out _).mono ?_; rintro e w' ⟨rfl, rfl⟩)
      | (go_at_call 116; refine (otherOf_at _ b hb'.out _).mono ?_; rintro e w' ⟨rfl, rfl⟩))
    go_step3
    go_wp2_with (first
      | (go_at_call 119; refine (has_any _ _ _).mono ?_; rintro e w' ⟨rfl, rfl⟩)
      | (go_at_call 117; refine (bitOfPair_at _ _ 0 (by omega) _).mono ?_; rintro e w' ⟨rfl, rfl⟩)
      | (go_at_call 118; refine (toldBy_at _ _ q hq'.out _).mono ?_; rintro e w' ⟨rfl, rfl⟩)
      | (go_at_call 116; refine (otherOf_at _ b hb'.out _).mono ?_; rintro e w' ⟨rfl, rfl⟩))
    rw [Exit.noGoto_ret]
    go_ret
    exact ⟨ret_int H.out.symm, rfl⟩
  · have H : Hid (butL [q, b] k = -1) := by unfold Hid; simp [butL, *]
    go_enter Try.func112, Try.ntmps112
    go_wp2
    refine wp_scope_once 1 rfl ?_
    go_wp2
    go_step3
    refine ⟨rfl, ?_⟩
    go_wp2_with (first
      | (go_at_call 119; refine (has_any _ _ _).mono ?_; rintro e w' ⟨rfl, rfl⟩)
      | (go_at_call 117; refine (bitOfPair_at _ _ 0 (by omega) _).mono ?_; rintro e w' ⟨rfl, rfl⟩)
      | (go_at_call 118; refine (toldBy_at _ _ q hq'.out _).mono ?_; rintro e w' ⟨rfl, rfl⟩)
      | (go_at_call 116; refine (otherOf_at _ b hb'.out _).mono ?_; rintro e w' ⟨rfl, rfl⟩))
    go_step3
    go_wp2_with (first
      | (go_at_call 119; refine (has_any _ _ _).mono ?_; rintro e w' ⟨rfl, rfl⟩)
      | (go_at_call 117; refine (bitOfPair_at _ _ 0 (by omega) _).mono ?_; rintro e w' ⟨rfl, rfl⟩)
      | (go_at_call 118; refine (toldBy_at _ _ q hq'.out _).mono ?_; rintro e w' ⟨rfl, rfl⟩)
      | (go_at_call 116; refine (otherOf_at _ b hb'.out _).mono ?_; rintro e w' ⟨rfl, rfl⟩))
    rw [Exit.noGoto_ret]
    go_ret
    exact ⟨ret_int H.out.symm, rfl⟩

set_option maxHeartbeats 2000000 in
theorem goes_4 (t k p q p' r b d : Int) (w : World) (hp : toldI t 0 = p) (p0 : 0 ≤ p) (p1 : p ≤ 1) (hq : toldI t (1 + p) = q) (q0 : 0 ≤ q) (q1 : q ≤ 1) (hb : otherI (p * 2 + q) = b)
    (hpp : otherI p = p') (pp0 : 0 ≤ p') (pp1 : p' ≤ 1) (hr : toldI t (1 + p') = r) (r0 : 0 ≤ r) (r1 : r ≤ 1) (hd : otherI (p' * 2 + r) = d) :
    Calls Try.prog 112 #[.int .i64 t, .int .i64 4, .int .i64 k] w fun e w' => e = .returned (.int .i64 (butL [p * 2 + q, b, p' * 2 + r, d] k)) ∧ w' = w := by
  have hp' : Hid _ := hp
  have hq' : Hid _ := hq
  have hb' : Hid _ := hb
  have hpp' : Hid _ := hpp
  have hr' : Hid _ := hr
  have hd' : Hid _ := hd
  clear hp hq hb hpp hr hd
  cases h1 : inB k (p * 2 + q)
  · have H : Hid (butL [p * 2 + q, b, p' * 2 + r, d] k = p * 2 + q) := by unfold Hid; simp [butL, *]
    go_enter Try.func112, Try.ntmps112
    go_wp2
    refine wp_scope_once 1 rfl ?_
    go_wp2_with fail
    refine (toldBy_at _ _ p hp'.out _).mono ?_
    rintro e w1 ⟨rfl, rfl⟩
    go_wp2_with fail
    go_step3
    go_wp2_with fail
    refine (bitOfPair_4 p p0 p1 _).mono ?_
    rintro e w1 ⟨rfl, rfl⟩
    go_wp2_with fail
    refine (toldBy_at _ _ q hq'.out _).mono ?_
    rintro e w1 ⟨rfl, rfl⟩
    go_wp2_with fail
    refine (has_any _ _ _).mono ?_
    rintro e w1 ⟨rfl, rfl⟩
    go_wp2_with fail
    simp only [Exit.jump]
    go_ret
    exact ⟨ret_int H.out.symm, rfl⟩
  cases h2 : inB k (b)
  · have H : Hid (butL [p * 2 + q, b, p' * 2 + r, d] k = b) := by unfold Hid; simp [butL, *]
    go_enter Try.func112, Try.ntmps112
    go_wp2
    refine wp_scope_once 1 rfl ?_
    go_wp2_with fail
    refine (toldBy_at _ _ p hp'.out _).mono ?_
    rintro e w1 ⟨rfl, rfl⟩
    go_wp2_with fail
    go_step3
    go_wp2_with fail
    refine (bitOfPair_4 p p0 p1 _).mono ?_
    rintro e w1 ⟨rfl, rfl⟩
    go_wp2_with fail
    refine (toldBy_at _ _ q hq'.out _).mono ?_
    rintro e w1 ⟨rfl, rfl⟩
    go_wp2_with fail
    refine (has_any _ _ _).mono ?_
    rintro e w1 ⟨rfl, rfl⟩
    go_wp2_with fail
    refine (otherOf_at _ b hb'.out _).mono ?_
    rintro e w1 ⟨rfl, rfl⟩
    go_wp2_with fail
    go_step3
    go_wp2_with fail
    refine (has_any _ _ _).mono ?_
    rintro e w1 ⟨rfl, rfl⟩
    go_wp2_with fail
    simp only [Exit.jump]
    go_ret
    exact ⟨ret_int H.out.symm, rfl⟩
  cases h3 : inB k (p' * 2 + r)
  · have H : Hid (butL [p * 2 + q, b, p' * 2 + r, d] k = p' * 2 + r) := by unfold Hid; simp [butL, *]
    go_enter Try.func112, Try.ntmps112
    go_wp2
    refine wp_scope_once 1 rfl ?_
    go_wp2_with fail
    refine (toldBy_at _ _ p hp'.out _).mono ?_
    rintro e w1 ⟨rfl, rfl⟩
    go_wp2_with fail
    go_step3
    go_wp2_with fail
    refine (bitOfPair_4 p p0 p1 _).mono ?_
    rintro e w1 ⟨rfl, rfl⟩
    go_wp2_with fail
    refine (toldBy_at _ _ q hq'.out _).mono ?_
    rintro e w1 ⟨rfl, rfl⟩
    go_wp2_with fail
    refine (has_any _ _ _).mono ?_
    rintro e w1 ⟨rfl, rfl⟩
    go_wp2_with fail
    refine (otherOf_at _ b hb'.out _).mono ?_
    rintro e w1 ⟨rfl, rfl⟩
    go_wp2_with fail
    go_step3
    go_wp2_with fail
    refine (has_any _ _ _).mono ?_
    rintro e w1 ⟨rfl, rfl⟩
    go_wp2_with fail
    refine (otherOf_at _ p' hpp'.out _).mono ?_
    rintro e w1 ⟨rfl, rfl⟩
    go_wp2_with fail
    go_step3
    refine ⟨rfl, ?_⟩
    go_wp2_with fail
    refine (bitOfPair_4 p' pp0 pp1 _).mono ?_
    rintro e w1 ⟨rfl, rfl⟩
    go_wp2_with fail
    refine (toldBy_at _ _ r hr'.out _).mono ?_
    rintro e w1 ⟨rfl, rfl⟩
    go_wp2_with fail
    refine (has_any _ _ _).mono ?_
    rintro e w1 ⟨rfl, rfl⟩
    go_wp2_with fail
    rw [Exit.noGoto_ret]
    go_ret
    exact ⟨ret_int H.out.symm, rfl⟩
  cases h4 : inB k (d)
  · have H : Hid (butL [p * 2 + q, b, p' * 2 + r, d] k = d) := by unfold Hid; simp [butL, *]
    go_enter Try.func112, Try.ntmps112
    go_wp2
    refine wp_scope_once 1 rfl ?_
    go_wp2_with fail
    refine (toldBy_at _ _ p hp'.out _).mono ?_
    rintro e w1 ⟨rfl, rfl⟩
    go_wp2_with fail
    go_step3
    go_wp2_with fail
    refine (bitOfPair_4 p p0 p1 _).mono ?_
    rintro e w1 ⟨rfl, rfl⟩
    go_wp2_with fail
    refine (toldBy_at _ _ q hq'.out _).mono ?_
    rintro e w1 ⟨rfl, rfl⟩
    go_wp2_with fail
    refine (has_any _ _ _).mono ?_
    rintro e w1 ⟨rfl, rfl⟩
    go_wp2_with fail
    refine (otherOf_at _ b hb'.out _).mono ?_
    rintro e w1 ⟨rfl, rfl⟩
    go_wp2_with fail
    go_step3
    go_wp2_with fail
    refine (has_any _ _ _).mono ?_
    rintro e w1 ⟨rfl, rfl⟩
    go_wp2_with fail
    refine (otherOf_at _ p' hpp'.out _).mono ?_
    rintro e w1 ⟨rfl, rfl⟩
    go_wp2_with fail
    go_step3
    refine ⟨rfl, ?_⟩
    go_wp2_with fail
    refine (bitOfPair_4 p' pp0 pp1 _).mono ?_
    rintro e w1 ⟨rfl, rfl⟩
    go_wp2_with fail
    refine (toldBy_at _ _ r hr'.out _).mono ?_
    rintro e w1 ⟨rfl, rfl⟩
    go_wp2_with fail
    refine (has_any _ _ _).mono ?_
    rintro e w1 ⟨rfl, rfl⟩
    go_wp2_with fail
    refine (otherOf_at _ d hd'.out _).mono ?_
    rintro e w1 ⟨rfl, rfl⟩
    go_wp2_with fail
    go_step3
    go_wp2_with fail
    refine (has_any _ _ _).mono ?_
    rintro e w1 ⟨rfl, rfl⟩
    go_wp2_with fail
    rw [Exit.noGoto_ret]
    go_ret
    exact ⟨ret_int H.out.symm, rfl⟩
  · have H : Hid (butL [p * 2 + q, b, p' * 2 + r, d] k = -1) := by unfold Hid; simp [butL, *]
    go_enter Try.func112, Try.ntmps112
    go_wp2
    refine wp_scope_once 1 rfl ?_
    go_wp2_with fail
    refine (toldBy_at _ _ p hp'.out _).mono ?_
    rintro e w1 ⟨rfl, rfl⟩
    go_wp2_with fail
    go_step3
    go_wp2_with fail
    refine (bitOfPair_4 p p0 p1 _).mono ?_
    rintro e w1 ⟨rfl, rfl⟩
    go_wp2_with fail
    refine (toldBy_at _ _ q hq'.out _).mono ?_
    rintro e w1 ⟨rfl, rfl⟩
    go_wp2_with fail
    refine (has_any _ _ _).mono ?_
    rintro e w1 ⟨rfl, rfl⟩
    go_wp2_with fail
    refine (otherOf_at _ b hb'.out _).mono ?_
    rintro e w1 ⟨rfl, rfl⟩
    go_wp2_with fail
    go_step3
    go_wp2_with fail
    refine (has_any _ _ _).mono ?_
    rintro e w1 ⟨rfl, rfl⟩
    go_wp2_with fail
    refine (otherOf_at _ p' hpp'.out _).mono ?_
    rintro e w1 ⟨rfl, rfl⟩
    go_wp2_with fail
    go_step3
    refine ⟨rfl, ?_⟩
    go_wp2_with fail
    refine (bitOfPair_4 p' pp0 pp1 _).mono ?_
    rintro e w1 ⟨rfl, rfl⟩
    go_wp2_with fail
    refine (toldBy_at _ _ r hr'.out _).mono ?_
    rintro e w1 ⟨rfl, rfl⟩
    go_wp2_with fail
    refine (has_any _ _ _).mono ?_
    rintro e w1 ⟨rfl, rfl⟩
    go_wp2_with fail
    refine (otherOf_at _ d hd'.out _).mono ?_
    rintro e w1 ⟨rfl, rfl⟩
    go_wp2_with fail
    go_step3
    go_wp2_with fail
    refine (has_any _ _ _).mono ?_
    rintro e w1 ⟨rfl, rfl⟩
    go_wp2_with fail
    rw [Exit.noGoto_ret]
    go_ret
    exact ⟨ret_int H.out.symm, rfl⟩

end Go.Proofs.Ytmldilmiihafoaa
