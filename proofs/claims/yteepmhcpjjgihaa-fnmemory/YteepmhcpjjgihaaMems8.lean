/- The contracts of MemoryOk, NewMemory, ReadLine and WriteLine, of the program: what they answer, in new memory. Conditions: lengths that a machine can hold. -/
import Derived.Test.YteepmhcpjjgihaaMems7
namespace Go.Proofs.Yteepmhcpjjgihaa
open Go.ChangeShapes Go.WideShapes Go.ChangeAt Go.RowKit

def newM (n : Int) : List (List Int) := if betw n 1 16 then List.replicate n.toNat [0, 0] else []
def readL (xss : List (List Int)) (k : Int) : List Int := if memOk xss && betw k 0 ((xss.length : Int) - 1) then xss.getD k.toNat [] else []
def wrC (xss : List (List Int)) (k : Int) (ys : List Int) (m : Int) : Bool := betw k 0 ((xss.length : Int) - 1) && (isL ys && betw m 0 3)
def wrB (xss : List (List Int)) (k : Int) (ys : List Int) (m : Int) : Bool := memOk xss && wrC xss k ys m
def wrX (xss : List (List Int)) (k : Int) (ys : List Int) (m : Int) : List (List Int) := if wrC xss k ys m then xss.set k.toNat (maskL (xss.getD k.toNat []) ys m) else xss
def wrM (xss : List (List Int)) (k : Int) (ys : List Int) (m : Int) : List (List Int) :=
  if memOk xss then wrX xss k ys m else []

theorem memOk_len {xss : List (List Int)} (h : memOk xss = true) : 1 ≤ xss.length ∧ xss.length ≤ 16 := by
  unfold memOk at h
  rw [Bool.and_eq_true] at h
  have := h.1
  simp [betw] at this
  omega
theorem memOk_get {xss : List (List Int)} (h : memOk xss = true) {j : Nat} {xs : List Int} (hx : xss[j]? = some xs) : isL xs = true := by
  unfold memOk at h
  rw [Bool.and_eq_true, List.all_eq_true] at h
  exact h.2 xs (List.mem_of_getElem? hx)
theorem betw_nat {k : Int} {n : Nat} (h : betw k 0 ((n : Int) - 1) = true) : ∃ j : Nat, k = j ∧ j < n := by
  simp [betw] at h
  exact ⟨k.toNat, by omega, by omega⟩
theorem prs_zero (n : Nat) : prs (List.replicate (n * 2) 0) n = List.replicate n [0, 0] := by
  apply List.ext_getElem?
  intro i
  by_cases hi : i < n
  · rw [prs_get hi, List.getElem?_replicate, if_pos hi]
    simp [pr, List.getD_eq_getElem?_getD, show i * 2 < n * 2 by omega, show i * 2 + 1 < n * 2 by omega]
  · rw [List.getElem?_eq_none (by rw [prs_len]; omega), List.getElem?_eq_none (by simp; omega)]

set_option maxHeartbeats 400000 in
theorem implMemoryOk_any (a : Option Addr) (xss : List (List Int)) (cap : Nat) (w : World) (h : ReadsM w a xss) (hm : xss.length ≤ 9223372036854775807) :
    Calls Try.prog 20 #[.slice a xss.length cap] w fun e w' => e = .returned (.bool (memOk xss)) ∧ Below w.heap.size w w' := by
  go_enter Try.func20, Try.ntmps20
  go_wp2_with fail
  refine (rowOf_any _ xss _ _ h hm).mono ?_
  rintro e w1 ⟨v, rfl, b1, _⟩
  go_wp2
  go_ret
  exact ⟨rfl, b1⟩

set_option maxHeartbeats 400000 in
theorem implNewMemory_any (n : Int) (w : World) :
    Calls Try.prog 18 #[.int .i64 n] w fun e w' => ∃ v, e = .returned v ∧ MadeM w w' v (newM n) := by
  cases hn : betw n 1 16
  · have HN : newM n = [] := by unfold newM; rw [hn]; rfl
    rw [HN]
    go_enter Try.func18, Try.ntmps18
    go_wp2_with (go_at_call 48; refine (linesOk_any _ _).mono ?_; rintro e w' ⟨rfl, rfl⟩)
    go_ret
    exact ⟨_, rfl, madeM_none _ _ rfl⟩
  · obtain ⟨j, rfl, hj⟩ : ∃ j : Nat, n = j ∧ j ≤ 16 := by simp [betw] at hn; exact ⟨n.toNat, by omega, by omega⟩
    have HN : newM (j : Int) = prs (List.replicate (j * 2) 0) j := by unfold newM; rw [hn, prs_zero]; rfl
    rw [HN]
    clear HN
    have HZ : Hid ((List.replicate (j * 2) (0 : Int)).length = j * 2) := List.length_replicate
    go_enter Try.func18, Try.ntmps18
    go_wp2_with (go_at_call 48; refine (linesOk_any _ _).mono ?_; rintro e w' ⟨rfl, hw'⟩; rw [hw']; clear hw' w')
    refine (newRow_any _ _ hj).mono ?_
    rintro e w1 ⟨v, rfl, g, c, rfl, l1, l1', o1, b1⟩
    generalize hzs : List.replicate (j * 2) (0 : Int) = zs at o1 HZ ⊢
    have HE : Hid (List.replicate (j * 2) (0 : Int) = zs) := hzs
    clear hzs
    go_wp2_with fail
    refine (memory_any _ g c j zs _ o1 HZ.out hj).mono ?_
    rintro e w2 ⟨v, rfl, mm⟩
    rw [← HE.out] at mm
    go_wp2
    go_ret
    exact ⟨_, rfl, madeM_step b1 mm⟩

set_option maxHeartbeats 1000000 in
theorem implReadLine_any (a : Option Addr) (xss : List (List Int)) (cap : Nat) (k : Int) (w : World) (h : ReadsM w a xss) (hm : xss.length ≤ 9223372036854775807) :
    Calls Try.prog 12 #[.slice a xss.length cap, .int .i64 k] w fun e w' => ∃ v, e = .returned v ∧ Made w w' v (readL xss k) := by
  cases hk : memOk xss
  · have HN : readL xss k = [] := by unfold readL; rw [hk]; rfl
    rw [HN]
    go_enter Try.func12, Try.ntmps12
    go_wp2_with fail
    refine (rowOf_any _ xss _ _ h hm).mono ?_
    rintro e w1 ⟨v, rfl, b1, _⟩
    rw [hk]
    go_wp2
    go_ret
    exact ⟨_, rfl, made_step b1 (made_none _ _ rfl)⟩
  · have hl := memOk_len hk
    cases hb : betw k 0 ((xss.length : Int) - 1)
    · have HN : readL xss k = [] := by unfold readL; rw [hk, hb]; rfl
      rw [HN]
      clear HN
      go_enter Try.func12, Try.ntmps12
      go_wp2_with fail
      refine (rowOf_any _ xss _ _ h hm).mono ?_
      rintro e w1 ⟨v, rfl, b1, m1⟩
      obtain ⟨zs, hz, hp, g, c, rfl, l1, l1', o1, _⟩ := m1 hk
      rw [hk]
      have HZ : Hid _ := hz
      clear hz m1 hp
      go_wp2_with (go_at_call 41; refine (rowHas_any _ xss.length _ _ _ _ hl.2 HZ.out).mono ?_; rintro e w' ⟨rfl, hw'⟩; rw [hw']; clear hw' w')
      go_ret
      exact ⟨_, rfl, made_step b1 (made_none _ _ rfl)⟩
    · obtain ⟨j, rfl, hj⟩ := betw_nat hb
      go_enter Try.func12, Try.ntmps12
      go_wp2_with fail
      refine (rowOf_any _ xss _ _ h hm).mono ?_
      rintro e w1 ⟨v, rfl, b1, m1⟩
      obtain ⟨zs, hz, hp, g, c, rfl, l1, l1', o1, _⟩ := m1 hk
      rw [hk]
      have HN : Hid (readL xss j = pr zs j) := by
        have := prs_get (zs := zs) hj
        rw [hp] at this
        unfold Hid readL
        rw [hk, hb]
        simp [List.getD_eq_getElem?_getD, this]
      have HZ : Hid _ := hz
      clear hz m1 hp
      go_wp2_with (first
        | (go_at_call 41; refine (rowHas_any _ xss.length _ _ _ _ hl.2 HZ.out).mono ?_; rintro e w' ⟨rfl, hw'⟩; rw [hw']; clear hw' w')
        | (go_at_call 42; refine (lineAt_any _ _ _ _ _ _ o1 (by have := HZ.out; omega) (by have := HZ.out; omega)).mono ?_; rintro e w2 ⟨v, rfl, mm⟩))
      go_ret
      rw [HN.out]
      exact ⟨_, rfl, made_step b1 mm⟩

set_option maxHeartbeats 1000000 in
theorem implWriteLine_no (a a2 : Option Addr) (xss : List (List Int)) (ys : List Int) (cap cap2 : Nat) (k m : Int) (w : World) (h : ReadsM w a xss) (hm : xss.length ≤ 9223372036854775807) (hk : memOk xss = false) :
    Calls Try.prog 10 #[.slice a xss.length cap, .int .i64 k, .slice a2 ys.length cap2, .int .i64 m] w fun e w' => ∃ v, e = .returned (.tuple #[v, .bool false]) ∧ MadeM w w' v [] := by
  go_enter Try.func10, Try.ntmps10
  go_wp2_with fail
  refine (rowOf_any _ xss _ _ h hm).mono ?_
  rintro e w1 ⟨v, rfl, b1, _⟩
  rw [hk]
  go_wp2
  go_ret2
  exact ⟨_, rfl, madeM_step b1 (madeM_none _ _ rfl)⟩

set_option maxHeartbeats 1000000 in
theorem implWriteLine_yes (a a2 : Option Addr) (xss : List (List Int)) (ys : List Int) (cap cap2 : Nat) (k m : Int) (w : World) (h : ReadsM w a xss) (h2 : Reads w a2 ys) (hm : xss.length ≤ 9223372036854775807) (hk : memOk xss = true) :
    Calls Try.prog 10 #[.slice a xss.length cap, .int .i64 k, .slice a2 ys.length cap2, .int .i64 m] w fun e w' => ∃ v, e = .returned (.tuple #[v, .bool (wrC xss k ys m)]) ∧ MadeM w w' v (wrX xss k ys m) := by
  have hl := memOk_len hk
  go_enter Try.func10, Try.ntmps10
  go_wp2_with fail
  refine (rowOf_any _ xss _ _ h hm).mono ?_
  rintro e w1 ⟨v, rfl, b1, m1⟩
  obtain ⟨zs, hz, hp, g, c, rfl, l1, l1', o1, _⟩ := m1 hk
  rw [hk]
  have HZ : Hid _ := hz
  clear hz m1
  have R1 := reads_below h2 b1
  cases hb : betw k 0 ((xss.length : Int) - 1)
  · have HN : wrC xss k ys m = false := by unfold wrC; rw [hb]; rfl
    have HX : Hid (wrX xss k ys m = xss) := by unfold Hid wrX; rw [HN]; rfl
    have HNN : Hid _ := HN
    clear HN
    go_wp2_with fail
    refine (write_off g c xss.length _ zs ys _ _ _ _ HZ.out hl.2 hb).mono ?_
    rintro e w2 ⟨rfl, hw2⟩
    rw [hw2]
    clear hw2 w2
    go_wp2_with fail
    refine (memory_any _ g c xss.length zs _ o1 HZ.out hl.2).mono ?_
    rintro e w3 ⟨v, rfl, mm⟩
    rw [hp] at mm
    go_wp2
    rw [HNN.out, HX.out]
    go_ret2
    exact ⟨_, rfl, madeM_step b1 mm⟩
  · obtain ⟨j, rfl, hj⟩ := betw_nat hb
    have hpr := prs_get (zs := zs) hj
    rw [hp] at hpr
    have hisl := memOk_get hk hpr
    cases hc : (isL ys && betw m 0 3)
    · have HN : wrC xss j ys m = false := by unfold wrC; rw [hb, hc]; rfl
      have HX : Hid (wrX xss j ys m = xss) := by unfold Hid wrX; rw [HN]; rfl
      have HNN : Hid _ := HN
      clear HN
      go_wp2_with fail
      refine (write_not _ g c xss.length _ j zs ys _ _ _ o1 R1 HZ.out hl.2 hj (by rw [Bool.and_assoc, hc, Bool.and_false])).mono ?_
      rintro e w2 ⟨rfl, b2⟩
      have o2 := owni_below o1 b2 (owni_lt o1).2
      have B2 := below_step b1 b2
      clear o1 R1 b2
      go_wp2_with fail
      refine (memory_any _ g c xss.length zs _ o2 HZ.out hl.2).mono ?_
      rintro e w3 ⟨v, rfl, mm⟩
      rw [hp] at mm
      go_wp2
      rw [HNN.out, HX.out]
      go_ret2
      exact ⟨_, rfl, madeM_step B2 mm⟩
    · have HN : wrC xss j ys m = true := by unfold wrC; rw [hb, hc]; rfl
      have HNN : Hid (wrC xss j ys m = true) := HN
      clear HN
      obtain ⟨p, q, hpq⟩ := mask_two (xs := pr zs j) (ys := ys) (m := m) (by rw [Bool.and_assoc, hc, Bool.and_true]; exact hisl)
      have HX : Hid (wrX xss j ys m = prs ((zs.set (j * 2) p).set (j * 2 + 1) q) xss.length) := by
        unfold Hid wrX
        rw [HNN.out, prs_set zs xss.length j p q (by have := HZ.out; omega), hp, if_pos rfl, Int.toNat_natCast, List.getD_eq_getElem?_getD, hpr, Option.getD_some, hpq]
      have HPQ : Hid _ := hpq
      clear hpq
      go_wp2_with fail
      refine (write_yes _ g c xss.length _ j zs ys _ _ p q _ o1 R1 HZ.out hl.2 hj HPQ.out).mono ?_
      rintro e w2 ⟨rfl, o2, gr⟩
      have HZ2 : Hid (((zs.set (j * 2) p).set (j * 2 + 1) q).length = xss.length * 2) := by
        unfold Hid
        rw [List.length_set, List.length_set]
        exact HZ.out
      have HL : Hid (((zs.set (j * 2) p).set (j * 2 + 1) q).length = zs.length) := by
        unfold Hid
        rw [List.length_set, List.length_set]
      have B2 := b1.grown gr b1.size (by intro x hx; cases hx; exact l1)
      clear o1 R1 gr
      generalize (zs.set (j * 2) p).set (j * 2 + 1) q = zs2 at o2 HZ2 HL HX ⊢
      rw [← HL.out]
      go_wp2_with fail
      refine (memory_any _ g c xss.length zs2 _ o2 HZ2.out hl.2).mono ?_
      rintro e w3 ⟨v, rfl, mm⟩
      go_wp2
      rw [HNN.out, HX.out]
      go_ret2
      exact ⟨_, rfl, madeM_step B2 mm⟩

theorem implWriteLine_any (a a2 : Option Addr) (xss : List (List Int)) (ys : List Int) (cap cap2 : Nat) (k m : Int) (w : World) (h : ReadsM w a xss) (h2 : Reads w a2 ys) (hm : xss.length ≤ 9223372036854775807) :
    Calls Try.prog 10 #[.slice a xss.length cap, .int .i64 k, .slice a2 ys.length cap2, .int .i64 m] w fun e w' => ∃ v, e = .returned (.tuple #[v, .bool (wrB xss k ys m)]) ∧ MadeM w w' v (wrM xss k ys m) := by
  unfold wrB wrM
  cases hk : memOk xss
  · exact implWriteLine_no a a2 xss ys cap cap2 k m w h hm hk
  · exact implWriteLine_yes a a2 xss ys cap cap2 k m w h h2 hm hk

end Go.Proofs.Yteepmhcpjjgihaa
