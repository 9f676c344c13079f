
/- The contracts of MemoryOk, NewMemory, ReadLine and WriteLine, of the program: what they answer, in new memory. Conditions: lengths that a machine can hold. -/
import Derived.Test.YtcnnojfkpkmdmaaMems7
namespace Go.Proofs.Ytcnnojfkpkmdmaa
open Go.ChangeShapes Go.WideShapes Go.ChangeAt Go.RowKit

def newM (n : Int) : List (List Int) := if betw n 1 16 then List.replicate n.toNat [0, 0] else []
def readL (xss : List (List Int)) (k : Int) : List Int := if memOk xss && betw k 0 ((xss.length : Int) - 1) then xss.getD k.toNat [] else []
def wrC (xss : List (List Int)) (k : Int) (ys : List Int) (m : Int) : Bool := betw k 0 ((xss.length : Int) - 1) && (isL ys && betw m 0 3)
def wrB (xss : List (List Int)) (k : Int) (ys : List Int) (m : Int) : Bool := memOk xss && wrC xss k ys m
def wrX (xss : List (List Int)) (k : Int) (ys : List Int) (m : Int) : List (List Int) := if wrC xss k ys m then xss.set k.toNat (maskL (xss.getD k.toNat []) ys m) else xss
def wrM (xss : List (List Int)) (k : Int) (ys : List Int) (m : Int) : List (List Int) :=
  if memOk xss then wrX xss k ys m else []

theorem memOk_len {xss : List (List Int)} (h : memOk xss = true) : 1 ≤ xss.length ∧ xss.length ≤ 16 := by
  unfold memOk at h
  rw [Bool.and_eq_true] at h
  have := h.1
  simp [betw] at this
  omega
theorem memOk_get {xss : List (List Int)} (h : memOk xss = true) {j : Nat} {xs : List Int} (hx : xss[j]? = some xs) : isL xs = true := by
  unfold memOk at h
  rw [Bool.and_eq_true, List.all_eq_true] at h
  exact h.2 xs (List.mem_of_getElem? hx)
theorem betw_nat {k : Int} {n : Nat} (h : betw k 0 ((n : Int) - 1) = true) : ∃ j : Nat, k = j ∧ j < n := by
  simp [betw] at h
  exact ⟨k.toNat, by omega, by omega⟩
theorem prs_zero (n : Nat) : prs (List.replicate (n * 2) 0) n = List.replicate n [0, 0] := by
  apply List.ext_getElem?
  intro i
  by_cases hi : i < n
  · rw [prs_get hi, List.getElem?_replicate, if_pos hi]
    simp [pr, List.getD_eq_getElem?_getD, show i * 2 < n * 2 by omega, show i * 2 + 1 < n * 2 by omega]
  · rw [List.getElem?_eq_none (by rw [prs_len]; omega), List.getElem?_eq_none (by simp; omega)]

set_option maxHeartbeats 400000 in
theorem implMemoryOk_any (a : Option Addr) (xss : List (List Int)) (cap : Nat) (w : World) (h : ReadsM w a xss) (hm : xss.length ≤ 9223372036854775807) :
    Calls Try.prog 26 #[.slice a xss.length cap] w fun e w' => e = .returned (.bool (memOk xss)) ∧ Below w.heap.size w w' := by
  go_enter Try.func26, Try.ntmps26
  go_wp2_with fail
  refine (rowOf_any _ xss _ _ h hm).mono ?_
  rintro e w1 ⟨v, rfl, b1, _⟩
  go_wp2
  go_ret
  exact ⟨rfl, b1⟩

set_option maxHeartbeats 400000 in
theorem implNewMemory_any (n : Int) (w : World) :
    Calls Try.prog 34 #[.int .i64 n] w fun e w' => ∃ v, e = .returned v ∧ MadeM w w' v (newM n) := by
  cases hn : betw n 1 16
  · have HN : newM n = [] := by unfold newM; rw [hn]; rfl
    rw [HN]
    go_enter Try.func34, Try.ntmps34
    go_wp2_with (go_at_call 33; refine (linesOk_any _ _).mono ?_; rintro e w' ⟨rfl, rfl⟩)
    go_ret
    exact ⟨_, rfl, madeM_none _ _ rfl⟩
  · obtain ⟨j, rfl, hj⟩ : ∃ j : Nat, n = j ∧ j ≤ 16 := by simp [betw] at hn; exact ⟨n.toNat, by omega, by omega⟩
    have HN : newM (j : Int) = prs (List.replicate (j * 2) 0) j := by unfold newM; rw [hn, prs_zero]; rfl
    rw [HN]
    clear HN
    have HZ : Hid ((List.replicate (j * 2) (0 : Int)).length = j * 2) := List.length_replicate
    go_enter Try.func34, Try.ntmps34
    go_wp2_with (go_at_call 33; refine (linesOk_any _ _).mono ?_; rintro e w' ⟨rfl, hw'⟩; rw [hw']; clear hw' w')
    refine (newRow_any _ _ hj).mono ?_
    rintro e w1 ⟨v, rfl, g, c, rfl, l1, l1', o1, b1⟩
    generalize hzs : List.replicate (j * 2) (0 : Int) = zs at o1 HZ ⊢
    have HE : Hid (List.replicate (j * 2) (0 : Int) = zs) := hzs
    clear hzs
    go_wp2_with fail
    refine (memory_any _ g c j zs _ o1 HZ.out hj).mono ?_
    rintro e w2 ⟨v, rfl, mm⟩
    rw [← HE.out] at mm
    go_wp2
    go_ret
    exact ⟨_, rfl, madeM_step b1 mm⟩

end Go.Proofs.Ytcnnojfkpkmdmaa
