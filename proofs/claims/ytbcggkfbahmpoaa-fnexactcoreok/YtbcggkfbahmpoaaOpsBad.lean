
/- Whether every op of a list is right, of the program. No condition but a list that reads as told. -/
import Derived.Test.YtbcggkfbahmpoaaOps
import Derived.Test.YtbcggkfbahmpoaaProg11
namespace Go.Proofs.Ytbcggkfbahmpoaa
open Go.ChangeShapes Go.WideShapes Go.ChangeAt Go.RowKit
set_option linter.unusedVariables false

def badP {α : Type} (p : α → Bool) (xs : List α) : Int := match xs.findIdx? (fun u => !p u) with
  | some i => (i : Int)
  | none => -1
theorem badP_at {α : Type} {p : α → Bool} {xs : List α} {k : Nat} {u : α} (hu : xs[k]? = some u) (hp : p u = false) (hno : ∀ j v, j < k → xs[j]? = some v → p v = true) : badP p xs = (k : Int) := by
  have hk := (List.getElem?_eq_some_iff.1 hu).1
  have : xs.findIdx? (fun u => !p u) = some k := by
    rw [List.findIdx?_eq_some_iff_getElem]
    refine ⟨hk, ?_, fun j hj => ?_⟩
    · rw [List.getElem?_eq_getElem hk] at hu
      cases hu
      simp [hp]
    · have := hno j _ hj (List.getElem?_eq_getElem (by omega))
      simp [this]
  unfold badP
  rw [this]
theorem badP_no {α : Type} {p : α → Bool} {xs : List α} (hno : ∀ (j : Nat) (v : α), xs[j]? = some v → p v = true) : badP p xs = -1 := by
  have : xs.findIdx? (fun u => !p u) = none := by
    rw [List.findIdx?_eq_none_iff]
    intro u hu
    obtain ⟨j, hj⟩ := List.getElem?_of_mem hu
    simp [hno j u hj]
  unfold badP
  rw [this]
theorem badP_all {α : Type} (p : α → Bool) (xs : List α) : xs.all p = decide (badP p xs < 0) := by
  cases h : xs.all p
  · have h1 : ¬ ∀ x ∈ xs, p x = true := fun hh => by rw [List.all_eq_true.2 hh] at h; cases h
    cases hf : xs.findIdx? (fun u => !p u) with
    | none =>
      rw [List.findIdx?_eq_none_iff] at hf
      exact (h1 fun x hx => by have := hf x hx; simpa using this).elim
    | some i => simp [badP, hf]
  · rw [badP_no fun j v hv => List.all_eq_true.1 h v (List.mem_of_getElem? hv)]
    rfl
set_option maxHeartbeats 1000000 in
theorem opsOk1_any (x : OpD) (w : World) :
    Calls Try.prog 60 #[.agg #[.int .i64 x.1, .int .i64 x.2.1, .int .i64 x.2.2.1, .int .i64 x.2.2.2]] w fun e w' => e = .returned (.bool (!opOkD x)) ∧ Below w.heap.size w w' := by
  have B := box_below w (.cells #[.int .i64 x.1, .int .i64 x.2.1, .int .i64 x.2.2.1, .int .i64 x.2.2.2] 58)
  have HM : Hid (∀ W, Calls Try.prog 61 #[.agg #[.int .i64 x.1, .int .i64 x.2.1, .int .i64 x.2.2.1, .int .i64 x.2.2.2]] W fun e w' => e = .returned (.bool (opOkD x)) ∧ Below W.heap.size W w') := fun W => implOpOk_any x.1 x.2.1 x.2.2.1 x.2.2.2 W
  generalize opOkD x = q at HM ⊢
  go_enter Try.func60, Try.ntmps60
  go_wp2_with fail
  generalize w.alloc (.cells #[.int .i64 x.1, .int .i64 x.2.1, .int .i64 x.2.2.1, .int .i64 x.2.2.2] 58) = W0 at B ⊢
  refine (HM.out _).mono ?_
  rintro e w1 ⟨rfl, b1⟩
  go_wp2
  go_ret
  exact ⟨rfl, below_step B b1⟩

set_option maxHeartbeats 2000000 in
theorem indexBadO_any (a : Option Addr) (xs : List OpD) (cap : Nat) (w : World) (h : SlRd opR w a xs) (hm : xs.length ≤ maxLen) :
    Calls Try.prog 78 #[.slice a xs.length cap, .func (.func 60) #[] #[]] w fun e w' => e = .returned (.int .i64 (badP opOkD xs)) ∧ Below w.heap.size w w' := by
  have hm' : xs.length ≤ 9223372036854775807 := hm
  have H0 : Hid (∀ W, Below w.heap.size w W → SlRd opR W a xs) := fun W hb => slrd_keep h fun k hk => hb.block k hk
  clear h hm
  go_enter Try.func78, Try.ntmps78
  go_wp2
  go_loopw [8] (fun i wr => ∃ k : Nat, k ≤ xs.length ∧ i = .int .i64 k ∧ (∀ j v, j < k → xs[j]? = some v → opOkD v = true) ∧ Below w.heap.size w wr) (fun i _ => xs.length - (intOf i).toNat)
  case atStart => exact ⟨0, Nat.zero_le _, rfl, fun j v hj => by omega, Below.refl _ _⟩
  case round =>
    obtain ⟨k, hk, rfl, hno, BB⟩ := hrel
    by_cases hlt : k < xs.length
    · have hlt' : (k : Int) < (xs.length : Int) := by omega
      obtain ⟨x, hx⟩ : ∃ x, xs[k]? = some x := ⟨_, List.getElem?_eq_getElem hlt⟩
      obtain ⟨b, off, rfl, x0, x1, x2, x3, -⟩ := op_at (H0.out _ BB) hx
      have HC := opsOk1_any x wr
      have HX : Hid (xs[k]? = some x) := hx
      clear hx
      cases hb : opOkD x
      · have HR : Hid (badP opOkD xs = k) := badP_at HX.out hb hno
        rw [hb] at HC
        go_wp2_with fail
        refine HC.mono ?_
        rintro e w2 ⟨rfl, b2⟩
        replace BB := below_step BB b2
        clear b2 x0 x1 x2 x3
        go_wp2
        go_ret
        exact ⟨ret_int HR.out.symm, BB⟩
      · rw [hb] at HC
        go_wp2_with fail
        refine HC.mono ?_
        rintro e w2 ⟨rfl, b2⟩
        replace BB := below_step BB b2
        clear b2 x0 x1 x2 x3
        go_wp2
        go_roundw
        case rel =>
          refine ⟨k + 1, by omega, by go_num, fun j v hj hv => ?_, BB⟩
          by_cases he : j < k
          · exact hno j v he hv
          · have : j = k := by omega
            subst this
            rw [HX.out] at hv
            cases hv
            exact hb
        case measure => simp [intOf]; omega
    · have HR : Hid (badP opOkD xs = -1) := badP_no fun j v hv => hno j v (by have := (List.getElem?_eq_some_iff.1 hv).1; omega) hv
      go_wp2
      go_ret
      exact ⟨ret_int HR.out.symm, BB⟩

set_option maxHeartbeats 1000000 in
theorem containsBadO_any (a : Option Addr) (xs : List OpD) (cap : Nat) (w : World) (h : SlRd opR w a xs) (hm : xs.length ≤ maxLen) :
    Calls Try.prog 59 #[.slice a xs.length cap, .func (.func 60) #[] #[]] w fun e w' => e = .returned (.bool (!xs.all opOkD)) ∧ Below w.heap.size w w' := by
  have HI := indexBadO_any a xs cap w h hm
  have hab := badP_all opOkD xs
  clear h hm
  generalize badP opOkD xs = q at HI hab
  generalize xs.all opOkD = y at hab ⊢
  subst hab
  by_cases hq : q < 0
  · have hq2 : ¬ (0 ≤ q) := by omega
    go_enter Try.func59, Try.ntmps59
    go_wp2_with fail
    refine HI.mono ?_
    rintro e w1 ⟨rfl, b1⟩
    go_wp2
    go_ret
    exact ⟨by simp [hq], b1⟩
  · have hq2 : 0 ≤ q := by omega
    go_enter Try.func59, Try.ntmps59
    go_wp2_with fail
    refine HI.mono ?_
    rintro e w1 ⟨rfl, b1⟩
    go_wp2
    go_ret
    exact ⟨by simp [hq], b1⟩

def progB (xs : List OpD) : Bool := decide (xs.length ≤ 30) && xs.all opOkD
set_option maxHeartbeats 1000000 in
theorem implOpsOk_any (a : Option Addr) (xs : List OpD) (cap : Nat) (w : World) (h : SlRd opR w a xs) (hm : xs.length ≤ maxLen) :
    Calls Try.prog 31 #[.slice a xs.length cap] w fun e w' => e = .returned (.bool (progB xs)) ∧ Below w.heap.size w w' := by
  have HC := containsBadO_any a xs cap w h hm
  have hm' : xs.length ≤ 9223372036854775807 := hm
  unfold progB
  generalize xs.all opOkD = y at HC ⊢
  clear h hm
  by_cases hl : xs.length ≤ 30
  · have hl' : (xs.length : Int) ≤ 30 := by omega
    go_enter Try.func31, Try.ntmps31
    go_wp2_with fail
    refine HC.mono ?_
    rintro e w1 ⟨rfl, b1⟩
    go_wp2
    go_ret
    exact ⟨by simp [hl], b1⟩
  · have hl' : ¬ ((xs.length : Int) ≤ 30) := by omega
    go_enter Try.func31, Try.ntmps31
    go_wp2
    go_ret
    exact ⟨by simp, Below.refl _ _⟩
end Go.Proofs.Ytbcggkfbahmpoaa
