/- When a net is right, of the program and of its specification. No condition but a list that reads as told, of a length that a machine can hold. -/
import Derived.Test.YtfflmbpjolgghaaLetterOk
namespace Go.Proofs.Ytfflmbpjolgghaa
open Go.ChangeShapes Go.WideShapes Go.ChangeAt Go.RowKit
set_option linter.unusedVariables false

def netB (xs : List MsgD) : Bool := decide (xs.length ≤ 60) && xs.all msgB
def badI (xs : List MsgD) : Int := match xs.findIdx? (fun u => !msgB u) with
  | some i => (i : Int)
  | none => -1
theorem bad_at {xs : List MsgD} {k : Nat} {u : MsgD} (hu : xs[k]? = some u) (hp : msgB u = false) (hno : ∀ j v, j < k → xs[j]? = some v → msgB v = true) : badI xs = (k : Int) := by
  have hk := (List.getElem?_eq_some_iff.1 hu).1
  have : xs.findIdx? (fun u => !msgB u) = some k := by
    rw [List.findIdx?_eq_some_iff_getElem]
    refine ⟨hk, ?_, fun j hj => ?_⟩
    · rw [List.getElem?_eq_getElem hk] at hu
      cases hu
      simp [hp]
    · have := hno j _ hj (List.getElem?_eq_getElem (by omega))
      simp [this]
  unfold badI
  rw [this]
theorem bad_no {xs : List MsgD} (hno : ∀ (j : Nat) (v : MsgD), xs[j]? = some v → msgB v = true) : badI xs = -1 := by
  have : xs.findIdx? (fun u => !msgB u) = none := by
    rw [List.findIdx?_eq_none_iff]
    intro u hu
    obtain ⟨j, hj⟩ := List.getElem?_of_mem hu
    simp [hno j u hj]
  unfold badI
  rw [this]
theorem all_bad (xs : List MsgD) : xs.all msgB = decide (badI xs < 0) := by
  cases h : xs.all msgB
  · have h1 : ¬ ∀ x ∈ xs, msgB x = true := fun hh => by rw [List.all_eq_true.2 hh] at h; cases h
    cases hf : xs.findIdx? (fun u => !msgB u) with
    | none =>
      rw [List.findIdx?_eq_none_iff] at hf
      exact (h1 fun x hx => by have := hf x hx; simpa using this).elim
    | some i => simp [badI, hf]
  · rw [bad_no fun j v hv => List.all_eq_true.1 h v (List.mem_of_getElem? hv)]
    rfl

set_option maxHeartbeats 1000000 in
theorem netOk1_any (f0 f1 f2 f3 f4 f6 : Int) (d : List Int) (a : Option Addr) (cap : Nat) (w : World) (h : SlRd intR w a d) :
    Calls Try.prog 47 #[.agg #[.int .i64 f0, .int .i64 f1, .int .i64 f2, .int .i64 f3, .int .i64 f4, .slice a d.length cap, .int .i64 f6]] w fun e w' => e = .returned (.bool (!msgB (f0, f1, f2, f3, f4, d, f6))) ∧ Below w.heap.size w w' := by
  have B := box_below w (.cells #[.int .i64 f0, .int .i64 f1, .int .i64 f2, .int .i64 f3, .int .i64 f4, .slice a d.length cap, .int .i64 f6] 27)
  have HM : Hid (∀ W, Below w.heap.size w W → Calls Try.prog 39 #[.agg #[.int .i64 f0, .int .i64 f1, .int .i64 f2, .int .i64 f3, .int .i64 f4, .slice a d.length cap, .int .i64 f6]] W fun e w' => e = .returned (.bool (msgB (f0, f1, f2, f3, f4, d, f6))) ∧ Below W.heap.size W w') := fun W hb => implMsgOk_any f0 f1 f2 f3 f4 f6 d a cap W (slrd_next h hb)
  generalize msgB (f0, f1, f2, f3, f4, d, f6) = q at HM ⊢
  clear h
  go_enter Try.func47, Try.ntmps47
  go_wp2_with fail
  generalize w.alloc (.cells #[.int .i64 f0, .int .i64 f1, .int .i64 f2, .int .i64 f3, .int .i64 f4, .slice a d.length cap, .int .i64 f6] 27) = W0 at B ⊢
  refine (HM.out _ B).mono ?_
  rintro e w1 ⟨rfl, b1⟩
  go_wp2
  go_ret
  exact ⟨rfl, below_step B b1⟩

set_option maxHeartbeats 2000000 in
theorem indexBad_any (a : Option Addr) (xs : List MsgD) (cap : Nat) (w : World) (h : SlRd msgR w a xs) (hm : xs.length ≤ maxLen) :
    Calls Try.prog 77 #[.slice a xs.length cap, .func (.func 47) #[] #[]] w fun e w' => e = .returned (.int .i64 (badI xs)) ∧ Below w.heap.size w w' := by
  have hm' : xs.length ≤ 9223372036854775807 := hm
  have H0 : Hid (∀ W, Below w.heap.size w W → SlRd msgR W a xs) := fun W hb => slrd_keep h fun k hk => hb.block k hk
  clear h hm
  go_enter Try.func77, Try.ntmps77
  go_wp2
  go_loopw [8] (fun i wr => ∃ k : Nat, k ≤ xs.length ∧ i = .int .i64 k ∧ (∀ j v, j < k → xs[j]? = some v → msgB v = true) ∧ Below w.heap.size w wr) (fun i _ => xs.length - (intOf i).toNat)
  case atStart => exact ⟨0, Nat.zero_le _, rfl, fun j v hj => by omega, Below.refl _ _⟩
  case round =>
    obtain ⟨k, hk, rfl, hno, BB⟩ := hrel
    by_cases hlt : k < xs.length
    · have hlt' : (k : Int) < (xs.length : Int) := by omega
      obtain ⟨x, hx⟩ : ∃ x, xs[k]? = some x := ⟨_, List.getElem?_eq_getElem hlt⟩
      obtain ⟨b, off, cs, rfl, hrdx, hcell⟩ := slrd_at (H0.out _ BB) hx
      obtain ⟨ad, cpw, rfl, -, -, -, -, -, -, hd1, hd2, hd3⟩ := msg_rd hrdx
      have x0 := hcell 0 _ rfl
      have x1 := hcell 1 _ rfl
      have x2 := hcell 2 _ rfl
      have x3 := hcell 3 _ rfl
      have x4 := hcell 4 _ rfl
      have x5 := hcell 5 _ rfl
      have x6 := hcell 6 _ rfl
      rw [show off + (k * msgR.size + 0) = off + k * 7 from rfl] at x0
      rw [show off + (k * msgR.size + 1) = off + k * 7 + 1 from rfl] at x1
      rw [show off + (k * msgR.size + 2) = off + k * 7 + 2 from rfl] at x2
      rw [show off + (k * msgR.size + 3) = off + k * 7 + 3 from rfl] at x3
      rw [show off + (k * msgR.size + 4) = off + k * 7 + 4 from rfl] at x4
      rw [show off + (k * msgR.size + 5) = off + k * 7 + 5 from rfl] at x5
      rw [show off + (k * msgR.size + 6) = off + k * 7 + 6 from rfl] at x6
      clear hcell hrdx hd1 hd2
      have HC := netOk1_any x.1 x.2.1 x.2.2.1 x.2.2.2.1 x.2.2.2.2.1 x.2.2.2.2.2.2 x.2.2.2.2.2.1 ad cpw wr hd3
      have HX : Hid (xs[k]? = some x) := hx
      clear hx hd3
      cases hb : msgB x
      · have HR : Hid (badI xs = k) := bad_at HX.out hb hno
        have HC2 : Hid (Calls Try.prog 47 #[.agg #[.int .i64 x.1, .int .i64 x.2.1, .int .i64 x.2.2.1, .int .i64 x.2.2.2.1, .int .i64 x.2.2.2.2.1, .slice ad x.2.2.2.2.2.1.length cpw, .int .i64 x.2.2.2.2.2.2]] wr fun e w' => e = .returned (.bool true) ∧ Below wr.heap.size wr w') := by rw [show msgB (x.1, x.2.1, x.2.2.1, x.2.2.2.1, x.2.2.2.2.1, x.2.2.2.2.2.1, x.2.2.2.2.2.2) = msgB x from rfl, hb] at HC; exact HC
        clear HC
        go_wp2_with fail
        refine HC2.out.mono ?_
        rintro e w2 ⟨rfl, b2⟩
        replace BB := below_step BB b2
        clear b2 x0 x1 x2 x3 x4 x5 x6
        go_wp2
        go_ret
        exact ⟨ret_int HR.out.symm, BB⟩
      · have HC2 : Hid (Calls Try.prog 47 #[.agg #[.int .i64 x.1, .int .i64 x.2.1, .int .i64 x.2.2.1, .int .i64 x.2.2.2.1, .int .i64 x.2.2.2.2.1, .slice ad x.2.2.2.2.2.1.length cpw, .int .i64 x.2.2.2.2.2.2]] wr fun e w' => e = .returned (.bool false) ∧ Below wr.heap.size wr w') := by rw [show msgB (x.1, x.2.1, x.2.2.1, x.2.2.2.1, x.2.2.2.2.1, x.2.2.2.2.2.1, x.2.2.2.2.2.2) = msgB x from rfl, hb] at HC; exact HC
        clear HC
        go_wp2_with fail
        refine HC2.out.mono ?_
        rintro e w2 ⟨rfl, b2⟩
        replace BB := below_step BB b2
        clear b2 x0 x1 x2 x3 x4 x5 x6
        go_wp2
        go_roundw
        case rel =>
          refine ⟨k + 1, by omega, by go_num, fun j v hj hv => ?_, BB⟩
          by_cases he : j < k
          · exact hno j v he hv
          · have : j = k := by omega
            subst this
            rw [HX.out] at hv
            cases hv
            exact hb
        case measure => simp [intOf]; omega
    · have HR : Hid (badI xs = -1) := bad_no fun j v hv => hno j v (by have := (List.getElem?_eq_some_iff.1 hv).1; omega) hv
      go_wp2
      go_ret
      exact ⟨ret_int HR.out.symm, BB⟩

set_option maxHeartbeats 1000000 in
theorem containsBad_any (a : Option Addr) (xs : List MsgD) (cap : Nat) (w : World) (h : SlRd msgR w a xs) (hm : xs.length ≤ maxLen) :
    Calls Try.prog 46 #[.slice a xs.length cap, .func (.func 47) #[] #[]] w fun e w' => e = .returned (.bool (!xs.all msgB)) ∧ Below w.heap.size w w' := by
  have HI := indexBad_any a xs cap w h hm
  have hab := all_bad xs
  clear h hm
  generalize badI xs = q at HI hab
  generalize xs.all msgB = y at hab ⊢
  subst hab
  by_cases hq : q < 0
  · have hq2 : ¬ (0 ≤ q) := by omega
    go_enter Try.func46, Try.ntmps46
    go_wp2_with fail
    refine HI.mono ?_
    rintro e w1 ⟨rfl, b1⟩
    go_wp2
    go_ret
    exact ⟨by simp [hq], b1⟩
  · have hq2 : 0 ≤ q := by omega
    go_enter Try.func46, Try.ntmps46
    go_wp2_with fail
    refine HI.mono ?_
    rintro e w1 ⟨rfl, b1⟩
    go_wp2
    go_ret
    exact ⟨by simp [hq], b1⟩

set_option maxHeartbeats 1000000 in
theorem implNetOk_any (a : Option Addr) (xs : List MsgD) (cap : Nat) (w : World) (h : SlRd msgR w a xs) (hm : xs.length ≤ maxLen) :
    Calls Try.prog 16 #[.slice a xs.length cap] w fun e w' => e = .returned (.bool (netB xs)) ∧ Below w.heap.size w w' := by
  have HC := containsBad_any a xs cap w h hm
  have hm' : xs.length ≤ 9223372036854775807 := hm
  unfold netB
  generalize xs.all msgB = y at HC ⊢
  clear h hm
  by_cases hl : xs.length ≤ 60
  · have hl' : (xs.length : Int) ≤ 60 := by omega
    go_enter Try.func16, Try.ntmps16
    go_wp2_with fail
    refine HC.mono ?_
    rintro e w1 ⟨rfl, b1⟩
    go_wp2
    go_ret
    exact ⟨by simp [hl], b1⟩
  · have hl' : ¬ ((xs.length : Int) ≤ 60) := by omega
    go_enter Try.func16, Try.ntmps16
    go_wp2
    go_ret
    exact ⟨by simp, Below.refl _ _⟩

set_option maxHeartbeats 2000000 in
theorem specNetOk_any (a : Option Addr) (xs : List MsgD) (cap : Nat) (w : World) (h : SlRd msgR w a xs) (hm : xs.length ≤ maxLen) :
    Calls Try.prog 17 #[.slice a xs.length cap] w fun e w' => e = .returned (.bool (netB xs)) ∧ Below w.heap.size w w' := by
  have hm' : xs.length ≤ 9223372036854775807 := hm
  have H0 : Hid (∀ W, Below w.heap.size w W → SlRd msgR W a xs) := fun W hb => slrd_keep h fun k hk => hb.block k hk
  clear h hm
  by_cases hl : xs.length ≤ 60
  · have hl' : ¬ ((60 : Int) < (xs.length : Int)) := by omega
    go_enter Try.func17, Try.ntmps17
    go_wp2
    go_loopw [3] (fun i wr => ∃ k : Nat, k ≤ xs.length ∧ i = .int .i64 k ∧ (∀ j v, j < k → xs[j]? = some v → msgB v = true) ∧ Below w.heap.size w wr) (fun i _ => xs.length - (intOf i).toNat)
    case atStart => exact ⟨0, Nat.zero_le _, rfl, fun j v hj => by omega, Below.refl _ _⟩
    case round =>
      obtain ⟨k, hk, rfl, hno, BB⟩ := hrel
      by_cases hlt : k < xs.length
      · have hlt' : (k : Int) < (xs.length : Int) := by omega
        obtain ⟨x, hx⟩ : ∃ x, xs[k]? = some x := ⟨_, List.getElem?_eq_getElem hlt⟩
        obtain ⟨b, off, cs, rfl, hrdx, hcell⟩ := slrd_at (H0.out _ BB) hx
        obtain ⟨ad, cpw, rfl, -, -, -, -, -, -, hd1, hd2, hd3⟩ := msg_rd hrdx
        have x0 := hcell 0 _ rfl
        have x1 := hcell 1 _ rfl
        have x2 := hcell 2 _ rfl
        have x3 := hcell 3 _ rfl
        have x4 := hcell 4 _ rfl
        have x5 := hcell 5 _ rfl
        have x6 := hcell 6 _ rfl
        rw [show off + (k * msgR.size + 0) = off + k * 7 from rfl] at x0
        rw [show off + (k * msgR.size + 1) = off + k * 7 + 1 from rfl] at x1
        rw [show off + (k * msgR.size + 2) = off + k * 7 + 2 from rfl] at x2
        rw [show off + (k * msgR.size + 3) = off + k * 7 + 3 from rfl] at x3
        rw [show off + (k * msgR.size + 4) = off + k * 7 + 4 from rfl] at x4
        rw [show off + (k * msgR.size + 5) = off + k * 7 + 5 from rfl] at x5
        rw [show off + (k * msgR.size + 6) = off + k * 7 + 6 from rfl] at x6
        clear hcell hrdx hd1 hd2
        have HC := specMsg_any x.1 x.2.1 x.2.2.1 x.2.2.2.1 x.2.2.2.2.1 x.2.2.2.2.2.2 x.2.2.2.2.2.1 ad cpw wr hd3
        have HX : Hid (xs[k]? = some x) := hx
        clear hx hd3
        cases hb : msgB x
        · have HR : Hid (netB xs = false) := by
            unfold Hid netB
            rw [all_bad, bad_at HX.out hb hno]
            simp
          have HC2 : Hid (Calls Try.prog 44 #[.agg #[.int .i64 x.1, .int .i64 x.2.1, .int .i64 x.2.2.1, .int .i64 x.2.2.2.1, .int .i64 x.2.2.2.2.1, .slice ad x.2.2.2.2.2.1.length cpw, .int .i64 x.2.2.2.2.2.2]] wr fun e w' => e = .returned (.bool false) ∧ Below wr.heap.size wr w') := by rw [show msgB (x.1, x.2.1, x.2.2.1, x.2.2.2.1, x.2.2.2.2.1, x.2.2.2.2.2.1, x.2.2.2.2.2.2) = msgB x from rfl, hb] at HC; exact HC
          clear HC
          go_wp2_with fail
          refine HC2.out.mono ?_
          rintro e w2 ⟨rfl, b2⟩
          replace BB := below_step BB b2
          clear b2 x0 x1 x2 x3 x4 x5 x6
          go_wp2
          go_ret
          exact ⟨ret_bool HR.out.symm, BB⟩
        · have HC2 : Hid (Calls Try.prog 44 #[.agg #[.int .i64 x.1, .int .i64 x.2.1, .int .i64 x.2.2.1, .int .i64 x.2.2.2.1, .int .i64 x.2.2.2.2.1, .slice ad x.2.2.2.2.2.1.length cpw, .int .i64 x.2.2.2.2.2.2]] wr fun e w' => e = .returned (.bool true) ∧ Below wr.heap.size wr w') := by rw [show msgB (x.1, x.2.1, x.2.2.1, x.2.2.2.1, x.2.2.2.2.1, x.2.2.2.2.2.1, x.2.2.2.2.2.2) = msgB x from rfl, hb] at HC; exact HC
          clear HC
          go_wp2_with fail
          refine HC2.out.mono ?_
          rintro e w2 ⟨rfl, b2⟩
          replace BB := below_step BB b2
          clear b2 x0 x1 x2 x3 x4 x5 x6
          go_wp2
          go_roundw
          case rel =>
            refine ⟨k + 1, by omega, by go_num, fun j v hj hv => ?_, BB⟩
            by_cases he : j < k
            · exact hno j v he hv
            · have : j = k := by omega
              subst this
              rw [HX.out] at hv
              cases hv
              exact hb
          case measure => simp [intOf]; omega
      · have HR : Hid (netB xs = true) := by
          unfold Hid netB
          rw [all_bad, bad_no fun j v hv => hno j v (by have := (List.getElem?_eq_some_iff.1 hv).1; omega) hv]
          simp [hl]
        go_wp2
        go_ret
        exact ⟨ret_bool HR.out.symm, BB⟩
  · have HR : Hid (netB xs = false) := by unfold Hid netB; simp [hl]
    have hl' : (60 : Int) < (xs.length : Int) := by omega
    go_enter Try.func17, Try.ntmps17
    go_wp2
    go_ret
    exact ⟨ret_bool HR.out.symm, Below.refl _ _⟩
end Go.Proofs.Ytfflmbpjolgghaa
