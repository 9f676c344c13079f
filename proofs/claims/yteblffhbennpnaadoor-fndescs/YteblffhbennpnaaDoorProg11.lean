
/- Programs and lists of descs, of the specification: their codes, what is work, what is touched. Conditions: lists that read as told, of lengths that a machine can hold. -/
import Derived.Test.YteblffhbennpnaaDoorOpL
import Derived.Test.YteblffhbennpnaaDoorOps
import Derived.Test.YteblffhbennpnaaDoorLayout3
import Derived.Test.YteblffhbennpnaaDoorPutL
import Derived.Test.YteblffhbennpnaaDoorDescs
import Derived.Test.YteblffhbennpnaaDoorLines6
import Derived.Deep.QuietTactic
namespace Go.Proofs.YteblffhbennpnaaDoor
open Go.ChangeShapes Go.WideShapes Go.ChangeAt Go.RowKit
set_option linter.unusedVariables false

def opOkD (u : OpD) : Bool := opB u.1 u.2.1 u.2.2.1 u.2.2.2
def adrOk (l : Int) (u : OpD) : Bool := betw u.2.1 0 (2 * l - 1)
def progI (c s y l : Int) (xs : List OpD) : Int := if codeI c s y l = 0 then (if xs.length ≤ 30 then (if xs.all opOkD then (if xs.all (adrOk l) then 0 else 4) else 3) else 2) else 1
def descB (u : DescD) : Bool := if u.1 then betw u.2.2.1 1 3 && isL u.2.2.2 else decide (u.2.2.1 = 0) && decide (u.2.2.2.length = 0)
def dlnOk (l : Int) (u : DescD) : Bool := betw u.2.1 0 (l - 1)
def descI (c s y l : Int) (xs : List DescD) : Int := if codeI c s y l = 0 then (if xs.length ≤ 30 then (if xs.all descB then (if xs.all (dlnOk l) then 0 else 4) else 5) else 2) else 1
def lensI (ps : List (List OpD)) : Nat := (ps.map List.length).sum
def touL (xs : List OpD) : List Int := xs.foldl (fun out u => if opOkD u then insL out (u.2.1 / 2) else out) []
theorem all_step {α : Type} {p : α → Bool} {xs : List α} {k : Nat} {x : α} (h : (xs.take k).all p = true) (hx : xs[k]? = some x) (hp : p x = true) : (xs.take (k + 1)).all p = true := by
  rw [List.take_add_one, hx, List.all_append, h]
  simp [hp]
theorem all_not {α : Type} {p : α → Bool} {xs : List α} {k : Nat} {x : α} (hx : xs[k]? = some x) (hp : p x = false) : xs.all p = false := by
  rw [Bool.eq_false_iff]
  intro h
  have := List.all_eq_true.1 h x (List.mem_of_getElem? hx)
  rw [hp] at this
  cases this
theorem lens_step {ps : List (List OpD)} {k : Nat} {x : List OpD} (hx : ps[k]? = some x) : lensI (ps.take (k + 1)) = lensI (ps.take k) + x.length := by simp [lensI, List.take_add_one, hx]
theorem lens_take (ps : List (List OpD)) (k : Nat) : lensI (ps.take k) ≤ lensI ps := by
  unfold lensI
  conv => rhs; rw [← List.take_append_drop k ps, List.map_append, List.sum_append]
  exact Nat.le_add_right _ _
theorem lens_get {ps : List (List OpD)} {k : Nat} {x : List OpD} (hx : ps[k]? = some x) : lensI (ps.take k) + x.length ≤ lensI ps := by
  have := lens_take ps (k + 1)
  rw [lens_step hx] at this
  exact this
theorem tou_step {xs : List OpD} {k : Nat} {x : OpD} (hx : xs[k]? = some x) : touL (xs.take (k + 1)) = if opOkD x then insL (touL (xs.take k)) (x.2.1 / 2) else touL (xs.take k) := by
  unfold touL
  rw [List.take_add_one, hx, List.foldl_append]
  rfl
theorem tou_len (xs : List OpD) : (touL xs).length ≤ xs.length := by
  have : ∀ (ys : List OpD) (out : List Int), (ys.foldl (fun out u => if opOkD u then insL out (u.2.1 / 2) else out) out).length ≤ out.length + ys.length := by
    intro ys
    induction ys with
    | nil => intro out; simp
    | cons y ys ih =>
      intro out
      simp only [List.foldl_cons, List.length_cons]
      refine Nat.le_trans (ih _) ?_
      split
      · have := ins_len out (y.2.1 / 2); omega
      · omega
  simpa [touL] using this xs []
theorem op_addr {u : OpD} (h : opOkD u = true) : 0 ≤ u.2.1 ∧ u.2.1 ≤ 31 := by
  simp [opOkD, opB, betw] at h
  omega
theorem tdiv_two {a : Int} (h : 0 ≤ a) : a.tdiv 2 = a / 2 := Int.tdiv_eq_ediv_of_nonneg h

theorem ins_mem {xs : List Int} {n x : Int} (h : x ∈ insL xs n) : x ∈ xs ∨ x = n := by
  induction xs with
  | nil => simp [insL] at h; exact .inr h
  | cons y r ih =>
    unfold insL at h
    split at h
    · rcases List.mem_cons.1 h with h | h
      · exact .inl (by rw [h]; exact List.mem_cons_self ..)
      · rcases ih h with h | h
        · exact .inl (List.mem_cons_of_mem _ h)
        · exact .inr h
    · split at h
      · exact .inl h
      · rcases List.mem_cons.1 h with h | h
        · exact .inr h
        · exact .inl h
theorem tou_bd (xs : List OpD) : ∀ x ∈ touL xs, 0 ≤ x ∧ x ≤ 15 := by
  have : ∀ (ys : List OpD) (out : List Int), (∀ x ∈ out, 0 ≤ x ∧ x ≤ 15) → ∀ x ∈ ys.foldl (fun out u => if opOkD u then insL out (u.2.1 / 2) else out) out, 0 ≤ x ∧ x ≤ 15 := by
    intro ys
    induction ys with
    | nil => intro out h x hx; exact h x hx
    | cons y ys ih =>
      intro out h x hx
      refine ih _ ?_ x hx
      intro z hz
      replace hz : z ∈ (if opOkD y = true then insL out (y.2.1 / 2) else out) := hz
      split at hz
      · rename_i ho
        have ha := op_addr ho
        rcases ins_mem hz with hz | hz
        · exact h z hz
        · omega
      · exact h z hz
  exact this xs [] (by simp)
theorem ins_rise {xs : List Int} {n : Int} (h : xs.Pairwise (· < ·)) : (insL xs n).Pairwise (· < ·) := by
  induction xs with
  | nil => simp [insL]
  | cons y r ih =>
    rw [List.pairwise_cons] at h
    unfold insL
    split
    · rename_i hy
      rw [List.pairwise_cons]
      refine ⟨fun z hz => ?_, ih h.2⟩
      rcases ins_mem hz with hz | hz
      · exact h.1 z hz
      · omega
    · split
      · exact List.pairwise_cons.2 h
      · rename_i h1 h2
        rw [List.pairwise_cons]
        refine ⟨fun z hz => ?_, List.pairwise_cons.2 h⟩
        rcases List.mem_cons.1 hz with hz | hz
        · omega
        · have := h.1 z hz; omega
theorem tou_rise (xs : List OpD) : (touL xs).Pairwise (· < ·) := by
  have : ∀ (ys : List OpD) (out : List Int), out.Pairwise (· < ·) → (ys.foldl (fun out u => if opOkD u then insL out (u.2.1 / 2) else out) out).Pairwise (· < ·) := by
    intro ys
    induction ys with
    | nil => intro out h; exact h
    | cons y ys ih =>
      intro out h
      refine ih _ ?_
      show (if opOkD y = true then insL out (y.2.1 / 2) else out).Pairwise (· < ·)
      split
      · exact ins_rise h
      · exact h
  exact this xs [] List.Pairwise.nil
theorem rise_len {xs : List Int} {a b : Int} (h : xs.Pairwise (· < ·)) (hb : ∀ x ∈ xs, a ≤ x ∧ x ≤ b) : (xs.length : Int) ≤ b - a + 1 ∨ xs = [] := by
  induction xs generalizing a with
  | nil => exact .inr rfl
  | cons y r ih =>
    left
    rw [List.pairwise_cons] at h
    have hy := hb y (List.mem_cons_self ..)
    rcases ih (a := y + 1) h.2 (fun x hx => ⟨by have := h.1 x hx; omega, (hb x (List.mem_cons_of_mem _ hx)).2⟩) with h1 | h1
    · simp only [List.length_cons]; omega
    · rw [h1]; simp; omega
theorem tou_len16 (xs : List OpD) : (touL xs).length ≤ 16 := by
  rcases rise_len (tou_rise xs) (tou_bd xs) with h | h
  · omega
  · rw [h]; simp
theorem tou_in (xs : List OpD) : Hid (∀ x ∈ touL xs, In64 x) := fun x hx => ⟨by have := tou_bd xs x hx; omega, by have := tou_bd xs x hx; omega⟩
def codeV (p q : Bool) (n : Int) : Int := if p then (if q then 0 else 4) else n
theorem made_on {w w1 w2 : World} {v : Value} {zs : List Int} (h : Made w w1 v zs) (hb : Below w1.heap.size w1 w2) : Made w w2 v zs := by
  obtain ⟨g, cap, e, h1, h2, ho, hB⟩ := h
  exact ⟨g, cap, e, h1, Nat.lt_of_lt_of_le h2 hb.size, owni_below ho hb h2, hB.trans (hb.mono hB.size)⟩
theorem owni_cap {B g cap : Nat} {w : World} {zs : List Int} (h : OwnI B w g cap zs) : zs.length ≤ cap ∧ cap ≤ maxLen := by
  rcases h.2 with ⟨e, _⟩ | ⟨g', cap', cur, e, _, _, hc, hm, _⟩
  · cases e
  · simp only [Value.slice.injEq] at e
    obtain ⟨_, _, rfl⟩ := e
    exact ⟨by simpa using hc, hm⟩
set_option maxHeartbeats 8000000 in
theorem specProgramCode_any (c s y l : Int) (a : Option Addr) (xs : List OpD) (cap : Nat) (w : World) (h : SlRd opR w a xs) (hm : xs.length ≤ maxLen) :
    Calls Tryd.prog 16 #[.agg #[.int .i64 c, .int .i64 s, .int .i64 y, .int .i64 l], .slice a xs.length cap] w fun e w' => e = .returned (.int .i64 (progI c s y l xs)) ∧ Below w.heap.size w w' := by
  have hm' : xs.length ≤ 9223372036854775807 := hm
  have X := heap_at w (.cells #[.int .i64 c, .int .i64 s, .int .i64 y, .int .i64 l] 25)
  have B := box_below w (.cells #[.int .i64 c, .int .i64 s, .int .i64 y, .int .i64 l] 25)
  have HS : Hid (∀ W, Below w.heap.size w W → SlRd opR W a xs) := fun W hb => slrd_next h hb
  clear h hm
  by_cases hc : codeI c s y l = 0
  · have hl := (code_zero hc).1
    by_cases hn : xs.length ≤ 30
    · have hn' : ¬ ((30 : Int) < (xs.length : Int)) := by omega
      have HV : Hid (progI c s y l xs = codeV (xs.all opOkD) (xs.all (adrOk l)) 3) := by unfold Hid progI codeV; rw [if_pos hc, if_pos hn]
      rw [HV.out]
      clear HV
      generalize hA1 : xs.all opOkD = A1
      generalize hA2 : xs.all (adrOk l) = A2
      have HA1 : Hid _ := hA1
      have HA2 : Hid _ := hA2
      clear hA1 hA2
      go_enter Tryd.func16, Tryd.ntmps16
      go_wp2_with fail
      generalize w.alloc (.cells #[.int .i64 c, .int .i64 s, .int .i64 y, .int .i64 l] 25) = W0 at X B ⊢
      refine (specCode_any _ _ _ _ _).mono ?_
      rintro e w1 ⟨rfl, b1⟩
      replace X := row_keep b1 X
      replace B := below_step B b1
      clear b1
      rw [hc]
      have HX : Hid _ := And.intro X B
      clear X B hc
      go_wp2
      go_loopw [5] (fun i wr => ∃ k : Nat, k ≤ xs.length ∧ i = .int .i64 k ∧ (xs.take k).all opOkD = true ∧ Below w1.heap.size w1 wr) (fun i _ => xs.length - (intOf i).toNat)
      case atStart => exact ⟨0, Nat.zero_le _, rfl, rfl, Below.refl _ _⟩
      case round =>
        obtain ⟨k, hk, rfl, hall, BB⟩ := hrel
        by_cases hlt : k < xs.length
        · have hlt' : (k : Int) < (xs.length : Int) := by omega
          obtain ⟨x, hx⟩ : ∃ x, xs[k]? = some x := ⟨_, List.getElem?_eq_getElem hlt⟩
          obtain ⟨b, off, rfl, x0, x1, x2, x3, -⟩ := op_at (HS.out _ (below_step HX.out.2 BB)) hx
          cases hb : opOkD x
          · have HN : Hid (A1 = false) := by rw [← HA1.out]; exact all_not hx hb
            clear hx hall
            go_wp2_with ((go_at_call 39; refine (specOpOk_any _ _ _ _ _).mono ?_; rintro e w' ⟨rfl, bb⟩; rw [show opB x.1 x.2.1 x.2.2.1 x.2.2.2 = _ from hb]; replace BB := below_step BB bb; clear bb))
            go_ret
            exact ⟨ret_int (by rw [HN.out]; rfl), below_step HX.out.2 BB⟩
          · have HA : Hid ((xs.take (k + 1)).all opOkD = true) := all_step hall hx hb
            clear hx hall
            go_wp2_with ((go_at_call 39; refine (specOpOk_any _ _ _ _ _).mono ?_; rintro e w' ⟨rfl, bb⟩; rw [show opB x.1 x.2.1 x.2.2.1 x.2.2.2 = _ from hb]; replace BB := below_step BB bb; clear bb))
            go_roundw
            case rel => exact ⟨k + 1, by omega, by go_num, HA.out, BB⟩
            case measure => simp [intOf]; omega
        · have hkl : k = xs.length := by omega
          subst hkl
          rw [List.take_length] at hall
          have hA1 : A1 = true := by rw [← HA1.out]; exact hall
          subst hA1
          obtain ⟨X, B⟩ := HX.out
          replace X := row_keep BB X
          replace B := below_step B BB
          have HY : Hid _ := And.intro X B
          obtain ⟨w2, hw2⟩ : ∃ x, x = wr := ⟨_, rfl⟩
          subst hw2
          clear hall BB X B HX HA1
          go_wp2
          go_loopw [6] (fun i wr => ∃ k : Nat, k ≤ xs.length ∧ i = .int .i64 k ∧ (xs.take k).all (adrOk l) = true ∧ Below w2.heap.size w2 wr) (fun i _ => xs.length - (intOf i).toNat)
          case atStart => exact ⟨0, Nat.zero_le _, rfl, rfl, Below.refl _ _⟩
          case round =>
            obtain ⟨k, hk, rfl, hall, BB⟩ := hrel
            by_cases hlt : k < xs.length
            · have hlt' : (k : Int) < (xs.length : Int) := by omega
              obtain ⟨x, hx⟩ : ∃ x, xs[k]? = some x := ⟨_, List.getElem?_eq_getElem hlt⟩
              obtain ⟨b, off, rfl, x0, x1, x2, x3, -⟩ := op_at (HS.out _ (below_step HY.out.2 BB)) hx
              have X := row_keep BB HY.out.1
              obtain ⟨c0, c1, c2, c3⟩ := cells_4 X
              have d0 : ∀ n : Cls (fun wx => Below wr.heap.size wr wx), n.w.cell? ⟨w.heap.size, 0, none⟩ = some (.int .i64 c) := fun n => cell_keep n.h c0 (cell_lt c0)
              have d1 : ∀ n : Cls (fun wx => Below wr.heap.size wr wx), n.w.cell? ⟨w.heap.size, 1, none⟩ = some (.int .i64 s) := fun n => cell_keep n.h c1 (cell_lt c1)
              have d2 : ∀ n : Cls (fun wx => Below wr.heap.size wr wx), n.w.cell? ⟨w.heap.size, 2, none⟩ = some (.int .i64 y) := fun n => cell_keep n.h c2 (cell_lt c2)
              have d3 : ∀ n : Cls (fun wx => Below wr.heap.size wr wx), n.w.cell? ⟨w.heap.size, 3, none⟩ = some (.int .i64 l) := fun n => cell_keep n.h c3 (cell_lt c3)
              have d4 : ∀ n : Cls (fun wx => Below wr.heap.size wr wx), n.w.cell? ⟨b, off + k * 4 + 1, none⟩ = some (.int .i64 x.2.1) := fun n => cell_keep n.h x1 (cell_lt x1)
              clear c0 c1 c2 c3 x0 x1 x2 x3 X
              cases hb : adrOk l x
              · have HN : Hid (A2 = false) := by rw [← HA2.out]; exact all_not hx hb
                have hb' : betw x.2.1 0 (2 * l - 1) = false := hb
                have KA : Hid (∀ W, Calls Tryd.prog 40 #[.agg #[.int .i64 c, .int .i64 s, .int .i64 y, .int .i64 l], .int .i64 x.2.1] W fun e w' => e = .returned (.bool false) ∧ Below W.heap.size W w') := fun W => by rw [← hb']; exact l2Addr_any c s y l x.2.1 W hl
                clear hx hall hb hb'
                go_wp2
                refine region_class (fun wx => Below wr.heap.size wr wx) (by kernel_rfl) (by kernel_rfl) ((Below.refl _ wr).drew) ?_
                intro hne
                repeat (quiet_step ((go_at_call 40; exact calls_class (KA.out _) (fun w' hc bb => below_step hc bb))))
                refine wpQuiet_nil ?_
                intro wx b2
                replace BB := below_step BB b2
                clear b2 hne d0 d1 d2 d3 d4
                go_wp2
                go_ret
                exact ⟨ret_int (by rw [HN.out]; rfl), below_step HY.out.2 BB⟩
              · have HA : Hid ((xs.take (k + 1)).all (adrOk l) = true) := all_step hall hx hb
                have hb' : betw x.2.1 0 (2 * l - 1) = true := hb
                have KA : Hid (∀ W, Calls Tryd.prog 40 #[.agg #[.int .i64 c, .int .i64 s, .int .i64 y, .int .i64 l], .int .i64 x.2.1] W fun e w' => e = .returned (.bool true) ∧ Below W.heap.size W w') := fun W => by rw [← hb']; exact l2Addr_any c s y l x.2.1 W hl
                clear hx hall hb hb'
                go_wp2
                refine region_class (fun wx => Below wr.heap.size wr wx) (by kernel_rfl) (by kernel_rfl) ((Below.refl _ wr).drew) ?_
                intro hne
                repeat (quiet_step ((go_at_call 40; exact calls_class (KA.out _) (fun w' hc bb => below_step hc bb))))
                refine wpQuiet_nil ?_
                intro wx b2
                replace BB := below_step BB b2
                clear b2 hne d0 d1 d2 d3 d4
                go_wp2
                go_roundw
                case rel => exact ⟨k + 1, by omega, by go_num, HA.out, BB⟩
                case measure => simp [intOf]; omega
            · have hkl : k = xs.length := by omega
              subst hkl
              rw [List.take_length] at hall
              have hA2 : A2 = true := by rw [← HA2.out]; exact hall
              subst hA2
              clear hall
              go_wp2
              go_ret
              exact ⟨rfl, below_step HY.out.2 BB⟩
    · have hn' : (30 : Int) < (xs.length : Int) := by omega
      have HV : Hid (progI c s y l xs = 2) := by unfold Hid progI; rw [if_pos hc, if_neg hn]
      rw [HV.out]
      clear HV HS
      go_enter Tryd.func16, Tryd.ntmps16
      go_wp2_with fail
      generalize w.alloc (.cells #[.int .i64 c, .int .i64 s, .int .i64 y, .int .i64 l] 25) = W0 at X B ⊢
      refine (specCode_any _ _ _ _ _).mono ?_
      rintro e w1 ⟨rfl, b1⟩
      replace B := below_step B b1
      clear b1 X
      rw [hc]
      go_wp2
      go_ret
      exact ⟨rfl, B⟩
  · have HV : Hid (progI c s y l xs = 1) := by unfold Hid progI; rw [if_neg hc]
    rw [HV.out]
    clear HV HS
    have hcb : (codeI c s y l != 0) = true := by simp [hc]
    go_enter Tryd.func16, Tryd.ntmps16
    go_wp2_with fail
    generalize w.alloc (.cells #[.int .i64 c, .int .i64 s, .int .i64 y, .int .i64 l] 25) = W0 at X B ⊢
    refine (specCode_any _ _ _ _ _).mono ?_
    rintro e w1 ⟨rfl, b1⟩
    replace B := below_step B b1
    clear b1 X
    generalize codeI c s y l = q at hcb hc ⊢
    go_wp2
    go_ret
    exact ⟨rfl, B⟩
set_option maxHeartbeats 4000000 in
theorem l11Desc_any (p : Bool) (q m : Int) (d : List Int) (a : Option Addr) (cap : Nat) (w : World) (h : SlRd intR w a d) :
    Calls Tryd.prog 35 #[.agg #[.bool p, .int .i64 q, .int .i64 m, .slice a d.length cap]] w fun e w' => e = .returned (.bool (descB (p, q, m, d))) ∧ Below w.heap.size w w' := by
  have HB : Hid _ := box_below w
  have HL : Hid (∀ W, Below w.heap.size w W → Calls Tryd.prog 14 #[.slice a d.length cap] W fun e w' => e = .returned (.bool (isL d)) ∧ w' = W) := fun W hb => specLineOk_any a d cap W (reads_of (slrd_next h hb))
  clear h
  cases p
  · by_cases hm : m = 0
    · subst hm
      by_cases h9 : d.length = 0
      · have hz5 : d = [] := List.eq_nil_of_length_eq_zero h9
        subst hz5
        go_enter Tryd.func35, Tryd.ntmps35
        go_wp2_with fail
        go_ret
        exact ⟨rfl, HB.out _⟩
      · have hz : ¬ ((d.length : Int) = 0) := by omega
        have hz2 : ((d.length : Int) == 0) = false := beq_false_of_ne hz
        have HV : Hid (descB (false, q, 0, d) = false) := by unfold Hid descB; simp [h9]
        rw [HV.out]
        go_enter Tryd.func35, Tryd.ntmps35
        go_wp2_with fail
        go_ret
        exact ⟨rfl, HB.out _⟩
    · have hmb : (m == 0) = false := beq_false_of_ne hm
      have HV : Hid (descB (false, q, m, d) = false) := by unfold Hid descB; simp [hm]
      rw [HV.out]
      go_enter Tryd.func35, Tryd.ntmps35
      go_wp2_with fail
      go_ret
      exact ⟨rfl, HB.out _⟩
  · cases hb : betw m 1 3
    · have HV : Hid (descB (true, q, m, d) = false) := by unfold Hid descB; simp [hb]
      rw [HV.out]
      go_enter Tryd.func35, Tryd.ntmps35
      go_wp2_with (go_at_call 36; refine (l1In_any _ _ _ _).mono ?_; rintro e w' ⟨rfl, rfl⟩)
      go_ret
      exact ⟨rfl, HB.out _⟩
    · have HV : Hid (descB (true, q, m, d) = isL d) := by unfold Hid descB; simp [hb]
      rw [HV.out]
      go_enter Tryd.func35, Tryd.ntmps35
      go_wp2_with (first | (go_at_call 36; refine (l1In_any _ _ _ _).mono ?_; rintro e w' ⟨rfl, rfl⟩) | (go_at_call 14; refine (HL.out _ (HB.out _)).mono ?_; rintro e w' ⟨rfl, rfl⟩))
      go_ret
      exact ⟨rfl, HB.out _⟩
set_option maxHeartbeats 8000000 in
theorem specDescCode_any (c s y l : Int) (a : Option Addr) (xs : List DescD) (cap : Nat) (w : World) (h : SlRd descR w a xs) (hm : xs.length ≤ maxLen) :
    Calls Tryd.prog 10 #[.agg #[.int .i64 c, .int .i64 s, .int .i64 y, .int .i64 l], .slice a xs.length cap] w fun e w' => e = .returned (.int .i64 (descI c s y l xs)) ∧ Below w.heap.size w w' := by
  have hm' : xs.length ≤ 9223372036854775807 := hm
  have X := heap_at w (.cells #[.int .i64 c, .int .i64 s, .int .i64 y, .int .i64 l] 25)
  have B := box_below w (.cells #[.int .i64 c, .int .i64 s, .int .i64 y, .int .i64 l] 25)
  have HS : Hid (∀ W, Below w.heap.size w W → SlRd descR W a xs) := fun W hb => slrd_next h hb
  clear h hm
  by_cases hc : codeI c s y l = 0
  · have hl := (code_zero hc).1
    by_cases hn : xs.length ≤ 30
    · have hn' : ¬ ((30 : Int) < (xs.length : Int)) := by omega
      have HV : Hid (descI c s y l xs = codeV (xs.all descB) (xs.all (dlnOk l)) 5) := by unfold Hid descI codeV; rw [if_pos hc, if_pos hn]
      rw [HV.out]
      clear HV
      generalize hA1 : xs.all descB = A1
      generalize hA2 : xs.all (dlnOk l) = A2
      have HA1 : Hid _ := hA1
      have HA2 : Hid _ := hA2
      clear hA1 hA2
      go_enter Tryd.func10, Tryd.ntmps10
      go_wp2_with fail
      generalize w.alloc (.cells #[.int .i64 c, .int .i64 s, .int .i64 y, .int .i64 l] 25) = W0 at X B ⊢
      refine (specCode_any _ _ _ _ _).mono ?_
      rintro e w1 ⟨rfl, b1⟩
      replace X := row_keep b1 X
      replace B := below_step B b1
      clear b1
      rw [hc]
      have HX : Hid _ := And.intro X B
      clear X B hc
      go_wp2
      go_loopw [5] (fun i wr => ∃ k : Nat, k ≤ xs.length ∧ i = .int .i64 k ∧ (xs.take k).all descB = true ∧ Below w1.heap.size w1 wr) (fun i _ => xs.length - (intOf i).toNat)
      case atStart => exact ⟨0, Nat.zero_le _, rfl, rfl, Below.refl _ _⟩
      case round =>
        obtain ⟨k, hk, rfl, hall, BB⟩ := hrel
        by_cases hlt : k < xs.length
        · have hlt' : (k : Int) < (xs.length : Int) := by omega
          obtain ⟨x, hx⟩ : ∃ x, xs[k]? = some x := ⟨_, List.getElem?_eq_getElem hlt⟩
          obtain ⟨b, off, cs, rfl, hrd, hcell⟩ := slrd_at (HS.out _ (below_step HX.out.2 BB)) hx
          obtain ⟨ad, cpw, rfl, -, -, -, -, rd3⟩ := desc_rd hrd
          have x0 := hcell 0 _ rfl
          have x1 := hcell 1 _ rfl
          have x2 := hcell 2 _ rfl
          have x3 := hcell 3 _ rfl
          rw [show off + (k * descR.size + 0) = off + k * 4 from rfl] at x0
          rw [show off + (k * descR.size + 1) = off + k * 4 + 1 from rfl] at x1
          rw [show off + (k * descR.size + 2) = off + k * 4 + 2 from rfl] at x2
          rw [show off + (k * descR.size + 3) = off + k * 4 + 3 from rfl] at x3
          have HRD : Hid _ := rd3
          clear hcell hrd rd3
          cases hb : descB x
          · have HN : Hid (A1 = false) := by rw [← HA1.out]; exact all_not hx hb
            clear hx hall
            go_wp2_with ((go_at_call 35; refine (l11Desc_any x.1 x.2.1 x.2.2.1 x.2.2.2 _ _ _ HRD.out).mono ?_; rintro e w' ⟨rfl, bb⟩; rw [hb]; replace BB := below_step BB bb; clear bb))
            go_ret
            exact ⟨ret_int (by rw [HN.out]; rfl), below_step HX.out.2 BB⟩
          · have HA : Hid ((xs.take (k + 1)).all descB = true) := all_step hall hx hb
            clear hx hall
            go_wp2_with ((go_at_call 35; refine (l11Desc_any x.1 x.2.1 x.2.2.1 x.2.2.2 _ _ _ HRD.out).mono ?_; rintro e w' ⟨rfl, bb⟩; rw [hb]; replace BB := below_step BB bb; clear bb))
            go_roundw
            case rel => exact ⟨k + 1, by omega, by go_num, HA.out, BB⟩
            case measure => simp [intOf]; omega
        · have hkl : k = xs.length := by omega
          subst hkl
          rw [List.take_length] at hall
          have hA1 : A1 = true := by rw [← HA1.out]; exact hall
          subst hA1
          obtain ⟨X, B⟩ := HX.out
          replace X := row_keep BB X
          replace B := below_step B BB
          have HY : Hid _ := And.intro X B
          obtain ⟨w2, hw2⟩ : ∃ x, x = wr := ⟨_, rfl⟩
          subst hw2
          clear hall BB X B HX HA1
          go_wp2
          go_loopw [6] (fun i wr => ∃ k : Nat, k ≤ xs.length ∧ i = .int .i64 k ∧ (xs.take k).all (dlnOk l) = true ∧ Below w2.heap.size w2 wr) (fun i _ => xs.length - (intOf i).toNat)
          case atStart => exact ⟨0, Nat.zero_le _, rfl, rfl, Below.refl _ _⟩
          case round =>
            obtain ⟨k, hk, rfl, hall, BB⟩ := hrel
            by_cases hlt : k < xs.length
            · have hlt' : (k : Int) < (xs.length : Int) := by omega
              obtain ⟨x, hx⟩ : ∃ x, xs[k]? = some x := ⟨_, List.getElem?_eq_getElem hlt⟩
              obtain ⟨b, off, cs, rfl, hrd, hcell⟩ := slrd_at (HS.out _ (below_step HY.out.2 BB)) hx
              obtain ⟨ad, cpw, rfl, -, -, -, -, rd3⟩ := desc_rd hrd
              have x0 := hcell 0 _ rfl
              have x1 := hcell 1 _ rfl
              have x2 := hcell 2 _ rfl
              have x3 := hcell 3 _ rfl
              rw [show off + (k * descR.size + 0) = off + k * 4 from rfl] at x0
              rw [show off + (k * descR.size + 1) = off + k * 4 + 1 from rfl] at x1
              rw [show off + (k * descR.size + 2) = off + k * 4 + 2 from rfl] at x2
              rw [show off + (k * descR.size + 3) = off + k * 4 + 3 from rfl] at x3
              have HRD : Hid _ := rd3
              clear hcell hrd rd3
              have X := row_keep BB HY.out.1
              obtain ⟨c0, c1, c2, c3⟩ := cells_4 X
              clear X c0 c1 c2 x0 x2 x3 HRD
              by_cases h0 : x.2.1 < 0
              · have hb : dlnOk l x = false := by simp [dlnOk, betw]; omega
                have HN : Hid (A2 = false) := by rw [← HA2.out]; exact all_not hx hb
                clear hx hall hb
                go_wp2_with fail
                go_quiet (fail)
                go_wp2
                go_ret
                exact ⟨ret_int (by rw [HN.out]; rfl), be_drewN (below_step HY.out.2 BB) _⟩
              · by_cases h1 : l ≤ x.2.1
                · have hb : dlnOk l x = false := by simp [dlnOk, betw]; omega
                  have HN : Hid (A2 = false) := by rw [← HA2.out]; exact all_not hx hb
                  clear hx hall hb
                  go_wp2_with fail
                  go_quiet (fail)
                  go_wp2
                  go_ret
                  exact ⟨ret_int (by rw [HN.out]; rfl), be_drewN (below_step HY.out.2 BB) _⟩
                · have hb : dlnOk l x = true := by simp [dlnOk, betw]; omega
                  have HA : Hid ((xs.take (k + 1)).all (dlnOk l) = true) := all_step hall hx hb
                  clear hx hall hb
                  go_wp2_with fail
                  go_quiet (fail)
                  go_wp2
                  go_roundw
                  case rel => exact ⟨k + 1, by omega, by go_num, HA.out, be_drewN BB _⟩
                  case measure => simp [intOf]; omega
            · have hkl : k = xs.length := by omega
              subst hkl
              rw [List.take_length] at hall
              have hA2 : A2 = true := by rw [← HA2.out]; exact hall
              subst hA2
              clear hall
              go_wp2
              go_ret
              exact ⟨rfl, below_step HY.out.2 BB⟩
    · have hn' : (30 : Int) < (xs.length : Int) := by omega
      have HV : Hid (descI c s y l xs = 2) := by unfold Hid descI; rw [if_pos hc, if_neg hn]
      rw [HV.out]
      clear HV HS
      go_enter Tryd.func10, Tryd.ntmps10
      go_wp2_with fail
      generalize w.alloc (.cells #[.int .i64 c, .int .i64 s, .int .i64 y, .int .i64 l] 25) = W0 at X B ⊢
      refine (specCode_any _ _ _ _ _).mono ?_
      rintro e w1 ⟨rfl, b1⟩
      replace B := below_step B b1
      clear b1 X
      rw [hc]
      go_wp2
      go_ret
      exact ⟨rfl, B⟩
  · have HV : Hid (descI c s y l xs = 1) := by unfold Hid descI; rw [if_neg hc]
    rw [HV.out]
    clear HV HS
    have hcb : (codeI c s y l != 0) = true := by simp [hc]
    go_enter Tryd.func10, Tryd.ntmps10
    go_wp2_with fail
    generalize w.alloc (.cells #[.int .i64 c, .int .i64 s, .int .i64 y, .int .i64 l] 25) = W0 at X B ⊢
    refine (specCode_any _ _ _ _ _).mono ?_
    rintro e w1 ⟨rfl, b1⟩
    replace B := below_step B b1
    clear b1 X
    generalize codeI c s y l = q at hcb hc ⊢
    go_wp2
    go_ret
    exact ⟨rfl, B⟩
set_option maxHeartbeats 2000000 in
theorem specWork_any (a : Option Addr) (ps : List (List OpD)) (cap : Nat) (b : Option Addr) (n cp : Nat) (w : World) (h : SlRd opsR w a ps) (hm : n + lensI ps ≤ 4611686018427387904) (hl : ps.length ≤ 4611686018427387904) :
    Calls Tryd.prog 12 #[.slice a ps.length cap, .slice b n cp] w fun e w' => e = .returned (.int .i64 ((n + lensI ps : Nat) : Int)) ∧ w' = w := by
  go_enter Tryd.func12, Tryd.ntmps12
  go_wp2
  go_loop [5, 6] (fun q i => ∃ k : Nat, k ≤ ps.length ∧ i = .int .i64 k ∧ q = .int .i64 ((n + lensI (ps.take k) : Nat) : Int)) (fun _ i => ps.length - (intOf i).toNat)
  case atStart => exact ⟨0, Nat.zero_le _, rfl, by simp [lensI]⟩
  case round =>
    obtain ⟨k, hk, rfl, rfl⟩ := hrel
    by_cases hlt : k < ps.length
    · have hlt' : (k : Int) < (ps.length : Int) := by omega
      obtain ⟨x, hx⟩ : ∃ x, ps[k]? = some x := ⟨_, List.getElem?_eq_getElem hlt⟩
      obtain ⟨b1, off, cs, rfl, ⟨aj, cj, rfl, -, -, -⟩, hcell⟩ := slrd_at h hx
      have g1 := hcell 0 _ rfl
      rw [show k * opsR.size + 0 = k from Nat.mul_one k] at g1
      have HT : Hid (lensI (ps.take (k + 1)) = _) := lens_step hx
      have hg := lens_get hx
      clear hcell hx
      generalize lensI (ps.take k) = t at HT hg ⊢
      go_wp2
      go_round
      case rel => exact ⟨k + 1, by omega, by go_num, by rw [HT.out]; go_num⟩
      case measure => simp [intOf]; omega
    · have hkl : k = ps.length := by omega
      subst hkl
      rw [List.take_length]
      go_wp2
      go_ret
      exact ⟨rfl, rfl⟩
end Go.Proofs.YteblffhbennpnaaDoor
