import Derived.Test.YtmldilmiihafoaaJNumsCopiesOwn5Own6
import Derived.WalkKit
import Derived.ProofKit
import Derived.OpenShut
import Derived.LoopN
import Derived.Deep.RegionWith
import Derived.Deep.QuietTactic
import Derived.OrdersIn
import Derived.TacticsIn
import Derived.Test.YtmldilmiihafoaaJOwn7Own3OpensBaseWays
/- The contracts of the leaf functions of the sets of numbers. No condition. -/
namespace Go.Proofs.Ytmldilmiihafoaa
open Go.ChangeShapes Go.WideShapes Go.ChangeAt Go.RowKit

def setB (s : Int) : Bool := decide (0 ≤ s ∧ s ≤ 255)
def itemB (i : Int) : Bool := decide (0 ≤ i ∧ i ≤ 7)

set_option maxHeartbeats 400000 in
theorem ok_any (s : Int) (w : World) :
    Calls Try.prog 111 #[.int .i64 s] w fun e w' => e = .returned (.bool (setB s)) ∧ w' = w := by
  by_cases h1 : 0 ≤ s
  · by_cases h2 : s ≤ 255
    all_goals
      go_enter Try.func111, Try.ntmps111
      go_wp2
      go_ret
      exact ⟨by simp [setB, h1, h2], rfl⟩
  · go_enter Try.func111, Try.ntmps111
    go_wp2
    go_ret
    exact ⟨by simp only [setB]; congr 2; simp; omega, rfl⟩

set_option maxHeartbeats 400000 in
theorem number_any (s : Int) (w : World) :
    Calls Try.prog 123 #[.int .i64 s] w fun e w' => e = .returned (.bool (itemB s)) ∧ w' = w := by
  by_cases h1 : 0 ≤ s
  · by_cases h2 : s ≤ 7
    all_goals
      go_enter Try.func123, Try.ntmps123
      go_wp2
      go_ret
      exact ⟨by simp [itemB, h1, h2], rfl⟩
  · go_enter Try.func123, Try.ntmps123
    go_wp2
    go_ret
    exact ⟨by simp only [itemB]; congr 2; simp; omega, rfl⟩



theorem pow_small (i : Int) (h1 : 0 ≤ i) (h2 : i ≤ 7) : wrap64 (2 ^ i.toNat) = 2 ^ i.toNat := by
  have h : i = 0 ∨ i = 1 ∨ i = 2 ∨ i = 3 ∨ i = 4 ∨ i = 5 ∨ i = 6 ∨ i = 7 := by omega
  rcases h with rfl | rfl | rfl | rfl | rfl | rfl | rfl | rfl <;> decide +kernel

set_option maxHeartbeats 400000 in
theorem bitOf_any (i : Int) (w : World) (h1 : 0 ≤ i) (h2 : i ≤ 7) :
    Calls Try.prog 124 #[.int .i64 i] w fun e w' => e = .returned (.int .i64 (2 ^ i.toNat)) ∧ w' = w := by
  go_enter Try.func124, Try.ntmps124
  go_wp2
  go_ret
  exact ⟨ret_int (pow_small i h1 h2), rfl⟩

def memB (s i : Int) : Bool := (s / 2 ^ i.toNat) % 2 == 1
def inB (s i : Int) : Bool := setB s && itemB i && memB s i

theorem and_fin : ∀ s : Fin 256, ∀ i : Fin 8, (bits BinOp.and IntKind.i64 (s.val : Int) (2 ^ (i.val : Int).toNat) != 0) = memB (s.val : Int) (i.val : Int) := by
  decide +kernel
theorem and_mem (s i : Int) (h7 : 0 ≤ s) (h8 : s ≤ 255) (h5 : 0 ≤ i) (h6 : i ≤ 7) :
    (bits BinOp.and IntKind.i64 s (2 ^ i.toNat) != 0) = memB s i := by
  have := and_fin ⟨s.toNat, by omega⟩ ⟨i.toNat, by omega⟩
  simpa [Int.toNat_of_nonneg h7, Int.toNat_of_nonneg h5] using this
theorem tmod_mem (s i : Int) (h7 : 0 ≤ s) : ((s / 2 ^ i.toNat).tmod 2 == 1) = memB s i := by
  unfold memB
  rw [Int.tmod_eq_emod_of_nonneg (Int.ediv_nonneg h7 (Int.pow_nonneg (by decide)))]

theorem setB_bd {s : Int} (h : setB s = true) : 0 ≤ s ∧ s ≤ 255 := by simpa [setB] using h
theorem itemB_bd {i : Int} (h : itemB i = true) : 0 ≤ i ∧ i ≤ 7 := by simpa [itemB] using h

set_option maxHeartbeats 400000 in
theorem has_any (s i : Int) (w : World) :
    Calls Try.prog 119 #[.int .i64 s, .int .i64 i] w fun e w' => e = .returned (.bool (inB s i)) ∧ w' = w := by
  cases h1 : setB s
  · have H : Hid (inB s i = false) := by unfold Hid; simp [inB, h1]
    go_enter Try.func119, Try.ntmps119
    go_wp2_with (go_at_call 111; refine (ok_any _ _).mono ?_; rintro e w' ⟨rfl, rfl⟩)
    go_ret
    exact ⟨ret_bool H.out.symm, rfl⟩
  · cases h2 : itemB i
    · have H : Hid (inB s i = false) := by unfold Hid; simp [inB, h2]
      go_enter Try.func119, Try.ntmps119
      go_wp2_with (first
        | (go_at_call 111; refine (ok_any _ _).mono ?_; rintro e w' ⟨rfl, rfl⟩)
        | (go_at_call 123; refine (number_any _ _).mono ?_; rintro e w' ⟨rfl, rfl⟩))
      go_ret
      exact ⟨ret_bool H.out.symm, rfl⟩
    · obtain ⟨h5, h6⟩ := itemB_bd h2
      obtain ⟨h7, h8⟩ := setB_bd h1
      have H : Hid (inB s i = (bits BinOp.and IntKind.i64 s (2 ^ i.toNat) != 0)) := by unfold Hid; rw [and_mem s i h7 h8 h5 h6]; simp [inB, h1, h2]
      go_enter Try.func119, Try.ntmps119
      go_wp2_with (first
        | (go_at_call 111; refine (ok_any _ _).mono ?_; rintro e w' ⟨rfl, rfl⟩)
        | (go_at_call 123; refine (number_any _ _).mono ?_; rintro e w' ⟨rfl, rfl⟩)
        | (go_at_call 124; refine (bitOf_any _ _ h5 h6).mono ?_; rintro e w' ⟨rfl, rfl⟩))
      go_ret
      exact ⟨ret_bool H.out.symm, rfl⟩



end Go.Proofs.Ytmldilmiihafoaa

/- The contracts of lines: two words as an array that is compared, of the program and of its specification. No condition. -/
namespace Go.Proofs.Ytmldilmiihafoaa
open Go.ChangeShapes Go.WideShapes Go.ChangeAt Go.RowKit

def press (x : Int) : Int := min (max x 0) 9999
def okW (x : Int) : Bool := betw x 0 9999

set_option maxHeartbeats 1000000 in
theorem pressed_any (a b : Int) (w : World) :
    Calls Try.prog 120 #[.agg #[.int .i64 a, .int .i64 b]] w fun e w' => e = .returned (.agg #[.int .i64 (press a), .int .i64 (press b)]) ∧ Below w.heap.size w w' := by
  have B := (Below.refl w.heap.size w).alloc (Nat.le_refl _)
  go_enter Try.func120, Try.ntmps120
  go_wp2
  refine wp_loop_rounds 3 ?_
  rw [rounds_succ]
  go_wp2
  all_goals rw [rounds_succ]
  all_goals go_wp2
  all_goals rw [rounds_succ]
  all_goals go_wp2
  all_goals
    refine bodyPost_ret (v := .agg #[.int .i64 (press a), .int .i64 (press b)]) ?_ rfl ⟨rfl, ?_⟩
    · simp [results, Try.results120, go_sem]; first | done | (unfold press; omega) | (constructor <;> unfold press <;> omega)
    · exact (B _).alloc (by simp) _

theorem alloc_len (w : World) (o : Obj) : (w.alloc o).heap.size = w.heap.size + 1 := by simp
theorem cell_two {w : World} {g : Nat} {x y : Value} {t : TypeId} (h : w.heap[g]? = some (.cells #[x, y] t (0, 0))) :
    w.cell? ⟨g, 0, none⟩ = some x ∧ w.cell? ⟨g, 1, none⟩ = some y :=
  ⟨by rw [cell_of_row w g 0 _ t (0, 0) h]; rfl, by rw [cell_of_row w g 1 _ t (0, 0) h]; rfl⟩
theorem row_keep {w w' : World} {g : Nat} {o : Obj} (hb : Below w.heap.size w w') (h : w.heap[g]? = some o) : w'.heap[g]? = some o :=
  (hb.block g (Array.getElem?_eq_some_iff.1 h).1).trans h

theorem two_eq (a b c d : Int) (w : World) : (Op.equalIn 10000 116 (.agg #[.int .i64 a, .int .i64 b]) (.agg #[.int .i64 c, .int .i64 d])).run Try.prog w = .ok (a == c && b == d) w := by
  have u3 := Try.underlying2
  have a3 := Try.isAgg2
  have z3 := Try.sizeOf2
  rw [show (10000 : Nat) = 9999 + 1 from rfl, Op.equalIn]
  simp only [Sem.run_bind, run_underlying Try.underlying116, Result.andThen_ok]
  simp only [Std.Legacy.Range.forIn_eq_forIn_range', Std.Legacy.Range.size, Nat.sub_zero, Nat.add_sub_cancel, Nat.div_one, List.range'_succ, List.range'_zero, List.forIn_cons, List.forIn_nil]
  go_simp
  by_cases h1 : a = c <;> by_cases h2 : b = d <;> simp [h1, h2]

theorem press_eq (x : Int) : (x == press x) = okW x := by
  rw [Bool.eq_iff_iff]; simp [press, okW, betw]; omega

set_option maxHeartbeats 400000 in
theorem twoOk_any (a b : Int) (w : World) :
    Calls Try.prog 114 #[.agg #[.int .i64 a, .int .i64 b]] w fun e w' => e = .returned (.bool (okW a && okW b)) ∧ Below w.heap.size w w' := by
  have B := (Below.refl w.heap.size w).alloc (Nat.le_refl _)
  go_enter Try.func114, Try.ntmps114
  go_wp2
  have R := heap_alloc_new w (.cells #[.int .i64 a, .int .i64 b] 116)
  have BB := (B (.cells #[.int .i64 a, .int .i64 b] 116)).drew
  generalize w.alloc (.cells #[.int .i64 a, .int .i64 b] 116) = W at R BB ⊢
  obtain ⟨q0, q1⟩ := cell_two R
  have E := two_eq a b (press a) (press b)
  go_region_with (go_at_call 120
                  refine (pressed_any a b _).mono ?_
                  rintro e w' ⟨rfl, hb⟩
                  replace R := row_keep hb R
                  replace BB := BB.trans (hb.mono BB.size)
                  clear q0 q1 hb
                  obtain ⟨q0, q1⟩ := cell_two R)
  all_goals
    go_wp2
    go_ret
    exact ⟨ret_bool (by rw [press_eq, press_eq]), BB⟩


end Go.Proofs.Ytmldilmiihafoaa

/- A region that draws its order and whose calls lay new memory: one walk, over a class of worlds. No program here. -/
namespace Go.Proofs.Ytmldilmiihafoaa
open Go.RowKit
set_option linter.unusedVariables false

/-- The worlds of a class. -/
structure Cls (C : World → Prop) where
  w : World
  h : C w

theorem region_class {P : Program} {id : Nat} {Q : Exit → Act → World → Prop} {a : Act} {w : World} {l : List Oper} (C : World → Prop) (hm : P.follows .mixedOrders = true) (hB : Region.lexB .any l.toArray = true) (h0 : C w.drew)
    (h : Nonempty (Cls C) → wpQuiet P l.toArray (fun w' => ∃ n : Cls C, w' = n.w) (fun a' => ∀ w', C w' → Q .normal a' w') l a) : (Code.region id l.toArray true).wp P Q a w :=
  wp_region_quiet (C := fun w' => ∃ n : Cls C, w' = n.w) hm hB ⟨⟨w.drew, h0⟩, rfl⟩ (by
    have := h ⟨⟨w.drew, h0⟩⟩
    have e : (fun a' => ∀ w', C w' → Q .normal a' w') = (fun a' => ∀ w', (∃ n : Cls C, w' = n.w) → Q .normal a' w') := by
      funext a'
      exact propext ⟨fun h w' ⟨n, e⟩ => h w' (by rw [e]; exact n.h), fun h w' hc => h w' ⟨⟨w', hc⟩, rfl⟩⟩
    rw [e] at this
    simpa using this)

/- The same within a round of a range over a function. -/
def noDef (l : List Oper) : Bool := l.all fun o => match o.op with
  | .defer _ => false
  | _ => true
theorem noDef_at {l : List Oper} (h : noDef l = true) {o : Oper} (ho : o ∈ l) (c : Call) : o.op ≠ .defer c := fun e => by
  have := List.all_eq_true.1 h o ho
  rw [e] at this
  cases this

section
variable {P : Program} {C : World → Prop} {r : Nat}
theorem wpIn_of_quietR {o : Oper} {a : Act} {K : Act → Prop} {K' : Act → World → Prop} {Q' : Exit → Act → World → Prop} {w : World} (hdf : ∀ c, o.op ≠ .defer c) (hw : C w) (h : ∀ a w', C w' → K a → K' a w')
    (hh : o.quiet P a C K) : o.wpIn (Fence.wide.inRound r) 0 P a w K' Q' := by
  obtain ⟨v, h1, h2⟩ := hh
  have h3 := h1 w hw
  refine ⟨fun _ _ => trivial, ?_⟩
  show o.uponIn _ 0 P a K' Q' ((o.semAt (some r) a.eval).run P w)
  rw [Oper.semAt_some r a.eval o hdf]
  unfold Oper.quietAt at h3
  generalize (execOp a.eval o).run P w = x at h3
  cases x with
  | halt y w' => exact (show False from h3).elim
  | ok y w' =>
    cases y with
    | value u =>
      obtain ⟨rfl, rfl⟩ := (show w' = w ∧ u = v from h3)
      exact h _ _ hw h2
    | skip =>
      obtain ⟨rfl, rfl⟩ := (show w' = w ∧ v = undef from h3)
      exact h _ _ hw h2
    | enter f args =>
      obtain ⟨rfl, hc⟩ := (show w' = w ∧ Calls P f args w (fun e w'' => e = .returned v ∧ C w'') from h3)
      refine ⟨fun e => (by cases e), (callsIn_wide.2 hc).mono fun e w'' he => ?_⟩
      obtain ⟨rfl, hw''⟩ := he
      exact h _ _ hw'' h2
    | _ => exact (show False from h3).elim

theorem anyIn_of_quietR {l : List Oper} {md : Region.Mode} {Q : Act → Prop} {Q' : Exit → Act → World → Prop} (hdf : noDef l = true) (hQ : ∀ a w, C w → Q a → Q' .normal a w) : ∀ (fuel : Nat) (listed : Array Bool) (a : Act) (w : World), C w →
    wpAnyQ P md l.toArray C Q fuel listed a → wpAnyIn (Fence.wide.inRound r) 0 P md l.toArray Q' fuel listed a w
  | 0, _, _, _, hw, h => ⟨h.1, hQ _ _ hw h.2⟩
  | fuel + 1, listed, a, w, hw, h => by
    refine ⟨fun h0 => hQ _ _ hw (h.1 h0), fun i hi => ?_⟩
    have hq := h.2 i hi
    have ih : ∀ a' w', C w' → wpAnyQ P md l.toArray C Q fuel (listed.setIfInBounds i true) a' → wpAnyIn (Fence.wide.inRound r) 0 P md l.toArray Q' fuel (listed.setIfInBounds i true) a' w' := fun a' w' hw' => anyIn_of_quietR hdf hQ fuel _ a' w' hw'
    unfold qOp at hq
    unfold wpOpIn
    split
    · rename_i ho
      simp only [ho] at hq
      exact ih _ _ hw hq
    · rename_i o ho
      simp only [ho] at hq
      have hmem : o ∈ l := by
        simp at ho
        exact List.mem_of_getElem? ho
      by_cases hwt : Region.wanted o (yielded l.toArray a.tmps) = true
      · simp only [hwt, if_true] at hq ⊢
        exact wpIn_of_quietR (noDef_at hdf hmem) hw ih hq
      · simp only [hwt] at hq ⊢
        exact ⟨fun _ _ => trivial, ih _ _ hw hq⟩
end

theorem regionIn_class {P : Program} {id r : Nat} {Q : Exit → Act → World → Prop} {a : Act} {w : World} {l : List Oper} (C : World → Prop) (hm : P.follows .mixedOrders = true) (hB : Region.lexB .any l.toArray = true) (hdf : noDef l = true) (h0 : C w.drew)
    (h : Nonempty (Cls C) → wpQuiet P l.toArray (fun w' => ∃ n : Cls C, w' = n.w) (fun a' => ∀ w', C w' → Q .normal a' w') l a) : (Code.region id l.toArray true).wpIn (Fence.wide.inRound r) 0 P Q a w := by
  simp only [Region.lexB, Bool.and_eq_true] at hB
  refine wpIn_region_any hm (anyIn_of_quietR (C := fun w' => ∃ n : Cls C, w' = n.w) (Q := fun a' => ∀ w', C w' → Q .normal a' w') hdf (fun a' w' ⟨n, hn⟩ h => h w' (by rw [hn]; exact n.h)) _ _ _ _ ⟨⟨w.drew, h0⟩, rfl⟩ ?_)
  have := wpAnyQ_lex (P := P) (C := fun w' => ∃ n : Cls C, w' = n.w) (md := .any) hB.1 l 0 (Array.replicate l.toArray.size false) a (by simp) (by simpa using hB.2) (h ⟨⟨w.drew, h0⟩⟩)
  simpa using this

/-- An operation that is passed over: its guard says so. -/
theorem wpQuiet_skip {P : Program} {ops : Array Oper} {C : World → Prop} {Q : Act → Prop} {a : Act} {o : Oper} {rest : List Oper} {j : Nat} {b : Bool} {og : Oper} {d : Tmp} (ht : a.tmps[d]? = some (.bool (!b))) (hg : o.guard = some (j, b)) (ho : ops[j]? = some og) (hd : og.dst = some d)
    (hne : o.dst ≠ some d) (h : ∀ a', a' = a.put o.dst undef → a'.tmps[d]? = some (.bool (!b)) → wpQuiet P ops C Q rest a') : wpQuiet P ops C Q (o :: rest) a := by
  have hy : yielded ops a.tmps j = some (!b) := by
    unfold yielded
    simp [ho, hd, ht]
  have hw : Region.wanted o (yielded ops a.tmps) = false := by
    unfold Region.wanted
    simp [hg, hy]
  unfold wpQuiet
  rw [hw]
  refine h _ rfl ?_
  cases he : o.dst with
  | none => exact ht
  | some d' =>
    have : d' ≠ d := fun e => hne (by rw [he, e])
    show (a.tmps.setIfInBounds d' undef)[d]? = _
    rw [Array.getElem?_setIfInBounds_ne this]
    exact ht

theorem hid_act (K : Act → Prop) (a : Act) (h : ∀ A, A = a → K A) : K a := h a rfl

theorem calls_class {P : Program} {f : FuncId} {args : Array Value} {C : World → Prop} {n : Cls C} {v : Value} {R : World → Prop} (h : Calls P f args n.w fun e w' => e = .returned v ∧ R w') (hs : ∀ w', C n.w → R w' → C w') :
    Calls P f args n.w fun e w'' => e = .returned v ∧ ∃ m : Cls C, w'' = m.w := h.mono fun _ w' ⟨he, hr⟩ => ⟨he, ⟨w', hs w' n.h hr⟩, rfl⟩

theorem calls_class_same {P : Program} {f : FuncId} {args : Array Value} {C : World → Prop} {n : Cls C} {v : Value} (h : Calls P f args n.w fun e w' => e = .returned v ∧ w' = n.w) :
    Calls P f args n.w fun e w'' => e = .returned v ∧ ∃ m : Cls C, w'' = m.w := h.mono fun _ w' ⟨he, hr⟩ => ⟨he, n, hr⟩

end Go.Proofs.Ytmldilmiihafoaa

/- The contracts of the laws' own helpers over ways, sets and stores: how great, a copy, alike. Conditions: lengths that a machine can hold. -/
namespace Go.Proofs.Ytmldilmiihafoaa
open Go.ChangeShapes Go.WideShapes Go.ChangeAt Go.RowKit
set_option linter.unusedVariables false

theorem bk_way (u : Int × Int × List Int) : wayM.bk u = intsM.bk u.2.2 := by
  show 0 + (0 + intsM.bk u.2.2) = _
  omega
theorem lens_of {xs : List Int} {cap : Nat} (h1 : xs.length ≤ cap) (h2 : cap ≤ maxLen) : xs.length ≤ maxLen := Nat.le_trans h1 h2

set_option maxHeartbeats 1000000 in
theorem szWayS_rep (a : Option Addr) (xs : List (Int × Int × List Int)) (cap : Nat) (left : Int) (w : World) (h : SlRd wayR w a xs) (h0 : 0 ≤ left) (h1 : left ≤ 1048576) (hm : xs.length ≤ maxLen) :
    Calls Try.prog 99 #[.slice a xs.length cap, .int .i64 left] w fun e w' => e = .returned (.int .i64 (szI ((slM wayM).bk xs) left)) ∧ Below w.heap.size w w' := by
  have hm' : xs.length ≤ 9223372036854775807 := hm
  have hbk : (slM wayM).bk xs = xs.length + sumbk wayM xs := rfl
  clear hm
  by_cases hl : (xs.length : Int) ≤ left
  · have hl' : ¬ (left - (xs.length : Int) < 0) := by omega
    have HB : Hid _ := hbk
    have H0 : Hid (SlRd wayR w a xs) := h
    clear hbk h
    go_enter Try.func99, Try.ntmps99
    go_wp2
    go_loopw [1, 5] (fun q i wr => ∃ k : Nat, k ≤ xs.length ∧ i = .int .i64 k ∧ (sumbk wayM (xs.take k) : Int) + xs.length ≤ left ∧ q = .int .i64 (left - (xs.length : Int) - sumbk wayM (xs.take k)) ∧ Below w.heap.size w wr) (fun _ i _ => xs.length - (intOf i).toNat)
    case atStart => exact ⟨0, Nat.zero_le _, rfl, by simp [sumbk]; omega, by simp [sumbk], Below.refl _ _⟩
    case round =>
      obtain ⟨k, hk, rfl, ht, rfl, BB⟩ := hrel
      by_cases hlt : k < xs.length
      · have hlt' : (k : Int) < (xs.length : Int) := by omega
        obtain ⟨x, hx⟩ : ∃ x, xs[k]? = some x := ⟨_, List.getElem?_eq_getElem hlt⟩
        have H2 := slrd_keep H0.out fun k hk => BB.block k hk
        obtain ⟨b, off, cs, rfl, hrdx, hcell⟩ := slrd_at H2 hx
        obtain ⟨ad, cpw, rfl, -, -, hd1, hd2, hd3⟩ := way_rd hrdx
        have x0 := hcell 0 _ rfl
        have x1 := hcell 1 _ rfl
        have x2 := hcell 2 _ rfl
        rw [show off + (k * wayR.size + 0) = off + k * 3 from rfl] at x0
        rw [show off + (k * wayR.size + 1) = off + k * 3 + 1 from rfl] at x1
        rw [show off + (k * wayR.size + 2) = off + k * 3 + 2 from rfl] at x2
        have HX : Hid (x.2.2.length ≤ maxLen) := Nat.le_trans hd1 hd2
        have HR : Hid (SlRd intR wr ad x.2.2) := hd3
        clear hcell hrdx hd1 hd2 hd3
        have HT : Hid _ := sumbk_step (M := wayM) hx
        have hxs := sumbk_get (M := wayM) hx
        clear hx H2
        generalize sumbk wayM (xs.take k) = T at ht HT hxs ⊢
        by_cases hf : (((wayM).bk x : Nat) : Int) ≤ left - (xs.length : Int) - (T : Int)
        · have hf' : ¬ (left - (xs.length : Int) - (T : Int) - (((wayM).bk x : Nat) : Int) < 0) := by omega
          have HS : Hid (szI ((wayM).bk x) (left - (xs.length : Int) - (T : Int)) = _) := szI_yes hf
          go_wp2_with (go_at_call 28; refine (szWay_rep x.1 x.2.1 x.2.2 _ _ _ _ (by omega) (by omega) HX.out).mono ?_; rintro e w' ⟨rfl, bb⟩; replace BB := below_step BB bb; clear bb; rw [HS.out])
          go_roundw
          case rel => exact ⟨k + 1, by omega, by go_num, by have := HT.out; omega, by rw [HT.out]; go_num, BB⟩
          case measure => simp [intOf]; omega
        · have HS : Hid (szI ((wayM).bk x) (left - (xs.length : Int) - (T : Int)) = _) := szI_no hf
          have HN : Hid (szI ((slM wayM).bk xs) left = -1) := by unfold Hid; rw [HB.out]; exact szI_no (by omega)
          go_wp2_with (go_at_call 28; refine (szWay_rep x.1 x.2.1 x.2.2 _ _ _ _ (by omega) (by omega) HX.out).mono ?_; rintro e w' ⟨rfl, bb⟩; replace BB := below_step BB bb; clear bb; rw [HS.out])
          go_ret
          exact ⟨ret_int HN.out.symm, BB⟩
      · have hkl : k = xs.length := by omega
        subst hkl
        rw [List.take_length] at ht ⊢
        have HN : Hid (szI ((slM wayM).bk xs) left = left - (xs.length : Int) - (sumbk wayM xs : Int)) := by unfold Hid; rw [HB.out, szI_yes (by omega)]; omega
        go_wp2
        go_ret
        exact ⟨ret_int HN.out.symm, BB⟩
  · have hl' : left - (xs.length : Int) < 0 := by omega
    rw [szI_no (by omega)]
    clear hbk h
    go_enter Try.func99, Try.ntmps99
    go_wp2
    go_ret
    exact ⟨rfl, Below.refl _ _⟩

set_option maxHeartbeats 1000000 in
theorem szWaySS_rep (a : Option Addr) (xs : List (List (Int × Int × List Int))) (cap : Nat) (left : Int) (w : World) (h : SlRd waysR w a xs) (h0 : 0 ≤ left) (h1 : left ≤ 1048576) (hm : xs.length ≤ maxLen) :
    Calls Try.prog 70 #[.slice a xs.length cap, .int .i64 left] w fun e w' => e = .returned (.int .i64 (szI ((slM waysM).bk xs) left)) ∧ Below w.heap.size w w' := by
  have hm' : xs.length ≤ 9223372036854775807 := hm
  have hbk : (slM waysM).bk xs = xs.length + sumbk waysM xs := rfl
  clear hm
  by_cases hl : (xs.length : Int) ≤ left
  · have hl' : ¬ (left - (xs.length : Int) < 0) := by omega
    have HB : Hid _ := hbk
    have H0 : Hid (SlRd waysR w a xs) := h
    clear hbk h
    go_enter Try.func70, Try.ntmps70
    go_wp2
    go_loopw [1, 5] (fun q i wr => ∃ k : Nat, k ≤ xs.length ∧ i = .int .i64 k ∧ (sumbk waysM (xs.take k) : Int) + xs.length ≤ left ∧ q = .int .i64 (left - (xs.length : Int) - sumbk waysM (xs.take k)) ∧ Below w.heap.size w wr) (fun _ i _ => xs.length - (intOf i).toNat)
    case atStart => exact ⟨0, Nat.zero_le _, rfl, by simp [sumbk]; omega, by simp [sumbk], Below.refl _ _⟩
    case round =>
      obtain ⟨k, hk, rfl, ht, rfl, BB⟩ := hrel
      by_cases hlt : k < xs.length
      · have hlt' : (k : Int) < (xs.length : Int) := by omega
        obtain ⟨x, hx⟩ : ∃ x, xs[k]? = some x := ⟨_, List.getElem?_eq_getElem hlt⟩
        have H2 := slrd_keep H0.out fun k hk => BB.block k hk
        obtain ⟨b, off, cs, rfl, ⟨aj, cj, rfl, hd1, hd2, hd3⟩, hcell⟩ := slrd_at H2 hx
        have x0 := hcell 0 _ rfl
        rw [show k * waysR.size + 0 = k from Nat.mul_one k] at x0
        have HX : Hid (x.length ≤ maxLen) := Nat.le_trans hd1 hd2
        have HR : Hid (SlRd wayR wr aj x) := hd3
        clear hcell hd1 hd2 hd3
        have HT : Hid _ := sumbk_step (M := waysM) hx
        have hxs := sumbk_get (M := waysM) hx
        clear hx H2
        generalize sumbk waysM (xs.take k) = T at ht HT hxs ⊢
        by_cases hf : (((waysM).bk x : Nat) : Int) ≤ left - (xs.length : Int) - (T : Int)
        · have hf' : ¬ (left - (xs.length : Int) - (T : Int) - (((waysM).bk x : Nat) : Int) < 0) := by omega
          have HS : Hid (szI ((waysM).bk x) (left - (xs.length : Int) - (T : Int)) = _) := szI_yes hf
          go_wp2_with (go_at_call 99; refine (szWayS_rep _ x _ _ _ HR.out (by omega) (by omega) HX.out).mono ?_; rintro e w' ⟨rfl, bb⟩; replace BB := below_step BB bb; clear bb; rw [HS.out])
          go_roundw
          case rel => exact ⟨k + 1, by omega, by go_num, by have := HT.out; omega, by rw [HT.out]; go_num, BB⟩
          case measure => simp [intOf]; omega
        · have HS : Hid (szI ((waysM).bk x) (left - (xs.length : Int) - (T : Int)) = _) := szI_no hf
          have HN : Hid (szI ((slM waysM).bk xs) left = -1) := by unfold Hid; rw [HB.out]; exact szI_no (by omega)
          go_wp2_with (go_at_call 99; refine (szWayS_rep _ x _ _ _ HR.out (by omega) (by omega) HX.out).mono ?_; rintro e w' ⟨rfl, bb⟩; replace BB := below_step BB bb; clear bb; rw [HS.out])
          go_ret
          exact ⟨ret_int HN.out.symm, BB⟩
      · have hkl : k = xs.length := by omega
        subst hkl
        rw [List.take_length] at ht ⊢
        have HN : Hid (szI ((slM waysM).bk xs) left = left - (xs.length : Int) - (sumbk waysM xs : Int)) := by unfold Hid; rw [HB.out, szI_yes (by omega)]; omega
        go_wp2
        go_ret
        exact ⟨ret_int HN.out.symm, BB⟩
  · have hl' : left - (xs.length : Int) < 0 := by omega
    rw [szI_no (by omega)]
    clear hbk h
    go_enter Try.func70, Try.ntmps70
    go_wp2
    go_ret
    exact ⟨rfl, Below.refl _ _⟩

def szC (c : List (List (Int × Int × List Int)) × List Int) (left : Int) : Int := if ((cacheM.bk c : Nat) : Int) ≤ left then left - cacheM.bk c else -1

set_option maxHeartbeats 1000000 in
theorem szCache_rep (a b : Option Addr) (c : List (List (Int × Int × List Int)) × List Int) (cap cp : Nat) (left : Int) (w : World) (h : SlRd waysR w a c.1) (h0 : 0 ≤ left) (h1 : left ≤ 1048576) (m1 : c.1.length ≤ maxLen) (m2 : c.2.length ≤ maxLen) :
    Calls Try.prog 27 #[.agg #[.slice a c.1.length cap, .slice b c.2.length cp], .int .i64 left] w fun e w' => e = .returned (.int .i64 (szI (cacheM.bk c) left)) ∧ Below w.heap.size w w' := by
  have hbk : cacheM.bk c = setsM.bk c.1 + intsM.bk c.2 := rfl
  rw [hbk]
  have X := heap_alloc_new w (.cells #[.slice a c.1.length cap, .slice b c.2.length cp] 48)
  have BX := box_below w (.cells #[.slice a c.1.length cap, .slice b c.2.length cp] 48)
  have H : Hid (∀ o, SlRd waysR (w.alloc o) a c.1) := fun o => slrd_next h (box_below w o)
  clear h hbk
  generalize hn1 : setsM.bk c.1 = n1
  generalize hn2 : intsM.bk c.2 = n2
  have C1 := szWaySS_rep a c.1 cap left (w.alloc (.cells #[.slice a c.1.length cap, .slice b c.2.length cp] 48)) (H.out _) h0 h1 m1
  rw [hn1] at C1
  by_cases hl : (n1 : Int) ≤ left
  · rw [szI_yes hl] at C1
    have hl' : ¬ (left - (n1 : Int) < 0) := by omega
    have C2 : Hid (∀ W, Calls Try.prog 71 #[.slice b c.2.length cp, .int .i64 (left - (n1 : Int))] W fun e w' => e = .returned (.int .i64 (szI n2 (left - (n1 : Int)))) ∧ w' = W) := fun W => by
      have := szInt64S_rep b c.2 cp (left - (n1 : Int)) W (by omega) (by omega) m2
      rwa [hn2] at this
    clear hn1 hn2 H m1 m2
    by_cases hl2 : (n2 : Int) ≤ left - (n1 : Int)
    · have HR : Hid (szI (n1 + n2) left = left - (n1 : Int) - (n2 : Int)) := by unfold Hid; rw [szI_yes (by omega)]; omega
      have hl2' : ¬ (left - (n1 : Int) - (n2 : Int) < 0) := by omega
      have HS : Hid (szI n2 (left - (n1 : Int)) = left - (n1 : Int) - (n2 : Int)) := szI_yes hl2
      go_enter Try.func27, Try.ntmps27
      go_wp2_with fail
      refine C1.mono ?_
      rintro e w1 ⟨rfl, b1⟩
      obtain ⟨y0, y1⟩ := cell_two (row_keep b1 X)
      have BB := below_step BX b1
      clear b1 X BX C1
      go_wp2_with (go_at_call 71; refine (C2.out _).mono ?_; rintro e w' ⟨rfl, rfl⟩; rw [HS.out])
      go_ret
      exact ⟨ret_int HR.out.symm, BB⟩
    · have HR : Hid (szI (n1 + n2) left = -1) := by unfold Hid; exact szI_no (by omega)
      have HS : Hid (szI n2 (left - (n1 : Int)) = -1) := szI_no hl2
      go_enter Try.func27, Try.ntmps27
      go_wp2_with fail
      refine C1.mono ?_
      rintro e w1 ⟨rfl, b1⟩
      obtain ⟨y0, y1⟩ := cell_two (row_keep b1 X)
      have BB := below_step BX b1
      clear b1 X BX C1
      go_wp2_with (go_at_call 71; refine (C2.out _).mono ?_; rintro e w' ⟨rfl, rfl⟩; rw [HS.out])
      go_ret
      exact ⟨ret_int HR.out.symm, BB⟩
  · rw [szI_no hl] at C1
    have HR : Hid (szI (n1 + n2) left = -1) := by unfold Hid; exact szI_no (by omega)
    clear hn1 hn2 H m1 m2
    go_enter Try.func27, Try.ntmps27
    go_wp2_with fail
    refine C1.mono ?_
    rintro e w1 ⟨rfl, b1⟩
    obtain ⟨y0, y1⟩ := cell_two (row_keep b1 X)
    have BB := below_step BX b1
    clear b1 X BX C1
    go_wp2
    go_ret
    exact ⟨ret_int HR.out.symm, BB⟩

end Go.Proofs.Ytmldilmiihafoaa
