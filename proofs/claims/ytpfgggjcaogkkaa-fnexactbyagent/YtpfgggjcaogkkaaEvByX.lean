
/- ByAgent in the one form; how great its answer is. -/
import Derived.Test.YtpfgggjcaogkkaaEvBy
import Derived.Test.YtpfgggjcaogkkaaEventsMk
import Derived.Test.YtpfgggjcaogkkaaGxKit
namespace Go.Proofs.Ytpfgggjcaogkkaa
open Go.ChangeShapes Go.WideShapes Go.ChangeAt Go.RowKit
set_option linter.unusedVariables false
set_option linter.unusedSimpArgs false
theorem bd_opE : Bd opM 4 := bd_prod bd_int (bd_prod bd_int (bd_prod bd_int bd_int))
theorem bd_eventE : Bd eventM 9 := bd_prod bd_int (bd_prod bd_opE (bd_prod bd_int (bd_prod bd_int (bd_prod (bd_sl bd_int) bd_int))))
theorem bv_events : Bv eventsM 9 := bv_sl bd_eventE
theorem ev_bk (u : EventD) : u.2.2.2.2.1.length ≤ eventM.bk u := by
  show u.2.2.2.2.1.length ≤ intM.bk u.1 + (opM.bk u.2.1 + (intM.bk u.2.2.1 + (intM.bk u.2.2.2.1 + ((u.2.2.2.2.1.length + sumbk intM u.2.2.2.2.1) + intM.bk u.2.2.2.2.2))))
  omega
theorem ev_small {xs : List EventD} (h : eventsM.bk xs ≤ 1048576) : xs.length ≤ 1048576 ∧ ∀ u ∈ xs, u.2.2.2.2.1.length ≤ 1048576 := by
  have e : eventsM.bk xs = xs.length + sumbk eventM xs := rfl
  refine ⟨by omega, fun u hu => ?_⟩
  obtain ⟨k, hk⟩ := List.getElem?_of_mem hu
  have := sumbk_ge eventM xs hk
  have := ev_bk u
  omega
theorem sum_filter (p : EventD → Bool) (xs : List EventD) : sumbk eventM (xs.filter p) ≤ sumbk eventM xs := by
  unfold sumbk
  induction xs with
  | nil => simp
  | cons u l ih =>
    rw [List.filter_cons]
    split
    · simp only [List.map_cons, List.sum_cons]; omega
    · simp only [List.map_cons, List.sum_cons]; omega
theorem by_small (xs : List EventD) (a : Int) (h : eventsM.bk xs ≤ 1048576) : eventsM.bk (byA a xs) ≤ 8388608 := by
  have e : eventsM.bk xs = xs.length + sumbk eventM xs := rfl
  have e2 : eventsM.bk (byA a xs) = (byA a xs).length + sumbk eventM (byA a xs) := rfl
  have l := List.length_filter_le (fun u : EventD => decide (u.1 = a)) xs
  have s := sum_filter (fun u : EventD => decide (u.1 = a)) xs
  unfold byA at *
  omega
theorem specBy_u (cs : List Value) (x : List EventD) (a : Int) (w : World) (h : eventsR.rd w cs x) (hbk : eventsM.bk x ≤ 1048576) :
    Calls Try.prog 5 #[cell1 cs, .int .i64 a] w fun e w' => ∃ ds, e = .returned (cell1 ds) ∧ eventsR.rd w' ds (byA a x) ∧ Below w.heap.size w w' := by
  obtain ⟨b, cap, rfl, -, -, R⟩ := h
  refine (specBy_any b x cap a w R (ev_small hbk).1 (ev_small hbk).2).mono ?_
  rintro e w' ⟨v, rfl, M⟩
  exact ⟨[v], rfl, eventsR.own_rd M.1, M.2⟩
theorem implBy_u (cs : List Value) (x : List EventD) (a : Int) (w : World) (h : eventsR.rd w cs x) (hbk : eventsM.bk x ≤ 1048576) :
    Calls Try.prog 7 #[cell1 cs, .int .i64 a] w fun e w' => ∃ ds, e = .returned (cell1 ds) ∧ MadeR eventsR w w' ds (byA a x) := by
  obtain ⟨b, cap, rfl, -, -, R⟩ := h
  refine (implBy_any b x cap a w R (ev_small hbk).1 (ev_small hbk).2).mono ?_
  rintro e w' ⟨v, rfl, M⟩
  exact ⟨[v], rfl, M⟩
end Go.Proofs.Ytpfgggjcaogkkaa
