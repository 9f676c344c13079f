
import Derived.Test.YtpfgggjcaogkkaaBits
import Derived.Test.YtpfgggjcaogkkaaCopies
import Derived.LoopN
import Derived.Deep.RegionWith
import Derived.BigRegion
/- The contracts of lines: two words as an array that is compared, of the program and of its specification. No condition. -/
namespace Go.Proofs.Ytpfgggjcaogkkaa
open Go.ChangeShapes Go.WideShapes Go.ChangeAt Go.RowKit

def press (x : Int) : Int := min (max x 0) 9999
def okW (x : Int) : Bool := betw x 0 9999


theorem alloc_len (w : World) (o : Obj) : (w.alloc o).heap.size = w.heap.size + 1 := by simp
theorem cell_two {w : World} {g : Nat} {x y : Value} {t : TypeId} (h : w.heap[g]? = some (.cells #[x, y] t (0, 0))) :
    w.cell? ⟨g, 0, none⟩ = some x ∧ w.cell? ⟨g, 1, none⟩ = some y :=
  ⟨by rw [cell_of_row w g 0 _ t (0, 0) h]; rfl, by rw [cell_of_row w g 1 _ t (0, 0) h]; rfl⟩
theorem row_keep {w w' : World} {g : Nat} {o : Obj} (hb : Below w.heap.size w w') (h : w.heap[g]? = some o) : w'.heap[g]? = some o :=
  (hb.block g (Array.getElem?_eq_some_iff.1 h).1).trans h


theorem press_eq (x : Int) : (x == press x) = okW x := by
  rw [Bool.eq_iff_iff]; simp [press, okW, betw]; omega



end Go.Proofs.Ytpfgggjcaogkkaa

/- The contracts of the two words that a list gives, of the program: a line, or none. No condition. -/
namespace Go.Proofs.Ytpfgggjcaogkkaa
open Go.ChangeShapes Go.WideShapes Go.ChangeAt Go.RowKit

theorem froz_two {w : World} {g : Nat} {cs : Array Value} {t : TypeId} (h : w.heap[g]? = some (.cells cs t (0, 0))) :
    w.frozen? ⟨g, 0, none⟩ = false ∧ w.frozen? ⟨g, 1, none⟩ = false := ⟨frozen_of_row w g 0 _ t h, frozen_of_row w g 1 _ t h⟩
theorem reads_two {w : World} {a : Option Addr} {x y : Int} (h : Reads w a [x, y]) : ∃ b off, a = some ⟨b, off, none⟩ ∧ w.cell? ⟨b, off, none⟩ = some (.int .i64 x) ∧ w.cell? ⟨b, off + 1, none⟩ = some (.int .i64 y) := by
  rcases h with h | ⟨b, off, ha, hc⟩
  · simp at h
  · exact ⟨b, off, ha, hc 0 (by simp), hc 1 (by simp)⟩



def isL : List Int → Bool
  | [x, y] => okW x && okW y
  | _ => false

theorem isL_cases (xs : List Int) : isL xs = false ∨ ∃ x y, xs = [x, y] ∧ okW x = true ∧ okW y = true := by
  match xs with
  | [] => exact .inl rfl
  | [_] => exact .inl rfl
  | [x, y] =>
    cases h1 : okW x
    · exact .inl (by simp [isL, h1])
    · cases h2 : okW y
      · exact .inl (by simp [isL, h2])
      · exact .inr ⟨x, y, rfl, h1, h2⟩
  | _ :: _ :: _ :: _ => exact .inl rfl




end Go.Proofs.Ytpfgggjcaogkkaa

/- The contracts of lines, of the program: what LineOk, WordAt, Put and Masked answer; lists are new memory. No condition. -/
namespace Go.Proofs.Ytpfgggjcaogkkaa
open Go.ChangeShapes Go.WideShapes Go.ChangeAt Go.RowKit

def wordI (xs : List Int) (k : Int) : Int := if isL xs then (if betw k 0 1 then xs.getD k.toNat 0 else -1) else -1
def putL (xs : List Int) (k v : Int) : List Int := if isL xs then (if betw k 0 1 then (if okW v then xs.set k.toNat v else xs) else xs) else []
def putB (xs : List Int) (k v : Int) : Bool := isL xs && (betw k 0 1 && okW v)
def maskL (xs ys : List Int) (m : Int) : List Int :=
  if isL xs && isL ys && betw m 0 3 then [if m % 2 = 1 then ys.getD 0 0 else xs.getD 0 0, if m / 2 % 2 = 1 then ys.getD 1 0 else xs.getD 1 0] else []

theorem isL_yes {x y : Int} (hx : okW x = true) (hy : okW y = true) : isL [x, y] = true := by simp [isL, hx, hy]
theorem betw_two {k : Int} (h : betw k 0 1 = true) : k = 0 ∨ k = 1 := by simp [betw] at h; omega
theorem betw_four {k : Int} (h : betw k 0 3 = true) : k = 0 ∨ k = 1 ∨ k = 2 ∨ k = 3 := by simp [betw] at h; omega






end Go.Proofs.Ytpfgggjcaogkkaa
