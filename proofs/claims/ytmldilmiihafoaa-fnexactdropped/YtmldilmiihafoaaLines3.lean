/- The contracts of lines, of the program: what LineOk, WordAt, Put and Masked answer; lists are new memory. No condition. -/
import Derived.Test.YtmldilmiihafoaaLines2
namespace Go.Proofs.Ytmldilmiihafoaa
open Go.ChangeShapes Go.WideShapes Go.ChangeAt Go.RowKit

def wordI (xs : List Int) (k : Int) : Int := if isL xs then (if betw k 0 1 then xs.getD k.toNat 0 else -1) else -1
def putL (xs : List Int) (k v : Int) : List Int := if isL xs then (if betw k 0 1 then (if okW v then xs.set k.toNat v else xs) else xs) else []
def putB (xs : List Int) (k v : Int) : Bool := isL xs && (betw k 0 1 && okW v)
def maskL (xs ys : List Int) (m : Int) : List Int :=
  if isL xs && isL ys && betw m 0 3 then [if m % 2 = 1 then ys.getD 0 0 else xs.getD 0 0, if m / 2 % 2 = 1 then ys.getD 1 0 else xs.getD 1 0] else []

theorem isL_yes {x y : Int} (hx : okW x = true) (hy : okW y = true) : isL [x, y] = true := by simp [isL, hx, hy]
theorem betw_two {k : Int} (h : betw k 0 1 = true) : k = 0 ∨ k = 1 := by simp [betw] at h; omega
theorem betw_four {k : Int} (h : betw k 0 3 = true) : k = 0 ∨ k = 1 ∨ k = 2 ∨ k = 3 := by simp [betw] at h; omega




set_option maxHeartbeats 400000 in
theorem implLineOk_any (a : Option Addr) (xs : List Int) (cap : Nat) (w : World) (h : Reads w a xs) :
    Calls Try.prog 87 #[.slice a xs.length cap] w fun e w' => e = .returned (.bool (isL xs)) ∧ Below w.heap.size w w' := by
  rcases isL_cases xs with hn | ⟨x, y, rfl, hx, hy⟩
  · go_enter Try.func87, Try.ntmps87
    go_wp2_with fail
    refine (wordsOf_no _ xs _ _ h hn).mono ?_
    rintro e w1 ⟨x, y, rfl, b1⟩
    go_wp2
    go_ret
    exact ⟨by rw [hn]; rfl, b1.alloc b1.size _⟩
  · have hh := isL_yes hx hy
    go_enter Try.func87, Try.ntmps87
    go_wp2_with fail
    refine (wordsOf_yes _ x y _ _ h hx hy).mono ?_
    rintro e w1 ⟨rfl, b1⟩
    go_wp2
    go_ret
    exact ⟨by rw [hh]; rfl, b1.alloc b1.size _⟩


end Go.Proofs.Ytmldilmiihafoaa
