
import Derived.Test.YtpfgggjcaogkkaaChange
import Derived.Test.YtpfgggjcaogkkaaPow
import Derived.WalkMore
import Derived.ScopeJumps
/- The contracts of the trees' smallest functions: whether it is a tree, of the program and of its specification; the bit of a pair, the other one, what a bit tells. No condition but that a bit's number is from 0 to 7. -/
namespace Go.Proofs.Ytpfgggjcaogkkaa
open Go.ChangeShapes Go.WideShapes Go.ChangeAt Go.RowKit

def treeB (t n : Int) : Bool := decide ((n = 1 ∧ t = 0) ∨ (n = 2 ∧ 0 ≤ t ∧ t ≤ 1) ∨ (n = 4 ∧ 0 ≤ t ∧ t ≤ 7))







def telI (t b o : Int) : Int := if o = 0 then andNotI t b else orI t b


end Go.Proofs.Ytpfgggjcaogkkaa

/- The contracts of the program's walk by labels that touches a way. Conditions: it is a tree, and a way. -/
namespace Go
theorem wp_scope_once {P : Program} {a : Act} {w : World} {Q : Exit → Act → World → Prop} {c rest : Code} (l : Nat) (hf : findLabel c l = some rest)
    (first : c.wp P (Exit.jump l (fun a w => rest.wp P (Exit.noGoto Q) a w) Q) a w) : (Code.scope c).wp P Q a w := by
  refine wp_scope_jumps l (fun a w => rest.wp P (Exit.noGoto Q) a w) (fun _ _ => 0) hf first ?_
  intro a w h
  refine wp_mono h ?_
  intro e a' w' h'
  cases e <;> simp_all [Exit.noGoto, Exit.jump]
end Go
namespace Go.Proofs.Ytpfgggjcaogkkaa
open Go.ChangeShapes Go.WideShapes Go.ChangeAt Go.RowKit

def touI (t n y : Int) : Int := if n = 1 then t else if n = 2 then telI t 0 (1 - y) else telI (telI t 0 (1 - y / 2)) (1 + y / 2) (1 - y % 2)




def tuI (t n y : Int) : Int := if treeB t n && betw y 0 (n - 1) then touI t n y else -1

theorem tree_pow {t n : Int} (h : treeB t n = true) : n = 1 ∨ n = 2 ∨ n = 4 := by
  simp [treeB] at h
  omega


end Go.Proofs.Ytpfgggjcaogkkaa

/- The contracts of the specification's Touched and Victim. No condition. -/
namespace Go.Proofs.Ytpfgggjcaogkkaa
open Go.ChangeShapes Go.WideShapes Go.ChangeAt Go.RowKit



theorem eight {t : Int} (h : 0 ≤ t ∧ t ≤ 7) : t = 0 ∨ t = 1 ∨ t = 2 ∨ t = 3 ∨ t = 4 ∨ t = 5 ∨ t = 6 ∨ t = 7 := by omega



def goI (t n : Int) : Int := if n = 1 then 0 else if n = 2 then t else 2 * (t % 2) + t / 2 ^ (1 + t % 2).toNat % 2
def viI (t n : Int) : Int := if treeB t n then goI t n else -1

end Go.Proofs.Ytpfgggjcaogkkaa

/- The contracts of the program's walk by labels that tells who goes, and of its Victim and VictimBut. No condition. -/
namespace Go.Proofs.Ytpfgggjcaogkkaa
open Go.ChangeShapes Go.WideShapes Go.ChangeAt Go.RowKit

def butL (xs : List Int) (k : Int) : Int := (xs.find? (fun x => !inB k x)).getD (-1)
theorem butL_hit {x k : Int} {xs : List Int} (h : inB k x = false) : butL (x :: xs) k = x := by simp [butL, h]
theorem butL_miss {x k : Int} {xs : List Int} (h : inB k x = true) : butL (x :: xs) k = butL xs k := by simp [butL, h]

end Go.Proofs.Ytpfgggjcaogkkaa

/- The contracts of the program's Victim and VictimBut: the first of a list that is not kept. No condition. -/
namespace Go.Proofs.Ytpfgggjcaogkkaa
open Go.ChangeShapes Go.WideShapes Go.ChangeAt Go.RowKit

def backI (t : Int) : Int := 2 * (1 - t % 2) + t / 2 ^ (1 + (1 - t % 2)).toNat % 2
def ordI (t n : Int) : List Int := if n = 1 then [0] else if n = 2 then [t, bits BinOp.xor IntKind.i64 t 1] else [goI t 4, bits BinOp.xor IntKind.i64 (goI t 4) 1, backI t, bits BinOp.xor IntKind.i64 (backI t) 1]
def vbI (t n k : Int) : Int := if treeB t n && setB k then butL (ordI t n) k else -1

theorem vb_zero (t n : Int) : vbI t n 0 = viI t n := by
  cases h : treeB t n
  · simp [vbI, viI, h]
  · have h5 := h
    simp [treeB] at h5
    rcases tree_pow h with rfl | rfl | rfl
    · have : t = 0 := by omega
      subst this
      decide +kernel
    · obtain rfl | rfl : t = 0 ∨ t = 1 := by omega
      · decide +kernel
      · decide +kernel
    · clear h
      rcases eight (t := t) (by omega) with rfl | rfl | rfl | rfl | rfl | rfl | rfl | rfl <;> decide +kernel

end Go.Proofs.Ytpfgggjcaogkkaa
