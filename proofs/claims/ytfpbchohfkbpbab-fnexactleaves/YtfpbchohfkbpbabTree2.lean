/- The contracts of the program's walk by labels that touches a way. Conditions: it is a tree, and a way. -/
import Derived.Test.YtfpbchohfkbpbabTree
import Derived.WalkMore
import Derived.ScopeJumps
namespace Go
theorem wp_scope_once {P : Program} {a : Act} {w : World} {Q : Exit → Act → World → Prop} {c rest : Code} (l : Nat) (hf : findLabel c l = some rest)
    (first : c.wp P (Exit.jump l (fun a w => rest.wp P (Exit.noGoto Q) a w) Q) a w) : (Code.scope c).wp P Q a w := by
  refine wp_scope_jumps l (fun a w => rest.wp P (Exit.noGoto Q) a w) (fun _ _ => 0) hf first ?_
  intro a w h
  refine wp_mono h ?_
  intro e a' w' h'
  cases e <;> simp_all [Exit.noGoto, Exit.jump]
end Go
namespace Go.Proofs.Ytfpbchohfkbpbab
open Go.ChangeShapes Go.WideShapes Go.ChangeAt Go.RowKit

def touI (t n y : Int) : Int := if n = 1 then t else if n = 2 then telI t 0 (1 - y) else telI (telI t 0 (1 - y / 2)) (1 + y / 2) (1 - y % 2)




def tuI (t n y : Int) : Int := if treeB t n && betw y 0 (n - 1) then touI t n y else -1

theorem tree_pow {t n : Int} (h : treeB t n = true) : n = 1 ∨ n = 2 ∨ n = 4 := by
  simp [treeB] at h
  omega


end Go.Proofs.Ytfpbchohfkbpbab
