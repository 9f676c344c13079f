
/- NewCore. -/
import Derived.Test.YthbclkpmgcfdnaaGreatDoorImpl12
import Derived.Test.YthbclkpmgcfdnaaGreatDoorJWayCopy3CloneOps
import Derived.Test.YthbclkpmgcfdnaaGreatDoorJLines614Iters
/- A new core, of the program and of its specification. Condition: a list of ops that reads as told. -/
namespace Go.Proofs.YthbclkpmgcfdnaaGreatDoor
open Go.ChangeShapes Go.WideShapes Go.ChangeAt Go.RowKit
set_option linter.unusedVariables false
def zeroC : CoreD := (([], []), [], 0, 0, (0, 0, []), [])
abbrev zCells : List Value := [.slice none 0 0, .slice none 0 0, .slice none 0 0, .int .i64 0, .int .i64 0, .int .i64 0, .int .i64 0, .slice none 0 0, .slice none 0 0]
theorem own_nil0 {α : Type} {e : TypeId} {R : Rep α} (w : World) (S : Foot) : (slR e R).own w S [.slice none 0 0] [] := ⟨_, [], fun _ => False, rfl, World.ownsRow_nil _ _ _ _, fun g hg => by simp [Value.ownBlock] at hg, fun _ h => h.elim, rfl⟩
theorem i64_0 : In64 0 := by constructor <;> omega
theorem own_zero (w : World) (S : Foot) : coreR.own w S zCells zeroC :=
  own_core (x := zeroC) (S0 := fun _ => False) (S1 := fun _ => False) (S4 := fun _ => False) (S5 := fun _ => False) i64_0 i64_0 (own_cache (S1 := fun _ => False) (S2 := fun _ => False) (own_nil0 w _) (own_nil0 w _) (fun _ h => h.elim) (fun _ h => h.elim) (fun _ h _ => h)) (own_nil0 w _) (own_way i64_0 i64_0 (own_nil0 w _)) (own_nil0 w _)
    (fun _ h => h.elim) (fun _ h => h.elim) (fun _ h => h.elim) (fun _ h => h.elim) (fun _ h _ => h) (fun _ h _ => h) (fun _ h _ => h) (fun _ h _ => h) (fun _ h _ => h) (fun _ h _ => h)
end Go.Proofs.YthbclkpmgcfdnaaGreatDoor
