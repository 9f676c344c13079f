
/- The contracts of NewMemory, ReadLine and WriteLine, of the specification. Conditions: lengths that a machine can hold. -/
import Derived.Test.YtcnnojfkpkmdmaaMems9
namespace Go.Proofs.Ytcnnojfkpkmdmaa
open Go.ChangeShapes Go.WideShapes Go.ChangeAt Go.RowKit

theorem copy_push {xss : List (List Int)} {rs : List Rw} {k g c : Nat} {xs : List Int} (h : rs.map Rw.xs = xss.take k) (hx : xss[k]? = some xs) : (rs ++ [(⟨g, c, xs⟩ : Rw)]).map Rw.xs = xss.take (k + 1) := take_push h hx

theorem readL_at {xss : List (List Int)} {j : Nat} {xs : List Int} (hk : memOk xss = true) (hb : betw (j : Int) 0 ((xss.length : Int) - 1) = true) (hx : xss[j]? = some xs) : readL xss j = xs := by
  unfold readL
  rw [hk, hb]
  simp [List.getD_eq_getElem?_getD, hx]

end Go.Proofs.Ytcnnojfkpkmdmaa
