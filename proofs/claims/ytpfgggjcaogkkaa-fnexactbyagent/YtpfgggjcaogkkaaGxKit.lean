
/- What every exact law's walk wants: bounds on marks, and the kit's own parts. No program here. -/
import Derived.Test.YtpfgggjcaogkkaaUPair
import Derived.Deep.Cut
import Derived.Deep.DeepCutAuto
import Derived.Deep.RegionWith
namespace Go.Proofs.Ytpfgggjcaogkkaa
open Go.ChangeShapes Go.WideShapes Go.ChangeAt Go.RowKit
set_option linter.unusedVariables false
section
variable {α β : Type}
def Bv (M : Mk α) (K : Nat) : Prop := ∀ x, M.cV x ≤ K * M.bk x
theorem bv_int : Bv intM 0 := fun _ => by simp [intM]
theorem bv_bool : Bv boolM 0 := fun _ => by simp [boolM]
theorem bv_prod {M : Mk α} {N : Mk β} {K L : Nat} (h : Bv M K) (k : Bv N L) : Bv (prodM M N) (K + L) := fun x => by
  have h1 := h x.1
  have h2 := k x.2
  show M.cV x.1 + N.cV x.2 ≤ (K + L) * (M.bk x.1 + N.bk x.2)
  have e1 : K * M.bk x.1 ≤ K * (M.bk x.1 + N.bk x.2) := Nat.mul_le_mul_left _ (by omega)
  have e2 : L * N.bk x.2 ≤ L * (M.bk x.1 + N.bk x.2) := Nat.mul_le_mul_left _ (by omega)
  rw [Nat.add_mul]
  omega
theorem bv_sl {M : Mk α} {K : Nat} (h : Bd M K) : Bv (slM M) K := slcnt_bd h
theorem bv_ints : Bv intsM 1 := bv_sl bd_int
end
end Go.Proofs.Ytpfgggjcaogkkaa
