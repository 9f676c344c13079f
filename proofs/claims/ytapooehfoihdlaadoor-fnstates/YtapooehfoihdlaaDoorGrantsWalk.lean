/- The law FnGranted returns true at every code of at most 4096 bytes, and nothing that was there turns. -/
import Derived.Test.YtapooehfoihdlaaDoorDrawStates
import Derived.Test.YtapooehfoihdlaaDoorCrowds
namespace Go.Proofs.YtapooehfoihdlaaDoor
open Go.ChangeShapes Go.WideShapes Go.ChangeAt Go.RowKit
set_option linter.unusedVariables false

theorem wf_small {x : Int} (h : -1000 ≤ x ∧ x ≤ 1000) : (Lit.int .i64 x).wf = true := WalkArith.wf_i64 (by omega)

set_option maxHeartbeats 4000000 in
set_option maxRecDepth 100000 in
theorem granted_any (a : Option Addr) (len cap : Nat) (zs : List Int) (w : World) (hr : Row8 w a len zs) (hs : len ≤ 4096) (hh : Hold w) :
    Calls Tryd.prog 4 #[.slice a len cap] w fun e w' => e = .returned (.bool true) ∧ Below w.heap.size w w' := by
  have hbig : decide ((4096 : Int) < len) = false := by simp; omega
  go_enter Tryd.func4, Tryd.ntmps4
  go_wp2_with fail
  refine (big_any _ _ _ _).mono ?_
  rintro e w1 ⟨rfl, rfl⟩
  go_wp2_with fail
  refine (drawGranted_any _ _ _ zs _ hr).mono ?_
  rintro e w2 ⟨y, x, rfl, hx, b2⟩
  have h2 := hh.to b2
  have hxf := wf_small (x := x) (by omega)
  clear hr hs hbig hh
  by_cases h0 : x < 0
  · have KI := implGranted_any y x w2 h2 hxf
    have KS : ∀ wx, Calls Tryd.prog 21 #[.bool y, .int .i64 x] wx fun e w' => e = .returned (.int .i64 (-1)) ∧ w' = wx := fun wx => by have := specGranted_any y x wx; rwa [show grantI y x = -1 by simp [grantI, h0]] at this
    rw [show grantI y x = -1 by simp [grantI, h0]] at KI
    go_wp2_with fail
    refine KI.mono ?_
    rintro e w3 ⟨rfl, b3⟩
    go_wp2_with fail
    refine (KS _).mono ?_
    rintro e w4 ⟨rfl, rfl⟩
    go_wp2
    go_ret
    exact ⟨rfl, b2.trans (b3.mono b2.size)⟩
  · have h0' : 0 ≤ x := by omega
    cases y
    · by_cases hz : x = 0
      · subst hz
        have KI := implGranted_any false 0 w2 h2 hxf
        go_wp2_with fail
        refine KI.mono ?_
        rintro e w3 ⟨rfl, b3⟩
        rw [show grantI false 0 = 2 from rfl]
        go_wp2_with fail
        refine (specGranted_any _ _ _).mono ?_
        rintro e w4 ⟨rfl, rfl⟩
        rw [show grantI false 0 = 2 from rfl]
        have h3 := h2.to b3
        go_wp2_with fail
        refine (implAsks_any 2 false _ h3).mono ?_
        rintro e w5 ⟨rfl, rfl⟩
        rw [show asksI 2 false = 0 from rfl]
        go_wp2
        go_ret
        exact ⟨rfl, b2.trans (b3.mono b2.size)⟩
      · have KI := implGranted_any false x w2 h2 hxf
        have hz1 : (x == 0) = false := by simpa using hz
        have KG : grantI false x = 1 := by simp [grantI, h0, hz]
        rw [KG] at KI
        have KS : ∀ wx, Calls Tryd.prog 21 #[.bool false, .int .i64 x] wx fun e w' => e = .returned (.int .i64 1) ∧ w' = wx := fun wx => by have := specGranted_any false x wx; rwa [KG] at this
        clear KG
        go_wp2_with fail
        refine KI.mono ?_
        rintro e w3 ⟨rfl, b3⟩
        go_wp2_with fail
        refine (KS _).mono ?_
        rintro e w4 ⟨rfl, rfl⟩
        have h3 := h2.to b3
        go_wp2_with fail
        refine (implAsks_any 1 false _ h3).mono ?_
        rintro e w5 ⟨rfl, rfl⟩
        rw [show asksI 1 false = 0 from rfl]
        go_wp2
        go_ret
        exact ⟨rfl, b2.trans (b3.mono b2.size)⟩
    · have KI := implGranted_any true x w2 h2 hxf
      have KG : grantI true x = 3 := by simp [grantI, h0]
      rw [KG] at KI
      have KS : ∀ wx, Calls Tryd.prog 21 #[.bool true, .int .i64 x] wx fun e w' => e = .returned (.int .i64 3) ∧ w' = wx := fun wx => by have := specGranted_any true x wx; rwa [KG] at this
      clear KG
      go_wp2_with fail
      refine KI.mono ?_
      rintro e w3 ⟨rfl, b3⟩
      go_wp2_with fail
      refine (KS _).mono ?_
      rintro e w4 ⟨rfl, rfl⟩
      have h3 := h2.to b3
      go_wp2_with fail
      refine (implAsks_any 3 true _ h3).mono ?_
      rintro e w5 ⟨rfl, rfl⟩
      rw [show asksI 3 true = 0 from rfl]
      go_wp2
      go_ret
      exact ⟨rfl, b2.trans (b3.mono b2.size)⟩
end Go.Proofs.YtapooehfoihdlaaDoor
