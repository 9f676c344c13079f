/- Which letter is the first of its road, of the specification. No condition but a list that reads as told, of a length that a machine can hold. -/
import Derived.Test.YtfflmbpjolgghaaNetOk
namespace Go.Proofs.Ytfflmbpjolgghaa
open Go.ChangeShapes Go.WideShapes Go.ChangeAt Go.RowKit
set_option linter.unusedVariables false

theorem bl_drewN {B : Nat} {a w : World} (h : Below B a w) (n : Nat) : Below B a (w.drewN n) := ⟨h.os, h.tape, h.output, h.size, h.block⟩
def sameB (u v : MsgD) : Bool := decide (u.1 = v.1) && (decide (u.2.1 = v.2.1) && decide (u.2.2.1 = v.2.2.1))
/-- No letter ahead of number k is of the road of v. -/
def NoneOf (xs : List MsgD) (v : MsgD) (k : Nat) : Prop := ∀ j u, j < k → xs[j]? = some u → sameB u v = false
open Classical in
noncomputable def firstB (xs : List MsgD) (k : Int) : Bool := decide (0 ≤ k ∧ ∃ v, xs[k.toNat]? = some v ∧ NoneOf xs v k.toNat)
theorem first_out {xs : List MsgD} {k : Int} (h : k < 0 ∨ (xs.length : Int) ≤ k) : firstB xs k = false := by
  simp only [firstB, decide_eq_false_iff_not]
  rintro ⟨h0, v, hv, -⟩
  have := (List.getElem?_eq_some_iff.1 hv).1
  omega
theorem first_yes {xs : List MsgD} {k : Nat} {v : MsgD} (hv : xs[k]? = some v) (h : NoneOf xs v k) : firstB xs (k : Int) = true := by
  simp only [firstB, decide_eq_true_eq]
  exact ⟨by omega, v, by simpa using hv, by simpa using h⟩
theorem first_no {xs : List MsgD} {k j : Nat} {u v : MsgD} (hv : xs[k]? = some v) (hj : j < k) (hu : xs[j]? = some u) (h : sameB u v = true) : firstB xs (k : Int) = false := by
  simp only [firstB, decide_eq_false_iff_not]
  rintro ⟨-, v', hv', hn⟩
  simp only [Int.toNat_natCast] at hv' hn
  rw [hv] at hv'
  cases hv'
  rw [hn j u hj hu] at h
  cases h

set_option maxRecDepth 8000 in
set_option maxHeartbeats 4000000 in
theorem l7First_any (a : Option Addr) (xs : List MsgD) (cap : Nat) (k : Int) (w : World) (h : SlRd msgR w a xs) (hm : xs.length ≤ maxLen) :
    Calls Try.prog 48 #[.slice a xs.length cap, .int .i64 k] w fun e w' => e = .returned (.bool (firstB xs k)) ∧ Below w.heap.size w w' := by
  have hm' : xs.length ≤ 9223372036854775807 := hm
  by_cases hk0 : k < 0
  · have HR : Hid (firstB xs k = false) := first_out (.inl hk0)
    go_enter Try.func48, Try.ntmps48
    go_wp2
    go_ret
    exact ⟨ret_bool HR.out.symm, Below.refl _ _⟩
  · by_cases hk1 : (xs.length : Int) ≤ k
    · have HR : Hid (firstB xs k = false) := first_out (.inr hk1)
      have hk2 : ¬ (k < (xs.length : Int)) := by omega
      go_enter Try.func48, Try.ntmps48
      go_wp2
      go_ret
      exact ⟨ret_bool HR.out.symm, Below.refl _ _⟩
    · obtain ⟨n, rfl⟩ : ∃ n : Nat, k = (n : Int) := ⟨k.toNat, by omega⟩
      have hn : n < xs.length := by omega
      have hn' : (n : Int) < (xs.length : Int) := by omega
      obtain ⟨v, hv⟩ : ∃ v, xs[n]? = some v := ⟨_, List.getElem?_eq_getElem hn⟩
      have H0 : Hid (∀ W, Below w.heap.size w W → SlRd msgR W a xs) := fun W hb => slrd_keep h fun k hk => hb.block k hk
      have HV : Hid (xs[n]? = some v) := hv
      clear h hm hv
      go_enter Try.func48, Try.ntmps48
      go_wp2
      go_loopw [5] (fun i wr => ∃ j : Nat, j ≤ n ∧ i = .int .i64 j ∧ NoneOf xs v j ∧ Below w.heap.size w wr) (fun i _ => n - (intOf i).toNat)
      case atStart => exact ⟨0, Nat.zero_le _, rfl, fun j u hj => by omega, Below.refl _ _⟩
      case round =>
        obtain ⟨j, hj, rfl, hno, BB⟩ := hrel
        by_cases hlt : j < n
        · have hlt' : (j : Int) < (n : Int) := by omega
          have hjl : (j : Int) < (xs.length : Int) := by omega
          obtain ⟨u, hu⟩ : ∃ u, xs[j]? = some u := ⟨_, List.getElem?_eq_getElem (by omega)⟩
          obtain ⟨b, off, cs, rfl, hrd, hcell⟩ := slrd_at (H0.out _ BB) hu
          obtain ⟨ad, cpw, rfl, -⟩ := msg_rd hrd
          have x0 := hcell 0 _ rfl
          have x1 := hcell 1 _ rfl
          have x2 := hcell 2 _ rfl
          rw [show off + (j * msgR.size + 0) = off + j * 7 from rfl] at x0
          rw [show off + (j * msgR.size + 1) = off + j * 7 + 1 from rfl] at x1
          rw [show off + (j * msgR.size + 2) = off + j * 7 + 2 from rfl] at x2
          obtain ⟨b', off', cs', e', hrd', hcell'⟩ := slrd_at (H0.out _ BB) HV.out
          simp only [Option.some.injEq, Addr.mk.injEq, and_true] at e'
          obtain ⟨rfl, rfl⟩ := e'
          obtain ⟨ad', cpw', rfl, -⟩ := msg_rd hrd'
          have y0 := hcell' 0 _ rfl
          have y1 := hcell' 1 _ rfl
          have y2 := hcell' 2 _ rfl
          rw [show off + (n * msgR.size + 0) = off + n * 7 from rfl] at y0
          rw [show off + (n * msgR.size + 1) = off + n * 7 + 1 from rfl] at y1
          rw [show off + (n * msgR.size + 2) = off + n * 7 + 2 from rfl] at y2
          have HU : Hid (xs[j]? = some u) := hu
          have HN : Hid (sameB u v = false → NoneOf xs v (j + 1)) := fun hs i z hi hz => by
            by_cases he : i < j
            · exact hno i z he hz
            · have : i = j := by omega
              subst this
              rw [HU.out] at hz
              cases hz
              exact hs
          have HF : Hid (sameB u v = true → firstB xs (n : Int) = false) := fun hs => first_no HV.out hlt HU.out hs
          have HS : Hid (sameB u v = (decide (u.1 = v.1) && (decide (u.2.1 = v.2.1) && decide (u.2.2.1 = v.2.2.1)))) := rfl
          clear hcell hcell' hrd hrd' hu
          generalize sameB u v = sb at HN HF HS
          generalize u.1 = u1 at x0 HS
          generalize u.2.1 = u2 at x1 HS
          generalize u.2.2.1 = u3 at x2 HS
          generalize v.1 = v1 at y0 HS
          generalize v.2.1 = v2 at y1 HS
          generalize v.2.2.1 = v3 at y2 HS
          have m0 : ∀ n' : Cls (fun wx => Below wr.heap.size wr wx), n'.w.cell? ⟨b, off + j * 7, none⟩ = some (.int .i64 u1) := fun n' => cell_keep n'.h x0 (cell_lt x0)
          have m1 : ∀ n' : Cls (fun wx => Below wr.heap.size wr wx), n'.w.cell? ⟨b, off + j * 7 + 1, none⟩ = some (.int .i64 u2) := fun n' => cell_keep n'.h x1 (cell_lt x1)
          have m2 : ∀ n' : Cls (fun wx => Below wr.heap.size wr wx), n'.w.cell? ⟨b, off + j * 7 + 2, none⟩ = some (.int .i64 u3) := fun n' => cell_keep n'.h x2 (cell_lt x2)
          have m3 : ∀ n' : Cls (fun wx => Below wr.heap.size wr wx), n'.w.cell? ⟨b, off + n * 7, none⟩ = some (.int .i64 v1) := fun n' => cell_keep n'.h y0 (cell_lt y0)
          have m4 : ∀ n' : Cls (fun wx => Below wr.heap.size wr wx), n'.w.cell? ⟨b, off + n * 7 + 1, none⟩ = some (.int .i64 v2) := fun n' => cell_keep n'.h y1 (cell_lt y1)
          have m5 : ∀ n' : Cls (fun wx => Below wr.heap.size wr wx), n'.w.cell? ⟨b, off + n * 7 + 2, none⟩ = some (.int .i64 v3) := fun n' => cell_keep n'.h y2 (cell_lt y2)
          clear x0 x1 x2 y0 y1 y2
          by_cases e1 : u1 = v1
          · by_cases e2 : u2 = v2
            · by_cases e3 : u3 = v3
              · have hr := HF.out (by rw [HS.out, e1, e2, e3]; simp)
                have HR : Hid (firstB xs (n : Int) = false) := hr
                clear hr HF HN HS
                subst e1 e2 e3
                go_wp2
                refine region_class (fun wx => Below wr.heap.size wr wx) (by kernel_rfl) (by kernel_rfl) ((Below.refl _ wr).drew) ?_
                intro hne
                repeat (quiet_step (fail))
                refine wpQuiet_nil ?_
                intro wx b2
                replace BB := below_step BB b2
                clear m0 m1 m2 m3 m4 m5 hne b2
                go_wp2
                go_ret
                exact ⟨ret_bool HR.out.symm, BB⟩
              · have hr := HN.out (by rw [HS.out]; simp [e3])
                have e3b : (u3 == v3) = false := beq_false_of_ne e3
                have HR : Hid _ := hr
                clear hr HF HN HS
                subst e1 e2
                go_wp2
                refine region_class (fun wx => Below wr.heap.size wr wx) (by kernel_rfl) (by kernel_rfl) ((Below.refl _ wr).drew) ?_
                intro hne
                repeat (quiet_step (fail))
                refine wpQuiet_nil ?_
                intro wx b2
                replace BB := below_step BB b2
                clear m0 m1 m2 m3 m4 m5 hne b2
                go_wp2
                go_roundw
                case rel => exact ⟨j + 1, by omega, by go_num, HR.out, BB⟩
                case measure => simp [intOf]; omega
            · have hr := HN.out (by rw [HS.out]; simp [e2])
              have e2b : (u2 == v2) = false := beq_false_of_ne e2
              have HR : Hid _ := hr
              clear hr HF HN HS
              subst e1
              go_wp2
              refine region_class (fun wx => Below wr.heap.size wr wx) (by kernel_rfl) (by kernel_rfl) ((Below.refl _ wr).drew) ?_
              intro hne
              iterate 24 (quiet_step (skip))
              refine wpQuiet_step (fun K hK => ?_)
              go_simp
              refine hid_act K _ ?_
              intro A1 hA1
              refine hK A1 ?_
              clear hK K
              have ht1 : A1.tmps[43]? = some (.bool false) := by rw [hA1]; rfl
              refine wpQuiet_skip (b := true) (d := 43) ht1 rfl rfl rfl (by decide) ?_
              intro S1x0 eS1x0 hS1x0
              clear ht1
              refine wpQuiet_skip (b := true) (d := 43) hS1x0 rfl rfl rfl (by decide) ?_
              intro S1x1 eS1x1 hS1x1
              clear hS1x0
              refine wpQuiet_skip (b := true) (d := 43) hS1x1 rfl rfl rfl (by decide) ?_
              intro S1x2 eS1x2 hS1x2
              clear hS1x1
              refine wpQuiet_skip (b := true) (d := 43) hS1x2 rfl rfl rfl (by decide) ?_
              intro S1x3 eS1x3 hS1x3
              clear hS1x2
              refine wpQuiet_skip (b := true) (d := 43) hS1x3 rfl rfl rfl (by decide) ?_
              intro S1x4 eS1x4 hS1x4
              clear hS1x3
              refine wpQuiet_skip (b := true) (d := 43) hS1x4 rfl rfl rfl (by decide) ?_
              intro S1x5 eS1x5 hS1x5
              clear hS1x4
              refine wpQuiet_skip (b := true) (d := 43) hS1x5 rfl rfl rfl (by decide) ?_
              intro S1x6 eS1x6 hS1x6
              clear hS1x5
              refine wpQuiet_skip (b := true) (d := 43) hS1x6 rfl rfl rfl (by decide) ?_
              intro S1x7 eS1x7 hS1x7
              clear hS1x6
              refine wpQuiet_skip (b := true) (d := 43) hS1x7 rfl rfl rfl (by decide) ?_
              intro S1x8 eS1x8 hS1x8
              clear hS1x7
              refine wpQuiet_skip (b := true) (d := 43) hS1x8 rfl rfl rfl (by decide) ?_
              intro S1x9 eS1x9 hS1x9
              clear hS1x8
              refine wpQuiet_skip (b := true) (d := 43) hS1x9 rfl rfl rfl (by decide) ?_
              intro S1x10 eS1x10 hS1x10
              clear hS1x9
              clear hS1x10
              subst eS1x10 eS1x9 eS1x8 eS1x7 eS1x6 eS1x5 eS1x4 eS1x3 eS1x2 eS1x1 eS1x0
              subst hA1
              quiet_step (skip)
              refine wpQuiet_nil ?_
              intro wx b2
              replace BB := below_step BB b2
              clear m0 m1 m2 m3 m4 m5 hne b2
              go_wp2
              go_roundw
              case rel => exact ⟨j + 1, by omega, by go_num, HR.out, BB⟩
              case measure => simp [intOf]; omega
          · have hr := HN.out (by rw [HS.out]; simp [e1])
            have e1b : (u1 == v1) = false := beq_false_of_ne e1
            have HR : Hid _ := hr
            clear hr HF HN HS
            go_wp2
            refine region_class (fun wx => Below wr.heap.size wr wx) (by kernel_rfl) (by kernel_rfl) ((Below.refl _ wr).drew) ?_
            intro hne
            iterate 11 (quiet_step (skip))
            refine wpQuiet_step (fun K hK => ?_)
            go_simp
            refine hid_act K _ ?_
            intro A0 hA0
            refine hK A0 ?_
            clear hK K
            have ht0 : A0.tmps[30]? = some (.bool false) := by rw [hA0]; rfl
            refine wpQuiet_skip (b := true) (d := 30) ht0 rfl rfl rfl (by decide) ?_
            intro S0x0 eS0x0 hS0x0
            clear ht0
            refine wpQuiet_skip (b := true) (d := 30) hS0x0 rfl rfl rfl (by decide) ?_
            intro S0x1 eS0x1 hS0x1
            clear hS0x0
            refine wpQuiet_skip (b := true) (d := 30) hS0x1 rfl rfl rfl (by decide) ?_
            intro S0x2 eS0x2 hS0x2
            clear hS0x1
            refine wpQuiet_skip (b := true) (d := 30) hS0x2 rfl rfl rfl (by decide) ?_
            intro S0x3 eS0x3 hS0x3
            clear hS0x2
            refine wpQuiet_skip (b := true) (d := 30) hS0x3 rfl rfl rfl (by decide) ?_
            intro S0x4 eS0x4 hS0x4
            clear hS0x3
            refine wpQuiet_skip (b := true) (d := 30) hS0x4 rfl rfl rfl (by decide) ?_
            intro S0x5 eS0x5 hS0x5
            clear hS0x4
            refine wpQuiet_skip (b := true) (d := 30) hS0x5 rfl rfl rfl (by decide) ?_
            intro S0x6 eS0x6 hS0x6
            clear hS0x5
            refine wpQuiet_skip (b := true) (d := 30) hS0x6 rfl rfl rfl (by decide) ?_
            intro S0x7 eS0x7 hS0x7
            clear hS0x6
            refine wpQuiet_skip (b := true) (d := 30) hS0x7 rfl rfl rfl (by decide) ?_
            intro S0x8 eS0x8 hS0x8
            clear hS0x7
            refine wpQuiet_skip (b := true) (d := 30) hS0x8 rfl rfl rfl (by decide) ?_
            intro S0x9 eS0x9 hS0x9
            clear hS0x8
            refine wpQuiet_skip (b := true) (d := 30) hS0x9 rfl rfl rfl (by decide) ?_
            intro S0x10 eS0x10 hS0x10
            clear hS0x9
            clear hS0x10
            subst eS0x10 eS0x9 eS0x8 eS0x7 eS0x6 eS0x5 eS0x4 eS0x3 eS0x2 eS0x1 eS0x0
            subst hA0
            quiet_step (skip)
            refine wpQuiet_step (fun K hK => ?_)
            go_simp
            refine hid_act K _ ?_
            intro A1 hA1
            refine hK A1 ?_
            clear hK K
            have ht1 : A1.tmps[43]? = some (.bool false) := by rw [hA1]; rfl
            refine wpQuiet_skip (b := true) (d := 43) ht1 rfl rfl rfl (by decide) ?_
            intro S1x0 eS1x0 hS1x0
            clear ht1
            refine wpQuiet_skip (b := true) (d := 43) hS1x0 rfl rfl rfl (by decide) ?_
            intro S1x1 eS1x1 hS1x1
            clear hS1x0
            refine wpQuiet_skip (b := true) (d := 43) hS1x1 rfl rfl rfl (by decide) ?_
            intro S1x2 eS1x2 hS1x2
            clear hS1x1
            refine wpQuiet_skip (b := true) (d := 43) hS1x2 rfl rfl rfl (by decide) ?_
            intro S1x3 eS1x3 hS1x3
            clear hS1x2
            refine wpQuiet_skip (b := true) (d := 43) hS1x3 rfl rfl rfl (by decide) ?_
            intro S1x4 eS1x4 hS1x4
            clear hS1x3
            refine wpQuiet_skip (b := true) (d := 43) hS1x4 rfl rfl rfl (by decide) ?_
            intro S1x5 eS1x5 hS1x5
            clear hS1x4
            refine wpQuiet_skip (b := true) (d := 43) hS1x5 rfl rfl rfl (by decide) ?_
            intro S1x6 eS1x6 hS1x6
            clear hS1x5
            refine wpQuiet_skip (b := true) (d := 43) hS1x6 rfl rfl rfl (by decide) ?_
            intro S1x7 eS1x7 hS1x7
            clear hS1x6
            refine wpQuiet_skip (b := true) (d := 43) hS1x7 rfl rfl rfl (by decide) ?_
            intro S1x8 eS1x8 hS1x8
            clear hS1x7
            refine wpQuiet_skip (b := true) (d := 43) hS1x8 rfl rfl rfl (by decide) ?_
            intro S1x9 eS1x9 hS1x9
            clear hS1x8
            refine wpQuiet_skip (b := true) (d := 43) hS1x9 rfl rfl rfl (by decide) ?_
            intro S1x10 eS1x10 hS1x10
            clear hS1x9
            clear hS1x10
            subst eS1x10 eS1x9 eS1x8 eS1x7 eS1x6 eS1x5 eS1x4 eS1x3 eS1x2 eS1x1 eS1x0
            subst hA1
            quiet_step (skip)
            refine wpQuiet_nil ?_
            intro wx b2
            replace BB := below_step BB b2
            clear m0 m1 m2 m3 m4 m5 hne b2
            go_wp2
            go_roundw
            case rel => exact ⟨j + 1, by omega, by go_num, HR.out, BB⟩
            case measure => simp [intOf]; omega
        · have hjn : j = n := by omega
          subst hjn
          have HR : Hid (firstB xs (j : Int) = true) := first_yes HV.out hno
          go_wp2
          go_ret
          exact ⟨ret_bool HR.out.symm, BB⟩

set_option maxHeartbeats 1000000 in
theorem specFirst_any (a : Option Addr) (xs : List MsgD) (cap : Nat) (k : Int) (w : World) (h : SlRd msgR w a xs) (hm : xs.length ≤ maxLen) :
    Calls Try.prog 22 #[.slice a xs.length cap, .int .i64 k] w fun e w' => e = .returned (.bool (netB xs && firstB xs k)) ∧ Below w.heap.size w w' := by
  have HN := specNetOk_any a xs cap w h hm
  have HF : Hid (∀ W, Below w.heap.size w W → Calls Try.prog 48 #[.slice a xs.length cap, .int .i64 k] W fun e w' => e = .returned (.bool (firstB xs k)) ∧ Below W.heap.size W w') := fun W hb => l7First_any a xs cap k W (slrd_keep h fun k hk => hb.block k hk) hm
  clear h hm
  generalize firstB xs k = fb at HF ⊢
  cases hn : netB xs
  · rw [hn] at HN
    go_enter Try.func22, Try.ntmps22
    go_wp2_with fail
    refine HN.mono ?_
    rintro e w1 ⟨rfl, b1⟩
    go_wp2
    go_ret
    exact ⟨rfl, b1⟩
  · rw [hn] at HN
    go_enter Try.func22, Try.ntmps22
    go_wp2_with fail
    refine HN.mono ?_
    rintro e w1 ⟨rfl, b1⟩
    go_wp2_with fail
    refine (HF.out _ b1).mono ?_
    rintro e w2 ⟨rfl, b2⟩
    go_wp2
    go_ret
    exact ⟨by simp, below_step b1 b2⟩
end Go.Proofs.Ytfflmbpjolgghaa
