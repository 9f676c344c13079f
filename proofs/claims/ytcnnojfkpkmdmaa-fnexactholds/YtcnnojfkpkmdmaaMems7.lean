
/- The contract of the program's row of words made of a memory: all its words in one new row where it is a memory, and 'no' where it is not. Conditions: a length that a machine can hold. -/
import Derived.Test.YtcnnojfkpkmdmaaMems6
namespace Go.Proofs.Ytcnnojfkpkmdmaa
open Go.ChangeShapes Go.WideShapes Go.ChangeAt Go.RowKit

def memOk (xss : List (List Int)) : Bool := betw xss.length 1 16 && xss.all isL
theorem memOk_not {xss : List (List Int)} {k : Nat} {xs : List Int} (hx : xss[k]? = some xs) (hn : isL xs = false) : memOk xss = false := by
  unfold memOk
  rw [Bool.and_eq_false_iff]
  right
  rw [List.all_eq_false]
  exact ⟨xs, List.mem_of_getElem? hx, by simp [hn]⟩
theorem memOk_all {xss : List (List Int)} (hl : betw xss.length 1 16 = true) (h : ∀ (i : Nat) xs, i < xss.length → xss[i]? = some xs → isL xs = true) : memOk xss = true := by
  unfold memOk
  rw [hl, Bool.true_and, List.all_eq_true]
  intro xs hx
  obtain ⟨i, hi, rfl⟩ := List.mem_iff_getElem.1 hx
  exact h i _ hi (List.getElem?_eq_getElem hi)
theorem prs_all {xss : List (List Int)} {zs : List Int} (h : ∀ (i : Nat) xs, i < xss.length → xss[i]? = some xs → pr zs i = xs) : prs zs xss.length = xss := by
  apply List.ext_getElem?
  intro i
  by_cases hi : i < xss.length
  · obtain ⟨xs, hx⟩ := get_of_lt hi
    rw [prs_get hi, hx, h i xs hi hx]
  · rw [List.getElem?_eq_none (by rw [prs_len]; omega), List.getElem?_eq_none (by omega)]

set_option maxHeartbeats 1000000 in
theorem rowOf_any (a : Option Addr) (xss : List (List Int)) (cap : Nat) (w : World) (h : ReadsM w a xss) (hm : xss.length ≤ 9223372036854775807) :
    Calls Try.prog 48 #[.slice a xss.length cap] w fun e w' => ∃ v, e = .returned (.tuple #[v, .bool (memOk xss)]) ∧ Below w.heap.size w w' ∧
      (memOk xss = true → ∃ zs, zs.length = xss.length * 2 ∧ prs zs xss.length = xss ∧ Made w w' v zs) := by
  cases hl : betw xss.length 1 16
  · have HM : memOk xss = false := by unfold memOk; rw [hl]; rfl
    rw [HM]
    go_enter Try.func48, Try.ntmps48
    go_wp2_with (go_at_call 33; refine (linesOk_any _ _).mono ?_; rintro e w' ⟨rfl, rfl⟩)
    go_ret2
    exact ⟨_, rfl, (Below.refl _ _).alloc (Nat.le_refl _) _, fun h => by cases h⟩
  · have hln : 1 ≤ xss.length ∧ xss.length ≤ 16 := by simp [betw] at hl; omega
    go_enter Try.func48, Try.ntmps48
    go_wp2_with (go_at_call 33; refine (linesOk_any _ _).mono ?_; rintro e w' ⟨rfl, hw'⟩; rw [hw']; clear hw' w')
    refine (newRow_any _ _ hln.2).mono ?_
    rintro e w1 ⟨v, rfl, g, c, rfl, l1, l1', o1, b1⟩
    go_wp2_with fail
    go_loopw [18] (fun i wr => ∃ k : Nat, k ≤ xss.length ∧ i = .int .i64 k ∧ ∃ zs : List Int, zs.length = xss.length * 2 ∧ (∀ (i : Nat) xs, i < k → xss[i]? = some xs → pr zs i = xs ∧ isL xs = true) ∧ OwnI w.heap.size wr g c zs ∧ Below w.heap.size w wr)
      (fun i _ => xss.length - (intOf i).toNat)
    case atStart => exact ⟨0, Nat.zero_le _, rfl, _, by simp, fun i xs hi => absurd hi (Nat.not_lt_zero _), o1, b1⟩
    case round =>
      obtain ⟨k, hk, rfl, zs, hz, hall, ho, hb⟩ := hrel
      clear o1 b1 l1'
      by_cases hlt : k < xss.length
      · have hlt' : (k : Int) < (xss.length : Int) := by omega
        obtain ⟨xs, hx⟩ := get_of_lt hlt
        obtain ⟨b, off, aj, cj, rfl, g1, hr⟩ := readsM_at (readsM_below h hb) hx
        have HR : Hid (Reads wr aj xs) := hr
        have HX : Hid (xss[k]? = some xs) := hx
        have HA : Hid _ := hall
        have HZ : Hid (zs.length = xss.length * 2) := hz
        clear h hr hx hall hz
        go_wp2_with fail
        refine (implLineOk_any _ xs _ _ HR.out).mono ?_
        rintro e w2 ⟨rfl, b2⟩
        have B2 := below_step hb b2
        rcases isL_cases xs with hn | ⟨x, y, rfl, hx, hy⟩
        · rw [hn]
          have HM := memOk_not HX.out hn
          clear HX HA HR ho hb b2
          go_wp2
          rw [HM]
          go_ret2
          exact ⟨_, rfl, B2.alloc B2.size _, fun h => by cases h⟩
        · have hy' := isL_yes hx hy
          rw [hy']
          have o2 := owni_below ho b2 (owni_lt ho).2
          have R2 := reads_below HR.out b2
          obtain ⟨b', off', rfl, q1, q2⟩ := reads_two R2
          have CP := run_copy_two w2 3 g (k * 2) w.heap.size c zs ⟨b', off', none⟩ 2 cj x y o2 (by have := HZ.out; omega) q1 (by simpa [Addr.add] using q2)
          have HO : Hid _ := copied_two o2 (k * 2) x y
          have hcc : k * 2 + 2 ≤ c := by have := (owni_cap o2).1; have := HZ.out; omega
          clear HR ho hb b2 R2 q1 q2 o2
          generalize hW : w2.setCells g (k * 2) [.int .i64 x, .int .i64 y] = W at CP HO
          clear hW
          go_wp2_with (go_at_call 63; refine (cut_any _ _ _ _ _ (by omega) hcc).mono ?_; rintro e w' ⟨rfl, hw'⟩; rw [hw']; clear hw' w')
          go_roundw
          case rel =>
            refine ⟨k + 1, by omega, by go_num, (zs.set (k * 2) x).set (k * 2 + 1) y, by have := HZ.out; simpa using this, ?_, HO.out.1, B2.grown HO.out.2 B2.size (by intro j hj; cases hj; exact l1)⟩
            intro i xs hi hxi
            rw [pr_set zs k i x y (by have := HZ.out; omega)]
            by_cases e : i = k
            · subst e
              rw [HX.out] at hxi
              cases hxi
              exact ⟨if_pos rfl, hy'⟩
            · rw [if_neg e]
              exact HA.out i xs (by omega) hxi
          case measure => simp [intOf]; omega
      · have hkl : k = xss.length := by omega
        subst hkl
        have HM := memOk_all hl (fun i xs hi hx => (hall i xs hi hx).2)
        have HP : Hid _ := prs_all (fun i xs hi hx => (hall i xs hi hx).1)
        have HZ : Hid (zs.length = xss.length * 2) := hz
        clear hz
        go_wp2
        rw [HM]
        go_ret2
        exact ⟨_, rfl, hb, fun _ => ⟨zs, HZ.out, HP.out, g, c, by rw [HZ.out]; rfl, l1, (owni_lt ho).2, ho, hb⟩⟩

end Go.Proofs.Ytcnnojfkpkmdmaa
