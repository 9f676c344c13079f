/- May these states be of one line at once: the contracts of Together, of the program (a map that counts) and of its specification. Condition: the list is shorter than 2^61. -/
import Derived.Test.YtapooehfoihdlaaDoorCrowds
import Derived.Test.YtapooehfoihdlaaDoorLists
namespace Go.Proofs.YtapooehfoihdlaaDoor
open Go.ChangeShapes Go.WideShapes Go.ChangeAt Go.RowKit
open Go.Maps (Keyed)
set_option linter.unusedVariables false

def oks (xs : List Int) : Prop := ∀ s ∈ xs, betw s 0 3 = true
def somes (xs : List Int) : Nat := (xs.filter fun s => s != 0).length
def lone (xs : List Int) : Bool := xs.any fun s => decide (2 ≤ s)
def togB (xs : List Int) : Bool := xs.all (fun s => betw s 0 3) && (!lone xs || decide (somes xs = 1))
theorem take_next {xs : List Int} {k : Nat} (h : k < xs.length) : xs.take (k + 1) = xs.take k ++ [xs.getD k 0] := by
  rw [List.take_add_one, List.getElem?_eq_getElem h]; simp [h]
theorem oks_next {xs : List Int} {y : Int} (h : oks xs) (hy : betw y 0 3 = true) : oks (xs ++ [y]) := fun s hs => by
  rcases List.mem_append.1 hs with hs | hs
  · exact h s hs
  · rw [List.mem_singleton.1 hs]; exact hy
theorem somes_next (xs : List Int) (y : Int) : somes (xs ++ [y]) = somes xs + (if y != 0 then 1 else 0) := by
  unfold somes; rw [List.filter_append, List.length_append]; congr 1; by_cases h : y = 0 <;> simp [h]
theorem lone_next (xs : List Int) (y : Int) : lone (xs ++ [y]) = (lone xs || decide (2 ≤ y)) := by
  unfold lone; simp
theorem tog_bad {xs : List Int} {y : Int} (hy : y ∈ xs) (hr : betw y 0 3 = false) : togB xs = false := by
  have : xs.all (fun s => betw s 0 3) = false := by
    rw [Bool.eq_false_iff]; intro h
    rw [List.all_eq_true.1 h y hy] at hr; cases hr
  unfold togB; rw [this]; rfl
theorem tog_ok {xs : List Int} (h : oks xs) : togB xs = (!lone xs || decide (somes xs = 1)) := by
  have : xs.all (fun s => betw s 0 3) = true := List.all_eq_true.2 h
  unfold togB; rw [this]; rfl
theorem getD_mem {xs : List Int} {k : Nat} (h : k < xs.length) : xs.getD k 0 ∈ xs := by
  rw [List.getD_eq_getElem?_getD, List.getElem?_eq_getElem h]; exact List.getElem_mem h

set_option maxHeartbeats 2000000 in
theorem specTogether_any (a : Option Addr) (xs : List Int) (cap : Nat) (w : World) (h1 : Reads w a xs) (hm : xs.length ≤ 2305843009213693952) :
    Calls Tryd.prog 16 #[.slice a xs.length cap] w fun e w' => e = .returned (.bool (togB xs)) ∧ w' = w := by
  go_enter Tryd.func16, Tryd.ntmps16
  go_wp2
  go_loop [3, 4, 5] (fun s al i => ∃ k : Nat, i = .int .i64 k ∧ k ≤ xs.length ∧ (∃ m : Nat, s = .int .i64 m ∧ m ≤ k ∧ Hid (m = somes (xs.take k))) ∧ (∃ b : Bool, al = .bool b ∧ Hid (b = lone (xs.take k))) ∧ Hid (oks (xs.take k))) (fun _ _ i => xs.length - (intOf i).toNat)
  case atStart => exact ⟨0, rfl, by omega, ⟨0, rfl, by omega, by unfold Hid; rfl⟩, ⟨false, rfl, by unfold Hid; rfl⟩, by unfold Hid; intro s hs; simp at hs⟩
  case round =>
    obtain ⟨k, rfl, hk, ⟨m, rfl, hmk, HM⟩, ⟨b, rfl, HB⟩, HA⟩ := hrel
    by_cases hlt : k < xs.length
    · rcases h1 with rfl | ⟨b1, o1, rfl, hc1⟩
      · simp at hlt
      have g1 := hc1 k hlt
      have hlt' : (k : Int) < (xs.length : Int) := by omega
      have HT : Hid (xs.take (k + 1) = xs.take k ++ [xs.getD k 0]) := by unfold Hid; exact take_next hlt
      have HY : Hid (xs.getD k 0 ∈ xs) := by unfold Hid; exact getD_mem hlt
      clear hc1
      obtain ⟨y, hy⟩ : ∃ y, xs.getD k 0 = y := ⟨_, rfl⟩
      rw [hy] at g1 HT HY
      clear hy
      by_cases hr : betw y 0 3 = true
      · have HA' : Hid (oks (xs.take (k + 1))) := by unfold Hid; rw [HT.out]; exact oks_next HA.out hr
        have HM' : Hid (m + (if y != 0 then 1 else 0) = somes (xs.take (k + 1))) := by unfold Hid; rw [HT.out, somes_next, ← HM.out]
        have HB' : Hid ((b || decide (2 ≤ y)) = lone (xs.take (k + 1))) := by unfold Hid; rw [HT.out, lone_next, ← HB.out]
        clear HA HM HB HT HY
        rcases state4 hr with rfl | rfl | rfl | rfl
        all_goals
          cases b
          all_goals
            go_wp2_with fail
            refine (l1In_any _ _ _ _).mono ?_
            rintro _ w1 ⟨rfl, rfl⟩
            rw [hr]
            go_wp2
            go_round
            case rel => first | exact ⟨k + 1, by go_num, by omega, ⟨m, by go_num, by omega, HM'⟩, ⟨_, rfl, HB'⟩, HA'⟩ | exact ⟨k + 1, by go_num, by omega, ⟨m + 1, by go_num, by omega, HM'⟩, ⟨_, rfl, HB'⟩, HA'⟩
            case measure => simp [intOf]; omega
      · have hr' : betw y 0 3 = false := by simpa using hr
        have HF : Hid (togB xs = false) := by unfold Hid; exact tog_bad HY.out hr'
        clear HA HM HB HT HY hr
        go_wp2_with fail
        refine (l1In_any _ _ _ _).mono ?_
        rintro _ w1 ⟨rfl, rfl⟩
        rw [hr']
        go_wp2
        go_ret
        exact ⟨by rw [HF.out]; rfl, rfl⟩
    · have hkl : Hid (xs.take k = xs) := by unfold Hid; exact List.take_of_length_le (by omega)
      have HF : Hid (togB xs = (!b || decide (m = 1))) := by
        unfold Hid
        have h1 := HM.out; have h2 := HB.out; have h3 := HA.out
        rw [hkl.out] at h1 h2 h3
        rw [tog_ok h3, ← h2, ← h1]
      clear HM HB HA hkl
      cases b
      · go_wp2
        go_ret
        exact ⟨by rw [HF.out]; rfl, rfl⟩
      · go_wp2
        go_ret
        exact ⟨ret_bool (by rw [HF.out, Bool.eq_iff_iff]; simp; omega), rfl⟩
/-- How many of them are s. -/
def cnt (s : Int) (xs : List Int) : Int := (xs.filter fun x => x == s).length
def Counts (f : Value → Option Int) (xs : List Int) : Prop :=
  (f (hk false false false)).getD 0 = cnt 0 xs ∧ (f (hk true false false)).getD 0 = cnt 1 xs ∧ (f (hk true true false)).getD 0 = cnt 2 xs ∧ (f (hk true true true)).getD 0 = cnt 3 xs
theorem cnt_next (s y : Int) (xs : List Int) : cnt s (xs ++ [y]) = cnt s xs + (if y = s then 1 else 0) := by
  unfold cnt; rw [List.filter_append, List.length_append]; by_cases h : y = s <;> simp [h]
theorem cnt_le (s : Int) (xs : List Int) : 0 ≤ cnt s xs ∧ cnt s xs ≤ xs.length := by
  unfold cnt; have := List.length_filter_le (fun x => x == s) xs; omega
theorem counts_next0 {f : Value → Option Int} {xs : List Int} {u : Int} (h : Counts f xs) (hu : (f (hk false false false)).getD 0 = u) : Counts (putV f (hk false false false) (u + 1)) (xs ++ [0]) := by
  obtain ⟨h0, h1, h2, h3⟩ := h
  refine ⟨?_, ?_, ?_, ?_⟩
  · rw [putV_same, cnt_next]; simp; omega
  · rw [putV_other _ _ (by simp), cnt_next]; simp [h1]
  · rw [putV_other _ _ (by simp), cnt_next]; simp [h2]
  · rw [putV_other _ _ (by simp), cnt_next]; simp [h3]
theorem counts_next1 {f : Value → Option Int} {xs : List Int} {u : Int} (h : Counts f xs) (hu : (f (hk true false false)).getD 0 = u) : Counts (putV f (hk true false false) (u + 1)) (xs ++ [1]) := by
  obtain ⟨h0, h1, h2, h3⟩ := h
  refine ⟨?_, ?_, ?_, ?_⟩
  · rw [putV_other _ _ (by simp), cnt_next]; simp [h0]
  · rw [putV_same, cnt_next]; simp; omega
  · rw [putV_other _ _ (by simp), cnt_next]; simp [h2]
  · rw [putV_other _ _ (by simp), cnt_next]; simp [h3]
theorem counts_next2 {f : Value → Option Int} {xs : List Int} {u : Int} (h : Counts f xs) (hu : (f (hk true true false)).getD 0 = u) : Counts (putV f (hk true true false) (u + 1)) (xs ++ [2]) := by
  obtain ⟨h0, h1, h2, h3⟩ := h
  refine ⟨?_, ?_, ?_, ?_⟩
  · rw [putV_other _ _ (by simp), cnt_next]; simp [h0]
  · rw [putV_other _ _ (by simp), cnt_next]; simp [h1]
  · rw [putV_same, cnt_next]; simp; omega
  · rw [putV_other _ _ (by simp), cnt_next]; simp [h3]
theorem counts_next3 {f : Value → Option Int} {xs : List Int} {u : Int} (h : Counts f xs) (hu : (f (hk true true true)).getD 0 = u) : Counts (putV f (hk true true true) (u + 1)) (xs ++ [3]) := by
  obtain ⟨h0, h1, h2, h3⟩ := h
  refine ⟨?_, ?_, ?_, ?_⟩
  · rw [putV_other _ _ (by simp), cnt_next]; simp [h0]
  · rw [putV_other _ _ (by simp), cnt_next]; simp [h1]
  · rw [putV_other _ _ (by simp), cnt_next]; simp [h2]
  · rw [putV_same, cnt_next]; simp; omega
theorem counts_all {xs : List Int} (h : oks xs) : (somes xs : Int) = cnt 1 xs + (cnt 2 xs + cnt 3 xs) ∧ (lone xs = decide (cnt 2 xs + cnt 3 xs ≠ 0)) ∧ cnt 1 xs + (cnt 2 xs + cnt 3 xs) ≤ xs.length := by
  induction xs with
  | nil => exact ⟨rfl, rfl, by decide⟩
  | cons y ys ih =>
    have hy := h y (by simp)
    obtain ⟨i1, i2, i3⟩ := ih (fun s hs => h s (by simp [hs]))
    have c2 := cnt_le 2 ys
    have c3 := cnt_le 3 ys
    have hc : ∀ s, cnt s (y :: ys) = cnt s ys + (if y = s then 1 else 0) := fun s => by unfold cnt; by_cases e : y = s <;> simp [e]
    have hs : (somes (y :: ys) : Int) = somes ys + (if y = 0 then 0 else 1) := by unfold somes; by_cases e : y = 0 <;> simp [e]
    have hl : lone (y :: ys) = (decide (2 ≤ y) || lone ys) := by unfold lone; simp
    rw [hs, hl, hc, hc, hc, i1, i2]
    rcases state4 hy with rfl | rfl | rfl | rfl
    · simp; omega
    · simp; omega
    · simp; omega
    · simp; omega
theorem tog_counts {xs : List Int} (h : oks xs) : togB xs = (decide (cnt 2 xs + cnt 3 xs = 0) || decide (cnt 1 xs + (cnt 2 xs + cnt 3 xs) = 1)) := by
  obtain ⟨h1, h2, _⟩ := counts_all h
  rw [tog_ok h, h2, Bool.eq_iff_iff]
  simp
  omega

set_option maxHeartbeats 4000000 in
theorem implTogether_any (a : Option Addr) (xs : List Int) (cap : Nat) (w : World) (h1 : Reads w a xs) (hh : Hold w) (hab : ∀ p, a = some p → p.block < w.heap.size) (hm : xs.length ≤ 1048576) :
    Calls Tryd.prog 10 #[.slice a xs.length cap] w fun e w' => e = .returned (.bool (togB xs)) ∧ Below w.heap.size w w' := by
  have hmm := @run_makeMap Tryd.prog
  have B0 : Below w.heap.size w (w.alloc (.map #[] 0)) := (Below.refl _ _).alloc (Nat.le_refl _) _
  have M0 : Crowd (w.alloc (.map #[] 0)) w.heap.size 0 (fun _ => none) := mapV_made w Tryd.prog 49 2
  go_enter Tryd.func10, Tryd.ntmps10
  go_wp2
  go_loopw [9] (fun i wr => ∃ k : Nat, i = .int .i64 k ∧ k ≤ xs.length ∧ (∃ f, Crowd wr w.heap.size k f ∧ Hid (Counts f (xs.take k))) ∧ Below w.heap.size w wr ∧ Hid (oks (xs.take k))) (fun i _ => xs.length - (intOf i).toNat)
  case atStart => exact ⟨0, rfl, by omega, ⟨_, M0, by unfold Hid; exact ⟨rfl, rfl, rfl, rfl⟩⟩, B0, by unfold Hid; intro s hs; simp at hs⟩
  case round =>
    obtain ⟨k, rfl, hkx, ⟨f, hM, HC⟩, BB, HA⟩ := hrel
    by_cases hlt : k < xs.length
    · rcases h1 with rfl | ⟨b1, o1, rfl, hc1⟩
      · simp at hlt
      have hbl := hab _ rfl
      have g1 := (World.cell?_of_block (w := w) (a := ⟨b1, o1 + k, none⟩) (BB.block b1 hbl)).trans (hc1 k hlt)
      have hlt' : (k : Int) < (xs.length : Int) := by omega
      have HT : Hid (xs.take (k + 1) = xs.take k ++ [xs.getD k 0]) := by unfold Hid; exact take_next hlt
      have HY : Hid (xs.getD k 0 ∈ xs) := by unfold Hid; exact getD_mem hlt
      clear hc1
      obtain ⟨y, hy⟩ : ∃ y, xs.getD k 0 = y := ⟨_, rfl⟩
      rw [hy] at g1 HT HY
      clear hy
      by_cases hr : betw y 0 3 = true
      · have HA' : Hid (oks (xs.take (k + 1))) := by unfold Hid; rw [HT.out]; exact oks_next HA.out hr
        have hH : Hold _ := hh.to BB
        obtain ⟨c0, c1, c2, c3, c4, c5, c6, c7, c8, c9, c10, c11⟩ := hH.cells
        clear HA HY
        rcases state4 hr with rfl | rfl | rfl | rfl
        · obtain ⟨u, hu⟩ : ∃ u, (f (hk false false false)).getD 0 = u := ⟨_, rfl⟩
          have hu1 : 0 ≤ u ∧ u ≤ k := by
            have := cnt_le 0 (xs.take k)
            have h5 := HC.out.1
            rw [hu] at h5
            rw [List.length_take] at this
            omega
          obtain ⟨hu0, huk⟩ := hu1
          have HC' : Hid (Counts (putV f (hk false false false) (u + 1)) (xs.take (k + 1))) := by unfold Hid; rw [HT.out]; exact counts_next0 HC.out hu
          obtain ⟨l, hl⟩ := hk_key false false false
          obtain ⟨v0, st, w1, E1, G1, L1, S1⟩ := MapV.entry (hM.drewN 1) holdLaw Tryd.underlying46 Tryd.underlying2 zero2 (by unfold maxLen; omega) hl
          obtain ⟨w2, S2, M2, G2⟩ := S1 (u + 1) (WalkArith.wf_i64 (by omega))
          have L0 := Crowd.at (hM.drewN 1) false false false hu
          rw [hu] at L1
          have B2 : Below w.heap.size w w2 := (drewN_below BB 1).grown G2 (drewN_below BB 1).size (fun j hj => by cases hj; exact Nat.le_refl _)
          clear HC HT hl S1 G1 G2 hM hu BB hH
          unfold goInt at E1 S2
          rw [show ∀ W : World, W.drewN 1 = W.drew from fun _ => rfl] at E1 L0
          go_wp2_with fail
          refine (stateOk_any _ _).mono ?_
          rintro _ w5 ⟨rfl, rfl⟩
          rw [hr]
          go_wp2_with fail
          go_region
          all_goals
            go_wp2
            go_roundw
            case rel => exact ⟨k + 1, by go_num, by omega, ⟨_, M2, HC'⟩, B2, HA'⟩
            case measure => simp [intOf]; omega
        · obtain ⟨u, hu⟩ : ∃ u, (f (hk true false false)).getD 0 = u := ⟨_, rfl⟩
          have hu1 : 0 ≤ u ∧ u ≤ k := by
            have := cnt_le 1 (xs.take k)
            have h5 := HC.out.2.1
            rw [hu] at h5
            rw [List.length_take] at this
            omega
          obtain ⟨hu0, huk⟩ := hu1
          have HC' : Hid (Counts (putV f (hk true false false) (u + 1)) (xs.take (k + 1))) := by unfold Hid; rw [HT.out]; exact counts_next1 HC.out hu
          obtain ⟨l, hl⟩ := hk_key true false false
          obtain ⟨v0, st, w1, E1, G1, L1, S1⟩ := MapV.entry (hM.drewN 1) holdLaw Tryd.underlying46 Tryd.underlying2 zero2 (by unfold maxLen; omega) hl
          obtain ⟨w2, S2, M2, G2⟩ := S1 (u + 1) (WalkArith.wf_i64 (by omega))
          have L0 := Crowd.at (hM.drewN 1) true false false hu
          rw [hu] at L1
          have B2 : Below w.heap.size w w2 := (drewN_below BB 1).grown G2 (drewN_below BB 1).size (fun j hj => by cases hj; exact Nat.le_refl _)
          clear HC HT hl S1 G1 G2 hM hu BB hH
          unfold goInt at E1 S2
          rw [show ∀ W : World, W.drewN 1 = W.drew from fun _ => rfl] at E1 L0
          go_wp2_with fail
          refine (stateOk_any _ _).mono ?_
          rintro _ w5 ⟨rfl, rfl⟩
          rw [hr]
          go_wp2_with fail
          go_region
          all_goals
            go_wp2
            go_roundw
            case rel => exact ⟨k + 1, by go_num, by omega, ⟨_, M2, HC'⟩, B2, HA'⟩
            case measure => simp [intOf]; omega
        · obtain ⟨u, hu⟩ : ∃ u, (f (hk true true false)).getD 0 = u := ⟨_, rfl⟩
          have hu1 : 0 ≤ u ∧ u ≤ k := by
            have := cnt_le 2 (xs.take k)
            have h5 := HC.out.2.2.1
            rw [hu] at h5
            rw [List.length_take] at this
            omega
          obtain ⟨hu0, huk⟩ := hu1
          have HC' : Hid (Counts (putV f (hk true true false) (u + 1)) (xs.take (k + 1))) := by unfold Hid; rw [HT.out]; exact counts_next2 HC.out hu
          obtain ⟨l, hl⟩ := hk_key true true false
          obtain ⟨v0, st, w1, E1, G1, L1, S1⟩ := MapV.entry (hM.drewN 1) holdLaw Tryd.underlying46 Tryd.underlying2 zero2 (by unfold maxLen; omega) hl
          obtain ⟨w2, S2, M2, G2⟩ := S1 (u + 1) (WalkArith.wf_i64 (by omega))
          have L0 := Crowd.at (hM.drewN 1) true true false hu
          rw [hu] at L1
          have B2 : Below w.heap.size w w2 := (drewN_below BB 1).grown G2 (drewN_below BB 1).size (fun j hj => by cases hj; exact Nat.le_refl _)
          clear HC HT hl S1 G1 G2 hM hu BB hH
          unfold goInt at E1 S2
          rw [show ∀ W : World, W.drewN 1 = W.drew from fun _ => rfl] at E1 L0
          go_wp2_with fail
          refine (stateOk_any _ _).mono ?_
          rintro _ w5 ⟨rfl, rfl⟩
          rw [hr]
          go_wp2_with fail
          go_region
          all_goals
            go_wp2
            go_roundw
            case rel => exact ⟨k + 1, by go_num, by omega, ⟨_, M2, HC'⟩, B2, HA'⟩
            case measure => simp [intOf]; omega
        · obtain ⟨u, hu⟩ : ∃ u, (f (hk true true true)).getD 0 = u := ⟨_, rfl⟩
          have hu1 : 0 ≤ u ∧ u ≤ k := by
            have := cnt_le 3 (xs.take k)
            have h5 := HC.out.2.2.2
            rw [hu] at h5
            rw [List.length_take] at this
            omega
          obtain ⟨hu0, huk⟩ := hu1
          have HC' : Hid (Counts (putV f (hk true true true) (u + 1)) (xs.take (k + 1))) := by unfold Hid; rw [HT.out]; exact counts_next3 HC.out hu
          obtain ⟨l, hl⟩ := hk_key true true true
          obtain ⟨v0, st, w1, E1, G1, L1, S1⟩ := MapV.entry (hM.drewN 1) holdLaw Tryd.underlying46 Tryd.underlying2 zero2 (by unfold maxLen; omega) hl
          obtain ⟨w2, S2, M2, G2⟩ := S1 (u + 1) (WalkArith.wf_i64 (by omega))
          have L0 := Crowd.at (hM.drewN 1) true true true hu
          rw [hu] at L1
          have B2 : Below w.heap.size w w2 := (drewN_below BB 1).grown G2 (drewN_below BB 1).size (fun j hj => by cases hj; exact Nat.le_refl _)
          clear HC HT hl S1 G1 G2 hM hu BB hH
          unfold goInt at E1 S2
          rw [show ∀ W : World, W.drewN 1 = W.drew from fun _ => rfl] at E1 L0
          go_wp2_with fail
          refine (stateOk_any _ _).mono ?_
          rintro _ w5 ⟨rfl, rfl⟩
          rw [hr]
          go_wp2_with fail
          go_region
          all_goals
            go_wp2
            go_roundw
            case rel => exact ⟨k + 1, by go_num, by omega, ⟨_, M2, HC'⟩, B2, HA'⟩
            case measure => simp [intOf]; omega
      · have hr' : betw y 0 3 = false := by simpa using hr
        have HF : Hid (togB xs = false) := by unfold Hid; exact tog_bad HY.out hr'
        clear HA HC HT HY hr
        go_wp2_with fail
        refine (stateOk_any _ _).mono ?_
        rintro _ w5 ⟨rfl, rfl⟩
        rw [hr']
        go_wp2
        go_ret
        exact ⟨by rw [HF.out]; rfl, BB⟩
    · have hkl : Hid (xs.take k = xs) := by unfold Hid; exact List.take_of_length_le (by omega)
      have HA2 := HA.out
      obtain ⟨q0, q1, q2, q3⟩ := HC.out
      rw [hkl.out] at HA2 q1 q2 q3
      have HF : Hid (togB xs = (decide (cnt 2 xs + cnt 3 xs = 0) || decide (cnt 1 xs + (cnt 2 xs + cnt 3 xs) = 1))) := by unfold Hid; exact tog_counts HA2
      have n1 := (counts_all HA2).2.2
      have n2 := cnt_le 1 xs
      have n3 := cnt_le 2 xs
      have n4 := cnt_le 3 xs
      have hH : Hold _ := hh.to BB
      generalize cnt 1 xs = u1 at *
      generalize cnt 2 xs = u2 at *
      generalize cnt 3 xs = u3 at *
      clear HA HC hkl HA2 q0
      by_cases hz : u2 + u3 = 0
      · go_wp2_with fail
        refine (alone_any _ hH hM u2 u3 q2 q3 (by omega) (by omega)).mono ?_
        rintro _ _ ⟨rfl, rfl⟩
        rw [hz]
        go_wp2
        go_ret
        exact ⟨by rw [HF.out, decide_eq_true hz]; rfl, drewN_below BB 1⟩
      · have hz' : ((u2 + u3) == 0) = false := by simpa using hz
        have C := here_any _ (hH.drewN 1) (hM.drewN 1) u1 u2 u3 q1 q2 q3 (by omega) (by omega) (by omega) (by omega)
        have D := alone_any _ hH hM u2 u3 q2 q3 (by omega) (by omega)
        have hz2 : ¬ (u2 + u3 = 0) := hz
        have HF2 : Hid (togB xs = decide (u1 + (u2 + u3) = 1)) := by unfold Hid; rw [HF.out, decide_eq_false hz]; rfl
        clear HF q1 q2 q3 hz hz2 n1 n2 n3 n4
        generalize u2 + u3 = v at *
        generalize u1 + v = z at *
        go_wp2_with fail
        refine D.mono ?_
        rintro _ _ ⟨rfl, rfl⟩
        go_wp2_with fail
        refine C.mono ?_
        rintro _ _ ⟨rfl, q, rfl⟩
        go_wp2
        go_ret
        exact ⟨ret_bool (by rw [HF2.out, Bool.eq_iff_iff]; simp), drewN_below BB _⟩
end Go.Proofs.YtapooehfoihdlaaDoor
