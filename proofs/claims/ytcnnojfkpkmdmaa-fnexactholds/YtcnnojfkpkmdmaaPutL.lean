
/- A number put into a rising list, by the specification. Conditions: lists of at most 2^20 numbers. -/
import Derived.Test.YtcnnojfkpkmdmaaBoxes
namespace Go.Proofs.Ytcnnojfkpkmdmaa
open Go.ChangeShapes Go.WideShapes Go.ChangeAt Go.RowKit
set_option linter.unusedVariables false

def insL : List Int → Int → List Int
  | [], n => [n]
  | x :: r, n => if x < n then x :: insL r n else if x = n then x :: r else n :: x :: r
theorem ins_here : ∀ {xs : List Int} {n : Int} {k : Nat}, k ≤ xs.length → (∀ j, j < k → xs.getD j 0 < n) → (k < xs.length → n < xs.getD k 0) → insL xs n = xs.take k ++ n :: xs.drop k
  | [], n, k, hk, _, _ => by have : k = 0 := by simpa using hk
                             subst this; rfl
  | x :: r, n, 0, _, _, h => by
    have : n < x := h (by simp)
    unfold insL
    rw [if_neg (by omega), if_neg (by omega)]; rfl
  | x :: r, n, k + 1, hk, h1, h2 => by
    have : x < n := h1 0 (by omega)
    unfold insL
    rw [if_pos this, ins_here (k := k) (by simpa using hk) (fun j hj => h1 (j + 1) (by omega)) (fun hlt => h2 (by simp; omega))]; rfl
theorem ins_there : ∀ {xs : List Int} {n : Int} {k : Nat}, k < xs.length → (∀ j, j < k → xs.getD j 0 < n) → xs.getD k 0 = n → insL xs n = xs
  | [], n, k, hk, _, _ => by simp at hk
  | x :: r, n, 0, _, _, h => by
    have : x = n := h
    unfold insL
    rw [if_neg (by omega), if_pos this]
  | x :: r, n, k + 1, hk, h1, h2 => by
    have : x < n := h1 0 (by omega)
    unfold insL
    rw [if_pos this, ins_there (k := k) (by simpa using hk) (fun j hj => h1 (j + 1) (by omega)) h2]
theorem ins_len (xs : List Int) (n : Int) : (insL xs n).length ≤ xs.length + 1 := by
  induction xs with
  | nil => simp [insL]
  | cons x r ih => unfold insL; split
                   · simp; omega
                   · split <;> simp

theorem reads_at {w : World} {b off : Nat} {xs : List Int} (hc : ∀ j, j < xs.length → w.cell? ⟨b, off + j, none⟩ = some (.int .i64 (xs.getD j 0))) (k : Nat) : ∀ j u, ((xs.drop k).map (Value.int .i64))[j]? = some u → w.cell? ((⟨b, off + k, none⟩ : Addr).add j) = some u := by
  intro j u hj
  rw [List.getElem?_map, List.getElem?_drop] at hj
  cases hx : xs[k + j]? with
  | none => rw [hx] at hj; cases hj
  | some x =>
    rw [hx] at hj
    simp at hj
    subst hj
    have hlt := (List.getElem?_eq_some_iff.1 hx).1
    have := hc (k + j) hlt
    rw [List.getD_eq_getElem?_getD, hx] at this
    rw [show (⟨b, off + k, none⟩ : Addr).add j = ⟨b, off + (k + j), none⟩ from by cases j with
      | zero => simp [Addr.add]
      | succ j => simp [Addr.add, Nat.add_assoc]]
    exact this
theorem reads_to {w : World} {b off : Nat} {xs : List Int} (hc : ∀ j, j < xs.length → w.cell? ⟨b, off + j, none⟩ = some (.int .i64 (xs.getD j 0))) (k : Nat) : ∀ j u, ((xs.take k).map (Value.int .i64))[j]? = some u → w.cell? ((⟨b, off, none⟩ : Addr).add j) = some u := by
  intro j u hj
  rw [List.getElem?_map, List.getElem?_take] at hj
  split at hj
  · cases hx : xs[j]? with
    | none => rw [hx] at hj; cases hj
    | some x =>
      rw [hx] at hj
      simp at hj
      subst hj
      have hlt := (List.getElem?_eq_some_iff.1 hx).1
      have := hc j hlt
      rw [List.getD_eq_getElem?_getD, hx] at this
      rw [show (⟨b, off, none⟩ : Addr).add j = ⟨b, off + j, none⟩ from by simp [Addr.add]]
      exact this
  · cases hj

theorem ones (l : List Int) : ∀ u ∈ l.map (Value.int .i64), u.oneCell' = true := fun u hu => by obtain ⟨x, _, rfl⟩ := List.mem_map.1 hu; rfl

set_option maxHeartbeats 4000000 in
theorem l1Put_any (b off : Nat) (xs : List Int) (cap : Nat) (n : Int) (w : World) (hc : ∀ j, j < xs.length → w.cell? ⟨b, off + j, none⟩ = some (.int .i64 (xs.getD j 0))) (hm : xs.length ≤ 1048575) (hcap : xs.length ≤ cap) (hmx : cap ≤ maxLen) :
    Calls Try.prog 57 #[.slice (some ⟨b, off, none⟩) xs.length cap, .int .i64 n] w fun e w' => (e = .returned (.slice (some ⟨b, off, none⟩) xs.length cap) ∧ w' = w ∧ insL xs n = xs) ∨ ∃ v, e = .returned v ∧ Made w w' v (insL xs n) := by
  have hmx' : cap ≤ 9223372036854775807 := hmx
  obtain ⟨i0, hi, hz0, hz1, hz2⟩ := info_parts Try.infoI
  go_enter Try.func57, Try.ntmps57
  go_wp2
  go_loop [5] (fun i => ∃ k : Nat, k ≤ xs.length ∧ i = .int .i64 k ∧ ∀ j, j < k → xs.getD j 0 < n) (fun i => xs.length - (intOf i).toNat)
  case atStart => exact ⟨0, Nat.zero_le _, rfl, fun j hj => by omega⟩
  case round =>
    obtain ⟨k, hk, rfl, hall⟩ := hrel
    by_cases hlt : k < xs.length
    · have hlt' : (k : Int) < (xs.length : Int) := by omega
      have hx := hc k hlt
      generalize hg : xs.getD k 0 = x at hx
      by_cases hxn : x < n
      · have HA : Hid (∀ j, j < k + 1 → xs.getD j 0 < n) := fun j hj => by
          by_cases e : j = k
          · subst e; rw [hg]; exact hxn
          · exact hall j (by omega)
        clear hall hc
        go_wp2
        go_round
        case rel => exact ⟨k + 1, by omega, by go_num, HA.out⟩
        case measure => simp [intOf]; omega
      · by_cases hen : x = n
        · have HE : Hid (insL xs n = xs) := ins_there hlt hall (by rw [hg]; exact hen)
          subst hen
          clear hall hc
          go_wp2
          go_ret
          exact .inl ⟨rfl, rfl, HE.out⟩
        · have hen' : (x == n) = false := beq_false_of_ne hen
          have HE : Hid (insL xs n = xs.take k ++ n :: xs.drop k) := ins_here hk hall (fun _ => by rw [hg]; omega)
          have HC : Hid _ := hc
          clear hall hc
          have hown0 : (w.alloc (.cells #[] 2)).ownsRow w.heap.size 2 1 (.slice (some ⟨w.heap.size, 0, none⟩) 0 0) 0 [] := World.ownsRow_lit _ #[] 0 (Nat.le_refl _) (Nat.zero_le _) rfl
          have N1 : Hid (∀ j u, ((xs.drop k).map (Value.int .i64))[j]? = some u → (w.alloc (.cells #[] 2)).cell? ((⟨b, off + k, none⟩ : Addr).add j) = some u) := fun j u hj => by
            have g0 := reads_at HC.out k j u hj
            exact (World.cell?_alloc_lt w _ _ (World.block_lt_of_cell? w _ g0)).trans g0
          have L1 : Hid (((xs.drop k).map (Value.int .i64)).length = (xs.length - k) * 1) := by unfold Hid; simp
          go_wp2_with (at_builtin; refine wpList_append_own _ rfl _ _ 38 rfl w.heap.size 2 i0 (.int .i64 0) 1 8 Try.underlying38 hi hz0 hz1 hz2 rfl (by decide) _ _ _ rfl hown0 ⟨b, off + k, none⟩ (xs.length - k) (cap - k) ((xs.drop k).map (Value.int .i64)) rfl L1.out N1.out (ones _) (by unfold maxLen; omega) (by omega) (by simp) ?_)
          intro v1 w1 hown1 hgrow1 hnil1
          have M1 : Made w w1 v1 (xs.drop k) := made_app (by simpa using hown1) hgrow1 hnil1
          obtain ⟨g1, c1, rfl, hg1, hl1, O1, B1⟩ := M1
          clear hown1 hgrow1 hnil1 hown0 N1 L1
          rw [List.length_drop]
          have hown2 : (w1.alloc (.cells #[] 2)).ownsRow w1.heap.size 2 1 (.slice (some ⟨w1.heap.size, 0, none⟩) 0 0) 0 [] := World.ownsRow_lit _ #[] 0 (Nat.le_refl _) (Nat.zero_le _) rfl
          have N2 : Hid (∀ j u, ((xs.take k).map (Value.int .i64))[j]? = some u → (w1.alloc (.cells #[] 2)).cell? ((⟨b, off, none⟩ : Addr).add j) = some u) := fun j u hj => by
            have g0 := reads_to (w := w1) (fun i hi => cell_keep B1 (HC.out i hi) (cell_lt (HC.out i hi))) k j u hj
            exact (World.cell?_alloc_lt w1 _ _ (World.block_lt_of_cell? w1 _ g0)).trans g0
          have hlen : (xs.take k).length = k := by rw [List.length_take]; omega
          have L2 : Hid (((xs.take k).map (Value.int .i64)).length = k * 1) := by unfold Hid; rw [List.length_map, hlen, Nat.mul_one]
          go_wp2_with (at_builtin; refine wpList_append_own _ rfl _ _ 38 rfl w1.heap.size 2 i0 (.int .i64 0) 1 8 Try.underlying38 hi hz0 hz1 hz2 rfl (by decide) _ _ _ rfl hown2 ⟨b, off, none⟩ k cap ((xs.take k).map (Value.int .i64)) rfl L2.out N2.out (ones _) (by unfold maxLen; omega) (by omega) (by simp) ?_)
          intro v2 w2 hown3 hgrow3 hnil3
          have M2 : Made w1 w2 v2 (xs.take k) := made_app (by rw [hlen]; simpa using hown3) hgrow3 hnil3
          obtain ⟨g2, c2, rfl, hg2, hl2, O2, B2⟩ := M2
          clear hown3 hgrow3 hnil3 hown2 N2 L2
          rw [hlen]
          have hown4 : (w2.alloc (.cells #[.int .i64 n] 2)).ownsRow w1.heap.size 2 1 (.slice (some ⟨g2, 0, none⟩) k c2) k ((xs.take k).map (Value.int .i64)) := by
            have := World.ownsRow.alloc O2 (.cells #[.int .i64 n] 2)
            rw [hlen] at this
            exact this
          have N3 : Hid (∀ j u, [Value.int .i64 n][j]? = some u → (w2.alloc (.cells #[.int .i64 n] 2)).cell? ((⟨w2.heap.size, 0, none⟩ : Addr).add j) = some u) := fun j u hj => by
            match j, hj with
            | 0, hj => simp at hj; subst hj; simp [Addr.add]
          have hb2 := B2.size
          have hb2' : w1.heap.size ≤ (w2.alloc (.cells #[.int .i64 n] 2)).heap.size := by rw [alloc_len]; omega
          have H3 : Hid (∀ u ∈ [Value.int .i64 n], u.oneCell' = true) := ones [n]
          have Z3 : Hid (k + 1 ≤ maxLen ∧ (k + 1) * 8 ≤ 140737488355328) := by unfold Hid maxLen; omega
          go_wp2_with (at_builtin; refine wpList_append_own _ rfl _ _ 38 rfl w1.heap.size 2 i0 (.int .i64 0) 1 8 Try.underlying38 hi hz0 hz1 hz2 rfl (by decide) (.slice (some ⟨g2, 0, none⟩) k c2) k ((xs.take k).map (Value.int .i64)) rfl hown4 ⟨w2.heap.size, 0, none⟩ 1 1 [.int .i64 n] rfl rfl N3.out H3.out Z3.out.1 Z3.out.2 hb2' ?_)
          intro v3 w3 hown5 hgrow5 hnil5
          obtain ⟨g3, c3, rfl, O3, B3⟩ := app_next (m := k + 1) (ys := [n]) B2 O2 (by simp; omega) (by rw [hlen]; simpa using hown5) hgrow5 hnil5
          clear hown5 hgrow5 hnil5 hown4 N3 O2
          have O1' := owni_below O1 B3 hl1
          have N4 : Hid (∀ j u, ((xs.drop k).map (Value.int .i64))[j]? = some u → w3.cell? ((⟨g1, 0, none⟩ : Addr).add j) = some u) := fun j u hj => by
            rcases reads_owni O1' with h0 | ⟨b', off', e, hc'⟩
            · rw [h0] at hj; cases hj
            · cases e
              exact reads_to hc' (xs.drop k).length j u (by rw [List.take_length]; exact hj)
          have L4 : Hid (((xs.drop k).map (Value.int .i64)).length = (xs.length - k) * 1) := by unfold Hid; simp
          have hb3 := B3.size
          have hlen3 : (xs.take k ++ [n]).length = k + 1 := by simp; omega
          have hown6 : w3.ownsRow w1.heap.size 2 1 (.slice (some ⟨g3, 0, none⟩) (k + 1) c3) (k + 1) ((xs.take k ++ [n]).map (Value.int .i64)) := by
            have := O3
            unfold OwnI at this
            rw [hlen3] at this
            exact this
          go_wp2_with (at_builtin; refine wpList_append_own _ rfl _ _ 38 rfl w1.heap.size 2 i0 (.int .i64 0) 1 8 Try.underlying38 hi hz0 hz1 hz2 rfl (by decide) _ _ _ rfl hown6 ⟨g1, 0, none⟩ (xs.length - k) c1 ((xs.drop k).map (Value.int .i64)) rfl L4.out N4.out (ones _) (by unfold maxLen; omega) (by omega) (by omega) ?_)
          intro v4 w4 hown7 hgrow7 hnil7
          have M4 : Made w1 w4 v4 ((xs.take k ++ [n]) ++ xs.drop k) := app_last B3 O3 (by rw [hlen3, List.length_drop]; simpa using hown7) hgrow7 hnil7
          have HM : Hid (Made w w4 v4 (insL xs n)) := by
            unfold Hid
            rw [HE.out, show xs.take k ++ n :: xs.drop k = (xs.take k ++ [n]) ++ xs.drop k by simp]
            exact made_step B1 M4
          clear hown7 hgrow7 hnil7 M4 hown6 N4 L4 O3 B3 O1' O1 B1 B2
          go_wp2
          go_ret
          exact .inr ⟨_, rfl, HM.out⟩
    · have hkl : k = xs.length := by omega
      subst hkl
      have HE : Hid (insL xs n = xs ++ [n]) := by
        unfold Hid
        rw [ins_here (Nat.le_refl _) hall (fun h => absurd h hlt), List.take_length, List.drop_length]
      have HC : Hid _ := hc
      clear hall hc hk
      by_cases h0 : xs.length = 0
      · have h0' : xs = [] := List.eq_nil_of_length_eq_zero h0
        subst h0'
        have hown0 : (w.alloc (.cells #[] 2)).ownsRow w.heap.size 2 1 (.slice (some ⟨w.heap.size, 0, none⟩) 0 0) 0 [] := World.ownsRow_lit _ #[] 0 (Nat.le_refl _) (Nat.zero_le _) rfl
        go_wp2_with (at_builtin; refine wpList_append_own _ rfl _ _ 38 rfl w.heap.size 2 i0 (.int .i64 0) 1 8 Try.underlying38 hi hz0 hz1 hz2 rfl (by decide) _ _ _ rfl hown0 _ 0 _ [] rfl rfl (fun j u hj => by cases hj) (fun u hu => by cases hu) (by unfold maxLen; omega) (by omega) (by simp) ?_)
        intro v1 w1 hown1 hgrow1 hnil1
        have M1 : Made w w1 v1 ([] : List Int) := made_app (by simpa using hown1) hgrow1 hnil1
        obtain ⟨g1, c1, rfl, hg1, hl1, O1, B1⟩ := M1
        clear hown1 hgrow1 hnil1 hown0
        have hown2 : (w1.alloc (.cells #[] 2)).ownsRow w1.heap.size 2 1 (.slice (some ⟨w1.heap.size, 0, none⟩) 0 0) 0 [] := World.ownsRow_lit _ #[] 0 (Nat.le_refl _) (Nat.zero_le _) rfl
        go_wp2_with (at_builtin; refine wpList_append_own _ rfl _ _ 38 rfl w1.heap.size 2 i0 (.int .i64 0) 1 8 Try.underlying38 hi hz0 hz1 hz2 rfl (by decide) _ _ _ rfl hown2 _ 0 _ [] rfl rfl (fun j u hj => by cases hj) (fun u hu => by cases hu) (by unfold maxLen; omega) (by omega) (by simp) ?_)
        intro v2 w2 hown3 hgrow3 hnil3
        have M2 : Made w1 w2 v2 ([] : List Int) := made_app (by simpa using hown3) hgrow3 hnil3
        obtain ⟨g2, c2, rfl, hg2, hl2, O2, B2⟩ := M2
        clear hown3 hgrow3 hnil3 hown2
        have hown4 : (w2.alloc (.cells #[.int .i64 n] 2)).ownsRow w1.heap.size 2 1 (.slice (some ⟨g2, 0, none⟩) 0 c2) 0 (([] : List Int).map (Value.int .i64)) := by
          have := World.ownsRow.alloc O2 (.cells #[.int .i64 n] 2)
          exact this
        have N3 : Hid (∀ j u, [Value.int .i64 n][j]? = some u → (w2.alloc (.cells #[.int .i64 n] 2)).cell? ((⟨w2.heap.size, 0, none⟩ : Addr).add j) = some u) := fun j u hj => by
          match j, hj with
          | 0, hj => simp at hj; subst hj; simp [Addr.add]
        have hb2 := B2.size
        have hb2' : w1.heap.size ≤ (w2.alloc (.cells #[.int .i64 n] 2)).heap.size := by rw [alloc_len]; omega
        have H3 : Hid (∀ u ∈ [Value.int .i64 n], u.oneCell' = true) := ones [n]
        have Z3 : Hid (0 + 1 ≤ maxLen ∧ (0 + 1) * 8 ≤ 140737488355328) := by unfold Hid maxLen; omega
        go_wp2_with (at_builtin; refine wpList_append_own _ rfl _ _ 38 rfl w1.heap.size 2 i0 (.int .i64 0) 1 8 Try.underlying38 hi hz0 hz1 hz2 rfl (by decide) (.slice (some ⟨g2, 0, none⟩) 0 c2) 0 (([] : List Int).map (Value.int .i64)) rfl hown4 ⟨w2.heap.size, 0, none⟩ 1 1 [.int .i64 n] rfl rfl N3.out H3.out Z3.out.1 Z3.out.2 hb2' ?_)
        intro v3 w3 hown5 hgrow5 hnil5
        obtain ⟨g3, c3, rfl, O3, B3⟩ := app_next (m := 0 + 1) (ys := [n]) B2 O2 (by simp) (by simpa using hown5) hgrow5 hnil5
        clear hown5 hgrow5 hnil5 hown4 N3 O2
        have O1' := owni_below O1 B3 hl1
        have N4 : Hid (∀ j u, (([] : List Int).map (Value.int .i64))[j]? = some u → w3.cell? ((⟨g1, 0, none⟩ : Addr).add j) = some u) := fun j u hj => by
          rcases reads_owni O1' with h0 | ⟨b', off', e, hc'⟩
          · rw [h0] at hj; cases hj
          · cases e
            cases hj
        have L4 : Hid ((([] : List Int).map (Value.int .i64)).length = 0 * 1) := by unfold Hid; simp
        have hb3 := B3.size
        have hlen3 : (([] : List Int) ++ [n]).length = 0 + 1 := by simp
        have hown6 : w3.ownsRow w1.heap.size 2 1 (.slice (some ⟨g3, 0, none⟩) (0 + 1) c3) (0 + 1) ((([] : List Int) ++ [n]).map (Value.int .i64)) := by
          have := O3
          unfold OwnI at this
          rw [hlen3] at this
          exact this
        go_wp2_with (at_builtin; refine wpList_append_own _ rfl _ _ 38 rfl w1.heap.size 2 i0 (.int .i64 0) 1 8 Try.underlying38 hi hz0 hz1 hz2 rfl (by decide) _ _ _ rfl hown6 ⟨g1, 0, none⟩ 0 c1 (([] : List Int).map (Value.int .i64)) rfl L4.out N4.out (ones _) (by unfold maxLen; omega) (by omega) (by omega) ?_)
        intro v4 w4 hown7 hgrow7 hnil7
        have M4 : Made w1 w4 v4 ((([] : List Int) ++ [n]) ++ ([] : List Int)) := app_last B3 O3 (by rw [hlen3]; simpa using hown7) hgrow7 hnil7
        have HM : Hid (Made w w4 v4 (insL ([] : List Int) n)) := by
          unfold Hid
          rw [HE.out, show ([] : List Int) ++ [n] = (([] : List Int) ++ [n]) ++ [] by simp]
          exact made_step B1 M4
        clear hown7 hgrow7 hnil7 M4 hown6 N4 L4 O3 B3 O1' O1 B1 B2
        go_wp2
        go_ret
        exact .inr ⟨_, rfl, HM.out⟩
      · by_cases hcc : cap = xs.length
        · subst hcc
          have hown0 : (w.alloc (.cells #[] 2)).ownsRow w.heap.size 2 1 (.slice (some ⟨w.heap.size, 0, none⟩) 0 0) 0 [] := World.ownsRow_lit _ #[] 0 (Nat.le_refl _) (Nat.zero_le _) rfl
          have N1 : Hid (∀ j u, (([] : List Int).map (Value.int .i64))[j]? = some u → (w.alloc (.cells #[] 2)).cell? ((⟨b, off + xs.length, none⟩ : Addr).add j) = some u) := fun j u hj => by cases hj
          have L1 : Hid ((([] : List Int).map (Value.int .i64)).length = 0 * 1) := by unfold Hid; simp
          go_wp2_with (at_builtin; refine wpList_append_own _ rfl _ _ 38 rfl w.heap.size 2 i0 (.int .i64 0) 1 8 Try.underlying38 hi hz0 hz1 hz2 rfl (by decide) _ _ _ rfl hown0 _ 0 _ [] rfl rfl (fun j u hj => by cases hj) (fun u hu => by cases hu) (by unfold maxLen; omega) (by omega) (by simp) ?_)
          intro v1 w1 hown1 hgrow1 hnil1
          have M1 : Made w w1 v1 ([] : List Int) := made_app (by simpa using hown1) hgrow1 hnil1
          obtain ⟨g1, c1, rfl, hg1, hl1, O1, B1⟩ := M1
          clear hown1 hgrow1 hnil1 hown0 N1 L1
          have hown2 : (w1.alloc (.cells #[] 2)).ownsRow w1.heap.size 2 1 (.slice (some ⟨w1.heap.size, 0, none⟩) 0 0) 0 [] := World.ownsRow_lit _ #[] 0 (Nat.le_refl _) (Nat.zero_le _) rfl
          have N2 : Hid (∀ j u, (xs.map (Value.int .i64))[j]? = some u → (w1.alloc (.cells #[] 2)).cell? ((⟨b, off, none⟩ : Addr).add j) = some u) := fun j u hj => by
            have g0 := reads_to (w := w1) (fun i hi => cell_keep B1 (HC.out i hi) (cell_lt (HC.out i hi))) xs.length j u (by rw [List.take_length]; exact hj)
            exact (World.cell?_alloc_lt w1 _ _ (World.block_lt_of_cell? w1 _ g0)).trans g0
          have L2 : Hid ((xs.map (Value.int .i64)).length = xs.length * 1) := by unfold Hid; rw [List.length_map, Nat.mul_one]
          go_wp2_with (at_builtin; refine wpList_append_own _ rfl _ _ 38 rfl w1.heap.size 2 i0 (.int .i64 0) 1 8 Try.underlying38 hi hz0 hz1 hz2 rfl (by decide) _ _ _ rfl hown2 ⟨b, off, none⟩ xs.length xs.length (xs.map (Value.int .i64)) rfl L2.out N2.out (ones _) (by unfold maxLen; omega) (by omega) (by simp) ?_)
          intro v2 w2 hown3 hgrow3 hnil3
          have M2 : Made w1 w2 v2 xs := made_app (by simpa using hown3) hgrow3 hnil3
          obtain ⟨g2, c2, rfl, hg2, hl2, O2, B2⟩ := M2
          clear hown3 hgrow3 hnil3 hown2 N2 L2
          have hown4 : (w2.alloc (.cells #[.int .i64 n] 2)).ownsRow w1.heap.size 2 1 (.slice (some ⟨g2, 0, none⟩) xs.length c2) xs.length (xs.map (Value.int .i64)) := by
            have := World.ownsRow.alloc O2 (.cells #[.int .i64 n] 2)
            exact this
          have N3 : Hid (∀ j u, [Value.int .i64 n][j]? = some u → (w2.alloc (.cells #[.int .i64 n] 2)).cell? ((⟨w2.heap.size, 0, none⟩ : Addr).add j) = some u) := fun j u hj => by
            match j, hj with
            | 0, hj => simp at hj; subst hj; simp [Addr.add]
          have hb2 := B2.size
          have hb2' : w1.heap.size ≤ (w2.alloc (.cells #[.int .i64 n] 2)).heap.size := by rw [alloc_len]; omega
          have H3 : Hid (∀ u ∈ [Value.int .i64 n], u.oneCell' = true) := ones [n]
          have Z3 : Hid (xs.length + 1 ≤ maxLen ∧ (xs.length + 1) * 8 ≤ 140737488355328) := by unfold Hid maxLen; omega
          go_wp2_with (at_builtin; refine wpList_append_own _ rfl _ _ 38 rfl w1.heap.size 2 i0 (.int .i64 0) 1 8 Try.underlying38 hi hz0 hz1 hz2 rfl (by decide) (.slice (some ⟨g2, 0, none⟩) xs.length c2) xs.length (xs.map (Value.int .i64)) rfl hown4 ⟨w2.heap.size, 0, none⟩ 1 1 [.int .i64 n] rfl rfl N3.out H3.out Z3.out.1 Z3.out.2 hb2' ?_)
          intro v3 w3 hown5 hgrow5 hnil5
          obtain ⟨g3, c3, rfl, O3, B3⟩ := app_next (m := xs.length + 1) (ys := [n]) B2 O2 (by simp) (by simpa using hown5) hgrow5 hnil5
          clear hown5 hgrow5 hnil5 hown4 N3 O2
          have O1' := owni_below O1 B3 hl1
          have N4 : Hid (∀ j u, (([] : List Int).map (Value.int .i64))[j]? = some u → w3.cell? ((⟨g1, 0, none⟩ : Addr).add j) = some u) := fun j u hj => by
            rcases reads_owni O1' with h0 | ⟨b', off', e, hc'⟩
            · rw [h0] at hj; cases hj
            · cases e
              cases hj
          have L4 : Hid ((([] : List Int).map (Value.int .i64)).length = 0 * 1) := by unfold Hid; simp
          have hb3 := B3.size
          have hlen3 : (xs ++ [n]).length = xs.length + 1 := by simp
          have hown6 : w3.ownsRow w1.heap.size 2 1 (.slice (some ⟨g3, 0, none⟩) (xs.length + 1) c3) (xs.length + 1) ((xs ++ [n]).map (Value.int .i64)) := by
            have := O3
            unfold OwnI at this
            rw [hlen3] at this
            exact this
          go_wp2_with (at_builtin; refine wpList_append_own _ rfl _ _ 38 rfl w1.heap.size 2 i0 (.int .i64 0) 1 8 Try.underlying38 hi hz0 hz1 hz2 rfl (by decide) _ _ _ rfl hown6 ⟨g1, 0, none⟩ 0 c1 (([] : List Int).map (Value.int .i64)) rfl L4.out N4.out (ones _) (by unfold maxLen; omega) (by omega) (by omega) ?_)
          intro v4 w4 hown7 hgrow7 hnil7
          have M4 : Made w1 w4 v4 ((xs ++ [n]) ++ ([] : List Int)) := app_last B3 O3 (by rw [hlen3]; simpa using hown7) hgrow7 hnil7
          have HM : Hid (Made w w4 v4 (insL xs n)) := by
            unfold Hid
            rw [HE.out, show xs ++ [n] = (xs ++ [n]) ++ [] by simp]
            exact made_step B1 M4
          clear hown7 hgrow7 hnil7 M4 hown6 N4 L4 O3 B3 O1' O1 B1 B2
          go_wp2
          go_ret
          exact .inr ⟨_, rfl, HM.out⟩
        · have hcc1 : ¬ (cap - xs.length = 0) := by omega
          have hown0 : (w.alloc (.cells #[] 2)).ownsRow w.heap.size 2 1 (.slice (some ⟨w.heap.size, 0, none⟩) 0 0) 0 [] := World.ownsRow_lit _ #[] 0 (Nat.le_refl _) (Nat.zero_le _) rfl
          have N1 : Hid (∀ j u, (([] : List Int).map (Value.int .i64))[j]? = some u → (w.alloc (.cells #[] 2)).cell? ((⟨b, off + xs.length, none⟩ : Addr).add j) = some u) := fun j u hj => by cases hj
          have L1 : Hid ((([] : List Int).map (Value.int .i64)).length = 0 * 1) := by unfold Hid; simp
          go_wp2_with (at_builtin; refine wpList_append_own _ rfl _ _ 38 rfl w.heap.size 2 i0 (.int .i64 0) 1 8 Try.underlying38 hi hz0 hz1 hz2 rfl (by decide) _ _ _ rfl hown0 _ 0 _ [] rfl rfl (fun j u hj => by cases hj) (fun u hu => by cases hu) (by unfold maxLen; omega) (by omega) (by simp) ?_)
          intro v1 w1 hown1 hgrow1 hnil1
          have M1 : Made w w1 v1 ([] : List Int) := made_app (by simpa using hown1) hgrow1 hnil1
          obtain ⟨g1, c1, rfl, hg1, hl1, O1, B1⟩ := M1
          clear hown1 hgrow1 hnil1 hown0 N1 L1
          have hown2 : (w1.alloc (.cells #[] 2)).ownsRow w1.heap.size 2 1 (.slice (some ⟨w1.heap.size, 0, none⟩) 0 0) 0 [] := World.ownsRow_lit _ #[] 0 (Nat.le_refl _) (Nat.zero_le _) rfl
          have N2 : Hid (∀ j u, (xs.map (Value.int .i64))[j]? = some u → (w1.alloc (.cells #[] 2)).cell? ((⟨b, off, none⟩ : Addr).add j) = some u) := fun j u hj => by
            have g0 := reads_to (w := w1) (fun i hi => cell_keep B1 (HC.out i hi) (cell_lt (HC.out i hi))) xs.length j u (by rw [List.take_length]; exact hj)
            exact (World.cell?_alloc_lt w1 _ _ (World.block_lt_of_cell? w1 _ g0)).trans g0
          have L2 : Hid ((xs.map (Value.int .i64)).length = xs.length * 1) := by unfold Hid; rw [List.length_map, Nat.mul_one]
          go_wp2_with (at_builtin; refine wpList_append_own _ rfl _ _ 38 rfl w1.heap.size 2 i0 (.int .i64 0) 1 8 Try.underlying38 hi hz0 hz1 hz2 rfl (by decide) _ _ _ rfl hown2 ⟨b, off, none⟩ xs.length cap (xs.map (Value.int .i64)) rfl L2.out N2.out (ones _) (by unfold maxLen; omega) (by omega) (by simp) ?_)
          intro v2 w2 hown3 hgrow3 hnil3
          have M2 : Made w1 w2 v2 xs := made_app (by simpa using hown3) hgrow3 hnil3
          obtain ⟨g2, c2, rfl, hg2, hl2, O2, B2⟩ := M2
          clear hown3 hgrow3 hnil3 hown2 N2 L2
          have hown4 : (w2.alloc (.cells #[.int .i64 n] 2)).ownsRow w1.heap.size 2 1 (.slice (some ⟨g2, 0, none⟩) xs.length c2) xs.length (xs.map (Value.int .i64)) := by
            have := World.ownsRow.alloc O2 (.cells #[.int .i64 n] 2)
            exact this
          have N3 : Hid (∀ j u, [Value.int .i64 n][j]? = some u → (w2.alloc (.cells #[.int .i64 n] 2)).cell? ((⟨w2.heap.size, 0, none⟩ : Addr).add j) = some u) := fun j u hj => by
            match j, hj with
            | 0, hj => simp at hj; subst hj; simp [Addr.add]
          have hb2 := B2.size
          have hb2' : w1.heap.size ≤ (w2.alloc (.cells #[.int .i64 n] 2)).heap.size := by rw [alloc_len]; omega
          have H3 : Hid (∀ u ∈ [Value.int .i64 n], u.oneCell' = true) := ones [n]
          have Z3 : Hid (xs.length + 1 ≤ maxLen ∧ (xs.length + 1) * 8 ≤ 140737488355328) := by unfold Hid maxLen; omega
          go_wp2_with (at_builtin; refine wpList_append_own _ rfl _ _ 38 rfl w1.heap.size 2 i0 (.int .i64 0) 1 8 Try.underlying38 hi hz0 hz1 hz2 rfl (by decide) (.slice (some ⟨g2, 0, none⟩) xs.length c2) xs.length (xs.map (Value.int .i64)) rfl hown4 ⟨w2.heap.size, 0, none⟩ 1 1 [.int .i64 n] rfl rfl N3.out H3.out Z3.out.1 Z3.out.2 hb2' ?_)
          intro v3 w3 hown5 hgrow5 hnil5
          obtain ⟨g3, c3, rfl, O3, B3⟩ := app_next (m := xs.length + 1) (ys := [n]) B2 O2 (by simp) (by simpa using hown5) hgrow5 hnil5
          clear hown5 hgrow5 hnil5 hown4 N3 O2
          have O1' := owni_below O1 B3 hl1
          have N4 : Hid (∀ j u, (([] : List Int).map (Value.int .i64))[j]? = some u → w3.cell? ((⟨g1, 0, none⟩ : Addr).add j) = some u) := fun j u hj => by
            rcases reads_owni O1' with h0 | ⟨b', off', e, hc'⟩
            · rw [h0] at hj; cases hj
            · cases e
              cases hj
          have L4 : Hid ((([] : List Int).map (Value.int .i64)).length = 0 * 1) := by unfold Hid; simp
          have hb3 := B3.size
          have hlen3 : (xs ++ [n]).length = xs.length + 1 := by simp
          have hown6 : w3.ownsRow w1.heap.size 2 1 (.slice (some ⟨g3, 0, none⟩) (xs.length + 1) c3) (xs.length + 1) ((xs ++ [n]).map (Value.int .i64)) := by
            have := O3
            unfold OwnI at this
            rw [hlen3] at this
            exact this
          go_wp2_with (at_builtin; refine wpList_append_own _ rfl _ _ 38 rfl w1.heap.size 2 i0 (.int .i64 0) 1 8 Try.underlying38 hi hz0 hz1 hz2 rfl (by decide) _ _ _ rfl hown6 ⟨g1, 0, none⟩ 0 c1 (([] : List Int).map (Value.int .i64)) rfl L4.out N4.out (ones _) (by unfold maxLen; omega) (by omega) (by omega) ?_)
          intro v4 w4 hown7 hgrow7 hnil7
          have M4 : Made w1 w4 v4 ((xs ++ [n]) ++ ([] : List Int)) := app_last B3 O3 (by rw [hlen3]; simpa using hown7) hgrow7 hnil7
          have HM : Hid (Made w w4 v4 (insL xs n)) := by
            unfold Hid
            rw [HE.out, show xs ++ [n] = (xs ++ [n]) ++ [] by simp]
            exact made_step B1 M4
          clear hown7 hgrow7 hnil7 M4 hown6 N4 L4 O3 B3 O1' O1 B1 B2
          go_wp2
          go_ret
          exact .inr ⟨_, rfl, HM.out⟩
end Go.Proofs.Ytcnnojfkpkmdmaa
