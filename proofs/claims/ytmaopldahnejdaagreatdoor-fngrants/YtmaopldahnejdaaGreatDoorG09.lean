import Derived.Test.YtmaopldahnejdaaGreatDoorG00Box
import Derived.Test.YtmaopldahnejdaaGreatDoorG03
namespace Go.Proofs.YtmaopldahnejdaaGreatDoor
open Go.ChangeShapes Go.WideShapes Go.ChangeAt Go.RowKit
set_option linter.unusedVariables false
def zGy : List Int → Int → List Int
 | [], n => [n]
 | x :: r, n => if x < n then x :: zGy r n else if x = n then x :: r else n :: x :: r
theorem zHz : ∀ {xs : List Int} {n : Int} {k : Nat}, k ≤ xs.length → (∀ j, j < k → xs.getD j 0 < n) → (k < xs.length → n < xs.getD k 0) → zGy xs n = xs.take k ++ n :: xs.drop k
 | [], n, k, hk, _, _ => by have : k = 0 := by simpa using hk
                            subst this; rfl
 | x :: r, n, 0, _, _, h => by
  have : n < x := h (by simp);unfold zGy;rw [if_neg (by omega), if_neg (by omega)]; rfl
 | x :: r, n, k + 1, hk, h1, h2 => by
  have : x < n := h1 0 (by omega);unfold zGy;rw [if_pos this, zHz (k := k) (by simpa using hk) (fun j hj => h1 (j + 1) (by omega)) (fun hlt => h2 (by simp; omega))]; rfl
theorem zIf : ∀ {xs : List Int} {n : Int} {k : Nat}, k < xs.length → (∀ j, j < k → xs.getD j 0 < n) → xs.getD k 0 = n → zGy xs n = xs
 | [], n, k, hk, _, _ => by simp at hk
 | x :: r, n, 0, _, _, h => by
  have : x = n := h;unfold zGy;rw [if_neg (by omega), if_pos this]
 | x :: r, n, k + 1, hk, h1, h2 => by
  have : x < n := h1 0 (by omega);unfold zGy;rw [if_pos this, zIf (k := k) (by simpa using hk) (fun j hj => h1 (j + 1) (by omega)) h2]
theorem reads_at {w : World} {b off : Nat} {xs : List Int} (hc : ∀ j, j < xs.length → w.cell? ⟨b, off + j, none⟩ = some (nI (xs.getD j 0))) (k : Nat) : ∀ j u, ((xs.drop k).map (Value.int .i64))[j]? = some u → w.cell? ((⟨b, off + k, none⟩ : Addr).add j) = some u := by
 intro j u a;rw [List.getElem?_map, List.getElem?_drop] at a;cases c : xs[k + j]? with
 | none => rw [c] at a; cases a
 | some x =>
  rw [c] at a;simp at a
  subst a;have d := (List.getElem?_eq_some_iff.1 c).1;have := hc (k + j) d;rw [List.getD_eq_getElem?_getD, c] at this
  rw [show (⟨b, off + k, none⟩ : Addr).add j = ⟨b, off + (k + j), none⟩ from by cases j with
   | zero => simp [Addr.add]
   | succ j => simp [Addr.add, Nat.add_assoc]]
  exact this
theorem zFK {w : World} {b off : Nat} {xs : List Int} (hc : ∀ j, j < xs.length → w.cell? ⟨b, off + j, none⟩ = some (nI (xs.getD j 0))) (k : Nat) : ∀ j u, ((xs.take k).map (Value.int .i64))[j]? = some u → w.cell? ((⟨b, off, none⟩ : Addr).add j) = some u := by
 intro j u a;rw [List.getElem?_map, List.getElem?_take] at a;split at a
 ·cases c : xs[j]? with
  | none => rw [c] at a; cases a
  | some x =>
   rw [c] at a;simp at a
   subst a;have d := (List.getElem?_eq_some_iff.1 c).1;have := hc j d;rw [List.getD_eq_getElem?_getD, c] at this;rw [show (⟨b, off, none⟩ : Addr).add j = ⟨b, off + j, none⟩ from by simp [Addr.add]];exact this
 ·cases a
theorem zK8 (l : List Int) : ∀ u ∈ l.map (Value.int .i64), u.oneCell' = true := fun u hu => by obtain ⟨x, _, rfl⟩ := List.mem_map.1 hu; rfl
set_option maxHeartbeats 4000000 in
theorem zIg (b off : Nat) (xs : List Int) (cap : Nat) (n : Int) (w : World) (hc : ∀ j, j < xs.length → w.cell? ⟨b, off + j, none⟩ = some (nI (xs.getD j 0))) (hm : xs.length ≤ 1048575) (hcap : xs.length ≤ cap) (hmx : cap ≤ maxLen) :
    Calls Tryz.prog 83 #[sL (some ⟨b, off, none⟩) xs.length cap, nI n] w fun e w' => (e = .returned (sL (some ⟨b, off, none⟩) xs.length cap) ∧ w' = w ∧ zGy xs n = xs) ∨ ∃ v, e = .returned v ∧ zCH w w' v (zGy xs n) := by
 have aB : cap ≤ 9223372036854775807 := hmx;obtain ⟨R, K, H, F, G⟩ := info_parts Tryz.infoI;go_enter Tryz.func83, Tryz.ntmps83;go_wp2;go_loop [5] (fun i => ∃ k : Nat, k ≤ xs.length ∧ i = nI k ∧ ∀ j, j < k → xs.getD j 0 < n) (fun i => xs.length - (intOf i).toNat)
 case atStart => exact ⟨0, Nat.zero_le _, rfl, fun j hj => by omega⟩
 case round =>
  obtain ⟨k, hk, rfl, J⟩ := hrel;by_cases NA : k < xs.length
  ·have bB : (k : Int) < (xs.length : Int) := by omega
   have hx := hc k NA;generalize hg : xs.getD k 0 = x at hx;by_cases XA : x < n
   ·have HA : Hid (∀ j, j < k + 1 → xs.getD j 0 < n) := fun j hj => by
      by_cases e : j = k
      ·subst e; rw [hg]; exact XA
      ·exact J j (by omega)
    clear J hc;go_wp2;go_round
    case rel => exact ⟨k + 1, by omega, by go_num, HA.out⟩
    case measure => simp [intOf]; omega
   ·by_cases GA : x = n
    ·have HE : Hid (zGy xs n = xs) := zIf NA J (by rw [hg]; exact GA);subst GA;clear J hc;go_wp2;go_ret
     exact .inl ⟨rfl, rfl, HE.out⟩
    ·have cB : (x == n) = false := beq_false_of_ne GA;have HE : Hid (zGy xs n = xs.take k ++ n :: xs.drop k) := zHz hk J (fun _ => by rw [hg]; omega);have HC : Hid _ := hc;clear J hc;have p : (w.alloc (.cells #[] 2)).ownsRow w.heap.size 2 1 (sL (some ⟨w.heap.size, 0, none⟩) 0 0) 0 [] := World.ownsRow_lit _ #[] 0 (Nat.le_refl _) (Nat.zero_le _) rfl;have N1 : Hid (∀ j u, ((xs.drop k).map (Value.int .i64))[j]? = some u → (w.alloc (.cells #[] 2)).cell? ((⟨b, off + k, none⟩ : Addr).add j) = some u) := fun j u hj => by
      have g0 := reads_at HC.out k j u hj;exact (World.cell?_alloc_lt w _ _ (World.block_lt_of_cell? w _ g0)).trans g0
     have L1 : Hid (((xs.drop k).map (Value.int .i64)).length = (xs.length - k) * 1) := by unfold Hid; simp
     go_wp2_with (at_builtin; refine wpList_append_own _ rfl _ _ 28 rfl w.heap.size 2 R (nI 0) 1 8 Tryz.underlying28 K H F G rfl (by decide) _ _ _ rfl p ⟨b, off + k, none⟩ (xs.length - k) (cap - k) ((xs.drop k).map (Value.int .i64)) rfl L1.out N1.out (zK8 _) (by unfold maxLen; omega) (by omega) (by simp) ?_)
     intro v1 a q c y;have M1 : zCH w a v1 (xs.drop k) := zCq (by simpa using q) c y;obtain ⟨g1, c1, rfl, vA, V, O1, X⟩ := M1;clear q c y p N1 L1;rw [List.length_drop];have D : (a.alloc (.cells #[] 2)).ownsRow a.heap.size 2 1 (sL (some ⟨a.heap.size, 0, none⟩) 0 0) 0 [] := World.ownsRow_lit _ #[] 0 (Nat.le_refl _) (Nat.zero_le _) rfl;have N2 : Hid (∀ j u, ((xs.take k).map (Value.int .i64))[j]? = some u → (a.alloc (.cells #[] 2)).cell? ((⟨b, off, none⟩ : Addr).add j) = some u) := fun j u hj => by
      have g0 := zFK (w := a) (fun i K => zAf X (HC.out i K) (zAi (HC.out i K))) k j u hj;exact (World.cell?_alloc_lt a _ _ (World.block_lt_of_cell? a _ g0)).trans g0
     have O : (xs.take k).length = k := by rw [List.length_take]; omega
     have L2 : Hid (((xs.take k).map (Value.int .i64)).length = k * 1) := by unfold Hid; rw [List.length_map, O, Nat.mul_one]
     go_wp2_with (at_builtin; refine wpList_append_own _ rfl _ _ 28 rfl a.heap.size 2 R (nI 0) 1 8 Tryz.underlying28 K H F G rfl (by decide) _ _ _ rfl D ⟨b, off, none⟩ k cap ((xs.take k).map (Value.int .i64)) rfl L2.out N2.out (zK8 _) (by unfold maxLen; omega) (by omega) (by simp) ?_)
     intro v2 I C f z;have M2 : zCH a I v2 (xs.take k) := zCq (by rw [O]; simpa using C) f z;obtain ⟨g2, c2, rfl, yA, FA, S, T⟩ := M2;clear C f z D N2 L2;rw [O];have A : (I.alloc (.cells #[nI n] 2)).ownsRow a.heap.size 2 1 (sL (some ⟨g2, 0, none⟩) k c2) k ((xs.take k).map (Value.int .i64)) := by
      have := World.ownsRow.alloc S (.cells #[nI n] 2);rw [O] at this;exact this
     have Z : Hid (∀ j u, [Value.int .i64 n][j]? = some u → (I.alloc (.cells #[nI n] 2)).cell? ((⟨I.heap.size, 0, none⟩ : Addr).add j) = some u) := fun j u hj => by
      match j, hj with
      | 0, hj => simp at hj; subst hj; simp [Addr.add]
     have CA := T.size;have M : a.heap.size ≤ (I.alloc (.cells #[nI n] 2)).heap.size := by rw [zAu]; omega
     have H3 : Hid (∀ u ∈ [Value.int .i64 n], u.oneCell' = true) := zK8 [n];have Z3 : Hid (k + 1 ≤ maxLen ∧ (k + 1) * 8 ≤ 140737488355328) := by unfold Hid maxLen; omega
     go_wp2_with (at_builtin; refine wpList_append_own _ rfl _ _ 28 rfl a.heap.size 2 R (nI 0) 1 8 Tryz.underlying28 K H F G rfl (by decide) (sL (some ⟨g2, 0, none⟩) k c2) k ((xs.take k).map (Value.int .i64)) rfl A ⟨I.heap.size, 0, none⟩ 1 1 [nI n] rfl rfl Z.out H3.out Z3.out.1 Z3.out.2 M ?_)
     intro v3 w3 l g s;obtain ⟨g3, c3, rfl, U, N⟩ := zFG (m := k + 1) (ys := [n]) T S (by simp; omega) (by rw [O]; simpa using l) g s;clear l g s A Z S;have L := zC6 O1 N V;have N4 : Hid (∀ j u, ((xs.drop k).map (Value.int .i64))[j]? = some u → w3.cell? ((⟨g1, 0, none⟩ : Addr).add j) = some u) := fun j u hj => by
      rcases zC5 L with h0 | ⟨b', gA, e, oA⟩
      ·rw [h0] at hj; cases hj
      ·cases e;exact zFK oA (xs.drop k).length j u (by rw [List.take_length]; exact hj)
     have L4 : Hid (((xs.drop k).map (Value.int .i64)).length = (xs.length - k) * 1) := by unfold Hid; simp
     have LA := N.size;have E : (xs.take k ++ [n]).length = k + 1 := by simp; omega
     have r : w3.ownsRow a.heap.size 2 1 (sL (some ⟨g3, 0, none⟩) (k + 1) c3) (k + 1) ((xs.take k ++ [n]).map (Value.int .i64)) := by
      have := U;unfold zCW at this;rw [E] at this;exact this
     go_wp2_with (at_builtin; refine wpList_append_own _ rfl _ _ 28 rfl a.heap.size 2 R (nI 0) 1 8 Tryz.underlying28 K H F G rfl (by decide) _ _ _ rfl r ⟨g1, 0, none⟩ (xs.length - k) c1 ((xs.drop k).map (Value.int .i64)) rfl L4.out N4.out (zK8 _) (by unfold maxLen; omega) (by omega) (by omega) ?_)
     intro v4 w4 B d o;have Y : zCH a w4 v4 ((xs.take k ++ [n]) ++ xs.drop k) := zFH N U (by rw [E, List.length_drop]; simpa using B) d o;have HM : Hid (zCH w w4 v4 (zGy xs n)) := by
      unfold Hid;rw [HE.out, show xs.take k ++ n :: xs.drop k = (xs.take k ++ [n]) ++ xs.drop k by simp];exact zBn X Y
     clear B d o Y r N4 L4 U N L O1 X T;go_wp2;go_ret
     exact .inr ⟨_, rfl, HM.out⟩
  ·have TA : k = xs.length := by omega
   subst TA;have HE : Hid (zGy xs n = xs ++ [n]) := by
    unfold Hid;rw [zHz (Nat.le_refl _) J (fun h => absurd h NA), List.take_length, List.drop_length]
   have HC : Hid _ := hc;clear J hc hk;by_cases h0 : xs.length = 0
   ·have YA : xs = [] := List.eq_nil_of_length_eq_zero h0;subst YA;have p : (w.alloc (.cells #[] 2)).ownsRow w.heap.size 2 1 (sL (some ⟨w.heap.size, 0, none⟩) 0 0) 0 [] := World.ownsRow_lit _ #[] 0 (Nat.le_refl _) (Nat.zero_le _) rfl;go_wp2_with (at_builtin; refine wpList_append_own _ rfl _ _ 28 rfl w.heap.size 2 R (nI 0) 1 8 Tryz.underlying28 K H F G rfl (by decide) _ _ _ rfl p _ 0 _ [] rfl rfl (fun j u hj => by cases hj) (fun u hu => by cases hu) (by unfold maxLen; omega) (by omega) (by simp) ?_)
    intro v1 a q c y;have M1 : zCH w a v1 ([] : List Int) := zCq (by simpa using q) c y;obtain ⟨g1, c1, rfl, vA, V, O1, X⟩ := M1;clear q c y p;have D : (a.alloc (.cells #[] 2)).ownsRow a.heap.size 2 1 (sL (some ⟨a.heap.size, 0, none⟩) 0 0) 0 [] := World.ownsRow_lit _ #[] 0 (Nat.le_refl _) (Nat.zero_le _) rfl;go_wp2_with (at_builtin; refine wpList_append_own _ rfl _ _ 28 rfl a.heap.size 2 R (nI 0) 1 8 Tryz.underlying28 K H F G rfl (by decide) _ _ _ rfl D _ 0 _ [] rfl rfl (fun j u hj => by cases hj) (fun u hu => by cases hu) (by unfold maxLen; omega) (by omega) (by simp) ?_)
    intro v2 I C f z;have M2 : zCH a I v2 ([] : List Int) := zCq (by simpa using C) f z;obtain ⟨g2, c2, rfl, yA, FA, S, T⟩ := M2;clear C f z D;have A : (I.alloc (.cells #[nI n] 2)).ownsRow a.heap.size 2 1 (sL (some ⟨g2, 0, none⟩) 0 c2) 0 (([] : List Int).map (Value.int .i64)) := by
     have := World.ownsRow.alloc S (.cells #[nI n] 2);exact this
    have Z : Hid (∀ j u, [Value.int .i64 n][j]? = some u → (I.alloc (.cells #[nI n] 2)).cell? ((⟨I.heap.size, 0, none⟩ : Addr).add j) = some u) := fun j u hj => by
     match j, hj with
     | 0, hj => simp at hj; subst hj; simp [Addr.add]
    have CA := T.size;have M : a.heap.size ≤ (I.alloc (.cells #[nI n] 2)).heap.size := by rw [zAu]; omega
    have H3 : Hid (∀ u ∈ [Value.int .i64 n], u.oneCell' = true) := zK8 [n];have Z3 : Hid (0 + 1 ≤ maxLen ∧ (0 + 1) * 8 ≤ 140737488355328) := by unfold Hid maxLen; omega
    go_wp2_with (at_builtin; refine wpList_append_own _ rfl _ _ 28 rfl a.heap.size 2 R (nI 0) 1 8 Tryz.underlying28 K H F G rfl (by decide) (sL (some ⟨g2, 0, none⟩) 0 c2) 0 (([] : List Int).map (Value.int .i64)) rfl A ⟨I.heap.size, 0, none⟩ 1 1 [nI n] rfl rfl Z.out H3.out Z3.out.1 Z3.out.2 M ?_)
    intro v3 w3 l g s;obtain ⟨g3, c3, rfl, U, N⟩ := zFG (m := 0 + 1) (ys := [n]) T S (by simp) (by simpa using l) g s;clear l g s A Z S;have L := zC6 O1 N V;have N4 : Hid (∀ j u, (([] : List Int).map (Value.int .i64))[j]? = some u → w3.cell? ((⟨g1, 0, none⟩ : Addr).add j) = some u) := fun j u hj => by
     rcases zC5 L with h0 | ⟨b', gA, e, oA⟩
     ·rw [h0] at hj; cases hj
     ·cases e;cases hj
    have L4 : Hid ((([] : List Int).map (Value.int .i64)).length = 0 * 1) := by unfold Hid; simp
    have LA := N.size;have E : (([] : List Int) ++ [n]).length = 0 + 1 := by simp
    have r : w3.ownsRow a.heap.size 2 1 (sL (some ⟨g3, 0, none⟩) (0 + 1) c3) (0 + 1) ((([] : List Int) ++ [n]).map (Value.int .i64)) := by
     have := U;unfold zCW at this;rw [E] at this;exact this
    go_wp2_with (at_builtin; refine wpList_append_own _ rfl _ _ 28 rfl a.heap.size 2 R (nI 0) 1 8 Tryz.underlying28 K H F G rfl (by decide) _ _ _ rfl r ⟨g1, 0, none⟩ 0 c1 (([] : List Int).map (Value.int .i64)) rfl L4.out N4.out (zK8 _) (by unfold maxLen; omega) (by omega) (by omega) ?_)
    intro v4 w4 B d o;have Y : zCH a w4 v4 ((([] : List Int) ++ [n]) ++ ([] : List Int)) := zFH N U (by rw [E]; simpa using B) d o;have HM : Hid (zCH w w4 v4 (zGy ([] : List Int) n)) := by
     unfold Hid;rw [HE.out, show ([] : List Int) ++ [n] = (([] : List Int) ++ [n]) ++ [] by simp];exact zBn X Y
    clear B d o Y r N4 L4 U N L O1 X T;go_wp2;go_ret
    exact .inr ⟨_, rfl, HM.out⟩
   ·by_cases ZA : cap = xs.length
    ·subst ZA;have p : (w.alloc (.cells #[] 2)).ownsRow w.heap.size 2 1 (sL (some ⟨w.heap.size, 0, none⟩) 0 0) 0 [] := World.ownsRow_lit _ #[] 0 (Nat.le_refl _) (Nat.zero_le _) rfl;have N1 : Hid (∀ j u, (([] : List Int).map (Value.int .i64))[j]? = some u → (w.alloc (.cells #[] 2)).cell? ((⟨b, off + xs.length, none⟩ : Addr).add j) = some u) := fun j u hj => by cases hj
     have L1 : Hid ((([] : List Int).map (Value.int .i64)).length = 0 * 1) := by unfold Hid; simp
     go_wp2_with (at_builtin; refine wpList_append_own _ rfl _ _ 28 rfl w.heap.size 2 R (nI 0) 1 8 Tryz.underlying28 K H F G rfl (by decide) _ _ _ rfl p _ 0 _ [] rfl rfl (fun j u hj => by cases hj) (fun u hu => by cases hu) (by unfold maxLen; omega) (by omega) (by simp) ?_)
     intro v1 a q c y;have M1 : zCH w a v1 ([] : List Int) := zCq (by simpa using q) c y;obtain ⟨g1, c1, rfl, vA, V, O1, X⟩ := M1;clear q c y p N1 L1;have D : (a.alloc (.cells #[] 2)).ownsRow a.heap.size 2 1 (sL (some ⟨a.heap.size, 0, none⟩) 0 0) 0 [] := World.ownsRow_lit _ #[] 0 (Nat.le_refl _) (Nat.zero_le _) rfl;have N2 : Hid (∀ j u, (xs.map (Value.int .i64))[j]? = some u → (a.alloc (.cells #[] 2)).cell? ((⟨b, off, none⟩ : Addr).add j) = some u) := fun j u hj => by
      have g0 := zFK (w := a) (fun i K => zAf X (HC.out i K) (zAi (HC.out i K))) xs.length j u (by rw [List.take_length]; exact hj);exact (World.cell?_alloc_lt a _ _ (World.block_lt_of_cell? a _ g0)).trans g0
     have L2 : Hid ((xs.map (Value.int .i64)).length = xs.length * 1) := by unfold Hid; rw [List.length_map, Nat.mul_one]
     go_wp2_with (at_builtin; refine wpList_append_own _ rfl _ _ 28 rfl a.heap.size 2 R (nI 0) 1 8 Tryz.underlying28 K H F G rfl (by decide) _ _ _ rfl D ⟨b, off, none⟩ xs.length xs.length (xs.map (Value.int .i64)) rfl L2.out N2.out (zK8 _) (by unfold maxLen; omega) (by omega) (by simp) ?_)
     intro v2 I C f z;have M2 : zCH a I v2 xs := zCq (by simpa using C) f z;obtain ⟨g2, c2, rfl, yA, FA, S, T⟩ := M2;clear C f z D N2 L2;have A : (I.alloc (.cells #[nI n] 2)).ownsRow a.heap.size 2 1 (sL (some ⟨g2, 0, none⟩) xs.length c2) xs.length (xs.map (Value.int .i64)) := by
      have := World.ownsRow.alloc S (.cells #[nI n] 2);exact this
     have Z : Hid (∀ j u, [Value.int .i64 n][j]? = some u → (I.alloc (.cells #[nI n] 2)).cell? ((⟨I.heap.size, 0, none⟩ : Addr).add j) = some u) := fun j u hj => by
      match j, hj with
      | 0, hj => simp at hj; subst hj; simp [Addr.add]
     have CA := T.size;have M : a.heap.size ≤ (I.alloc (.cells #[nI n] 2)).heap.size := by rw [zAu]; omega
     have H3 : Hid (∀ u ∈ [Value.int .i64 n], u.oneCell' = true) := zK8 [n];have Z3 : Hid (xs.length + 1 ≤ maxLen ∧ (xs.length + 1) * 8 ≤ 140737488355328) := by unfold Hid maxLen; omega
     go_wp2_with (at_builtin; refine wpList_append_own _ rfl _ _ 28 rfl a.heap.size 2 R (nI 0) 1 8 Tryz.underlying28 K H F G rfl (by decide) (sL (some ⟨g2, 0, none⟩) xs.length c2) xs.length (xs.map (Value.int .i64)) rfl A ⟨I.heap.size, 0, none⟩ 1 1 [nI n] rfl rfl Z.out H3.out Z3.out.1 Z3.out.2 M ?_)
     intro v3 w3 l g s;obtain ⟨g3, c3, rfl, U, N⟩ := zFG (m := xs.length + 1) (ys := [n]) T S (by simp) (by simpa using l) g s;clear l g s A Z S;have L := zC6 O1 N V;have N4 : Hid (∀ j u, (([] : List Int).map (Value.int .i64))[j]? = some u → w3.cell? ((⟨g1, 0, none⟩ : Addr).add j) = some u) := fun j u hj => by
      rcases zC5 L with h0 | ⟨b', gA, e, oA⟩
      ·rw [h0] at hj; cases hj
      ·cases e;cases hj
     have L4 : Hid ((([] : List Int).map (Value.int .i64)).length = 0 * 1) := by unfold Hid; simp
     have LA := N.size;have E : (xs ++ [n]).length = xs.length + 1 := by simp
     have r : w3.ownsRow a.heap.size 2 1 (sL (some ⟨g3, 0, none⟩) (xs.length + 1) c3) (xs.length + 1) ((xs ++ [n]).map (Value.int .i64)) := by
      have := U;unfold zCW at this;rw [E] at this;exact this
     go_wp2_with (at_builtin; refine wpList_append_own _ rfl _ _ 28 rfl a.heap.size 2 R (nI 0) 1 8 Tryz.underlying28 K H F G rfl (by decide) _ _ _ rfl r ⟨g1, 0, none⟩ 0 c1 (([] : List Int).map (Value.int .i64)) rfl L4.out N4.out (zK8 _) (by unfold maxLen; omega) (by omega) (by omega) ?_)
     intro v4 w4 B d o;have Y : zCH a w4 v4 ((xs ++ [n]) ++ ([] : List Int)) := zFH N U (by rw [E]; simpa using B) d o;have HM : Hid (zCH w w4 v4 (zGy xs n)) := by
      unfold Hid;rw [HE.out, show xs ++ [n] = (xs ++ [n]) ++ [] by simp];exact zBn X Y
     clear B d o Y r N4 L4 U N L O1 X T;go_wp2;go_ret
     exact .inr ⟨_, rfl, HM.out⟩
    ·have dB : ¬ (cap - xs.length = 0) := by omega
     have p : (w.alloc (.cells #[] 2)).ownsRow w.heap.size 2 1 (sL (some ⟨w.heap.size, 0, none⟩) 0 0) 0 [] := World.ownsRow_lit _ #[] 0 (Nat.le_refl _) (Nat.zero_le _) rfl;have N1 : Hid (∀ j u, (([] : List Int).map (Value.int .i64))[j]? = some u → (w.alloc (.cells #[] 2)).cell? ((⟨b, off + xs.length, none⟩ : Addr).add j) = some u) := fun j u hj => by cases hj
     have L1 : Hid ((([] : List Int).map (Value.int .i64)).length = 0 * 1) := by unfold Hid; simp
     go_wp2_with (at_builtin; refine wpList_append_own _ rfl _ _ 28 rfl w.heap.size 2 R (nI 0) 1 8 Tryz.underlying28 K H F G rfl (by decide) _ _ _ rfl p _ 0 _ [] rfl rfl (fun j u hj => by cases hj) (fun u hu => by cases hu) (by unfold maxLen; omega) (by omega) (by simp) ?_)
     intro v1 a q c y;have M1 : zCH w a v1 ([] : List Int) := zCq (by simpa using q) c y;obtain ⟨g1, c1, rfl, vA, V, O1, X⟩ := M1;clear q c y p N1 L1;have D : (a.alloc (.cells #[] 2)).ownsRow a.heap.size 2 1 (sL (some ⟨a.heap.size, 0, none⟩) 0 0) 0 [] := World.ownsRow_lit _ #[] 0 (Nat.le_refl _) (Nat.zero_le _) rfl;have N2 : Hid (∀ j u, (xs.map (Value.int .i64))[j]? = some u → (a.alloc (.cells #[] 2)).cell? ((⟨b, off, none⟩ : Addr).add j) = some u) := fun j u hj => by
      have g0 := zFK (w := a) (fun i K => zAf X (HC.out i K) (zAi (HC.out i K))) xs.length j u (by rw [List.take_length]; exact hj);exact (World.cell?_alloc_lt a _ _ (World.block_lt_of_cell? a _ g0)).trans g0
     have L2 : Hid ((xs.map (Value.int .i64)).length = xs.length * 1) := by unfold Hid; rw [List.length_map, Nat.mul_one]
     go_wp2_with (at_builtin; refine wpList_append_own _ rfl _ _ 28 rfl a.heap.size 2 R (nI 0) 1 8 Tryz.underlying28 K H F G rfl (by decide) _ _ _ rfl D ⟨b, off, none⟩ xs.length cap (xs.map (Value.int .i64)) rfl L2.out N2.out (zK8 _) (by unfold maxLen; omega) (by omega) (by simp) ?_)
     intro v2 I C f z;have M2 : zCH a I v2 xs := zCq (by simpa using C) f z;obtain ⟨g2, c2, rfl, yA, FA, S, T⟩ := M2;clear C f z D N2 L2;have A : (I.alloc (.cells #[nI n] 2)).ownsRow a.heap.size 2 1 (sL (some ⟨g2, 0, none⟩) xs.length c2) xs.length (xs.map (Value.int .i64)) := by
      have := World.ownsRow.alloc S (.cells #[nI n] 2);exact this
     have Z : Hid (∀ j u, [Value.int .i64 n][j]? = some u → (I.alloc (.cells #[nI n] 2)).cell? ((⟨I.heap.size, 0, none⟩ : Addr).add j) = some u) := fun j u hj => by
      match j, hj with
      | 0, hj => simp at hj; subst hj; simp [Addr.add]
     have CA := T.size;have M : a.heap.size ≤ (I.alloc (.cells #[nI n] 2)).heap.size := by rw [zAu]; omega
     have H3 : Hid (∀ u ∈ [Value.int .i64 n], u.oneCell' = true) := zK8 [n];have Z3 : Hid (xs.length + 1 ≤ maxLen ∧ (xs.length + 1) * 8 ≤ 140737488355328) := by unfold Hid maxLen; omega
     go_wp2_with (at_builtin; refine wpList_append_own _ rfl _ _ 28 rfl a.heap.size 2 R (nI 0) 1 8 Tryz.underlying28 K H F G rfl (by decide) (sL (some ⟨g2, 0, none⟩) xs.length c2) xs.length (xs.map (Value.int .i64)) rfl A ⟨I.heap.size, 0, none⟩ 1 1 [nI n] rfl rfl Z.out H3.out Z3.out.1 Z3.out.2 M ?_)
     intro v3 w3 l g s;obtain ⟨g3, c3, rfl, U, N⟩ := zFG (m := xs.length + 1) (ys := [n]) T S (by simp) (by simpa using l) g s;clear l g s A Z S;have L := zC6 O1 N V;have N4 : Hid (∀ j u, (([] : List Int).map (Value.int .i64))[j]? = some u → w3.cell? ((⟨g1, 0, none⟩ : Addr).add j) = some u) := fun j u hj => by
      rcases zC5 L with h0 | ⟨b', gA, e, oA⟩
      ·rw [h0] at hj; cases hj
      ·cases e;cases hj
     have L4 : Hid ((([] : List Int).map (Value.int .i64)).length = 0 * 1) := by unfold Hid; simp
     have LA := N.size;have E : (xs ++ [n]).length = xs.length + 1 := by simp
     have r : w3.ownsRow a.heap.size 2 1 (sL (some ⟨g3, 0, none⟩) (xs.length + 1) c3) (xs.length + 1) ((xs ++ [n]).map (Value.int .i64)) := by
      have := U;unfold zCW at this;rw [E] at this;exact this
     go_wp2_with (at_builtin; refine wpList_append_own _ rfl _ _ 28 rfl a.heap.size 2 R (nI 0) 1 8 Tryz.underlying28 K H F G rfl (by decide) _ _ _ rfl r ⟨g1, 0, none⟩ 0 c1 (([] : List Int).map (Value.int .i64)) rfl L4.out N4.out (zK8 _) (by unfold maxLen; omega) (by omega) (by omega) ?_)
     intro v4 w4 B d o;have Y : zCH a w4 v4 ((xs ++ [n]) ++ ([] : List Int)) := zFH N U (by rw [E]; simpa using B) d o;have HM : Hid (zCH w w4 v4 (zGy xs n)) := by
      unfold Hid;rw [HE.out, show xs ++ [n] = (xs ++ [n]) ++ [] by simp];exact zBn X Y
     clear B d o Y r N4 L4 U N L O1 X T;go_wp2;go_ret
     exact .inr ⟨_, rfl, HM.out⟩
end Go.Proofs.YtmaopldahnejdaaGreatDoor
