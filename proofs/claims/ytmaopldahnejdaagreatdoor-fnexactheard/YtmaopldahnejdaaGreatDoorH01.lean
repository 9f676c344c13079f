import Derived.Test.YtmaopldahnejdaaGreatDoorH00Box
import Derived.Test.YtmaopldahnejdaaGreatDoorRows
import Derived.WalkKit
import Derived.ProofKit
import Derived.OpenShut
import Derived.Deep.QuietTactic
import Derived.BigQuiet
import Derived.WalkSmall
namespace Go.Proofs.YtmaopldahnejdaaGreatDoor
open Go.ChangeShapes Go.WideShapes Go.ChangeAt Go.RowKit
def Reads (w : World) (a : Option Addr) (xs : List Int) : Prop :=
 xs = [] ∨ ∃ b off, a = some ⟨b, off, none⟩ ∧ ∀ j, j < xs.length → w.cell? ⟨b, off + j, none⟩ = some (.int .i64 (xs.getD j 0))
set_option maxHeartbeats 400000 in
theorem eqInts_any (a1 a2 : Option Addr) (xs : List Int) (c1 c2 : Nat) (w : World) (h1 : Reads w a1 xs) (h2 : Reads w a2 xs) (hm : xs.length ≤ 2305843009213693952) :
    Calls Tryz.prog 70 #[sL a1 xs.length c1, sL a2 xs.length c2] w fun e w' => e = .returned (.bool true) ∧ ∃ n, w' = w.drewN n := by
 go_enter Tryz.func70, Tryz.ntmps70;go_wp2;go_loopw [5] (fun i wr => ∃ k : Nat, k ≤ xs.length ∧ i = nI k ∧ ∃ n, wr = w.drewN n) (fun i _ => xs.length - (intOf i).toNat)
 case atStart => exact ⟨0, Nat.zero_le _, rfl, 0, rfl⟩
 case round =>
  obtain ⟨k, hk, rfl, n, rfl⟩ := hrel;by_cases a : k < xs.length
  ·rcases h1 with rfl | ⟨b1, o1, rfl, c⟩
   ·simp at a
   rcases h2 with rfl | ⟨b2, o2, rfl, b⟩
   ·simp at a
   have g1 := c k a;have g2 := b k a;have d : (k : Int) < (xs.length : Int) := by omega
   clear c b;go_wp2;go_quiet (fail)
   go_wp2;go_roundw
   case rel => exact ⟨k + 1, by omega, by go_num, _, rfl⟩
   case measure => simp [intOf]; omega
  ·go_wp2;go_ret
   exact ⟨rfl, _, rfl⟩
def seqs (k : Int) (n : Nat) : List Int := (List.range n).map (fun (j : Nat) => k + (j : Int))
theorem seqs_len (k : Int) (n : Nat) : (seqs k n).length = n := by simp [seqs]
theorem seqs_get (k : Int) (n j : Nat) (h : j < n) : (seqs k n).getD j 0 = k + j := by
 simp [seqs, List.getD_eq_getElem?_getD, h]
theorem seqs_succ (k : Int) (n : Nat) : seqs k (n + 1) = seqs k n ++ [k + n] := by simp [seqs, List.range_succ]
theorem grown_trans {a b c : World} {row : Option Nat} (h : a.grownBy b row) (k : b.grownBy c row) : a.grownBy c row :=
 ⟨k.os.trans h.os, k.tape.trans h.tape, k.output.trans h.output, Nat.le_trans h.size k.size, fun j hj hne => (k.block j (Nat.lt_of_lt_of_le hj h.size) hne).trans (h.block j hj hne)⟩
theorem mark_step (k : Int) (j : Nat) (xs : List Value) (h : j < xs.length) :
    ((seqs k j).map (Value.int .i64) ++ xs.drop j).set j (nI (k + j)) = (seqs k (j + 1)).map (Value.int .i64) ++ xs.drop (j + 1) := by
 have a : ((seqs k j).map (Value.int .i64)).length = j := by simp [seqs_len]
 rw [List.set_append_right _ _ (by omega), a, Nat.sub_self, List.drop_eq_getElem_cons h, seqs_succ];simp only [List.set_cons_zero, List.map_append, List.map_cons, List.map_nil, List.append_assoc, List.cons_append, List.nil_append]
theorem reads_own {w : World} {B e g n cap : Nat} {zs : List Int} (h : w.ownsRow B e 1 (sL (some ⟨g, 0, none⟩) n cap) n (zs.map (Value.int .i64))) :
    Reads w (some ⟨g, 0, none⟩) zs := by
 refine .inr ⟨g, 0, rfl, fun j hj => ?_⟩;have a := h.1;simp at a
 rw [Nat.zero_add, h.cellAt j (by omega)];simp [List.getD_eq_getElem?_getD, hj]
set_option maxHeartbeats 400000 in
theorem mark_any (B e g cap : Nat) (k : Int) (n : Nat) (xs : List Value) (w : World) (h0 : 0 ≤ k) (h1 : k ≤ 2305843009213693952) (hm : n ≤ 2305843009213693952)
    (hown : w.ownsRow B e 1 (sL (some ⟨g, 0, none⟩) n cap) n xs) :
    Calls Tryz.prog 73 #[sL (some ⟨g, 0, none⟩) n cap, nI k] w fun e' w' => e' = .returned (nI (k + n)) ∧
     w'.ownsRow B e 1 (sL (some ⟨g, 0, none⟩) n cap) n ((seqs k n).map (Value.int .i64)) ∧ w.grownBy w' (some g) := by
 have p : xs.length = n := by simpa using hown.1
 go_enter Tryz.func73, Tryz.ntmps73;go_wp2;go_loopw [1, 5] (fun q i wr => ∃ j : Nat, j ≤ n ∧ i = nI j ∧ q = nI (k + j) ∧ wr.ownsRow B e 1 (sL (some ⟨g, 0, none⟩) n cap) n ((seqs k j).map (Value.int .i64) ++ xs.drop j) ∧ w.grownBy wr (some g))
  (fun _ i _ => n - (intOf i).toNat)
 case atStart => exact ⟨0, Nat.zero_le _, rfl, by simp, by simpa [seqs] using hown, World.grownBy.refl _ _⟩
 case round =>
  obtain ⟨j, hj, rfl, rfl, a, l⟩ := hrel;by_cases m : j < n
  ·have f : (j : Int) < (n : Int) := by omega
   have o := a.frozenAt j;obtain ⟨c, hc⟩ : ∃ c, wr.cell? ⟨g, j, none⟩ = some c := by
    rw [a.cellAt j (by omega)];exact ⟨_, List.getElem?_eq_getElem (by have := a.1; omega)⟩
   have R := a.stored j (nI (k + j));rw [mark_step k j xs (by omega)] at R;have d : Hid _ := R;clear R;go_wp2;go_roundw
   case rel => exact ⟨j + 1, by omega, by go_num, by go_num, d.out.1, grown_trans l d.out.2⟩
   case measure => simp [intOf]; omega
  ·have b : j = n := by omega
   subst b;go_wp2;go_ret
   exact ⟨rfl, by simpa [List.drop_of_length_le (lE p)] using a, l⟩
set_option maxHeartbeats 400000 in
theorem held_any (a : Option Addr) (cap : Nat) (k : Int) (n : Nat) (w : World) (h0 : 0 ≤ k) (h1 : k ≤ 2305843009213693952) (hm : n ≤ 2305843009213693952)
    (hr : Reads w a (seqs k n)) :
    Calls Tryz.prog 76 #[sL a n cap, nI k] w fun e' w' => e' = .returned (nI (k + n)) ∧ w' = w := by
 go_enter Tryz.func76, Tryz.ntmps76;go_wp2;go_loop [1, 5] (fun q i => ∃ j : Nat, j ≤ n ∧ i = nI j ∧ q = nI (k + j)) (fun _ i => n - (intOf i).toNat)
 case atStart => exact ⟨0, Nat.zero_le _, rfl, by simp⟩
 case round =>
  obtain ⟨j, hj, rfl, rfl⟩ := hrel;by_cases c : j < n
  ·rcases hr with h | ⟨b, m, rfl, g⟩
   ·have := seqs_len k n; rw [h] at this; simp at this; omega
   have f : (j : Int) < (n : Int) := by omega
   have l := g j (by rw [seqs_len]; omega);rw [seqs_get k n j c] at l;clear g;go_wp2;go_round
   case rel => exact ⟨j + 1, by omega, by go_num, by go_num⟩
   case measure => simp [intOf]; omega
  ·have d : j = n := by omega
   subst d;go_wp2;go_ret
   exact ⟨rfl, rfl⟩
theorem own_below {w w' : World} {base e size g n cap B : Nat} {xs : List Value} (h : w.ownsRow base e size (sL (some ⟨g, 0, none⟩) n cap) n xs) (hb : Below B w w') (hg : g < B) :
    w'.ownsRow base e size (sL (some ⟨g, 0, none⟩) n cap) n xs := by
 refine ⟨h.1, ?_⟩;rcases h.2 with ⟨a, _⟩ | ⟨g', f, c, a, d, b, rest⟩
 ·simp at a
 ·simp only [Value.slice.injEq, Option.some.injEq, Addr.mk.injEq, and_true, true_and] at a;obtain ⟨rfl, rfl⟩ := a;exact .inr ⟨g, cap, c, rfl, d, by rw [hb.block g hg]; exact b, rest⟩
theorem own_lt {w : World} {base e size g n cap : Nat} {xs : List Value} (h : w.ownsRow base e size (sL (some ⟨g, 0, none⟩) n cap) n xs) : base ≤ g ∧ g < w.heap.size := h.lt g rfl
end Go.Proofs.YtmaopldahnejdaaGreatDoor
