import Derived.Test.YthnfkacboijneaaGreatDoorP33Mems6
import Derived.Test.YthnfkacboijneaaGreatDoorP20Ways2
import Derived.Test.YthnfkacboijneaaGreatDoorP18Ways
import Derived.Test.YthnfkacboijneaaGreatDoorP05Boxes
import Derived.Test.YthnfkacboijneaaGreatDoorP23StoreEnd
import Derived.Test.YthnfkacboijneaaGreatDoorP10Ops
import Derived.Maps.AppendAt
import Derived.Test.YthnfkacboijneaaGreatDoorP35OpsBad
import Derived.Deep.RegionHeld3
import Derived.Deep.DeepCutAuto
import Derived.Test.YthnfkacboijneaaGreatDoorP04Mems
import Derived.Lib.SliceRun
namespace Go.Proofs.YthnfkacboijneaaGreatDoor
open Go.ChangeShapes Go.WideShapes Go.ChangeAt Go.RowKit
set_option linter.unusedVariables false
set_option maxHeartbeats 400000 in
theorem emptyWay_any (w : World) : Calls Tryz.prog 135 #[] w fun e w' => ∃ av cv, e = .returned (.agg #[.int .i64 (-1), .int .i64 0, .slice av 0 cv]) ∧ MadeR wayR w w' [.int .i64 (-1), .int .i64 0, .slice av 0 cv] emptyW := by
 have M := made_nothing (w.alloc (.cells #[.int .i64 (-1), .int .i64 0, .slice (some ⟨w.heap.size + 1, 0, none⟩) 0 0] 84))
 have X := heap_on (.cells #[] 2) (heap_at w (.cells #[.int .i64 (-1), .int .i64 0, .slice (some ⟨w.heap.size + 1, 0, none⟩) 0 0] 84))
 rw [alloc_len] at M
 obtain ⟨r0, r1, r2⟩ := cells_3 X
 go_enter Tryz.func135, Tryz.ntmps135
 go_wp2
 refine bodyPost_ret (v := .agg #[.int .i64 (-1), .int .i64 0, .slice (some ⟨w.heap.size + 1, 0, none⟩) 0 0]) (by simp [results, Tryz.results135, go_sem]) rfl ⟨_, _, rfl, own_way (by constructor <;> decide) (by constructor <;> decide) ?_, below_step (box_below w _) M.2⟩
 exact intsR.own_mono M.1 (rng_sub (by simp) (Nat.le_refl _))
theorem own_nothing (w : World) (S : Foot) : intsR.own w S [.slice none 0 0] [] := ⟨_, [], fun _ => False, rfl, World.ownsRow_nil _ _ _ _, fun g hg => by simp [Value.ownBlock] at hg, fun _ h => h.elim, rfl⟩
set_option maxHeartbeats 400000 in
theorem l6Empty_any (w : World) : Calls Tryz.prog 124 #[] w fun e w' => ∃ av cv, e = .returned (.agg #[.int .i64 (-1), .int .i64 0, .slice av 0 cv]) ∧ MadeR wayR w w' [.int .i64 (-1), .int .i64 0, .slice av 0 cv] emptyW := by
 go_enter Tryz.func124, Tryz.ntmps124
 go_wp2
 refine bodyPost_ret (v := .agg #[.int .i64 (-1), .int .i64 0, .slice none 0 0]) (by simp [results, Tryz.results124, go_sem]) rfl ⟨_, _, rfl, own_way (by constructor <;> decide) (by constructor <;> decide) (own_nothing _ _), box_below w _⟩
section
variable {α : Type}
theorem lown_nils {e : TypeId} {R : Rep α} {w : World} {S : Foot} : ∀ n, lown (slR e R) w S (List.replicate n (.slice none 0 0)) (List.replicate n ([] : List α))
 | 0 => rfl
 | n + 1 => ⟨[_], List.replicate n (.slice none 0 0), fun _ => False, S, rfl, ⟨_, [], fun _ => False, rfl, World.ownsRow_nil _ _ _ _, fun g hg => by simp [Value.ownBlock] at hg, fun _ h => h.elim, rfl⟩, lown_nils n, fun _ h => h.elim, Sub.refl _, fun _ h _ => h⟩
theorem made_one (n : Nat) (z : Value) : (madeCells #[z] n).toList = List.replicate n z := by
 apply List.ext_getElem?
 intro i
 rw [List.getElem?_replicate]
 unfold madeCells
 by_cases h : i < n
 ·simp [h, Nat.mod_one]
 ·simp [h]
theorem made_nils {e : TypeId} {R : Rep α} (E : TypeId) (w : World) (n : Nat) (hm : n ≤ maxLen) : MadeR (slR E (slR e R)) w (w.alloc (.cells (madeCells #[.slice none 0 0] n) E)) [.slice (some ⟨w.heap.size, 0, none⟩) n n] (List.replicate n ([] : List α)) := by
 have hr := World.ownsRow_lit (base := 0) (e := E) (size := 1) w (madeCells #[.slice none 0 0] n) n (Nat.zero_le _) hm (by rw [size_madeCells]; omega)
 rw [made_one] at hr
 refine ⟨⟨_, _, fun _ => False, rfl, by rw [List.length_replicate]; exact hr, fun g hg => ?_, fun _ h => h.elim, lown_nils n⟩, box_below w _⟩
 simp [Value.ownBlock] at hg
 subst hg
 exact ⟨⟨Nat.le_refl _, by simp⟩, fun h => h⟩
end
theorem made_zeros (w : World) (n : Nat) (hm : n ≤ maxLen) : MadeR intsR w (w.alloc (.cells (madeCells #[.int .i64 0] n) 2)) [.slice (some ⟨w.heap.size, 0, none⟩) n n] (List.replicate n 0) := by
 have hr := World.ownsRow_lit (base := 0) (e := 2) (size := 1) w (madeCells #[.int .i64 0] n) n (Nat.zero_le _) hm (by rw [size_madeCells]; omega)
 rw [made_one] at hr
 refine ⟨⟨_, _, fun _ => False, rfl, by rw [List.length_replicate]; exact hr, fun g hg => ?_, fun _ h => h.elim, lown_ints (lrd_ints.2 ⟨by rw [List.map_replicate], fun x hx => ?_⟩)⟩, box_below w _⟩
 ·simp [Value.ownBlock] at hg
  subst hg
  exact ⟨⟨Nat.le_refl _, by simp⟩, fun h => h⟩
 ·rw [(List.mem_replicate.1 hx).2]
  constructor <;> decide
theorem cells_new3 (w : World) (a b c : Value) (t : TypeId) : ∀ j u, [a, b, c][j]? = some u → (w.alloc (.cells #[a, b, c] t)).cell? ((⟨w.heap.size, 0, none⟩ : Addr).add j) = some u := by
 intro j u hu
 have X := heap_at w (.cells #[a, b, c] t)
 have hj := (List.getElem?_eq_some_iff.1 hu).1
 rw [show (⟨w.heap.size, 0, none⟩ : Addr).add j = ⟨w.heap.size, j, none⟩ from by simp [Addr.add] <;> omega, cell_of_row _ _ j _ _ (0, 0) X]
 simpa using hu
theorem cells_new1 (w : World) (a : Value) (t : TypeId) : ∀ j u, [a][j]? = some u → (w.alloc (.cells #[a] t)).cell? ((⟨w.heap.size, 0, none⟩ : Addr).add j) = some u := by
 intro j u hu
 have X := heap_at w (.cells #[a] t)
 rw [show (⟨w.heap.size, 0, none⟩ : Addr).add j = ⟨w.heap.size, j, none⟩ from by simp [Addr.add] <;> omega, cell_of_row _ _ j _ _ (0, 0) X]
 simpa using hu
section
variable {α : Type}
end
def newI (a b : Int) : CacheD × Bool := if powB a && powB b then (newX a.toNat b.toNat, true) else (([], []), false)
theorem new_no {a b : Int} (h : (powB a && powB b) = false) : newI a b = (([], []), false) := by
 unfold newI
 rw [h]
 rfl
theorem new_yes {n m : Nat} (h : (powB n && powB m) = true) : newI n m = (newX n m, true) := by
 unfold newI
 rw [h]
 simp
theorem powB_nat {a : Int} (h : powB a = true) : ∃ n : Nat, a = n ∧ (n = 1 ∨ n = 2 ∨ n = 4) := ⟨a.toNat, by simp [powB] at h; omega, by simp [powB] at h; omega⟩
theorem own_two_nils (w : World) (S : Foot) : cacheR.own w S [.slice none 0 0, .slice none 0 0] (([], []) : CacheD) :=
 own_cache (S1 := fun _ => False) (S2 := fun _ => False) ⟨_, [], fun _ => False, rfl, World.ownsRow_nil _ _ _ _, fun g hg => by simp [Value.ownBlock] at hg, fun _ h => h.elim, rfl⟩ (own_nothing w _) (fun _ h => h.elim) (fun _ h => h.elim) (fun _ h _ => h)
theorem Tryz.infoT : (Tryz.prog.info? 2).map (fun i => (i.zero, i.size, i.bytes)) = some (some (.int .i64 0), 1, 8) := by kernel_rfl
set_option maxHeartbeats 2000000 in
theorem specNew_any (a b : Int) (w : World) :
    Calls Tryz.prog 123 #[.int .i64 a, .int .i64 b] w fun e w' => ∃ av cv bv dv, e = .returned (.tuple #[.agg #[.slice av (newI a b).1.1.length cv, .slice bv (newI a b).1.2.length dv], .bool (newI a b).2]) ∧
     MadeR cacheR w w' [.slice av (newI a b).1.1.length cv, .slice bv (newI a b).1.2.length dv] (newI a b).1 := by
 cases hq : powB a && powB b
 ·rw [new_no hq]
  show Calls Tryz.prog 123 #[.int .i64 a, .int .i64 b] w fun e w' => ∃ av cv bv dv, e = .returned (.tuple #[.agg #[.slice av 0 cv, .slice bv 0 dv], .bool false]) ∧ MadeR cacheR w w' [.slice av 0 cv, .slice bv 0 dv] (([], []) : CacheD)
  cases ha : powB a
  ·go_enter Tryz.func123, Tryz.ntmps123
   go_wp2_with (go_at_call 85; refine (l2Pow_any _ _).mono ?_; rintro e w' ⟨rfl, rfl⟩; rw [ha])
   refine bodyPost_ret (v := .tuple #[.agg #[.slice none 0 0, .slice none 0 0], .bool false]) (by simp [results, Tryz.results123, go_sem]) rfl ⟨none, 0, none, 0, rfl, own_two_nils _ _, box_below w _⟩
  ·have hb : powB b = false := by rw [ha] at hq; simpa using hq
   have ca : Hid (∀ W, Calls Tryz.prog 85 #[.int .i64 a] W fun e w' => e = .returned (.bool true) ∧ w' = W) := fun W => by have := l2Pow_any a W; rwa [ha] at this
   have cb : Hid (∀ W, Calls Tryz.prog 85 #[.int .i64 b] W fun e w' => e = .returned (.bool false) ∧ w' = W) := fun W => by have := l2Pow_any b W; rwa [hb] at this
   clear ha hb hq
   go_enter Tryz.func123, Tryz.ntmps123
   go_wp2_with fail
   refine (ca.out _).mono ?_
   rintro e w1 ⟨rfl, hw1⟩
   rw [hw1]
   clear hw1 w1
   go_wp2_with fail
   refine (cb.out _).mono ?_
   rintro e w1 ⟨rfl, hw1⟩
   rw [hw1]
   clear hw1 w1
   go_wp2
   refine bodyPost_ret (v := .tuple #[.agg #[.slice none 0 0, .slice none 0 0], .bool false]) (by simp [results, Tryz.results123, go_sem]) rfl ⟨none, 0, none, 0, rfl, own_two_nils _ _, box_below w _⟩
 ·obtain ⟨n, rfl, hn⟩ := powB_nat (a := a) (by simp at hq; exact hq.1)
  obtain ⟨m, rfl, hm⟩ := powB_nat (a := b) (by simp at hq; exact hq.2)
  rw [new_yes hq]
  show Calls Tryz.prog 123 #[.int .i64 (n : Int), .int .i64 (m : Int)] w fun e w' => ∃ av cv bv dv, e = .returned (.tuple #[.agg #[.slice av (newX n m).1.length cv, .slice bv (newX n m).2.length dv], .bool true]) ∧ MadeR cacheR w w' [.slice av (newX n m).1.length cv, .slice bv (newX n m).2.length dv] (newX n m)
  have ca : Hid (∀ W, Calls Tryz.prog 85 #[.int .i64 (n : Int)] W fun e w' => e = .returned (.bool true) ∧ w' = W) := fun W => by have := l2Pow_any n W; rwa [(by simp at hq; exact hq.1 : powB (n : Int) = true)] at this
  have cb : Hid (∀ W, Calls Tryz.prog 85 #[.int .i64 (m : Int)] W fun e w' => e = .returned (.bool true) ∧ w' = W) := fun W => by have := l2Pow_any m W; rwa [(by simp at hq; exact hq.2 : powB (m : Int) = true)] at this
  have hn4 : n ≤ 4 := by omega
  have hm4 : m ≤ 4 := by omega
  have HN : Hid ((newX n m).1 = List.replicate n (List.replicate m emptyW) ∧ (newX n m).2 = List.replicate n 0) := ⟨rfl, rfl⟩
  have HL : Hid ((newX n m).1.length = n ∧ (newX n m).2.length = n) := by unfold Hid newX; simp
  clear hq hn hm
  have hmk := Go.run_make_row' (P := Tryz.prog) 79 2 (.int .i64 0) 8 Tryz.underlying79 Tryz.infoT rfl .i64 .i64 n (by omega) (by omega)
  go_enter Tryz.func123, Tryz.ntmps123
  go_wp2_with fail
  refine (ca.out _).mono ?_
  rintro e w1 ⟨rfl, hw1⟩
  rw [hw1]
  clear hw1 w1
  go_wp2_with fail
  refine (cb.out _).mono ?_
  rintro e w1 ⟨rfl, hw1⟩
  rw [hw1]
  clear hw1 w1 ca cb
  go_wp2
  have B0 : Below w.heap.size w (((w.alloc (.cells #[.slice none 0 0, .slice none 0 0] 81)).alloc (.cells (madeCells #[.int .i64 0] n) 2)).alloc (.cells #[.slice none 0 0, .slice (some ⟨w.heap.size + 1, 0, none⟩) n n] 81)) := below_step (below_step (box_below w (.cells #[.slice none 0 0, .slice none 0 0] 81)) (box_below _ (.cells (madeCells #[.int .i64 0] n) 2))) (box_below _ (.cells #[.slice none 0 0, .slice (some ⟨w.heap.size + 1, 0, none⟩) n n] 81))
  have X0 := heap_on (.cells #[.slice none 0 0, .slice (some ⟨w.heap.size + 1, 0, none⟩) n n] 81) (heap_on (.cells (madeCells #[.int .i64 0] n) 2) (heap_at w (.cells #[.slice none 0 0, .slice none 0 0] 81)))
  have M0 := made_zeros (w.alloc (.cells #[.slice none 0 0, .slice none 0 0] 81)) n (by unfold maxLen; omega)
  have X2 := heap_at ((w.alloc (.cells #[.slice none 0 0, .slice none 0 0] 81)).alloc (.cells (madeCells #[.int .i64 0] n) 2)) (.cells #[.slice none 0 0, .slice (some ⟨w.heap.size + 1, 0, none⟩) n n] 81)
  rw [alloc_len, alloc_len] at X2
  rw [alloc_len] at M0
  have T1 : intsR.own (((w.alloc (.cells #[.slice none 0 0, .slice none 0 0] 81)).alloc (.cells (madeCells #[.int .i64 0] n) 2)).alloc (.cells #[.slice none 0 0, .slice (some ⟨w.heap.size + 1, 0, none⟩) n n] 81)) (rng (w.heap.size + 1) (w.heap.size + 2)) [.slice (some ⟨w.heap.size + 1, 0, none⟩) n n] (List.replicate n 0) := by
   have := own_box (.cells #[.slice none 0 0, .slice (some ⟨w.heap.size + 1, 0, none⟩) n n] 81) M0.1
   simpa using this
  have e3 : (((w.alloc (.cells #[.slice none 0 0, .slice none 0 0] 81)).alloc (.cells (madeCells #[.int .i64 0] n) 2)).alloc (.cells #[.slice none 0 0, .slice (some ⟨w.heap.size + 1, 0, none⟩) n n] 81)).heap.size = w.heap.size + 3 := by simp
  clear M0 hmk
  generalize ((w.alloc (.cells #[.slice none 0 0, .slice none 0 0] 81)).alloc (.cells (madeCells #[.int .i64 0] n) 2)).alloc (.cells #[.slice none 0 0, .slice (some ⟨w.heap.size + 1, 0, none⟩) n n] 81) = W0 at B0 X0 X2 T1 e3 ⊢
  go_loopw [7] (fun q wr => ∃ k : Nat, k ≤ n ∧ q = .int .i64 k ∧ ∃ av cv, setsR.own wr (rng (w.heap.size + 3) wr.heap.size) [.slice av k cv] (List.replicate k (List.replicate m emptyW)) ∧ wr.heap[w.heap.size + 1 + 1]? = some (.cells #[.slice av k cv, .slice (some ⟨w.heap.size + 1, 0, none⟩) n n] 81 (0, 0)) ∧ wr.heap[w.heap.size]? = some (.cells #[.slice none 0 0, .slice none 0 0] 81) ∧ intsR.own wr (rng (w.heap.size + 1) (w.heap.size + 2)) [.slice (some ⟨w.heap.size + 1, 0, none⟩) n n] (List.replicate n 0) ∧ Below w.heap.size w wr ∧ w.heap.size + 3 ≤ wr.heap.size)
   (fun q _ => n - (intOf q).toNat)
  case atStart => exact ⟨0, Nat.zero_le _, rfl, none, 0, ⟨_, [], fun _ => False, rfl, World.ownsRow_nil _ _ _ _, fun g hg => by simp [Value.ownBlock] at hg, fun _ h => h.elim, rfl⟩, X2, X0, T1, B0, by omega⟩
  case round =>
   clear B0 X0 X2 T1 e3
   obtain ⟨wo, rfl⟩ : ∃ wo, wo = wr := ⟨_, rfl⟩
   obtain ⟨k, hk, rfl, av, cv, O, C, R, T, B, Lz⟩ := hrel
   by_cases hlt : k < n
   ·have hlt' : (k : Int) < (n : Int) := by omega
    have HF : Hid _ := And.intro O (And.intro C (And.intro R (And.intro T B)))
    have MN := made_none (e := 84) (R := wayR) wo
    clear O C R T B
    go_wp2
    go_loopw [8, 9] (fun r i wi => ∃ j : Nat, j ≤ m ∧ i = .int .i64 j ∧ ∃ au cu, r = .slice au j cu ∧ MadeR waysR wo wi [.slice au j cu] (List.replicate j emptyW)) (fun _ i _ => m - (intOf i).toNat)
    case atStart => exact ⟨0, Nat.zero_le _, rfl, _, _, rfl, MN⟩
    case round =>
     clear MN
     obtain ⟨j, hj, rfl, au, cu, rfl, M⟩ := hrel
     by_cases hlt2 : j < m
     ·have hlt2' : (j : Int) < (m : Int) := by omega
      obtain ⟨i0, hi, hz0, hz1, hz2⟩ := info_parts Tryz.infoWay
      go_wp2_with fail
      refine (l6Empty_any _).mono ?_
      rintro e w9 ⟨ae, ce, rfl, mm⟩
      obtain ⟨rows0, hr0, hrl⟩ := slown_row M.1
      rw [List.length_replicate] at hr0
      have hrA : (w9.alloc (.cells #[.int .i64 (-1), .int .i64 0, .slice ae 0 ce] 84)).ownsRow wo.heap.size 84 3 (.slice au j cu) j rows0 := orow_keep hr0 fun g hg => by
       obtain ⟨cur, hh⟩ := row_block hr0 hg
       have hl := (Array.getElem?_eq_some_iff.1 hh).1
       rw [Below.heap_alloc _ _ _ (Nat.lt_of_lt_of_le hl mm.2.size), mm.2.block _ hl]
      have hbs : wo.heap.size ≤ (w9.alloc (.cells #[.int .i64 (-1), .int .i64 0, .slice ae 0 ce] 84)).heap.size := by have := M.2.size; have := mm.2.size; simp; omega
      have HM : Hid _ := And.intro M (And.intro mm hr0)
      clear M mm hr0 hrl
      go_wp2_with (at_builtin; refine wpList_append_own _ rfl _ _ 88 rfl wo.heap.size 84 i0 (.agg #[.int .i64 0, .int .i64 0, .slice none 0 0]) 3 40 Tryz.underlying88 hi hz0 hz1 hz2 rfl (by decide) _ _ _ rfl hrA ⟨w9.heap.size, 0, none⟩ 1 1 [.int .i64 (-1), .int .i64 0, .slice ae 0 ce] rfl rfl ?c1 ?c2 ?c3 ?c4 ?c5 ?_)
      case c1 => exact cells_new3 w9 _ _ _ _
      case c2 => intro u hu; simp at hu; rcases hu with rfl | rfl | rfl <;> rfl
      case c3 => unfold maxLen; omega
      case c4 => omega
      case c5 => exact hbs
      intro v' w2 hown' hgrow hnil
      obtain ⟨g', cap', rfl⟩ := owns_shape hown'
      obtain ⟨M, mm, hr0⟩ := HM.out
      have NM := app_made (e := 84) (R := wayR) (by decide) M mm (by rw [List.length_replicate]; exact hr0) (by rw [List.length_replicate]; exact hown') hgrow
      rw [← List.replicate_succ'] at NM
      have HNM : Hid _ := NM
      clear M mm hr0 NM hown' hgrow hnil hrA HM hbs
      go_wp2
      go_roundw
      case rel => exact ⟨j + 1, by omega, by go_num, _, _, rfl, HNM.out⟩
      case measure => simp [intOf]; omega
     ·have hjm : j = m := by omega
      subst hjm
      obtain ⟨O, C, R, T, B⟩ := HF.out
      have lb := M.2
      have ow := (Array.getElem?_eq_some_iff.1 C).1
      obtain ⟨i0, hi, hz0, hz1, hz2⟩ := info_parts Tryz.infoWayS
      obtain ⟨rows0, hr0, hrl⟩ := slown_row O
      rw [List.length_replicate] at hr0
      have hr00 := row_base (base' := 0) hr0 (fun _ _ => Nat.zero_le _)
      have hrA : (wr.alloc (.cells #[.slice au j cu] 88)).ownsRow 0 88 1 (.slice av k cv) k rows0 := orow_keep hr00 fun g hg => by
       obtain ⟨cur, hh⟩ := row_block hr0 hg
       have hl := (Array.getElem?_eq_some_iff.1 hh).1
       rw [Below.heap_alloc _ _ _ (Nat.lt_of_lt_of_le hl lb.size), lb.block _ hl]
      obtain ⟨x0, x1⟩ := cell_two (row_keep lb C)
      have x2 := (Array.getElem?_eq_some_iff.1 (row_keep lb C)).1
      have HH : Hid _ := And.intro M (And.intro O (And.intro C (And.intro R (And.intro T (And.intro B hr00)))))
      clear M O C R T B hr0 hr00 hrl HF lb ow
      go_wp2_with (at_builtin; refine wpList_append_own_at _ rfl _ _ 78 rfl 0 88 i0 (.slice none 0 0) 1 24 Tryz.underlying78 hi hz0 hz1 hz2 rfl (by decide) _ _ _ rfl hrA ⟨wr.heap.size, 0, none⟩ 1 1 [.slice au j cu] rfl rfl ?c1 ?c2 ?c3 ?c4 ?c5 ?_)
      case c1 => exact cells_new1 wr _ _
      case c2 => intro u hu; simp at hu; rw [hu]; rfl
      case c3 => unfold maxLen; omega
      case c4 => omega
      case c5 => exact Nat.zero_le _
      intro v' w2 hown' hgrow hnil hblk
      obtain ⟨g', cap', rfl⟩ := owns_shape hown'
      obtain ⟨M, O, C, R, T, B, hr00⟩ := HH.out
      obtain ⟨NO, NC⟩ := appR_any (e := 88) (R := waysR) (by decide) O M (fun rows hr' => by rw [rows_unique hr' (by rw [List.length_replicate]; exact hr00), List.length_replicate]; exact hown') hgrow (hblk.imp id fun h => ⟨_, h, by have := M.2.size; omega⟩)
      rw [← List.replicate_succ'] at NO
      have z0 := NC.size
      have nS : ∀ x, x < w.heap.size + 3 → ¬ Old wo (rng (w.heap.size + 3) wo.heap.size) x := fun x hx h => by have := h.1.1; omega
      have C2 := (NC.block _ (by omega) (nS (w.heap.size + 1 + 1) (by omega))).trans C
      have R2 := (NC.block _ (by omega) (nS w.heap.size (by omega))).trans R
      have T2 := own_chg T NC (fun x h1 h2 => nS x (by have := h1.2; omega) h2)
      have B2 := NC.below B (fun x h => by have := h.1.1; omega) (by omega)
      have N2 : setsR.own w2 (rng (w.heap.size + 3) w2.heap.size) [.slice (some ⟨g', 0, none⟩) (k + 1) cap'] (List.replicate (k + 1) (List.replicate j emptyW)) := setsR.own_mono (own_old NO) fun x hx => ⟨by rcases hx.1 with h | h; exact h.1.1; omega, hx.2⟩
      obtain ⟨f0, f1⟩ := cells_froz2 C2
      obtain ⟨y0, y1⟩ := cell_two C2
      have y2 := (Array.getElem?_eq_some_iff.1 C2).1
      have HK : Hid _ := And.intro N2 (And.intro C2 (And.intro R2 (And.intro T2 B2)))
      clear M O C R T B hr00 hrA HH hown' hgrow hnil hblk NO NC nS N2 C2 R2 T2 B2 x0 x1 x2
      go_wp2
      go_roundw
      case rel =>
       obtain ⟨N2, C2, R2, T2, B2⟩ := HK.out
       refine ⟨k + 1, by omega, by go_num, _, _, ?_, heap_setCell_same _ _ 0 _ _ _ C2, heap_setC R2 (by omega), own_setC T2 (fun h => by have := h.2; omega), below_setC B2 (by omega), by simp; omega⟩
       have := own_setC (g := w.heap.size + 1 + 1) (o := 0) (v := .slice (some ⟨g', 0, none⟩) (k + 1) cap') N2 (fun h => by have := h.1; omega)
       simpa using this
      case measure => simp [intOf]; omega
   ·have hkn : k = n := by omega
    subst hkn
    obtain ⟨y0, y1⟩ := cell_two C
    obtain ⟨f0, f1⟩ := cells_froz2 R
    obtain ⟨p0, p1⟩ := cell_two R
    have HK : Hid _ := And.intro O (And.intro R (And.intro T B))
    clear O C R T B
    go_wp2
    obtain ⟨O, R, T, B⟩ := HK.out
    have V1 := put2 (a := .slice av k cv) (b := .slice (some ⟨w.heap.size + 1, 0, none⟩) k k) R
    obtain ⟨r0, r1⟩ := cell_two V1
    obtain ⟨l1, l2⟩ := HL.out
    obtain ⟨n1, n2⟩ := HN.out
    rw [l1, l2]
    refine bodyPost_ret (v := .tuple #[.agg #[.slice av k cv, .slice (some ⟨w.heap.size + 1, 0, none⟩) k k], .bool true]) (by simp [results, Tryz.results123, go_sem, r0, r1]) rfl ⟨av, cv, some ⟨w.heap.size + 1, 0, none⟩, k, rfl, own_cache (S1 := rng (w.heap.size + 3) wo.heap.size) (S2 := rng (w.heap.size + 1) (w.heap.size + 2)) ?_ ?_ (rng_sub (by omega) (by simp)) (rng_sub (by omega) (by simp; omega)) (rng_dis (.inr (by omega))), ?_⟩
    ·rw [n1]; exact own_setC (own_setC O (fun h => by have := h.1; omega)) (fun h => by have := h.1; omega)
    ·rw [n2]; exact own_setC (own_setC T (fun h => by have := h.1; omega)) (fun h => by have := h.1; omega)
    ·exact below_setC (below_setC B (by omega)) (by omega)
open Go.ChangeShapes Go.WideShapes Go.ChangeAt Go.RowKit Go.Shelf
theorem isL_len {d : List Int} (h : isL d = true) : d.length = 2 := by
 rcases isL_cases d with h' | ⟨x, y, rfl, _, _⟩
 ·rw [h] at h'
  cases h'
 ·rfl
theorem cs1 {w : World} {g b o k : Nat} {u v : Value} (hne : ¬ (b = g)) (h : w.cell? ⟨b, k, none⟩ = some u) : (w.setCell ⟨g, o, none⟩ v).cell? ⟨b, k, none⟩ = some u :=
 (World.cell?_of_block (w := w) (a := ⟨b, k, none⟩) (heap_setCell_other w ⟨g, o, none⟩ b v hne)).trans h
open Go.RowKit
section
variable {P : Program} {C : World → Prop} {l : List Oper} {o : Oper}
end
end Go.Proofs.YthnfkacboijneaaGreatDoor
