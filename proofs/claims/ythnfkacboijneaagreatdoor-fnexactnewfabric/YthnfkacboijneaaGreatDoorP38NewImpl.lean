import Derived.Test.YthnfkacboijneaaGreatDoorP37WayCopy
import Derived.BigRegion
import Derived.Deep.RegionLaw
import Derived.Deep.DeepCutAuto
import Derived.Deep.CutBlock
namespace Go.Proofs.YthnfkacboijneaaGreatDoor
open Go.ChangeShapes Go.WideShapes Go.ChangeAt Go.RowKit
set_option linter.unusedVariables false
def Home (s pa qa cb : Nat) : Prop := s < pa ∧ pa < s + 4 ∧ s < qa ∧ qa < s + 4 ∧ s < cb ∧ cb < s + 4 ∧ pa ≠ qa ∧ pa ≠ cb ∧ qa ≠ cb
def Rooms4 (s pa : Nat) (w : World) : Foot := fun k => (k = pa ∨ s + 4 ≤ k) ∧ k < w.heap.size
def NewI (w : World) (pa qa cb n : Nat) (xss : List (List WayD)) (wr : World) : Prop :=
 setsR.own wr (Rooms4 w.heap.size pa wr) [.slice (some ⟨pa, 0, none⟩) n n] xss ∧
 wr.heap[cb]? = some (.cells #[.slice (some ⟨pa, 0, none⟩) n n, .slice (some ⟨qa, 0, none⟩) n n] 81 (0, 0)) ∧
 wr.heap[w.heap.size]? = some (.cells #[.slice none 0 0, .slice none 0 0] 81 (0, 0)) ∧
 intsR.own wr (fun k => k = qa) [.slice (some ⟨qa, 0, none⟩) n n] (List.replicate n 0) ∧ Below w.heap.size w wr ∧ w.heap.size + 4 ≤ wr.heap.size
theorem new_next {w wr wr' : World} {pa qa cb n : Nat} {xss : List (List WayD)} (D : Home w.heap.size pa qa cb) (h : NewI w pa qa cb n xss wr) (hb : Below wr.heap.size wr wr') : NewI w pa qa cb n xss wr' := by
 obtain ⟨h1, h2, h3, h4, h5, h6⟩ := h
 have := hb.size
 refine ⟨setsR.own_mono (setsR.own_keep h1 (keeps_below hb)) fun k hk => ⟨hk.1, by have := hk.2; omega⟩, row_keep hb h2, row_keep hb h3, intsR.own_keep h4 (keeps_below hb), below_step h5 hb, by omega⟩
theorem new_drew {w wr : World} {pa qa cb n : Nat} {xss : List (List WayD)} (D : Home w.heap.size pa qa cb) (h : NewI w pa qa cb n xss wr) : NewI w pa qa cb n xss wr.drew :=
 new_next D h (below_drewN (Below.refl _ wr) 1)
theorem new_step {w wr : World} {pa qa cb n k : Nat} {xss : List (List WayD)} {row : List WayD} (D : Home w.heap.size pa qa cb) (h : NewI w pa qa cb n xss wr) (hx : xss[k]? = some row) (hr4 : row.length ≤ 4) :
    ∃ au cu, wr.cell? ⟨pa, k, none⟩ = some (.slice au row.length cu) ∧ ∀ w9 ae ce, MadeR wayR wr w9 [.int .i64 (-1), .int .i64 0, .slice ae 0 ce] emptyW → w9.cell? ⟨pa, k, none⟩ = some (.slice au row.length cu) ∧
     ∃ g' c' w2, (Builtin.append_ #[88, 88] 88 #[.slice au row.length cu, .slice (some ⟨w9.heap.size, 0, none⟩) 1 1]).run Tryz.prog (w9.alloc (.cells #[.int .i64 (-1), .int .i64 0, .slice ae 0 ce] 84)) = .ok (.slice (some ⟨g', 0, none⟩) (row.length + 1) c') w2 ∧
      w2.cell? ⟨pa, k, none⟩ = some (.slice au row.length cu) ∧ w2.frozen? ⟨pa, k, none⟩ = false ∧ NewI w pa qa cb n (xss.set k (row ++ [emptyW])) (w2.setCell ⟨pa, k, none⟩ (.slice (some ⟨g', 0, none⟩) (row.length + 1) c')) := by
 obtain ⟨h1, h2, h3, h4, h5, h6⟩ := h
 obtain ⟨d1, d2, d3, d4, d5, d6, d7, d8, d9⟩ := D
 obtain ⟨g, cap, cur, Sj, T, c, hv, hSg, hg, hc, hcl, ho, s1, s2, hd, n1, n2, back⟩ := slown_focus h1 hx
 simp only [Value.slice.injEq, Option.some.injEq, Addr.mk.injEq, and_true] at hv
 obtain ⟨rfl, hn, hcap⟩ := hv
 have e1 : waysR.size = 1 := rfl
 simp only [e1, Nat.mul_one] at hc back
 obtain ⟨u, rfl⟩ : ∃ u, c = [u] := List.length_eq_one_iff.1 hcl
 obtain ⟨au, cu, rfl⟩ := slown_val ho
 have hck : cur[k]? = some (.slice au row.length cu) := by simpa using hc 0 (by decide)
 have hpl := (Array.getElem?_eq_some_iff.1 hg).1
 refine ⟨au, cu, by rw [cell_of_row wr pa k _ _ (0, 0) hg]; exact hck, fun w9 ae ce mm => ⟨by rw [cell_of_row w9 pa k _ _ (0, 0) (row_keep mm.2 hg)]; exact hck, ?_⟩⟩
 have ho' := ho
 obtain ⟨v0, rows0, S0, hv0, hr0, _, _, _⟩ := ho'
 simp only [List.cons.injEq, and_true] at hv0
 subst hv0
 have hrA : (w9.alloc (.cells #[.int .i64 (-1), .int .i64 0, .slice ae 0 ce] 84)).ownsRow 0 84 3 (.slice au row.length cu) row.length rows0 := orow_keep hr0 fun g hgb => by
  obtain ⟨cur', hh⟩ := row_block hr0 hgb
  have hl := (Array.getElem?_eq_some_iff.1 hh).1
  rw [Below.heap_alloc _ _ _ (Nat.lt_of_lt_of_le hl mm.2.size), mm.2.block _ hl]
 obtain ⟨i0, hi, hz0, hz1, hz2⟩ := info_parts Tryz.infoWay
 obtain ⟨v', w2, hrun, hown', hgrow, _, hblk⟩ := run_append_own_at (P := Tryz.prog) (w9.alloc (.cells #[.int .i64 (-1), .int .i64 0, .slice ae 0 ce] 84)) 0 88 88 84 i0 (.agg #[.int .i64 0, .int .i64 0, .slice none 0 0]) 3 40 Tryz.underlying88 hi hz0 hz1 hz2 rfl (by decide) _ _ _ hrA ⟨w9.heap.size, 0, none⟩ 1 1 [.int .i64 (-1), .int .i64 0, .slice ae 0 ce] rfl (cells_new3 w9 _ _ _ _) (by intro u hu; simp at hu; rcases hu with rfl | rfl | rfl <;> rfl) (by unfold maxLen; omega) (by omega) (Nat.zero_le _)
 obtain ⟨g', c', rfl⟩ := owns_shape hown'
 obtain ⟨NO, NC⟩ := appR_any (e := 84) (R := wayR) (by decide) ho mm (fun rows hr' => by rw [rows_unique hr' hr0]; exact hown') hgrow (hblk.imp id fun h => ⟨_, h, by have := mm.2.size; simp; omega⟩)
 have z0 := NC.size
 have sb : ∀ x, Old wr Sj x → x = pa ∨ w.heap.size + 4 ≤ x := fun x hx => (s1 x hx.1).1
 have nP : ¬ Old wr Sj pa := fun hx => n1 hx.1
 have nS : ∀ x, x < w.heap.size + 4 → ¬ Old wr Sj x := fun x hx h => by
  rcases sb x h with rfl | h'
  ·exact nP h
  ·omega
 have P2 := (NC.block _ hpl nP).trans hg
 have kl := (Array.getElem?_eq_some_iff.1 hck).1
 have N2 := own_old NO
 refine ⟨g', c', w2, hrun, by rw [cell_of_row w2 pa k _ _ (0, 0) P2]; exact hck, frozen_of_row w2 pa k _ _ P2, ?_, heap_setC ((NC.block _ (by omega) (nS cb (by omega))).trans h2) (Ne.symm d8), heap_setC ((NC.block _ (by omega) (nS w.heap.size (by omega))).trans h3) (by omega), own_setC (own_chg h4 NC (fun x h1 h2 => nS x (by omega) h2)) (fun h => by omega), below_setC (NC.below h5 (fun x h => by rcases sb x h with h | h <;> omega) (by omega)) (by omega), by simp; omega⟩
 refine back _ (cur.setIfInBounds k (.slice (some ⟨g', 0, none⟩) (row.length + 1) c')) [.slice (some ⟨g', 0, none⟩) (row.length + 1) c'] _ (Old w2 fun x => Old wr Sj x ∨ wr.heap.size ≤ x) _ (heap_setCell_same w2 pa k _ _ _ P2) (by simp) ?_ ?_ ?_ (own_setC N2 ?_) ?_ ?_ ?_ ?_ ?_
 ·intro i hi
  rw [Array.getElem?_setIfInBounds_ne (by omega)]
 ·intro i hi
  have : i = 0 := by omega
  subst this
  simp [kl]
 ·intro x hx hl
  have hxp : x ≠ pa := fun e => n2 (e ▸ hx)
  rw [heap_setCell_other w2 ⟨pa, k, none⟩ x _ hxp]
  exact NC.block x hl fun h => hd x h.1 hx
 ·rintro ⟨h | h, _⟩
  ·exact nP h
  ·omega
 ·rintro x ⟨h | h, _⟩ hT
  ·exact hd x h.1 hT
  ·have := (s2 x hT).2; omega
 ·rintro ⟨h | h, _⟩
  ·exact nP h
  ·omega
 ·exact ⟨.inl rfl, by simp; omega⟩
 ·rintro x ⟨h | h, hl⟩
  ·exact ⟨sb x h, by simpa using hl⟩
  ·exact ⟨.inr (by omega), by simpa using hl⟩
 ·intro x hx
  have := s2 x hx
  exact ⟨this.1, by have := this.2; simp; omega⟩
theorem nils_at {W : World} {S : Foot} {g n : Nat} (hh : W.heap[g]? = some (.cells (madeCells #[.slice none 0 0] n) 88 (0, 0))) (hS : S g) (hm : n ≤ maxLen) : setsR.own W S [.slice (some ⟨g, 0, none⟩) n n] (List.replicate n ([] : List WayD)) := by
 have e1 : n * waysR.size = n := Nat.mul_one n
 refine ⟨_, List.replicate n (.slice none 0 0), fun _ => False, rfl, ⟨by simp [e1], .inr ⟨g, n, _, by simp, Nat.zero_le _, hh, by simp, hm, by rw [size_madeCells, e1], ?_⟩⟩, fun x hx => ?_, fun _ h => h.elim, lown_nils n⟩
 ·rw [made_one]; simp [e1]
 ·simp [Value.ownBlock] at hx
  subst hx
  exact ⟨hS, fun h => h⟩
theorem zeros_at {W : World} {S : Foot} {g n : Nat} (hh : W.heap[g]? = some (.cells (madeCells #[.int .i64 0] n) 2 (0, 0))) (hS : S g) (hm : n ≤ maxLen) : intsR.own W S [.slice (some ⟨g, 0, none⟩) n n] (List.replicate n 0) := by
 have e1 : n * intR.size = n := Nat.mul_one n
 refine ⟨_, List.replicate n (.int .i64 0), fun _ => False, rfl, ⟨by simp [e1], .inr ⟨g, n, _, by simp, Nat.zero_le _, hh, by simp, hm, by rw [size_madeCells, e1], ?_⟩⟩, fun x hx => ?_, fun _ h => h.elim, lown_ints (lrd_ints.2 ⟨by rw [List.map_replicate], fun x hx => ?_⟩)⟩
 ·rw [made_one]; simp [e1]
 ·simp [Value.ownBlock] at hx
  subst hx
  exact ⟨hS, fun h => h⟩
 ·rw [(List.mem_replicate.1 hx).2]
  constructor <;> decide
theorem three_1 {W : World} {o1 o2 o3 : Obj} {s : Nat} (e : W.heap.size = s + 1) : (((W.alloc o1).alloc o2).alloc o3).drew.heap[s + 1]? = some o1 := by
 have := heap_on o3 (heap_on o2 (heap_at W o1))
 rw [e] at this
 exact this
theorem three_2 {W : World} {o1 o2 o3 : Obj} {s : Nat} (e : W.heap.size = s + 1) : (((W.alloc o1).alloc o2).alloc o3).drew.heap[s + 1 + 1]? = some o2 := by
 have := heap_on o3 (heap_at (W.alloc o1) o2)
 rw [alloc_len, e] at this
 exact this
theorem three_3 {W : World} {o1 o2 o3 : Obj} {s : Nat} (e : W.heap.size = s + 1) : (((W.alloc o1).alloc o2).alloc o3).drew.heap[s + 1 + 1 + 1]? = some o3 := by
 have := heap_at ((W.alloc o1).alloc o2) o3
 rw [alloc_len, alloc_len, e] at this
 exact this
theorem three_b {W : World} {o1 o2 o3 : Obj} : Below W.heap.size W (((W.alloc o1).alloc o2).alloc o3).drew := below_drewN (below_step (below_step (box_below W o1) (box_below _ o2)) (box_below _ o3)) 1
theorem three_s {W : World} {o1 o2 o3 : Obj} {s : Nat} (e : W.heap.size = s + 1) : s + 4 ≤ (((W.alloc o1).alloc o2).alloc o3).drew.heap.size := by
 show s + 4 ≤ (((W.alloc o1).alloc o2).alloc o3).heap.size
 rw [alloc_len, alloc_len, alloc_len, e]
 omega
theorem new_start {w W W' : World} {pa qa cb n : Nat} (hm : n ≤ maxLen) (hB : Below w.heap.size w W) (hR : W.heap[w.heap.size]? = some (.cells #[.slice none 0 0, .slice none 0 0] 81 (0, 0))) (B : Below W.heap.size W W') (hs : w.heap.size + 4 ≤ W'.heap.size)
    (h1 : W'.heap[pa]? = some (.cells (madeCells #[.slice none 0 0] n) 88 (0, 0))) (h2 : W'.heap[qa]? = some (.cells (madeCells #[.int .i64 0] n) 2 (0, 0)))
    (h3 : W'.heap[cb]? = some (.cells #[.slice (some ⟨pa, 0, none⟩) n n, .slice (some ⟨qa, 0, none⟩) n n] 81 (0, 0))) : NewI w pa qa cb n (List.replicate n []) W' :=
 ⟨nils_at h1 ⟨.inl rfl, (Array.getElem?_eq_some_iff.1 h1).1⟩ hm, h3, row_keep B hR, zeros_at h2 rfl hm, below_step hB B, hs⟩
def rowsAt (n m k j : Nat) : List (List WayD) := (List.replicate k (List.replicate m emptyW) ++ List.replicate (n - k) []).set k (List.replicate j emptyW)
theorem rows_0 (n m : Nat) : rowsAt n m 0 0 = List.replicate n [] := by
 unfold rowsAt
 apply List.ext_getElem?
 intro i
 simp only [List.getElem?_set, List.getElem?_replicate, List.replicate_zero, List.nil_append, List.length_replicate, Nat.sub_zero]
 split
 ·rename_i h
  subst h
  rfl
 ·rfl
theorem rows_get {n m k j : Nat} (h : k < n) : (rowsAt n m k j)[k]? = some (List.replicate j emptyW) := by
 unfold rowsAt
 rw [List.getElem?_set_self (by simp; omega)]
theorem rows_put (n m k j : Nat) : (rowsAt n m k j).set k (List.replicate j emptyW ++ [emptyW]) = rowsAt n m k (j + 1) := by
 unfold rowsAt
 rw [List.set_set, ← List.replicate_succ']
theorem rows_next {n m k : Nat} (h : k < n) : rowsAt n m k m = rowsAt n m (k + 1) 0 := by
 unfold rowsAt
 apply List.ext_getElem?
 intro i
 simp only [List.getElem?_set, List.getElem?_append, List.getElem?_replicate, List.length_append, List.length_replicate, List.replicate_zero]
 repeat' split
 all_goals first
  | rfl
  | omega
theorem rows_end (n m : Nat) : rowsAt n m n 0 = List.replicate n (List.replicate m emptyW) := by
 unfold rowsAt
 rw [Nat.sub_self, List.replicate_zero, List.append_nil, List.set_eq_of_length_le (by simp)]
set_option maxRecDepth 8000 in
set_option maxHeartbeats 8000000 in
theorem implNew_any (a b : Int) (w : World) :
    Calls Tryz.prog 132 #[.int .i64 a, .int .i64 b] w fun e w' => ∃ av cv bv dv, e = .returned (.tuple #[.agg #[.slice av (newI a b).1.1.length cv, .slice bv (newI a b).1.2.length dv], .bool (newI a b).2]) ∧
     MadeR cacheR w w' [.slice av (newI a b).1.1.length cv, .slice bv (newI a b).1.2.length dv] (newI a b).1 := by
 cases hq : powB a && powB b
 ·rw [new_no hq]
  show Calls Tryz.prog 132 #[.int .i64 a, .int .i64 b] w fun e w' => ∃ av cv bv dv, e = .returned (.tuple #[.agg #[.slice av 0 cv, .slice bv 0 dv], .bool false]) ∧ MadeR cacheR w w' [.slice av 0 cv, .slice bv 0 dv] (([], []) : CacheD)
  cases ha : powB a
  ·go_enter Tryz.func132, Tryz.ntmps132
   go_wp2_with (go_at_call 158; refine (sizeOk_any _ _).mono ?_; rintro e w' ⟨rfl, rfl⟩; rw [ha])
   refine bodyPost_ret (v := .tuple #[.agg #[.slice none 0 0, .slice none 0 0], .bool false]) (by simp [results, Tryz.results132, go_sem]) rfl ⟨none, 0, none, 0, rfl, own_two_nils _ _, box_below w _⟩
  ·have hb : powB b = false := by rw [ha] at hq; simpa using hq
   have ca : Hid (∀ W, Calls Tryz.prog 158 #[.int .i64 a] W fun e w' => e = .returned (.bool true) ∧ w' = W) := fun W => by have := sizeOk_any a W; rwa [ha] at this
   have cb : Hid (∀ W, Calls Tryz.prog 158 #[.int .i64 b] W fun e w' => e = .returned (.bool false) ∧ w' = W) := fun W => by have := sizeOk_any b W; rwa [hb] at this
   clear ha hb hq
   go_enter Tryz.func132, Tryz.ntmps132
   go_wp2_with fail
   refine (ca.out _).mono ?_
   rintro e w1 ⟨rfl, hw1⟩
   rw [hw1]
   clear hw1 w1
   go_wp2_with fail
   refine (cb.out _).mono ?_
   rintro e w1 ⟨rfl, hw1⟩
   rw [hw1]
   clear hw1 w1
   go_wp2
   refine bodyPost_ret (v := .tuple #[.agg #[.slice none 0 0, .slice none 0 0], .bool false]) (by simp [results, Tryz.results132, go_sem]) rfl ⟨none, 0, none, 0, rfl, own_two_nils _ _, box_below w _⟩
 ·obtain ⟨n, rfl, hn⟩ := powB_nat (a := a) (by simp at hq; exact hq.1)
  obtain ⟨m, rfl, hm⟩ := powB_nat (a := b) (by simp at hq; exact hq.2)
  rw [new_yes hq]
  show Calls Tryz.prog 132 #[.int .i64 (n : Int), .int .i64 (m : Int)] w fun e w' => ∃ av cv bv dv, e = .returned (.tuple #[.agg #[.slice av (newX n m).1.length cv, .slice bv (newX n m).2.length dv], .bool true]) ∧ MadeR cacheR w w' [.slice av (newX n m).1.length cv, .slice bv (newX n m).2.length dv] (newX n m)
  have ca : Hid (∀ W, Calls Tryz.prog 158 #[.int .i64 (n : Int)] W fun e w' => e = .returned (.bool true) ∧ w' = W) := fun W => by have := sizeOk_any n W; rwa [(by simp at hq; exact hq.1 : powB (n : Int) = true)] at this
  have cb : Hid (∀ W, Calls Tryz.prog 158 #[.int .i64 (m : Int)] W fun e w' => e = .returned (.bool true) ∧ w' = W) := fun W => by have := sizeOk_any m W; rwa [(by simp at hq; exact hq.2 : powB (m : Int) = true)] at this
  have hn4 : n ≤ 4 := by omega
  have hm4 : m ≤ 4 := by omega
  have HN : Hid ((newX n m).1 = List.replicate n (List.replicate m emptyW) ∧ (newX n m).2 = List.replicate n 0) := ⟨rfl, rfl⟩
  have HL : Hid ((newX n m).1.length = n ∧ (newX n m).2.length = n) := by unfold Hid newX; simp
  clear hq hn hm
  go_enter Tryz.func132, Tryz.ntmps132
  go_wp2_with fail
  refine (ca.out _).mono ?_
  rintro e w1 ⟨rfl, hw1⟩
  rw [hw1]
  clear hw1 w1
  go_wp2_with fail
  refine (cb.out _).mono ?_
  rintro e w1 ⟨rfl, hw1⟩
  rw [hw1]
  clear hw1 w1 ca cb
  go_wp2
  have B0 : Hid _ := box_below w (.cells #[.slice none 0 0, .slice none 0 0] 81)
  have R0 : Hid _ := heap_at w (.cells #[.slice none 0 0, .slice none 0 0] 81)
  have hmx : n ≤ maxLen := by unfold maxLen; omega
  have e1 : (w.alloc (.cells #[.slice none 0 0, .slice none 0 0] 81)).heap.size = w.heap.size + 1 := by simp
  generalize w.alloc (.cells #[.slice none 0 0, .slice none 0 0] 81) = W at B0 R0 e1 ⊢
  go_cut [6, 17, 18, 19, 20, 21] (fun p _ _ _ _ _ wx => ∃ pa qa cb, Home w.heap.size pa qa cb ∧ p = .pointer (some ⟨cb, 0, none⟩) ∧ NewI w pa qa cb n (List.replicate n []) wx)
  case first =>
   have hmk := Go.run_make_row' (P := Tryz.prog) 79 2 (.int .i64 0) 8 Tryz.underlying79 Tryz.infoT rfl .i64 .i64 n (by omega) (by omega)
   have hmk2 := Go.run_make_row' (P := Tryz.prog) 78 88 (.slice none 0 0) 24 Tryz.underlying78 Tryz.infoWayS rfl .i64 .i64 n (by omega) (by omega)
   go_region
   all_goals go_wp2_with fail
   all_goals go_meet
   ·exact ⟨w.heap.size + 1, w.heap.size + 1 + 1, w.heap.size + 1 + 1 + 1, by unfold Home; omega, rfl, new_start hmx B0.out R0.out three_b (three_s e1) (three_1 e1) (three_2 e1) (three_3 e1)⟩
   ·exact ⟨w.heap.size + 1, w.heap.size + 1 + 1 + 1, w.heap.size + 1 + 1, by unfold Home; omega, rfl, new_start hmx B0.out R0.out three_b (three_s e1) (three_1 e1) (three_3 e1) (three_2 e1)⟩
   ·exact ⟨w.heap.size + 1 + 1, w.heap.size + 1, w.heap.size + 1 + 1 + 1, by unfold Home; omega, rfl, new_start hmx B0.out R0.out three_b (three_s e1) (three_2 e1) (three_1 e1) (three_3 e1)⟩
   ·exact ⟨w.heap.size + 1 + 1 + 1, w.heap.size + 1, w.heap.size + 1 + 1, by unfold Home; omega, rfl, new_start hmx B0.out R0.out three_b (three_s e1) (three_3 e1) (three_1 e1) (three_2 e1)⟩
   ·exact ⟨w.heap.size + 1 + 1, w.heap.size + 1 + 1 + 1, w.heap.size + 1, by unfold Home; omega, rfl, new_start hmx B0.out R0.out three_b (three_s e1) (three_2 e1) (three_3 e1) (three_1 e1)⟩
   ·exact ⟨w.heap.size + 1 + 1 + 1, w.heap.size + 1 + 1, w.heap.size + 1, by unfold Home; omega, rfl, new_start hmx B0.out R0.out three_b (three_s e1) (three_3 e1) (three_2 e1) (three_1 e1)⟩
  case rest =>
   obtain ⟨pa, qa, cb, D, rfl, I⟩ := hcut
   clear B0 R0 e1 hmx
   obtain ⟨y0, y1⟩ := cell_two I.2.1
   have HI : Hid (NewI w pa qa cb n (List.replicate n []) wc) := I
   clear I
   go_wp2
   go_loopw [25] (fun q wr => ∃ k : Nat, k ≤ n ∧ q = .int .i64 k ∧ NewI w pa qa cb n (rowsAt n m k 0) wr) (fun q _ => n - (intOf q).toNat)
   case atStart => exact ⟨0, Nat.zero_le _, rfl, by rw [rows_0]; exact HI.out⟩
   case round =>
    clear HI y0 y1
    obtain ⟨k, hk, rfl, I⟩ := hrel
    by_cases hlt : k < n
    ·have hlt' : (k : Int) < (n : Int) := by omega
     have HI : Hid _ := I
     clear I
     go_wp2
     go_loopw [29] (fun q wi => ∃ j : Nat, j ≤ m ∧ q = .int .i64 j ∧ NewI w pa qa cb n (rowsAt n m k j) wi) (fun q _ => m - (intOf q).toNat)
     case atStart => exact ⟨0, Nat.zero_le _, rfl, HI.out⟩
     case round =>
      clear HI
      obtain ⟨j, hj, rfl, I⟩ := hrel
      by_cases hlt2 : j < m
      ·have hlt2' : (j : Int) < (m : Int) := by omega
       obtain ⟨au, cu, x, st⟩ := new_step D (new_drew D I) (rows_get hlt) (by simp; omega)
       have x0 : wr.cell? ⟨pa, k, none⟩ = some (.slice au j cu) := by rw [List.length_replicate] at x; exact x
       have ST : Hid _ := st
       obtain ⟨y0, y1⟩ := cell_two I.2.1
       have HI : Hid _ := I
       clear I st x
       go_upto_block 3 with fail
       go_cut [31, 32, 33, 34, 35, 36, 37, 38, 39, 40, 41, 42] (fun _ _ _ _ _ _ _ _ _ _ _ _ wx => NewI w pa qa cb n (rowsAt n m k (j + 1)) wx)
       case first =>
        go_wp2_with fail
        go_region_law (first
         | (refine step_run (by rfl) _ _ _ _ (by rfl) (by rfl) _ _ _ (by rfl) (by rfl) hrun ?_)
         | (go_simp
            go_at_call 135
            refine (emptyWay_any _).mono ?_
            rintro e w9 ⟨ae, ce, rfl, mm⟩
            obtain ⟨z0, g', c', w2, hrun, z1, z2, I2⟩ := ST.out w9 ae ce mm
            rw [List.length_replicate] at z0 hrun z1 I2
            rw [rows_put] at I2
            have HI2 : Hid _ := I2
            have Z2 := I2.2.1
            rw [heap_setCell_other w2 ⟨pa, k, none⟩ cb _ (Ne.symm D.2.2.2.2.2.2.2.1)] at Z2
            obtain ⟨q5, q6⟩ := cell_two Z2
            have X9 := row_keep mm.2 HI.out.2.1
            obtain ⟨q0, q1⟩ := cell_two X9
            have q2 := (Array.getElem?_eq_some_iff.1 X9).1
            have q3 : pa < w9.heap.size := by have := mm.2.size; have := HI.out.2.2.2.2.2; have := D.2.1; simp at *; omega
            clear X9 Z2 mm I2))
        all_goals go_wp2_with fail
        all_goals go_meet
        all_goals exact HI2.out
       case rest =>
        go_wp2
        go_roundw
        case rel => exact ⟨j + 1, by omega, by go_num, hcut⟩
        case measure => simp [intOf]; omega
      ·have hjm : j = m := by omega
       subst hjm
       rw [rows_next hlt] at I
       have HI : Hid _ := I
       clear I
       go_wp2
       go_roundw
       case rel => exact ⟨k + 1, by omega, by go_num, HI.out⟩
       case measure => simp [intOf]; omega
    ·have hkn : k = n := by omega
     subst hkn
     rw [rows_end] at I
     obtain ⟨O, C, R, T, B, Lz⟩ := I
     obtain ⟨d1, d2, d3, d4, d5, d6, d7, d8, d9⟩ := D
     obtain ⟨y0, y1⟩ := cell_two C
     obtain ⟨f0, f1⟩ := cells_froz2 R
     obtain ⟨p0, p1⟩ := cell_two R
     have HK : Hid _ := And.intro O (And.intro R (And.intro T B))
     clear O C R T B
     go_wp2
     obtain ⟨O, R, T, B⟩ := HK.out
     have V1 := put2 (a := .slice (some ⟨pa, 0, none⟩) k k) (b := .slice (some ⟨qa, 0, none⟩) k k) R
     obtain ⟨r0, r1⟩ := cell_two V1
     obtain ⟨l1, l2⟩ := HL.out
     obtain ⟨n1, n2⟩ := HN.out
     rw [l1, l2]
     refine bodyPost_ret (v := .tuple #[.agg #[.slice (some ⟨pa, 0, none⟩) k k, .slice (some ⟨qa, 0, none⟩) k k], .bool true]) (by simp [results, Tryz.results132, go_sem, r0, r1]) rfl ⟨some ⟨pa, 0, none⟩, k, some ⟨qa, 0, none⟩, k, rfl, own_cache (S1 := Rooms4 w.heap.size pa wr) (S2 := fun x => x = qa) ?_ ?_ ?_ ?_ ?_, ?_⟩
     ·rw [n1]; exact own_setC (own_setC O (fun h => by rcases h.1 with h | h <;> omega)) (fun h => by rcases h.1 with h | h <;> omega)
     ·rw [n2]; exact own_setC (own_setC T (fun h => by omega)) (fun h => by omega)
     ·intro x hx
      have := hx.2
      exact ⟨by rcases hx.1 with h | h <;> omega, by simp; omega⟩
     ·intro x hx
      exact ⟨by omega, by simp; omega⟩
     ·intro x hx hq
      rcases hx.1 with h | h <;> omega
     ·exact below_setC (below_setC B (by omega)) (by omega)
end Go.Proofs.YthnfkacboijneaaGreatDoor
