import Derived.Test.YtcocbafhcpdheaaGreatDoorP00Box
import Derived.Test.YtcocbafhcpdheaaGreatDoorP15
namespace Go.Proofs.YtcocbafhcpdheaaGreatDoor
open Go.ChangeShapes Go.WideShapes Go.ChangeAt Go.RowKit Go.Shelf
set_option linter.unusedVariables false
theorem pow_iff (n : Nat) : powB (n : Int) = true ↔ pow3 n := by
 simp only [powB, pow3, decide_eq_true_eq];omega
theorem div_mod_at {m i j : Nat} (hj : j < m) : (i * m + j) / m = i ∧ (i * m + j) % m = j := by
 have hm0 : 0 < m := by omega
 exact ⟨by rw [Nat.mul_comm, Nat.mul_add_div hm0, Nat.div_eq_of_lt hj, Nat.add_zero], by rw [Nat.mul_comm, Nat.mul_add_mod, Nat.mod_eq_of_lt hj]⟩
theorem idx_lt {s m i j : Nat} (hi : i < s) (hj : j < m) : i * m + j < s * m := by
 have : (i + 1) * m ≤ s * m := Nat.mul_le_mul_right _ hi;rw [Nat.add_one_mul] at this;omega
theorem wayK_at {c : CacheD} {m i j : Nat} {row : List WayD} {u : WayD} (hl : row.length = m) (hr : c.1[i]? = some row) (hu : row[j]? = some u) : wayK c m (i * m + j) = u := by
 have hj : j < m := by have := (List.getElem?_eq_some_iff.1 hu).1; omega
 obtain ⟨e1, e2⟩ := div_mod_at (i := i) hj;unfold wayK;rw [e1, e2];simp [List.getD_eq_getElem?_getD, hr, hu]
theorem ok_link {c : CacheD} : OkC isL treeB c ↔ Shape c ∧ UptoOk c (waysN c) (c.1.length * waysN c) := by
 constructor
 ·rintro ⟨h1, h2, m, hm, h3⟩;have hpos := pow3_pos h1;have hmp := pow3_pos hm;have hw : waysN c = m := by
   have e : c.1[0]? = some (c.1.getD 0 []) := by rw [List.getD_eq_getElem?_getD, List.getElem?_eq_getElem hpos]; rfl
   exact (h3 0 _ e).1
  rw [hw];have hrow : ∀ row ∈ c.1, row.length = m := fun row hr => by
   obtain ⟨i, hi⟩ := List.mem_iff_getElem?.1 hr;exact (h3 i row hi).1
  refine ⟨⟨(pow_iff _).2 h1, h2, fun i hi row t hr ht => ?_⟩, fun j hj => ?_⟩
  ·obtain ⟨a1, ⟨t', a2, a3⟩, _⟩ := h3 i row hr;rw [ht] at a2;cases a2;rw [hw];exact ⟨a1, a3⟩
  ·obtain ⟨row, e1, e2⟩ := wayK_get hmp hrow hj;obtain ⟨_, _, a1, a2⟩ := h3 _ row e1;rcases a1 _ _ e2 with hc | ⟨hf, hs⟩
   ·exact .inl hc
   ·refine .inr ⟨hf, hs, fun i hi he => ?_⟩;have hl := full_line hf;obtain ⟨row', f1, f2⟩ := wayK_get hmp hrow (show i < c.1.length * m by omega);obtain ⟨_, _, b1, b2⟩ := h3 _ row' f1;rcases b1 _ _ f2 with hc | ⟨hf', hs'⟩
    ·rw [clear_eq hc] at he;simp [emptyW] at he
     omega
    ·rw [he, hs] at hs';have hdiv : j / m = i / m := by omega
     rw [hdiv, f1] at e1;cases e1;have := b2 _ _ _ _ f2 e2 (by omega) he;have d1 := Nat.div_add_mod i m;have d2 := Nat.div_add_mod j m;rw [hdiv, ← this] at d2;omega
 ·rintro ⟨⟨h1, h2, h3⟩, h4⟩;have hp := (pow_iff _).1 h1;have hpos := pow3_pos hp;have e0 : c.1[0]? = some (c.1.getD 0 []) := by rw [List.getD_eq_getElem?_getD, List.getElem?_eq_getElem hpos]; rfl
  obtain ⟨t0, ht0⟩ : ∃ t, c.2[0]? = some t := ⟨_, List.getElem?_eq_getElem (by omega)⟩;have hm : pow3 (waysN c) := by
   have := tree_pow (h3 0 hpos _ _ e0 ht0).2;unfold pow3;omega
  refine ⟨hp, h2, waysN c, hm, fun s row hs => ?_⟩;have hsl := (List.getElem?_eq_some_iff.1 hs).1;obtain ⟨t, ht⟩ : ∃ t, c.2[s]? = some t := ⟨_, List.getElem?_eq_getElem (by omega)⟩;obtain ⟨a1, a2⟩ := h3 s hsl row t hs ht;refine ⟨a1, ⟨t, ht, a2⟩, fun i u hu => ?_, fun i k u x hu hx h0 he => ?_⟩
  ·have hi : i < waysN c := by have := (List.getElem?_eq_some_iff.1 hu).1; omega
   have := h4 _ (idx_lt hsl hi);rw [wayK_at a1 hs hu, (div_mod_at hi).1] at this;rcases this with h | ⟨h, h', _⟩
   ·exact .inl h
   ·exact .inr ⟨h, h'⟩
  ·have hi : i < waysN c := by have := (List.getElem?_eq_some_iff.1 hu).1; omega
   have hk : k < waysN c := by have := (List.getElem?_eq_some_iff.1 hx).1; omega
   have key : ∀ (i k : Nat) (u x : WayD), row[i]? = some u → row[k]? = some x → 0 ≤ u.1 → u.1 = x.1 → i < waysN c → k < waysN c → ¬ i < k := by
    intro i k u x hu hx h0 he hi hk hlt;have := h4 _ (idx_lt hsl hk);rw [wayK_at a1 hs hx] at this;rcases this with h | ⟨_, _, h⟩
    ·rw [clear_eq h] at he;simp [emptyW] at he
     omega
    ·have := h (s * waysN c + i) (by omega);rw [wayK_at a1 hs hu] at this;exact this he
   have k1 := key i k u x hu hx h0 he hi hk;have k2 := key k i x u hx hu (by omega) he.symm hk hi;omega
theorem ok_eq (c : CacheD) : okB isL treeB c = (shapeB c && waysB c (waysN c)) := by
 rw [Bool.eq_iff_iff, okB_iff, ok_link, Bool.and_eq_true];simp [shapeB, waysB]
theorem shape_facts {c : CacheD} (h : shapeB c = true) : Shape c ∧ (c.1.length = 1 ∨ c.1.length = 2 ∨ c.1.length = 4) ∧ (waysN c = 1 ∨ waysN c = 2 ∨ waysN c = 4) ∧ ∀ row ∈ c.1, row.length = waysN c := by
 have hs : Shape c := by simpa [shapeB] using h
 obtain ⟨h1, h2, h3⟩ := hs;have hp := (pow_iff _).1 h1;have hpos := pow3_pos hp;have e0 : c.1[0]? = some (c.1.getD 0 []) := by rw [List.getD_eq_getElem?_getD, List.getElem?_eq_getElem hpos]; rfl
 obtain ⟨t0, ht0⟩ : ∃ t, c.2[0]? = some t := ⟨_, List.getElem?_eq_getElem (by omega)⟩;have hm := tree_pow (h3 0 hpos _ _ e0 ht0).2;refine ⟨⟨h1, h2, h3⟩, hp, by omega, fun row hr => ?_⟩;obtain ⟨i, hi⟩ := List.mem_iff_getElem?.1 hr;have hil := (List.getElem?_eq_some_iff.1 hi).1;obtain ⟨t, ht⟩ : ∃ t, c.2[i]? = some t := ⟨_, List.getElem?_eq_getElem (by omega)⟩;exact (h3 i hil row t hi ht).1
set_option maxHeartbeats 400000 in
theorem implCacheOk_any (a b : Option Addr) (c : CacheD) (cap cp : Nat) (w : World) (h1 : SlRd waysR w a c.1) (h2 : SlRd intR w b c.2) (m1 : c.1.length ≤ maxLen) (m2 : c.2.length ≤ maxLen) (m3 : ∀ row ∈ c.1, row.length ≤ maxLen) :
    Calls Tryz.prog 194 #[.agg #[.slice a c.1.length cap, .slice b c.2.length cp]] w fun e w' => e = .returned (.bool (okB isL treeB c)) ∧ Below w.heap.size w w' := by
 rw [ok_eq];have X := heap_at w (.cells #[.slice a c.1.length cap, .slice b c.2.length cp] 92);have B := box_below w (.cells #[.slice a c.1.length cap, .slice b c.2.length cp] 92);have HS := shapeOk_any a b c cap cp (w.alloc (.cells #[.slice a c.1.length cap, .slice b c.2.length cp] 92)) (slrd_next h1 B) (slrd_next h2 B) m1 m2 m3;have H1 : Hid _ := h1;clear h1 h2 m1 m2 m3;cases hs : shapeB c
 ·rw [hs] at HS;go_enter Tryz.func194, Tryz.ntmps194;go_wp2_with (go_at_call 234; refine HS.mono ?_; rintro e w' ⟨rfl, bb⟩)
  go_ret
  exact ⟨rfl, below_step B bb⟩
 ·rw [hs] at HS;obtain ⟨_, f1, f2, f3⟩ := shape_facts hs;have HW : Hid (∀ W, Below w.heap.size w W → Calls Tryz.prog 235 #[.agg #[.slice a c.1.length cap, .slice b c.2.length cp]] W fun e w' => e = .returned (.bool (waysB c (waysN c))) ∧ Below W.heap.size W w') :=
   fun W hb => waysOk_any a b c cap cp (waysN c) W (slrd_keep H1.out fun k hk => hb.block k hk) f1 f2 f3
  clear f1 f2 f3;go_enter Tryz.func194, Tryz.ntmps194;go_wp2_with fail
  refine HS.mono ?_;rintro e w1 ⟨rfl, b1⟩;have b2 := below_step B b1;obtain ⟨n0, n1⟩ := cells_two (row_keep b1 X);go_wp2_with fail
  refine (HW.out _ b2).mono ?_;rintro e w2 ⟨rfl, b3⟩;have b4 := below_step b2 b3;clear b1 b2 b3 n0 n1 X B HS HW;go_wp2
  all_goals go_ret
  all_goals exact ⟨by simp_all, b4⟩
theorem upto_row {c : CacheD} {m s i : Nat} (hm : i < m) (h : UptoOk c m (s * m + i)) {l : Int} (h0 : 0 ≤ l) (hs : l % (c.1.length : Int) = (s : Nat)) (hno : ∀ k, k < i → (wayK c m (s * m + k)).1 ≠ l) : ∀ j, j < s * m + i → (wayK c m j).1 ≠ l := by
 intro j hj he;by_cases hr : s * m ≤ j
 ·exact hno (j - s * m) (by omega) (by rw [show s * m + (j - s * m) = j by omega]; exact he)
 ·have hjs : j / m < s := by rw [Nat.div_lt_iff_lt_mul (by omega)]; omega
  rcases h j hj with hc | ⟨_, hq, _⟩
  ·rw [clear_eq hc] at he;simp [emptyW] at he
   omega
  ·rw [he, hs] at hq;omega
theorem no_of_upto {c : CacheD} (h : ¬ UptoOk c (waysN c) (c.1.length * waysN c)) : okB isL treeB c = false := by
 rw [ok_eq, waysB_no h, Bool.and_false]
theorem no_of_shape {c : CacheD} (h : ¬ Shape c) : okB isL treeB c = false := by
 rw [ok_eq, shape_no h, Bool.false_and]
theorem yes_of {c : CacheD} (h : Shape c) (h' : UptoOk c (waysN c) (c.1.length * waysN c)) : okB isL treeB c = true := by
 rw [ok_eq, shape_yes h, waysB_yes h', Bool.and_true]
set_option maxHeartbeats 4000000 in
set_option maxRecDepth 100000 in
theorem specCacheOk_any (a b : Option Addr) (c : CacheD) (cap cp : Nat) (w : World) (h1 : SlRd waysR w a c.1) (h2 : SlRd intR w b c.2) (m1 : c.1.length ≤ maxLen) (m2 : c.2.length ≤ maxLen) (m3 : ∀ row ∈ c.1, row.length ≤ maxLen) :
    Calls Tryz.prog 146 #[.agg #[.slice a c.1.length cap, .slice b c.2.length cp]] w fun e w' => e = .returned (.bool (okB isL treeB c)) ∧ Below w.heap.size w w' := by
 have m1' : c.1.length ≤ 9223372036854775807 := m1;have m2' : c.2.length ≤ 9223372036854775807 := m2;have HB : Hid _ := box_below w;cases hp : powB c.1.length
 ·have H : Hid (okB isL treeB c = false) := no_of_shape fun h => by rw [h.1] at hp; cases hp
  clear h1 h2 m1 m2 m3;go_enter Tryz.func146, Tryz.ntmps146;go_wp2_with (go_at_call 140; refine (l2Pow_any _ _).mono ?_; rintro e w' ⟨rfl, rfl⟩; rw [hp])
  go_ret
  exact ⟨ret_bool H.out.symm, HB.out _⟩
 by_cases hl : c.2.length = c.1.length
 ·rw [hl];have hpos : 0 < c.1.length := by simp [powB] at hp; omega
  have hx0 : c.1[0]? = some (c.1.getD 0 []) := by rw [List.getD_eq_getElem?_getD, List.getElem?_eq_getElem hpos]; rfl
  have hm0 : (c.1.getD 0 []).length ≤ maxLen := m3 _ (List.mem_of_getElem? hx0);obtain ⟨bs, os, a0, c0, rfl, g0, -, -, -⟩ := set_at h1 hx0;have hw0 : Hid ((c.1.getD 0 []).length = waysN c) := rfl;have G0 : Hid (w.cell? ⟨bs, os + 0, none⟩ = some (.slice a0 (c.1.getD 0 []).length c0)) := g0;have HS0 : Hid (Shape c → powB (waysN c) = true) := fun h => by
   obtain ⟨_, _, f2, _⟩ := shape_facts (shape_yes h);simp [powB]
   omega
  have l1 := cell_lt g0;clear g0 hx0;generalize (c.1.getD 0 []).length = m at hm0 hw0 G0;have hm0' : m ≤ 9223372036854775807 := hm0;cases hpm : powB m
  ·have H : Hid (okB isL treeB c = false) := no_of_shape fun h => by have := HS0.out h; rw [← hw0.out, hpm] at this; cases this
   have g0 : ∀ o, (w.alloc o).cell? ⟨bs, os, none⟩ = some (.slice a0 m c0) := fun o => cell_keep (box_below w o) G0.out l1;clear h1 h2 m1 m2 m3;go_enter Tryz.func146, Tryz.ntmps146;go_wp2_with (go_at_call 140; refine (l2Pow_any _ _).mono ?_; rintro e w' ⟨rfl, rfl⟩; first | rw [hp] | rw [hpm])
   go_ret
   exact ⟨ret_bool H.out.symm, HB.out _⟩
  ·have X0 := heap_at w (.cells #[.slice (some ⟨bs, os, none⟩) c.1.length cap, .slice b c.1.length cp] 92);have B0 := box_below w (.cells #[.slice (some ⟨bs, os, none⟩) c.1.length cap, .slice b c.1.length cp] 92);have g0 : ∀ o, (w.alloc o).cell? ⟨bs, os, none⟩ = some (.slice a0 m c0) := fun o => cell_keep (box_below w o) G0.out l1;have H1 : Hid _ := h1;have H2 : Hid _ := h2;have HM : Hid (∀ row ∈ c.1, row.length ≤ maxLen) := m3;have hlen : Hid (c.2.length = c.1.length) := hl;have HP : Hid (powB c.1.length = true) := hp;have HPM : Hid (powB m = true) := hpm;clear h1 h2 m1 m2 m3 hl HS0;go_enter Tryz.func146, Tryz.ntmps146;go_wp2_with (go_at_call 140; refine (l2Pow_any _ _).mono ?_; rintro e w' ⟨rfl, rfl⟩; first | rw [hp] | rw [hpm])
   clear g0 hp hpm;generalize w.alloc (.cells #[.slice (some ⟨bs, os, none⟩) c.1.length cap, .slice b c.1.length cp] 92) = W0 at X0 B0 ⊢;go_loopw [4] (fun i wr => ∃ k : Nat, k ≤ c.1.length ∧ i = .int .i64 k ∧ (∀ j, j < k → RowFit c j) ∧ UptoOk c m (k * m) ∧ Below w.heap.size w wr ∧ wr.heap[w.heap.size]? = some (.cells #[.slice (some ⟨bs, os, none⟩) c.1.length cap, .slice b c.1.length cp] 92 (0, 0))) (fun i _ => c.1.length - (intOf i).toNat)
   case atStart => exact ⟨0, Nat.zero_le _, rfl, fun j hj => by omega, fun j hj => by omega, B0, X0⟩
   case round =>
    clear B0 X0;obtain ⟨s, hk, rfl, hfit, hup, BB, X⟩ := hrel;by_cases hlt : s < c.1.length
    ·have hlt' : (s : Int) < (c.1.length : Int) := by omega
     obtain ⟨row, hrow⟩ : ∃ row, c.1[s]? = some row := ⟨_, List.getElem?_eq_getElem hlt⟩;obtain ⟨t, ht⟩ : ∃ t, c.2[s]? = some t := ⟨_, List.getElem?_eq_getElem (by have := hlen.out; omega)⟩;obtain ⟨_, _, ak, ck, e1, gk, -, -, hrdk⟩ := set_at H1.out hrow;cases e1;obtain ⟨bt, ot, rfl, gt⟩ := int_at H2.out ht;have hmk : row.length ≤ maxLen := HM.out _ (List.mem_of_getElem? hrow);have l2 := cell_lt gt;have KW : Hid (∀ w', Below w.heap.size w w' → w'.cell? ⟨bs, os, none⟩ = some (.slice a0 m c0) ∧ w'.cell? ⟨bs, os + s, none⟩ = some (.slice ak row.length ck) ∧ w'.cell? ⟨bt, ot + s, none⟩ = some (.int .i64 t)) :=
      fun w' hb => ⟨cell_keep hb G0.out l1, cell_keep hb gk l1, cell_keep hb gt l2⟩
     have HR : Hid (∀ r' t', c.1[s]? = some r' → c.2[s]? = some t' → r' = row ∧ t' = t) := fun r' t' h h' => by rw [hrow] at h; rw [ht] at h'; cases h; cases h'; exact ⟨rfl, rfl⟩
     have HF : Hid (¬ RowFit c s → okB isL treeB c = false) := fun h => no_of_shape fun z => h (z.2.2 s hlt);have HN : Hid (RowFit c s → row.length = m ∧ treeB t m = true) := fun h => by have := h row t hrow ht; rwa [← hw0.out] at this
     have HY : Hid (row.length = m → treeB t m = true → RowFit c s) := fun e1 e2 r' t' h h' => by obtain ⟨rfl, rfl⟩ := HR.out r' t' h h'; rw [← hw0.out]; exact ⟨e1, e2⟩
     have HROW : Hid (c.1[s]? = some row) := hrow;have HRD : Hid (SlRd wayR w ak row) := hrdk;have hmk' : row.length ≤ 9223372036854775807 := hmk;clear gk gt hrow ht hmk hm0 G0 hrdk HR;have n0 : ∀ n : Cls (fun wx => Below w.heap.size w wx ∧ wx.heap[w.heap.size]? = some (.cells #[.slice (some ⟨bs, os, none⟩) c.1.length cap, .slice (some ⟨bt, ot, none⟩) c.1.length cp] 92 (0, 0))), n.w.cell? ⟨w.heap.size, 0, none⟩ = some (.slice (some ⟨bs, os, none⟩) c.1.length cap) := fun n => (cells_two n.h.2).1;have n1 : ∀ n : Cls (fun wx => Below w.heap.size w wx ∧ wx.heap[w.heap.size]? = some (.cells #[.slice (some ⟨bs, os, none⟩) c.1.length cap, .slice (some ⟨bt, ot, none⟩) c.1.length cp] 92 (0, 0))), n.w.cell? ⟨w.heap.size, 1, none⟩ = some (.slice (some ⟨bt, ot, none⟩) c.1.length cp) := fun n => (cells_two n.h.2).2;have g0 : ∀ n : Cls (fun wx => Below w.heap.size w wx ∧ wx.heap[w.heap.size]? = some (.cells #[.slice (some ⟨bs, os, none⟩) c.1.length cap, .slice (some ⟨bt, ot, none⟩) c.1.length cp] 92 (0, 0))), n.w.cell? ⟨bs, os, none⟩ = some (.slice a0 m c0) := fun n => (KW.out _ n.h.1).1;have gk : ∀ n : Cls (fun wx => Below w.heap.size w wx ∧ wx.heap[w.heap.size]? = some (.cells #[.slice (some ⟨bs, os, none⟩) c.1.length cap, .slice (some ⟨bt, ot, none⟩) c.1.length cp] 92 (0, 0))), n.w.cell? ⟨bs, os + s, none⟩ = some (.slice ak row.length ck) := fun n => (KW.out _ n.h.1).2.1;have gt : ∀ n : Cls (fun wx => Below w.heap.size w wx ∧ wx.heap[w.heap.size]? = some (.cells #[.slice (some ⟨bs, os, none⟩) c.1.length cap, .slice (some ⟨bt, ot, none⟩) c.1.length cp] 92 (0, 0))), n.w.cell? ⟨bt, ot + s, none⟩ = some (.int .i64 t) := fun n => (KW.out _ n.h.1).2.2;by_cases hm : row.length = m
     ·subst hm;cases htr : treeB t row.length
      ·have htree : Hid (∀ w, Calls Tryz.prog 200 #[.int .i64 t, .int .i64 row.length] w fun e w' => e = .returned (.bool false) ∧ w' = w) := fun w => by have := specTreeOk_any t row.length w; rwa [htr] at this
       go_wp2_with fail
       refine region_class (fun wx => Below w.heap.size w wx ∧ wx.heap[w.heap.size]? = some (.cells #[.slice (some ⟨bs, os, none⟩) c.1.length cap, .slice (some ⟨bt, ot, none⟩) c.1.length cp] 92 (0, 0))) (by kernel_rfl) (by kernel_rfl) ⟨BB.drew, X⟩ ?_;intro hne;repeat (quiet_step ((go_at_call 200; exact calls_class_same (htree.out _))))
       refine wpQuiet_nil ?_;rintro wx ⟨b20, X20⟩;clear n0 n1 g0 gk gt BB X hne;go_wp2;go_ret
       exact ⟨ret_bool (HF.out fun h => by have := (HN.out h).2; rw [htr] at this; cases this).symm, b20⟩
      ·have htree : Hid (∀ w, Calls Tryz.prog 200 #[.int .i64 t, .int .i64 row.length] w fun e w' => e = .returned (.bool true) ∧ w' = w) := fun w => by have := specTreeOk_any t row.length w; rwa [htr] at this
       go_wp2_with fail
       refine region_class (fun wx => Below w.heap.size w wx ∧ wx.heap[w.heap.size]? = some (.cells #[.slice (some ⟨bs, os, none⟩) c.1.length cap, .slice (some ⟨bt, ot, none⟩) c.1.length cp] 92 (0, 0))) (by kernel_rfl) (by kernel_rfl) ⟨BB.drew, X⟩ ?_;intro hne;repeat (quiet_step ((go_at_call 200; exact calls_class_same (htree.out _))))
       refine wpQuiet_nil ?_;rintro wx ⟨b20, X20⟩;clear n0 n1 g0 gk gt BB X hne;clear htree;go_wp2;go_loopw [5] (fun i wr => ∃ k : Nat, k ≤ row.length ∧ i = .int .i64 k ∧ UptoOk c row.length (s * row.length + k) ∧ Below w.heap.size w wr ∧ wr.heap[w.heap.size]? = some (.cells #[.slice (some ⟨bs, os, none⟩) c.1.length cap, .slice (some ⟨bt, ot, none⟩) c.1.length cp] 92 (0, 0))) (fun i _ => row.length - (intOf i).toNat)
       case atStart => exact ⟨0, Nat.zero_le _, rfl, by simpa using hup, b20, X20⟩
       case round =>
        clear b20 X20;obtain ⟨i, hi, rfl, hupi, B2, X2⟩ := hrel;by_cases hil : i < row.length
        ·have hil' : (i : Int) < (row.length : Int) := by omega
         obtain ⟨u, hu⟩ : ∃ u, row[i]? = some u := ⟨_, List.getElem?_eq_getElem hil⟩;have HW : Hid (wayK c row.length (s * row.length + i) = u) := wayK_at rfl HROW.out hu;obtain ⟨bk, ok, cs, rfl, hrd, hcell⟩ := slrd_at (slrd_keep HRD.out fun k hk => B2.block k hk) hu;obtain ⟨ad, cpw, rfl, -, -, hd1, hd2, hd3⟩ := way_rd hrd;have x0 := hcell 0 _ rfl;have x1 := hcell 1 _ rfl;have x2 := hcell 2 _ rfl;rw [show ok + (i * wayR.size + 0) = ok + i * 3 from rfl] at x0;rw [show ok + (i * wayR.size + 1) = ok + i * 3 + 1 from rfl] at x1;rw [show ok + (i * wayR.size + 2) = ok + i * 3 + 2 from rfl] at x2;obtain ⟨l, st, d⟩ := u;obtain ⟨n0, n1⟩ := cells_two X2;obtain ⟨_, gk, _⟩ := KW.out _ B2;have HD : Hid _ := hd3;have hd4 : d.length ≤ maxLen := Nat.le_trans hd1 hd2;clear hcell hrd hu hd1 hd2 hd3;simp only at x0 x1 x2
         go_wp2_with fail
         have BZ := box_below wr (.cells #[.int .i64 l, .int .i64 st, .slice ad d.length cpw] 88);have Z := heap_at wr (.cells #[.int .i64 l, .int .i64 st, .slice ad d.length cpw] 88);have X3 := heap_on (.cells #[.int .i64 l, .int .i64 st, .slice ad d.length cpw] 88) X2;have B3 := below_step B2 BZ;have HNO : Hid (clearB (l, st, d) = false → ¬ (fullB isL (l, st, d) = true ∧ l % (c.1.length : Int) = (s : Nat) ∧ ∀ j, j < s * row.length + i → (wayK c row.length j).1 ≠ l) → okB isL treeB c = false) := fun h1 h2 => no_of_upto fun h => by
          rw [← hw0.out] at h;have := h _ (idx_lt hlt hil);rw [HW.out, (div_mod_at hil).1] at this;rcases this with h | h
          ·rw [h1] at h;cases h
          ·exact h2 h
         have HUP : Hid (clearB (l, st, d) = true ∨ (fullB isL (l, st, d) = true ∧ l % (c.1.length : Int) = (s : Nat) ∧ ∀ j, j < s * row.length + i → (wayK c row.length j).1 ≠ l) → UptoOk c row.length (s * row.length + (i + 1))) := fun h => upto_next hupi (by show clearB (wayK c row.length (s * row.length + i)) = true ∨ (fullB isL (wayK c row.length (s * row.length + i)) = true ∧ (wayK c row.length (s * row.length + i)).1 % (c.1.length : Int) = ((s * row.length + i) / row.length : Nat) ∧ ∀ j, j < s * row.length + i → (wayK c row.length j).1 ≠ (wayK c row.length (s * row.length + i)).1); rw [HW.out, (div_mod_at hil).1]; exact h);clear X2 n0 n1 gk x0 x1 x2;cases hcl : clearB (l, st, d)
         case true =>
          have HE : Calls Tryz.prog 148 #[.agg #[.int .i64 l, .int .i64 st, .slice ad d.length cpw]] (wr.alloc (.cells #[.int .i64 l, .int .i64 st, .slice ad d.length cpw] 88)) _ := l6Clear_any l st ad d.length cpw _ hd4;rw [clr_eq (l, st, d), hcl] at HE;refine HE.mono ?_;rintro e w2 ⟨rfl, b2⟩;replace X3 := row_keep b2 X3;replace B3 := below_step B3 b2;clear HE b2 BZ Z;go_wp2;go_roundw
          case rel => exact ⟨i + 1, by omega, by go_num, HUP.out (.inl hcl), B3, X3⟩
          case measure => simp [intOf]; omega
         case false =>
          have HE : Calls Tryz.prog 148 #[.agg #[.int .i64 l, .int .i64 st, .slice ad d.length cpw]] (wr.alloc (.cells #[.int .i64 l, .int .i64 st, .slice ad d.length cpw] 88)) _ := l6Clear_any l st ad d.length cpw _ hd4;rw [clr_eq (l, st, d), hcl] at HE;refine HE.mono ?_;rintro e w2 ⟨rfl, b2⟩;replace X3 := row_keep b2 X3;replace B3 := below_step B3 b2;replace Z := row_keep b2 Z;have HD2 := slrd_next (slrd_next HD.out BZ) b2;clear HE b2 BZ HD;obtain ⟨y0, y1, y2⟩ := cells_three Z;go_wp2_with fail
          cases hfl : fullB isL (l, st, d)
          case false =>
           have HE := l6Full_any l st d ad cpw w2 HD2;rw [hfl] at HE;refine HE.mono ?_;rintro e w3 ⟨rfl, b3⟩;replace B3 := below_step B3 b3;clear HE b3 Z y0 y1 y2 HD2 X3;go_wp2;go_ret
           exact ⟨ret_bool (HNO.out hcl (fun h => by rw [hfl] at h; exact absurd h.1 (by simp))).symm, B3⟩
          case true =>
           have hl15 := full_line hfl;simp only at hl15
           have hz : (c.1.length : Int) ≠ 0 := by omega
           have HE := l6Full_any l st d ad cpw w2 HD2;rw [hfl] at HE;refine HE.mono ?_;rintro e w3 ⟨rfl, b3⟩;replace B3 := below_step B3 b3;replace X3 := row_keep b3 X3;replace Z := row_keep b3 Z;clear HE b3 y0 y1 y2 HD2;obtain ⟨y0, y1, y2⟩ := cells_three Z;have ht3 : Int.tmod l (c.1.length : Int) = l % (c.1.length : Int) := Int.tmod_eq_emod_of_nonneg hl15.1;by_cases hq : l % (c.1.length : Int) = (s : Nat)
           ·rw [hq] at ht3;have HQ : Hid (l % (c.1.length : Int) = (s : Nat)) := hq;go_wp2;go_loopw [7] (fun q wq => ∃ k : Nat, k ≤ i ∧ q = .int .i64 k ∧ (∀ j, j < k → (wayK c row.length (s * row.length + j)).1 ≠ l) ∧ Below w.heap.size w wq ∧ wq.heap[w.heap.size]? = some (.cells #[.slice (some ⟨bs, os, none⟩) c.1.length cap, .slice (some ⟨bt, ot, none⟩) c.1.length cp] 92 (0, 0)) ∧ wq.heap[wr.heap.size]? = some (.cells #[.int .i64 l, .int .i64 st, .slice ad d.length cpw] 88 (0, 0))) (fun q _ => i - (intOf q).toNat)
            case atStart => exact ⟨0, Nat.zero_le _, rfl, fun j hj => by omega, B3, X3, Z⟩
            case round =>
             clear B3 X3 Z y0 y1 y2;obtain ⟨k, hki, rfl, hno, B3, X3, Z⟩ := hrel;obtain ⟨y0, y1, y2⟩ := cells_three Z;by_cases hlt3 : k < i
             ·have hlt3' : (k : Int) < (i : Int) := by omega
              have hlt4 : (k : Int) < (row.length : Int) := by omega
              obtain ⟨v, hv⟩ : ∃ v, row[k]? = some v := ⟨_, List.getElem?_eq_getElem (by omega)⟩;have HV : Hid (wayK c row.length (s * row.length + k) = v) := wayK_at rfl HROW.out hv;obtain ⟨bk', ok', cs, e9, hrd, hcell⟩ := slrd_at (slrd_keep HRD.out fun k hk => B3.block k hk) hv;cases e9;obtain ⟨ad', cpw', rfl, -, -, -, -, -⟩ := way_rd hrd;have x0 := hcell 0 _ rfl;rw [show ok + (k * wayR.size + 0) = ok + k * 3 from rfl] at x0;obtain ⟨n0, n1⟩ := cells_two X3;obtain ⟨_, gk, _⟩ := KW.out _ B3;obtain ⟨l', st', d'⟩ := v;simp only at x0
              clear hcell hrd hv;by_cases hll : l' = l
              ·subst hll;have HRES : Hid (okB isL treeB c = false) := HNO.out hcl fun h => h.2.2 (s * row.length + k) (by omega) (by rw [HV.out]);go_wp2_with fail
               go_quiet (fail)
               go_wp2;go_ret
               exact ⟨ret_bool HRES.out.symm, bl_drewN B3 nq⟩
              ·have hll' : (l' == l) = false := by simpa using hll
               go_wp2_with fail
               go_quiet (fail)
               go_wp2;go_roundw
               case rel =>
                refine ⟨k + 1, by omega, by go_num, fun j hj => ?_, bl_drewN B3 nq, X3, Z⟩;by_cases he : j < k
                ·exact hno j he
                ·have : j = k := by omega
                 subst this;rw [HV.out];exact hll
               case measure => simp [intOf]; omega
             ·have hk2 : k = i := by omega
              subst hk2;go_wp2;go_roundw
              case rel => exact ⟨k + 1, by omega, by go_num, HUP.out (.inr ⟨hfl, HQ.out, upto_row hil hupi hl15.1 HQ.out hno⟩), B3, X3⟩
              case measure => simp [intOf]; omega
           ·have HRES : Hid (okB isL treeB c = false) := HNO.out hcl fun h => hq h.2.1;have hq3 : (l % (c.1.length : Int) != (s : Int)) = true := by simpa using hq
            clear ht3;go_wp2;go_ret
            exact ⟨ret_bool HRES.out.symm, B3⟩
        ·have hi2 : Hid (i = row.length) := by unfold Hid; omega
         have hil' : ¬ ((i : Int) < (row.length : Int)) := by omega
         clear hil;obtain ⟨n0, n1⟩ := cells_two X2;obtain ⟨_, gk, _⟩ := KW.out _ B2;go_wp2;go_roundw
         case rel =>
          refine ⟨s + 1, by omega, by go_num, fun j hj => ?_, by rw [Nat.add_one_mul]; have := hi2.out; rw [this] at hupi; exact hupi, B2, X2⟩;by_cases he : j < s
          ·exact hfit j he
          ·have : j = s := by omega
           subst this;exact HY.out (by simp) htr
         case measure => simp [intOf]; omega
     ·have hm3 : ((row.length : Int) != (m : Int)) = true := by simp; omega
      go_wp2_with fail
      refine region_class (fun wx => Below w.heap.size w wx ∧ wx.heap[w.heap.size]? = some (.cells #[.slice (some ⟨bs, os, none⟩) c.1.length cap, .slice (some ⟨bt, ot, none⟩) c.1.length cp] 92 (0, 0))) (by kernel_rfl) (by kernel_rfl) ⟨BB.drew, X⟩ ?_;intro hne;iterate 12 (quiet_step (fail))
      clear hm3;refine wpQuiet_step (fun K hK => ?_);go_simp
      refine hid_act K _ ?_;intro A0 hA0;refine hK A0 ?_;clear hK K;have ht0 : A0.tmps[49]? = some (.bool true) := by rw [hA0]; rfl
      refine wpQuiet_skip (b := false) (d := 49) ht0 rfl rfl rfl (by decide) ?_;intro S0x0 eS0x0 hS0x0;clear ht0;refine wpQuiet_skip (b := false) (d := 49) hS0x0 rfl rfl rfl (by decide) ?_;intro S0x1 eS0x1 hS0x1;clear hS0x0;refine wpQuiet_skip (b := false) (d := 49) hS0x1 rfl rfl rfl (by decide) ?_;intro S0x2 eS0x2 hS0x2;clear hS0x1;refine wpQuiet_skip (b := false) (d := 49) hS0x2 rfl rfl rfl (by decide) ?_;intro S0x3 eS0x3 hS0x3;clear hS0x2;refine wpQuiet_skip (b := false) (d := 49) hS0x3 rfl rfl rfl (by decide) ?_;intro S0x4 eS0x4 hS0x4;clear hS0x3;refine wpQuiet_skip (b := false) (d := 49) hS0x4 rfl rfl rfl (by decide) ?_;intro S0x5 eS0x5 hS0x5;clear hS0x4;refine wpQuiet_skip (b := false) (d := 49) hS0x5 rfl rfl rfl (by decide) ?_;intro S0x6 eS0x6 hS0x6;clear hS0x5;refine wpQuiet_skip (b := false) (d := 49) hS0x6 rfl rfl rfl (by decide) ?_;intro S0x7 eS0x7 hS0x7;clear hS0x6;refine wpQuiet_skip (b := false) (d := 49) hS0x7 rfl rfl rfl (by decide) ?_;intro S0x8 eS0x8 hS0x8;clear hS0x7;refine wpQuiet_skip (b := false) (d := 49) hS0x8 rfl rfl rfl (by decide) ?_;intro S0x9 eS0x9 hS0x9;clear hS0x8;refine wpQuiet_skip (b := false) (d := 49) hS0x9 rfl rfl rfl (by decide) ?_;intro S0x10 eS0x10 hS0x10;clear hS0x9;refine wpQuiet_skip (b := false) (d := 49) hS0x10 rfl rfl rfl (by decide) ?_;intro S0x11 eS0x11 hS0x11;clear hS0x10;clear hS0x11;subst eS0x11 eS0x10 eS0x9 eS0x8 eS0x7 eS0x6 eS0x5 eS0x4 eS0x3 eS0x2 eS0x1 eS0x0;subst hA0;quiet_step (skip)
      refine wpQuiet_nil ?_;rintro wx ⟨b20, X20⟩;clear n0 n1 g0 gk gt BB X hne;go_wp2;go_ret
      exact ⟨ret_bool (HF.out fun h => hm (HN.out h).1).symm, b20⟩
    ·have hkl : s = c.1.length := by omega
     have H : Hid (okB isL treeB c = true) := yes_of ⟨HP.out, hlen.out, by rw [← hkl]; exact hfit⟩ (by rw [← hw0.out, ← hkl]; exact hup);subst hkl;go_wp2;go_ret
     exact ⟨ret_bool H.out.symm, BB⟩
 ·have H : Hid (okB isL treeB c = false) := no_of_shape fun h => hl h.2.1;have hl' : ((c.2.length : Int) == (c.1.length : Int)) = false := by simp; omega
  clear h1 h2 m1 m2 m3;go_enter Tryz.func146, Tryz.ntmps146;go_wp2_with (go_at_call 140; refine (l2Pow_any _ _).mono ?_; rintro e w' ⟨rfl, rfl⟩; rw [hp])
  go_ret
  exact ⟨ret_bool H.out.symm, HB.out _⟩
end Go.Proofs.YtcocbafhcpdheaaGreatDoor
