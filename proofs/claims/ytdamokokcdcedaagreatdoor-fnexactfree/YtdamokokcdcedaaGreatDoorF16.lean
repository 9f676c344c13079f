import Derived.Test.YtdamokokcdcedaaGreatDoorF00Box
import Derived.Test.YtdamokokcdcedaaGreatDoorF15
namespace Go.Proofs.YtdamokokcdcedaaGreatDoor
open Go.ChangeShapes Go.WideShapes Go.ChangeAt Go.RowKit Go.Shelf
set_option linter.unusedVariables false
theorem pow_iff (n : Nat) : powB (n : Int) = true ↔ pow3 n := by
 simp only [powB, pow3, decide_eq_true_eq];omega
theorem div_mod_at {m i j : Nat} (hj : j < m) : (i * m + j) / m = i ∧ (i * m + j) % m = j := by
 have a : 0 < m := by omega
 exact ⟨by rw [Nat.mul_comm, Nat.mul_add_div a, Nat.div_eq_of_lt hj, Nat.add_zero], by rw [Nat.mul_comm, Nat.mul_add_mod, Nat.mod_eq_of_lt hj]⟩
theorem idx_lt {s m i j : Nat} (hi : i < s) (hj : j < m) : i * m + j < s * m := by
 have : (i + 1) * m ≤ s * m := Nat.mul_le_mul_right _ hi;rw [Nat.add_one_mul] at this;omega
theorem wayK_at {c : CacheD} {m i j : Nat} {row : List WayD} {u : WayD} (hl : row.length = m) (hr : c.1[i]? = some row) (hu : row[j]? = some u) : wayK c m (i * m + j) = u := by
 have d : j < m := by have := (List.getElem?_eq_some_iff.1 hu).1; omega
 obtain ⟨a, b⟩ := div_mod_at (i := i) d;unfold wayK;rw [a, b];simp [List.getD_eq_getElem?_getD, hr, hu]
theorem ok_link {c : CacheD} : OkC isL treeB c ↔ Shape c ∧ UptoOk c (waysN c) (c.1.length * waysN c) := by
 constructor
 ·rintro ⟨E, K, m, F, p⟩;have b := pow3_pos E;have v := pow3_pos F;have O : waysN c = m := by
   have e : c.1[0]? = some (c.1.getD 0 []) := by rw [List.getD_eq_getElem?_getD, List.getElem?_eq_getElem b]; rfl
   exact (p 0 _ e).1
  rw [O];have o : ∀ a ∈ c.1, a.length = m := fun a hr => by
   obtain ⟨i, f⟩ := List.mem_iff_getElem?.1 hr;exact (p i a f).1
  refine ⟨⟨(pow_iff _).2 E, K, fun i f a t hr D => ?_⟩, fun j hj => ?_⟩
  ·obtain ⟨g, ⟨t', B, a3⟩, _⟩ := p i a hr;rw [D] at B;cases B;rw [O];exact ⟨g, a3⟩
  ·obtain ⟨a, J, U⟩ := wayK_get v o hj;obtain ⟨_, _, g, B⟩ := p _ a J;rcases g _ _ U with H | ⟨R, n⟩
   ·exact .inl H
   ·refine .inr ⟨R, n, fun i f d => ?_⟩;have hl := full_line R;obtain ⟨y, M, N⟩ := wayK_get v o (show i < c.1.length * m by omega);obtain ⟨_, _, X, b2⟩ := p _ y M;rcases X _ _ N with H | ⟨Y, G⟩
    ·rw [clear_eq H] at d;simp [emptyW] at d
     omega
    ·rw [d, n] at G;have l : j / m = i / m := by omega
     rw [l, M] at J;cases J;have := b2 _ _ _ _ N U (by omega) d;have d1 := Nat.div_add_mod i m;have d2 := Nat.div_add_mod j m;rw [l, ← this] at d2;omega
 ·rintro ⟨⟨E, K, p⟩, L⟩;have S := (pow_iff _).1 E;have b := pow3_pos S;have Z : c.1[0]? = some (c.1.getD 0 []) := by rw [List.getD_eq_getElem?_getD, List.getElem?_eq_getElem b]; rfl
  obtain ⟨t0, I⟩ : ∃ t, c.2[0]? = some t := ⟨_, List.getElem?_eq_getElem (by omega)⟩;have F : pow3 (waysN c) := by
   have := tree_pow (p 0 b _ _ Z I).2;unfold pow3;omega
  refine ⟨S, K, waysN c, F, fun s a n => ?_⟩;have r := (List.getElem?_eq_some_iff.1 n).1;obtain ⟨t, D⟩ : ∃ t, c.2[s]? = some t := ⟨_, List.getElem?_eq_getElem (by omega)⟩;obtain ⟨g, B⟩ := p s r a t n D;refine ⟨g, ⟨t, D, B⟩, fun i u q => ?_, fun i k u x q z T d => ?_⟩
  ·have f : i < waysN c := by have := (List.getElem?_eq_some_iff.1 q).1; omega
   have := L _ (idx_lt r f);rw [wayK_at g n q, (div_mod_at f).1] at this;rcases this with h | ⟨h, V, _⟩
   ·exact .inl h
   ·exact .inr ⟨h, V⟩
  ·have f : i < waysN c := by have := (List.getElem?_eq_some_iff.1 q).1; omega
   have C : k < waysN c := by have := (List.getElem?_eq_some_iff.1 z).1; omega
   have A : ∀ (i k : Nat) (u x : WayD), a[i]? = some u → a[k]? = some x → 0 ≤ u.1 → u.1 = x.1 → i < waysN c → k < waysN c → ¬ i < k := by
    intro i k u x q z T d f C dA;have := L _ (idx_lt r C);rw [wayK_at g n z] at this;rcases this with h | ⟨_, _, h⟩
    ·rw [clear_eq h] at d;simp [emptyW] at d
     omega
    ·have := h (s * waysN c + i) (by omega);rw [wayK_at g n q] at this;exact this d
   have k1 := A i k u x q z T d f C;have k2 := A k i x u z q (by omega) d.symm C f;omega
theorem ok_eq (c : CacheD) : okB isL treeB c = (shapeB c && waysB c (waysN c)) := by
 rw [Bool.eq_iff_iff, okB_iff, ok_link, Bool.and_eq_true];simp [shapeB, waysB]
theorem shape_facts {c : CacheD} (h : shapeB c = true) : Shape c ∧ (c.1.length = 1 ∨ c.1.length = 2 ∨ c.1.length = 4) ∧ (waysN c = 1 ∨ waysN c = 2 ∨ waysN c = 4) ∧ ∀ row ∈ c.1, row.length = waysN c := by
 have l : Shape c := by simpa [shapeB] using h
 obtain ⟨k, n, f⟩ := l;have g := (pow_iff _).1 k;have a := pow3_pos g;have o : c.1[0]? = some (c.1.getD 0 []) := by rw [List.getD_eq_getElem?_getD, List.getElem?_eq_getElem a]; rfl
 obtain ⟨t0, b⟩ : ∃ t, c.2[0]? = some t := ⟨_, List.getElem?_eq_getElem (by omega)⟩;have hm := tree_pow (f 0 a _ _ o b).2;refine ⟨⟨k, n, f⟩, g, by omega, fun row hr => ?_⟩;obtain ⟨i, j⟩ := List.mem_iff_getElem?.1 hr;have d := (List.getElem?_eq_some_iff.1 j).1;obtain ⟨t, m⟩ : ∃ t, c.2[i]? = some t := ⟨_, List.getElem?_eq_getElem (by omega)⟩;exact (f i d row t j m).1
set_option maxHeartbeats 400000 in
theorem implCacheOk_any (a b : Option Addr) (c : CacheD) (cap cp : Nat) (w : World) (h1 : SlRd waysR w a c.1) (h2 : SlRd intR w b c.2) (m1 : c.1.length ≤ maxLen) (m2 : c.2.length ≤ maxLen) (m3 : ∀ row ∈ c.1, row.length ≤ maxLen) :
    Calls Tryz.prog 231 #[.agg #[sL a c.1.length cap, sL b c.2.length cp]] w fun e f => e = .returned (.bool (okB isL treeB c)) ∧ Bl w f := by
 rw [ok_eq];have X := heap_at w (.cells #[sL a c.1.length cap, sL b c.2.length cp] 95);have B := box_below w (.cells #[sL a c.1.length cap, sL b c.2.length cp] 95);have d := shapeOk_any a b c cap cp (w.alloc (.cells #[sL a c.1.length cap, sL b c.2.length cp] 95)) (slrd_next h1 B) (slrd_next h2 B) m1 m2 m3;have q : Hid _ := h1;clear h1 h2 m1 m2 m3;cases i : shapeB c
 ·rw [i] at d;go_enter Tryz.func231, Tryz.ntmps231;go_wp2_with (go_at_call 256; refine d.mono ?_; rintro e f ⟨rfl, s⟩)
  go_ret
  exact ⟨rfl, below_step B s⟩
 ·rw [i] at d;obtain ⟨_, l, m, o⟩ := shape_facts i;have n : Hid (∀ W, Bl w W → Calls Tryz.prog 257 #[.agg #[sL a c.1.length cap, sL b c.2.length cp]] W fun e f => e = .returned (.bool (waysB c (waysN c))) ∧ Bl W f) :=
   fun W hb => waysOk_any a b c cap cp (waysN c) W (slrd_keep q.out fun k hk => hb.block k hk) l m o
  clear l m o;go_enter Tryz.func231, Tryz.ntmps231;go_wp2_with fail
  refine d.mono ?_;rintro e w1 ⟨rfl, g⟩;have j := below_step B g;obtain ⟨r, v⟩ := cells_two (row_keep g X);go_wp2_with fail
  refine (n.out _ j).mono ?_;rintro e w2 ⟨rfl, p⟩;have y := below_step j p;clear g j p r v X B d n;go_wp2
  all_goals go_ret
  all_goals exact ⟨by simp_all, y⟩
theorem upto_row {c : CacheD} {m s i : Nat} (hm : i < m) (h : UptoOk c m (s * m + i)) {l : Int} (h0 : 0 ≤ l) (hs : l % (c.1.length : Int) = (s : Nat)) (hno : ∀ k, k < i → (wayK c m (s * m + k)).1 ≠ l) : ∀ j, j < s * m + i → (wayK c m j).1 ≠ l := by
 intro j f a;by_cases hr : s * m ≤ j
 ·exact hno (j - s * m) (by omega) (by rw [show s * m + (j - s * m) = j by omega]; exact a)
 ·have b : j / m < s := by rw [Nat.div_lt_iff_lt_mul (by omega)]; omega
  rcases h j f with g | ⟨_, d, _⟩
  ·rw [clear_eq g] at a;simp [emptyW] at a
   omega
  ·rw [a, hs] at d;omega
theorem no_of_upto {c : CacheD} (h : ¬ UptoOk c (waysN c) (c.1.length * waysN c)) : okB isL treeB c = false := by
 rw [ok_eq, waysB_no h, Bool.and_false]
theorem no_of_shape {c : CacheD} (h : ¬ Shape c) : okB isL treeB c = false := by
 rw [ok_eq, shape_no h, Bool.false_and]
theorem yes_of {c : CacheD} (h : Shape c) (h' : UptoOk c (waysN c) (c.1.length * waysN c)) : okB isL treeB c = true := by
 rw [ok_eq, shape_yes h, waysB_yes h', Bool.and_true]
set_option maxHeartbeats 4000000 in
set_option maxRecDepth 100000 in
theorem specCacheOk_any (a b : Option Addr) (c : CacheD) (cap cp : Nat) (w : World) (h1 : SlRd waysR w a c.1) (h2 : SlRd intR w b c.2) (m1 : c.1.length ≤ maxLen) (m2 : c.2.length ≤ maxLen) (m3 : ∀ f ∈ c.1, f.length ≤ maxLen) :
    Calls Tryz.prog 133 #[.agg #[sL a c.1.length cap, sL b c.2.length cp]] w fun e F => e = .returned (.bool (okB isL treeB c)) ∧ Bl w F := by
 have gD : c.1.length ≤ 9223372036854775807 := m1;have jD : c.2.length ≤ 9223372036854775807 := m2;have HB : Hid _ := box_below w;cases hp : powB c.1.length
 ·have H : Hid (okB isL treeB c = false) := no_of_shape fun h => by rw [h.1] at hp; cases hp
  clear h1 h2 m1 m2 m3;go_enter Tryz.func133, Tryz.ntmps133;go_wp2_with (go_at_call 127; refine (l2Pow_any _ _).mono ?_; rintro e F ⟨rfl, rfl⟩; rw [hp])
  go_ret
  exact ⟨ret_bool H.out.symm, HB.out _⟩
 by_cases hl : c.2.length = c.1.length
 ·rw [hl];have yB : 0 < c.1.length := by simp [powB] at hp; omega
  have bB : c.1[0]? = some (c.1.getD 0 []) := by rw [List.getD_eq_getElem?_getD, List.getElem?_eq_getElem yB]; rfl
  have NA : (c.1.getD 0 []).length ≤ maxLen := m3 _ (List.mem_of_getElem? bB);obtain ⟨y, r, a0, c0, rfl, g0, -, -, -⟩ := set_at h1 bB;have O : Hid ((c.1.getD 0 []).length = waysN c) := rfl;have G0 : Hid (w.cell? ⟨y, r + 0, none⟩ = some (sL a0 (c.1.getD 0 []).length c0)) := g0;have FB : Hid (Shape c → powB (waysN c) = true) := fun h => by
   obtain ⟨_, _, f2, _⟩ := shape_facts (shape_yes h);simp [powB]
   omega
  have l1 := cell_lt g0;clear g0 bB;generalize (c.1.getD 0 []).length = m at NA O G0;have LC : m ≤ 9223372036854775807 := NA;cases dA : powB m
  ·have H : Hid (okB isL treeB c = false) := no_of_shape fun h => by have := FB.out h; rw [← O.out, dA] at this; cases this
   have g0 : ∀ o, (w.alloc o).cell? ⟨y, r, none⟩ = some (sL a0 m c0) := fun o => cell_keep (box_below w o) G0.out l1;clear h1 h2 m1 m2 m3;go_enter Tryz.func133, Tryz.ntmps133;go_wp2_with (go_at_call 127; refine (l2Pow_any _ _).mono ?_; rintro e F ⟨rfl, rfl⟩; first | rw [hp] | rw [dA])
   go_ret
   exact ⟨ret_bool H.out.symm, HB.out _⟩
  ·have X0 := heap_at w (.cells #[sL (some ⟨y, r, none⟩) c.1.length cap, sL b c.1.length cp] 95);have B0 := box_below w (.cells #[sL (some ⟨y, r, none⟩) c.1.length cap, sL b c.1.length cp] 95);have g0 : ∀ o, (w.alloc o).cell? ⟨y, r, none⟩ = some (sL a0 m c0) := fun o => cell_keep (box_below w o) G0.out l1;have H1 : Hid _ := h1;have H2 : Hid _ := h2;have HM : Hid (∀ f ∈ c.1, f.length ≤ maxLen) := m3;have FA : Hid (c.2.length = c.1.length) := hl;have HP : Hid (powB c.1.length = true) := hp;have XC : Hid (powB m = true) := dA;clear h1 h2 m1 m2 m3 hl FB;go_enter Tryz.func133, Tryz.ntmps133;go_wp2_with (go_at_call 127; refine (l2Pow_any _ _).mono ?_; rintro e F ⟨rfl, rfl⟩; first | rw [hp] | rw [dA])
   clear g0 hp dA;generalize w.alloc (.cells #[sL (some ⟨y, r, none⟩) c.1.length cap, sL b c.1.length cp] 95) = W0 at X0 B0 ⊢;go_loopw [4] (fun i wr => ∃ k : Nat, k ≤ c.1.length ∧ i = nI k ∧ (∀ j, j < k → RowFit c j) ∧ UptoOk c m (k * m) ∧ Bl w wr ∧ wr.heap[w.heap.size]? = some (.cells #[sL (some ⟨y, r, none⟩) c.1.length cap, sL b c.1.length cp] 95 (0, 0))) (fun i _ => c.1.length - (intOf i).toNat)
   case atStart => exact ⟨0, Nat.zero_le _, rfl, fun j hj => by omega, fun j hj => by omega, B0, X0⟩
   case round =>
    clear B0 X0;obtain ⟨s, hk, rfl, GA, sB, BB, X⟩ := hrel;by_cases SA : s < c.1.length
    ·have IC : (s : Int) < (c.1.length : Int) := by omega
     obtain ⟨f, B⟩ : ∃ f, c.1[s]? = some f := ⟨_, List.getElem?_eq_getElem SA⟩;obtain ⟨t, ht⟩ : ∃ t, c.2[s]? = some t := ⟨_, List.getElem?_eq_getElem (by have := FA.out; omega)⟩;obtain ⟨_, _, ak, ck, e1, gk, -, -, DA⟩ := set_at H1.out B;cases e1;obtain ⟨N, R, rfl, gt⟩ := int_at H2.out ht;have rB : f.length ≤ maxLen := HM.out _ (List.mem_of_getElem? B);have l2 := cell_lt gt;have KW : Hid (∀ F, Bl w F → F.cell? ⟨y, r, none⟩ = some (sL a0 m c0) ∧ F.cell? ⟨y, r + s, none⟩ = some (sL ak f.length ck) ∧ F.cell? ⟨N, R + s, none⟩ = some (nI t)) :=
      fun F hb => ⟨cell_keep hb G0.out l1, cell_keep hb gk l1, cell_keep hb gt l2⟩
     have HR : Hid (∀ r' t', c.1[s]? = some r' → c.2[s]? = some t' → r' = f ∧ t' = t) := fun r' t' h h' => by rw [B] at h; rw [ht] at h'; cases h; cases h'; exact ⟨rfl, rfl⟩
     have HF : Hid (¬ RowFit c s → okB isL treeB c = false) := fun h => no_of_shape fun z => h (z.2.2 s SA);have HN : Hid (RowFit c s → f.length = m ∧ treeB t m = true) := fun h => by have := h f t B ht; rwa [← O.out] at this
     have HY : Hid (f.length = m → treeB t m = true → RowFit c s) := fun e1 e2 r' t' h h' => by obtain ⟨rfl, rfl⟩ := HR.out r' t' h h'; rw [← O.out]; exact ⟨e1, e2⟩
     have CA : Hid (c.1[s]? = some f) := B;have jB : Hid (SlRd wayR w ak f) := DA;have pC : f.length ≤ 9223372036854775807 := rB;clear gk gt B ht rB NA G0 DA HR;have n0 : ∀ n : Cls (fun wx => Bl w wx ∧ wx.heap[w.heap.size]? = some (.cells #[sL (some ⟨y, r, none⟩) c.1.length cap, sL (some ⟨N, R, none⟩) c.1.length cp] 95 (0, 0))), n.w.cell? ⟨w.heap.size, 0, none⟩ = some (sL (some ⟨y, r, none⟩) c.1.length cap) := fun n => (cells_two n.h.2).1;have n1 : ∀ n : Cls (fun wx => Bl w wx ∧ wx.heap[w.heap.size]? = some (.cells #[sL (some ⟨y, r, none⟩) c.1.length cap, sL (some ⟨N, R, none⟩) c.1.length cp] 95 (0, 0))), n.w.cell? ⟨w.heap.size, 1, none⟩ = some (sL (some ⟨N, R, none⟩) c.1.length cp) := fun n => (cells_two n.h.2).2;have g0 : ∀ n : Cls (fun wx => Bl w wx ∧ wx.heap[w.heap.size]? = some (.cells #[sL (some ⟨y, r, none⟩) c.1.length cap, sL (some ⟨N, R, none⟩) c.1.length cp] 95 (0, 0))), n.w.cell? ⟨y, r, none⟩ = some (sL a0 m c0) := fun n => (KW.out _ n.h.1).1;have gk : ∀ n : Cls (fun wx => Bl w wx ∧ wx.heap[w.heap.size]? = some (.cells #[sL (some ⟨y, r, none⟩) c.1.length cap, sL (some ⟨N, R, none⟩) c.1.length cp] 95 (0, 0))), n.w.cell? ⟨y, r + s, none⟩ = some (sL ak f.length ck) := fun n => (KW.out _ n.h.1).2.1;have gt : ∀ n : Cls (fun wx => Bl w wx ∧ wx.heap[w.heap.size]? = some (.cells #[sL (some ⟨y, r, none⟩) c.1.length cap, sL (some ⟨N, R, none⟩) c.1.length cp] 95 (0, 0))), n.w.cell? ⟨N, R + s, none⟩ = some (nI t) := fun n => (KW.out _ n.h.1).2.2;by_cases hm : f.length = m
     ·subst hm;cases rA : treeB t f.length
      ·have C : Hid (∀ w, Calls Tryz.prog 186 #[nI t, nI f.length] w fun e F => e = .returned (.bool false) ∧ F = w) := fun w => by have := specTreeOk_any t f.length w; rwa [rA] at this
       go_wp2_with fail
       refine region_class (fun wx => Bl w wx ∧ wx.heap[w.heap.size]? = some (.cells #[sL (some ⟨y, r, none⟩) c.1.length cap, sL (some ⟨N, R, none⟩) c.1.length cp] 95 (0, 0))) (by kernel_rfl) (by kernel_rfl) ⟨BB.drew, X⟩ ?_;intro Y;repeat (quiet_step ((go_at_call 186; exact calls_class_same (C.out _))))
       refine wpQuiet_nil ?_;rintro wx ⟨M, yA⟩;clear n0 n1 g0 gk gt BB X Y;go_wp2;go_ret
       exact ⟨ret_bool (HF.out fun h => by have := (HN.out h).2; rw [rA] at this; cases this).symm, M⟩
      ·have C : Hid (∀ w, Calls Tryz.prog 186 #[nI t, nI f.length] w fun e F => e = .returned (.bool true) ∧ F = w) := fun w => by have := specTreeOk_any t f.length w; rwa [rA] at this
       go_wp2_with fail
       refine region_class (fun wx => Bl w wx ∧ wx.heap[w.heap.size]? = some (.cells #[sL (some ⟨y, r, none⟩) c.1.length cap, sL (some ⟨N, R, none⟩) c.1.length cp] 95 (0, 0))) (by kernel_rfl) (by kernel_rfl) ⟨BB.drew, X⟩ ?_;intro Y;repeat (quiet_step ((go_at_call 186; exact calls_class_same (C.out _))))
       refine wpQuiet_nil ?_;rintro wx ⟨M, yA⟩;clear n0 n1 g0 gk gt BB X Y C;go_wp2;go_loopw [5] (fun i wr => ∃ k : Nat, k ≤ f.length ∧ i = nI k ∧ UptoOk c f.length (s * f.length + k) ∧ Bl w wr ∧ wr.heap[w.heap.size]? = some (.cells #[sL (some ⟨y, r, none⟩) c.1.length cap, sL (some ⟨N, R, none⟩) c.1.length cp] 95 (0, 0))) (fun i _ => f.length - (intOf i).toNat)
       case atStart => exact ⟨0, Nat.zero_le _, rfl, by simpa using sB, M, yA⟩
       case round =>
        clear M yA;obtain ⟨i, hi, rfl, I, B2, X2⟩ := hrel;by_cases L : i < f.length
        ·have JB : (i : Int) < (f.length : Int) := by omega
         obtain ⟨u, hu⟩ : ∃ u, f[i]? = some u := ⟨_, List.getElem?_eq_getElem L⟩;have HW : Hid (wayK c f.length (s * f.length + i) = u) := wayK_at rfl CA.out hu;obtain ⟨bk, ok, cs, rfl, bA, g⟩ := slrd_at (slrd_keep jB.out fun k hk => B2.block k hk) hu;obtain ⟨T, p, rfl, -, -, pB, DB, KB⟩ := way_rd bA;have x0 := g 0 _ rfl;have x1 := g 1 _ rfl;have x2 := g 2 _ rfl;rw [show ok + (i * wayR.size + 0) = ok + i * 3 from rfl] at x0;rw [show ok + (i * wayR.size + 1) = ok + i * 3 + 1 from rfl] at x1;rw [show ok + (i * wayR.size + 2) = ok + i * 3 + 2 from rfl] at x2;obtain ⟨l, A, d⟩ := u;obtain ⟨n0, n1⟩ := cells_two X2;obtain ⟨_, gk, _⟩ := KW.out _ B2;have HD : Hid _ := KB;have AB : d.length ≤ maxLen := Nat.le_trans pB DB;clear g bA hu pB DB KB;simp only at x0 x1 x2
         go_wp2_with fail
         have BZ := box_below wr (.cells #[nI l, nI A, sL T d.length p] 74);have Z := heap_at wr (.cells #[nI l, nI A, sL T d.length p] 74);have G := heap_on (.cells #[nI l, nI A, sL T d.length p] 74) X2;have D := below_step B2 BZ;have cB : Hid (clearB (l, A, d) = false → ¬ (fullB isL (l, A, d) = true ∧ l % (c.1.length : Int) = (s : Nat) ∧ ∀ j, j < s * f.length + i → (wayK c f.length j).1 ≠ l) → okB isL treeB c = false) := fun h1 h2 => no_of_upto fun h => by
          rw [← O.out] at h;have := h _ (idx_lt SA L);rw [HW.out, (div_mod_at L).1] at this;rcases this with h | h
          ·rw [h1] at h;cases h
          ·exact h2 h
         have mB : Hid (clearB (l, A, d) = true ∨ (fullB isL (l, A, d) = true ∧ l % (c.1.length : Int) = (s : Nat) ∧ ∀ j, j < s * f.length + i → (wayK c f.length j).1 ≠ l) → UptoOk c f.length (s * f.length + (i + 1))) := fun h => upto_next I (by show clearB (wayK c f.length (s * f.length + i)) = true ∨ (fullB isL (wayK c f.length (s * f.length + i)) = true ∧ (wayK c f.length (s * f.length + i)).1 % (c.1.length : Int) = ((s * f.length + i) / f.length : Nat) ∧ ∀ j, j < s * f.length + i → (wayK c f.length j).1 ≠ (wayK c f.length (s * f.length + i)).1); rw [HW.out, (div_mod_at L).1]; exact h);clear X2 n0 n1 gk x0 x1 x2;cases S : clearB (l, A, d)
         case true =>
          have E : Calls Tryz.prog 58 #[.agg #[nI l, nI A, sL T d.length p]] (wr.alloc (.cells #[nI l, nI A, sL T d.length p] 74)) _ := l6Clear_any l A T d.length p _ AB;rw [clr_eq (l, A, d), S] at E;refine E.mono ?_;rintro e w2 ⟨rfl, b2⟩;replace G := row_keep b2 G;replace D := below_step D b2;clear E b2 BZ Z;go_wp2;go_roundw
          case rel => exact ⟨i + 1, by omega, by go_num, mB.out (.inl S), D, G⟩
          case measure => simp [intOf]; omega
         case false =>
          have E : Calls Tryz.prog 58 #[.agg #[nI l, nI A, sL T d.length p]] (wr.alloc (.cells #[nI l, nI A, sL T d.length p] 74)) _ := l6Clear_any l A T d.length p _ AB;rw [clr_eq (l, A, d), S] at E;refine E.mono ?_;rintro e w2 ⟨rfl, b2⟩;replace G := row_keep b2 G;replace D := below_step D b2;replace Z := row_keep b2 Z;have qA := slrd_next (slrd_next HD.out BZ) b2;clear E b2 BZ HD;obtain ⟨y0, y1, y2⟩ := cells_three Z;go_wp2_with fail
          cases nA : fullB isL (l, A, d)
          case false =>
           have E := l6Full_any l A d T p w2 qA;rw [nA] at E;refine E.mono ?_;rintro e w3 ⟨rfl, b3⟩;replace D := below_step D b3;clear E b3 Z y0 y1 y2 qA G;go_wp2;go_ret
           exact ⟨ret_bool (cB.out S (fun h => by rw [nA] at h; exact absurd h.1 (by simp))).symm, D⟩
          case true =>
           have U := full_line nA;simp only at U
           have hz : (c.1.length : Int) ≠ 0 := by omega
           have E := l6Full_any l A d T p w2 qA;rw [nA] at E;refine E.mono ?_;rintro e w3 ⟨rfl, b3⟩;replace D := below_step D b3;replace G := row_keep b3 G;replace Z := row_keep b3 Z;clear E b3 y0 y1 y2 qA;obtain ⟨y0, y1, y2⟩ := cells_three Z;have oB : Int.tmod l (c.1.length : Int) = l % (c.1.length : Int) := Int.tmod_eq_emod_of_nonneg U.1;by_cases hq : l % (c.1.length : Int) = (s : Nat)
           ·rw [hq] at oB;have HQ : Hid (l % (c.1.length : Int) = (s : Nat)) := hq;go_wp2;go_loopw [7] (fun q wq => ∃ k : Nat, k ≤ i ∧ q = nI k ∧ (∀ j, j < k → (wayK c f.length (s * f.length + j)).1 ≠ l) ∧ Bl w wq ∧ wq.heap[w.heap.size]? = some (.cells #[sL (some ⟨y, r, none⟩) c.1.length cap, sL (some ⟨N, R, none⟩) c.1.length cp] 95 (0, 0)) ∧ wq.heap[wr.heap.size]? = some (.cells #[nI l, nI A, sL T d.length p] 74 (0, 0))) (fun q _ => i - (intOf q).toNat)
            case atStart => exact ⟨0, Nat.zero_le _, rfl, fun j hj => by omega, D, G, Z⟩
            case round =>
             clear D G Z y0 y1 y2;obtain ⟨k, eD, rfl, EB, D, G, Z⟩ := hrel;obtain ⟨y0, y1, y2⟩ := cells_three Z;by_cases sC : k < i
             ·have ZB : (k : Int) < (i : Int) := by omega
              have TC : (k : Int) < (f.length : Int) := by omega
              obtain ⟨v, hv⟩ : ∃ v, f[k]? = some v := ⟨_, List.getElem?_eq_getElem (by omega)⟩;have HV : Hid (wayK c f.length (s * f.length + k) = v) := wayK_at rfl CA.out hv;obtain ⟨oD, lD, cs, e9, bA, g⟩ := slrd_at (slrd_keep jB.out fun k hk => D.block k hk) hv;cases e9;obtain ⟨UC, SC, rfl, -, -, -, -, -⟩ := way_rd bA;have x0 := g 0 _ rfl;rw [show ok + (k * wayR.size + 0) = ok + k * 3 from rfl] at x0;obtain ⟨n0, n1⟩ := cells_two G;obtain ⟨_, gk, _⟩ := KW.out _ D;obtain ⟨l', kD, d'⟩ := v;simp only at x0
              clear g bA hv;by_cases VA : l' = l
              ·subst VA;have cA : Hid (okB isL treeB c = false) := cB.out S fun h => h.2.2 (s * f.length + k) (by omega) (by rw [HV.out]);go_wp2_with fail
               go_quiet (fail)
               go_wp2;go_ret
               exact ⟨ret_bool cA.out.symm, bl_drewN D nq⟩
              ·have NC : (l' == l) = false := by simpa using VA
               go_wp2_with fail
               go_quiet (fail)
               go_wp2;go_roundw
               case rel =>
                refine ⟨k + 1, by omega, by go_num, fun j hj => ?_, bl_drewN D nq, G, Z⟩;by_cases he : j < k
                ·exact EB j he
                ·have : j = k := by omega
                 subst this;rw [HV.out];exact VA
               case measure => simp [intOf]; omega
             ·have gC : k = i := by omega
              subst gC;go_wp2;go_roundw
              case rel => exact ⟨k + 1, by omega, by go_num, mB.out (.inr ⟨nA, HQ.out, upto_row L I U.1 HQ.out EB⟩), D, G⟩
              case measure => simp [intOf]; omega
           ·have cA : Hid (okB isL treeB c = false) := cB.out S fun h => hq h.2.1;have bD : (l % (c.1.length : Int) != (s : Int)) = true := by simpa using hq
            clear oB;go_wp2;go_ret
            exact ⟨ret_bool cA.out.symm, D⟩
        ·have lC : Hid (i = f.length) := by unfold Hid; omega
         have JB : ¬ ((i : Int) < (f.length : Int)) := by omega
         clear L;obtain ⟨n0, n1⟩ := cells_two X2;obtain ⟨_, gk, _⟩ := KW.out _ B2;go_wp2;go_roundw
         case rel =>
          refine ⟨s + 1, by omega, by go_num, fun j hj => ?_, by rw [Nat.add_one_mul]; have := lC.out; rw [this] at I; exact I, B2, X2⟩;by_cases he : j < s
          ·exact GA j he
          ·have : j = s := by omega
           subst this;exact HY.out (by simp) rA
         case measure => simp [intOf]; omega
     ·have aC : ((f.length : Int) != (m : Int)) = true := by simp; omega
      go_wp2_with fail
      refine region_class (fun wx => Bl w wx ∧ wx.heap[w.heap.size]? = some (.cells #[sL (some ⟨y, r, none⟩) c.1.length cap, sL (some ⟨N, R, none⟩) c.1.length cp] 95 (0, 0))) (by kernel_rfl) (by kernel_rfl) ⟨BB.drew, X⟩ ?_;intro Y;iterate 12 (quiet_step (fail))
      clear aC;refine wpQuiet_step (fun K hK => ?_);go_simp
      refine hid_act K _ ?_;intro A0 zB;refine hK A0 ?_;clear hK K;have lB : A0.tmps[49]? = some (.bool true) := by rw [zB]; rfl
      refine wpQuiet_skip (b := false) (d := 49) lB rfl rfl rfl (by decide) ?_;intro BC HA kA;clear lB;refine wpQuiet_skip (b := false) (d := 49) kA rfl rfl rfl (by decide) ?_;intro zC IA jA;clear kA;refine wpQuiet_skip (b := false) (d := 49) jA rfl rfl rfl (by decide) ?_;intro vC UA eA;clear jA;refine wpQuiet_skip (b := false) (d := 49) eA rfl rfl rfl (by decide) ?_;intro KC JA aA;clear eA;refine wpQuiet_skip (b := false) (d := 49) aA rfl rfl rfl (by decide) ?_;intro oC TA fA;clear aA;refine wpQuiet_skip (b := false) (d := 49) fA rfl rfl rfl (by decide) ?_;intro rC eB iA;clear fA;refine wpQuiet_skip (b := false) (d := 49) iA rfl rfl rfl (by decide) ?_;intro nC KA V;clear iA;refine wpQuiet_skip (b := false) (d := 49) V rfl rfl rfl (by decide) ?_;intro AC XA lA;clear V;refine wpQuiet_skip (b := false) (d := 49) lA rfl rfl rfl (by decide) ?_;intro mC RA mA;clear lA;refine wpQuiet_skip (b := false) (d := 49) mA rfl rfl rfl (by decide) ?_;intro CC YA gA;clear mA;refine wpQuiet_skip (b := false) (d := 49) gA rfl rfl rfl (by decide) ?_;intro VB BA J;clear gA;refine wpQuiet_skip (b := false) (d := 49) J rfl rfl rfl (by decide) ?_;intro iC vA sA;clear J sA;subst vA BA YA RA XA KA eB TA JA UA IA HA;subst zB;quiet_step (skip)
      refine wpQuiet_nil ?_;rintro wx ⟨M, yA⟩;clear n0 n1 g0 gk gt BB X Y;go_wp2;go_ret
      exact ⟨ret_bool (HF.out fun h => hm (HN.out h).1).symm, M⟩
    ·have LA : s = c.1.length := by omega
     have H : Hid (okB isL treeB c = true) := yes_of ⟨HP.out, FA.out, by rw [← LA]; exact GA⟩ (by rw [← O.out, ← LA]; exact sB);subst LA;go_wp2;go_ret
     exact ⟨ret_bool H.out.symm, BB⟩
 ·have H : Hid (okB isL treeB c = false) := no_of_shape fun h => hl h.2.1;have YC : ((c.2.length : Int) == (c.1.length : Int)) = false := by simp; omega
  clear h1 h2 m1 m2 m3;go_enter Tryz.func133, Tryz.ntmps133;go_wp2_with (go_at_call 127; refine (l2Pow_any _ _).mono ?_; rintro e F ⟨rfl, rfl⟩; rw [hp])
  go_ret
  exact ⟨ret_bool H.out.symm, HB.out _⟩
end Go.Proofs.YtdamokokcdcedaaGreatDoor
