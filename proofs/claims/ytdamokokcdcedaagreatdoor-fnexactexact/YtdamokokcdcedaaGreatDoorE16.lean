import Derived.Test.YtdamokokcdcedaaGreatDoorE00Box
import Derived.Test.YtdamokokcdcedaaGreatDoorE15
namespace Go.Proofs.YtdamokokcdcedaaGreatDoor
open Go.ChangeShapes Go.WideShapes Go.ChangeAt Go.RowKit Go.Shelf
set_option linter.unusedVariables false
theorem pow_iff (n : Nat) : powB (n : Int) = true ↔ pow3 n := by
 simp only [powB, pow3, decide_eq_true_eq];omega
theorem div_mod_at {m i j : Nat} (hj : j < m) : (i * m + j) / m = i ∧ (i * m + j) % m = j := by
 have a : 0 < m := by omega
 exact ⟨by rw [Nat.mul_comm, Nat.mul_add_div a, Nat.div_eq_of_lt hj, Nat.add_zero], by rw [Nat.mul_comm, Nat.mul_add_mod, Nat.mod_eq_of_lt hj]⟩
theorem idx_lt {s m i j : Nat} (hi : i < s) (hj : j < m) : i * m + j < s * m := by
 have : (i + 1) * m ≤ s * m := Nat.mul_le_mul_right _ hi;rw [Nat.add_one_mul] at this;omega
theorem wayK_at {c : CacheD} {m i j : Nat} {row : List WayD} {u : WayD} (hl : row.length = m) (hr : c.1[i]? = some row) (hu : row[j]? = some u) : wayK c m (i * m + j) = u := by
 have b : j < m := by have := (List.getElem?_eq_some_iff.1 hu).1; omega
 obtain ⟨a, d⟩ := div_mod_at (i := i) b;unfold wayK;rw [a, d];simp [List.getD_eq_getElem?_getD, hr, hu]
theorem ok_link {c : CacheD} : OkC isL treeB c ↔ Shape c ∧ UptoOk c (waysN c) (c.1.length * waysN c) := by
 constructor
 ·rintro ⟨C, K, m, H, p⟩;have b := pow3_pos C;have v := pow3_pos H;have R : waysN c = m := by
   have e : c.1[0]? = some (c.1.getD 0 []) := by rw [List.getD_eq_getElem?_getD, List.getElem?_eq_getElem b]; rfl
   exact (p 0 _ e).1
  rw [R];have q : ∀ a ∈ c.1, a.length = m := fun a hr => by
   obtain ⟨i, f⟩ := List.mem_iff_getElem?.1 hr;exact (p i a f).1
  refine ⟨⟨(pow_iff _).2 C, K, fun i f a t hr E => ?_⟩, fun j hj => ?_⟩
  ·obtain ⟨l, ⟨t', y, X⟩, _⟩ := p i a hr;rw [E] at y;cases y;rw [R];exact ⟨l, X⟩
  ·obtain ⟨a, G, U⟩ := wayK_get v q hj;obtain ⟨_, _, l, y⟩ := p _ a G;rcases l _ _ U with I | ⟨O, g⟩
   ·exact .inl I
   ·refine .inr ⟨O, g, fun i f d => ?_⟩;have hl := full_line O;obtain ⟨z, N, L⟩ := wayK_get v q (show i < c.1.length * m by omega);obtain ⟨_, _, Z, b2⟩ := p _ z N;rcases Z _ _ L with I | ⟨V, F⟩
    ·rw [clear_eq I] at d;simp [emptyW] at d
     omega
    ·rw [d, g] at F;have o : j / m = i / m := by omega
     rw [o, N] at G;cases G;have := b2 _ _ _ _ L U (by omega) d;have d1 := Nat.div_add_mod i m;have d2 := Nat.div_add_mod j m;rw [o, ← this] at d2;omega
 ·rintro ⟨⟨C, K, p⟩, T⟩;have M := (pow_iff _).1 C;have b := pow3_pos M;have e0 : c.1[0]? = some (c.1.getD 0 []) := by rw [List.getD_eq_getElem?_getD, List.getElem?_eq_getElem b]; rfl
  obtain ⟨t0, J⟩ : ∃ t, c.2[0]? = some t := ⟨_, List.getElem?_eq_getElem (by omega)⟩;have H : pow3 (waysN c) := by
   have := tree_pow (p 0 b _ _ e0 J).2;unfold pow3;omega
  refine ⟨M, K, waysN c, H, fun s a g => ?_⟩;have r := (List.getElem?_eq_some_iff.1 g).1;obtain ⟨t, E⟩ : ∃ t, c.2[s]? = some t := ⟨_, List.getElem?_eq_getElem (by omega)⟩;obtain ⟨l, y⟩ := p s r a t g E;refine ⟨l, ⟨t, E, y⟩, fun i u n => ?_, fun i k u x n B S d => ?_⟩
  ·have f : i < waysN c := by have := (List.getElem?_eq_some_iff.1 n).1; omega
   have := T _ (idx_lt r f);rw [wayK_at l g n, (div_mod_at f).1] at this;rcases this with h | ⟨h, Y, _⟩
   ·exact .inl h
   ·exact .inr ⟨h, Y⟩
  ·have f : i < waysN c := by have := (List.getElem?_eq_some_iff.1 n).1; omega
   have D : k < waysN c := by have := (List.getElem?_eq_some_iff.1 B).1; omega
   have A : ∀ (i k : Nat) (u x : WayD), a[i]? = some u → a[k]? = some x → 0 ≤ u.1 → u.1 = x.1 → i < waysN c → k < waysN c → ¬ i < k := by
    intro i k u x n B S d f D bA;have := T _ (idx_lt r D);rw [wayK_at l g B] at this;rcases this with h | ⟨_, _, h⟩
    ·rw [clear_eq h] at d;simp [emptyW] at d
     omega
    ·have := h (s * waysN c + i) (by omega);rw [wayK_at l g n] at this;exact this d
   have k1 := A i k u x n B S d f D;have k2 := A k i x u B n (by omega) d.symm D f;omega
theorem ok_eq (c : CacheD) : okB isL treeB c = (shapeB c && waysB c (waysN c)) := by
 rw [Bool.eq_iff_iff, okB_iff, ok_link, Bool.and_eq_true];simp [shapeB, waysB]
theorem shape_facts {c : CacheD} (h : shapeB c = true) : Shape c ∧ (c.1.length = 1 ∨ c.1.length = 2 ∨ c.1.length = 4) ∧ (waysN c = 1 ∨ waysN c = 2 ∨ waysN c = 4) ∧ ∀ row ∈ c.1, row.length = waysN c := by
 have l : Shape c := by simpa [shapeB] using h
 obtain ⟨k, n, d⟩ := l;have j := (pow_iff _).1 k;have a := pow3_pos j;have m : c.1[0]? = some (c.1.getD 0 []) := by rw [List.getD_eq_getElem?_getD, List.getElem?_eq_getElem a]; rfl
 obtain ⟨t0, b⟩ : ∃ t, c.2[0]? = some t := ⟨_, List.getElem?_eq_getElem (by omega)⟩;have hm := tree_pow (d 0 a _ _ m b).2;refine ⟨⟨k, n, d⟩, j, by omega, fun row hr => ?_⟩;obtain ⟨i, g⟩ := List.mem_iff_getElem?.1 hr;have f := (List.getElem?_eq_some_iff.1 g).1;obtain ⟨t, o⟩ : ∃ t, c.2[i]? = some t := ⟨_, List.getElem?_eq_getElem (by omega)⟩;exact (d i f row t g o).1
set_option maxHeartbeats 400000 in
theorem implCacheOk_any (a b : Option Addr) (c : CacheD) (cap cp : Nat) (w : World) (h1 : SlRd waysR w a c.1) (h2 : SlRd intR w b c.2) (m1 : c.1.length ≤ maxLen) (m2 : c.2.length ≤ maxLen) (m3 : ∀ row ∈ c.1, row.length ≤ maxLen) :
    Calls Tryz.prog 231 #[.agg #[sL a c.1.length cap, sL b c.2.length cp]] w fun e f => e = .returned (.bool (okB isL treeB c)) ∧ Bl w f := by
 rw [ok_eq];have X := heap_at w (.cells #[sL a c.1.length cap, sL b c.2.length cp] 95);have B := box_below w (.cells #[sL a c.1.length cap, sL b c.2.length cp] 95);have d := shapeOk_any a b c cap cp (w.alloc (.cells #[sL a c.1.length cap, sL b c.2.length cp] 95)) (slrd_next h1 B) (slrd_next h2 B) m1 m2 m3;have q : Hid _ := h1;clear h1 h2 m1 m2 m3;cases g : shapeB c
 ·rw [g] at d;go_enter Tryz.func231, Tryz.ntmps231;go_wp2_with (go_at_call 256; refine d.mono ?_; rintro e f ⟨rfl, s⟩)
  go_ret
  exact ⟨rfl, below_step B s⟩
 ·rw [g] at d;obtain ⟨_, m, l, p⟩ := shape_facts g;have o : Hid (∀ W, Bl w W → Calls Tryz.prog 257 #[.agg #[sL a c.1.length cap, sL b c.2.length cp]] W fun e f => e = .returned (.bool (waysB c (waysN c))) ∧ Bl W f) :=
   fun W hb => waysOk_any a b c cap cp (waysN c) W (slrd_keep q.out fun k hk => hb.block k hk) m l p
  clear m l p;go_enter Tryz.func231, Tryz.ntmps231;go_wp2_with fail
  refine d.mono ?_;rintro e w1 ⟨rfl, i⟩;have j := below_step B i;obtain ⟨r, v⟩ := cells_two (row_keep i X);go_wp2_with fail
  refine (o.out _ j).mono ?_;rintro e w2 ⟨rfl, n⟩;have y := below_step j n;clear i j n r v X B d o;go_wp2
  all_goals go_ret
  all_goals exact ⟨by simp_all, y⟩
theorem upto_row {c : CacheD} {m s i : Nat} (hm : i < m) (h : UptoOk c m (s * m + i)) {l : Int} (h0 : 0 ≤ l) (hs : l % (c.1.length : Int) = (s : Nat)) (hno : ∀ k, k < i → (wayK c m (s * m + k)).1 ≠ l) : ∀ j, j < s * m + i → (wayK c m j).1 ≠ l := by
 intro j b a;by_cases hr : s * m ≤ j
 ·exact hno (j - s * m) (by omega) (by rw [show s * m + (j - s * m) = j by omega]; exact a)
 ·have g : j / m < s := by rw [Nat.div_lt_iff_lt_mul (by omega)]; omega
  rcases h j b with d | ⟨_, f, _⟩
  ·rw [clear_eq d] at a;simp [emptyW] at a
   omega
  ·rw [a, hs] at f;omega
theorem no_of_upto {c : CacheD} (h : ¬ UptoOk c (waysN c) (c.1.length * waysN c)) : okB isL treeB c = false := by
 rw [ok_eq, waysB_no h, Bool.and_false]
theorem no_of_shape {c : CacheD} (h : ¬ Shape c) : okB isL treeB c = false := by
 rw [ok_eq, shape_no h, Bool.false_and]
theorem yes_of {c : CacheD} (h : Shape c) (h' : UptoOk c (waysN c) (c.1.length * waysN c)) : okB isL treeB c = true := by
 rw [ok_eq, shape_yes h, waysB_yes h', Bool.and_true]
set_option maxHeartbeats 4000000 in
set_option maxRecDepth 100000 in
theorem specCacheOk_any (a b : Option Addr) (c : CacheD) (cap cp : Nat) (w : World) (h1 : SlRd waysR w a c.1) (h2 : SlRd intR w b c.2) (m1 : c.1.length ≤ maxLen) (m2 : c.2.length ≤ maxLen) (m3 : ∀ f ∈ c.1, f.length ≤ maxLen) :
    Calls Tryz.prog 133 #[.agg #[sL a c.1.length cap, sL b c.2.length cp]] w fun e F => e = .returned (.bool (okB isL treeB c)) ∧ Bl w F := by
 have fD : c.1.length ≤ 9223372036854775807 := m1;have bD : c.2.length ≤ 9223372036854775807 := m2;have HB : Hid _ := box_below w;cases hp : powB c.1.length
 ·have H : Hid (okB isL treeB c = false) := no_of_shape fun h => by rw [h.1] at hp; cases hp
  clear h1 h2 m1 m2 m3;go_enter Tryz.func133, Tryz.ntmps133;go_wp2_with (go_at_call 127; refine (l2Pow_any _ _).mono ?_; rintro e F ⟨rfl, rfl⟩; rw [hp])
  go_ret
  exact ⟨ret_bool H.out.symm, HB.out _⟩
 by_cases hl : c.2.length = c.1.length
 ·rw [hl];have AB : 0 < c.1.length := by simp [powB] at hp; omega
  have JA : c.1[0]? = some (c.1.getD 0 []) := by rw [List.getD_eq_getElem?_getD, List.getElem?_eq_getElem AB]; rfl
  have YA : (c.1.getD 0 []).length ≤ maxLen := m3 _ (List.mem_of_getElem? JA);obtain ⟨r, y, a0, c0, rfl, g0, -, -, -⟩ := set_at h1 JA;have O : Hid ((c.1.getD 0 []).length = waysN c) := rfl;have G0 : Hid (w.cell? ⟨r, y + 0, none⟩ = some (sL a0 (c.1.getD 0 []).length c0)) := g0;have EB : Hid (Shape c → powB (waysN c) = true) := fun h => by
   obtain ⟨_, _, f2, _⟩ := shape_facts (shape_yes h);simp [powB]
   omega
  have l1 := cell_lt g0;clear g0 JA;generalize (c.1.getD 0 []).length = m at YA O G0;have HC : m ≤ 9223372036854775807 := YA;cases V : powB m
  ·have H : Hid (okB isL treeB c = false) := no_of_shape fun h => by have := EB.out h; rw [← O.out, V] at this; cases this
   have g0 : ∀ o, (w.alloc o).cell? ⟨r, y, none⟩ = some (sL a0 m c0) := fun o => cell_keep (box_below w o) G0.out l1;clear h1 h2 m1 m2 m3;go_enter Tryz.func133, Tryz.ntmps133;go_wp2_with (go_at_call 127; refine (l2Pow_any _ _).mono ?_; rintro e F ⟨rfl, rfl⟩; first | rw [hp] | rw [V])
   go_ret
   exact ⟨ret_bool H.out.symm, HB.out _⟩
  ·have X0 := heap_at w (.cells #[sL (some ⟨r, y, none⟩) c.1.length cap, sL b c.1.length cp] 95);have B0 := box_below w (.cells #[sL (some ⟨r, y, none⟩) c.1.length cap, sL b c.1.length cp] 95);have g0 : ∀ o, (w.alloc o).cell? ⟨r, y, none⟩ = some (sL a0 m c0) := fun o => cell_keep (box_below w o) G0.out l1;have H1 : Hid _ := h1;have H2 : Hid _ := h2;have HM : Hid (∀ f ∈ c.1, f.length ≤ maxLen) := m3;have EA : Hid (c.2.length = c.1.length) := hl;have HP : Hid (powB c.1.length = true) := hp;have oD : Hid (powB m = true) := V;clear h1 h2 m1 m2 m3 hl EB;go_enter Tryz.func133, Tryz.ntmps133;go_wp2_with (go_at_call 127; refine (l2Pow_any _ _).mono ?_; rintro e F ⟨rfl, rfl⟩; first | rw [hp] | rw [V])
   clear g0 hp V;generalize w.alloc (.cells #[sL (some ⟨r, y, none⟩) c.1.length cap, sL b c.1.length cp] 95) = W0 at X0 B0 ⊢;go_loopw [4] (fun i wr => ∃ k : Nat, k ≤ c.1.length ∧ i = nI k ∧ (∀ j, j < k → RowFit c j) ∧ UptoOk c m (k * m) ∧ Bl w wr ∧ wr.heap[w.heap.size]? = some (.cells #[sL (some ⟨r, y, none⟩) c.1.length cap, sL b c.1.length cp] 95 (0, 0))) (fun i _ => c.1.length - (intOf i).toNat)
   case atStart => exact ⟨0, Nat.zero_le _, rfl, fun j hj => by omega, fun j hj => by omega, B0, X0⟩
   case round =>
    clear B0 X0;obtain ⟨s, hk, rfl, CA, mB, BB, X⟩ := hrel;by_cases dB : s < c.1.length
    ·have yC : (s : Int) < (c.1.length : Int) := by omega
     obtain ⟨f, B⟩ : ∃ f, c.1[s]? = some f := ⟨_, List.getElem?_eq_getElem dB⟩;obtain ⟨t, ht⟩ : ∃ t, c.2[s]? = some t := ⟨_, List.getElem?_eq_getElem (by have := EA.out; omega)⟩;obtain ⟨_, _, ak, ck, e1, gk, -, -, DA⟩ := set_at H1.out B;cases e1;obtain ⟨M, S, rfl, gt⟩ := int_at H2.out ht;have DB : f.length ≤ maxLen := HM.out _ (List.mem_of_getElem? B);have l2 := cell_lt gt;have KW : Hid (∀ F, Bl w F → F.cell? ⟨r, y, none⟩ = some (sL a0 m c0) ∧ F.cell? ⟨r, y + s, none⟩ = some (sL ak f.length ck) ∧ F.cell? ⟨M, S + s, none⟩ = some (nI t)) :=
      fun F hb => ⟨cell_keep hb G0.out l1, cell_keep hb gk l1, cell_keep hb gt l2⟩
     have HR : Hid (∀ r' t', c.1[s]? = some r' → c.2[s]? = some t' → r' = f ∧ t' = t) := fun r' t' h h' => by rw [B] at h; rw [ht] at h'; cases h; cases h'; exact ⟨rfl, rfl⟩
     have HF : Hid (¬ RowFit c s → okB isL treeB c = false) := fun h => no_of_shape fun z => h (z.2.2 s dB);have HN : Hid (RowFit c s → f.length = m ∧ treeB t m = true) := fun h => by have := h f t B ht; rwa [← O.out] at this
     have HY : Hid (f.length = m → treeB t m = true → RowFit c s) := fun e1 e2 r' t' h h' => by obtain ⟨rfl, rfl⟩ := HR.out r' t' h h'; rw [← O.out]; exact ⟨e1, e2⟩
     have GA : Hid (c.1[s]? = some f) := B;have iB : Hid (SlRd wayR w ak f) := DA;have zC : f.length ≤ 9223372036854775807 := DB;clear gk gt B ht DB YA G0 DA HR;have n0 : ∀ n : Cls (fun wx => Bl w wx ∧ wx.heap[w.heap.size]? = some (.cells #[sL (some ⟨r, y, none⟩) c.1.length cap, sL (some ⟨M, S, none⟩) c.1.length cp] 95 (0, 0))), n.w.cell? ⟨w.heap.size, 0, none⟩ = some (sL (some ⟨r, y, none⟩) c.1.length cap) := fun n => (cells_two n.h.2).1;have n1 : ∀ n : Cls (fun wx => Bl w wx ∧ wx.heap[w.heap.size]? = some (.cells #[sL (some ⟨r, y, none⟩) c.1.length cap, sL (some ⟨M, S, none⟩) c.1.length cp] 95 (0, 0))), n.w.cell? ⟨w.heap.size, 1, none⟩ = some (sL (some ⟨M, S, none⟩) c.1.length cp) := fun n => (cells_two n.h.2).2;have g0 : ∀ n : Cls (fun wx => Bl w wx ∧ wx.heap[w.heap.size]? = some (.cells #[sL (some ⟨r, y, none⟩) c.1.length cap, sL (some ⟨M, S, none⟩) c.1.length cp] 95 (0, 0))), n.w.cell? ⟨r, y, none⟩ = some (sL a0 m c0) := fun n => (KW.out _ n.h.1).1;have gk : ∀ n : Cls (fun wx => Bl w wx ∧ wx.heap[w.heap.size]? = some (.cells #[sL (some ⟨r, y, none⟩) c.1.length cap, sL (some ⟨M, S, none⟩) c.1.length cp] 95 (0, 0))), n.w.cell? ⟨r, y + s, none⟩ = some (sL ak f.length ck) := fun n => (KW.out _ n.h.1).2.1;have gt : ∀ n : Cls (fun wx => Bl w wx ∧ wx.heap[w.heap.size]? = some (.cells #[sL (some ⟨r, y, none⟩) c.1.length cap, sL (some ⟨M, S, none⟩) c.1.length cp] 95 (0, 0))), n.w.cell? ⟨M, S + s, none⟩ = some (nI t) := fun n => (KW.out _ n.h.1).2.2;by_cases hm : f.length = m
     ·subst hm;cases AA : treeB t f.length
      ·have C : Hid (∀ w, Calls Tryz.prog 186 #[nI t, nI f.length] w fun e F => e = .returned (.bool false) ∧ F = w) := fun w => by have := specTreeOk_any t f.length w; rwa [AA] at this
       go_wp2_with fail
       refine region_class (fun wx => Bl w wx ∧ wx.heap[w.heap.size]? = some (.cells #[sL (some ⟨r, y, none⟩) c.1.length cap, sL (some ⟨M, S, none⟩) c.1.length cp] 95 (0, 0))) (by kernel_rfl) (by kernel_rfl) ⟨BB.drew, X⟩ ?_;intro bA;repeat (quiet_step ((go_at_call 186; exact calls_class_same (C.out _))))
       refine wpQuiet_nil ?_;rintro wx ⟨N, zA⟩;clear n0 n1 g0 gk gt BB X bA;go_wp2;go_ret
       exact ⟨ret_bool (HF.out fun h => by have := (HN.out h).2; rw [AA] at this; cases this).symm, N⟩
      ·have C : Hid (∀ w, Calls Tryz.prog 186 #[nI t, nI f.length] w fun e F => e = .returned (.bool true) ∧ F = w) := fun w => by have := specTreeOk_any t f.length w; rwa [AA] at this
       go_wp2_with fail
       refine region_class (fun wx => Bl w wx ∧ wx.heap[w.heap.size]? = some (.cells #[sL (some ⟨r, y, none⟩) c.1.length cap, sL (some ⟨M, S, none⟩) c.1.length cp] 95 (0, 0))) (by kernel_rfl) (by kernel_rfl) ⟨BB.drew, X⟩ ?_;intro bA;repeat (quiet_step ((go_at_call 186; exact calls_class_same (C.out _))))
       refine wpQuiet_nil ?_;rintro wx ⟨N, zA⟩;clear n0 n1 g0 gk gt BB X bA C;go_wp2;go_loopw [5] (fun i wr => ∃ k : Nat, k ≤ f.length ∧ i = nI k ∧ UptoOk c f.length (s * f.length + k) ∧ Bl w wr ∧ wr.heap[w.heap.size]? = some (.cells #[sL (some ⟨r, y, none⟩) c.1.length cap, sL (some ⟨M, S, none⟩) c.1.length cp] 95 (0, 0))) (fun i _ => f.length - (intOf i).toNat)
       case atStart => exact ⟨0, Nat.zero_le _, rfl, by simpa using mB, N, zA⟩
       case round =>
        clear N zA;obtain ⟨i, hi, rfl, I, B2, X2⟩ := hrel;by_cases L : i < f.length
        ·have oB : (i : Int) < (f.length : Int) := by omega
         obtain ⟨u, hu⟩ : ∃ u, f[i]? = some u := ⟨_, List.getElem?_eq_getElem L⟩;have HW : Hid (wayK c f.length (s * f.length + i) = u) := wayK_at rfl GA.out hu;obtain ⟨bk, ok, cs, rfl, mA, g⟩ := slrd_at (slrd_keep iB.out fun k hk => B2.block k hk) hu;obtain ⟨T, p, rfl, -, -, jB, vB, rB⟩ := way_rd mA;have x0 := g 0 _ rfl;have x1 := g 1 _ rfl;have x2 := g 2 _ rfl;rw [show ok + (i * wayR.size + 0) = ok + i * 3 from rfl] at x0;rw [show ok + (i * wayR.size + 1) = ok + i * 3 + 1 from rfl] at x1;rw [show ok + (i * wayR.size + 2) = ok + i * 3 + 2 from rfl] at x2;obtain ⟨l, A, d⟩ := u;obtain ⟨n0, n1⟩ := cells_two X2;obtain ⟨_, gk, _⟩ := KW.out _ B2;have HD : Hid _ := rB;have nB : d.length ≤ maxLen := Nat.le_trans jB vB;clear g mA hu jB vB rB;simp only at x0 x1 x2
         go_wp2_with fail
         have BZ := box_below wr (.cells #[nI l, nI A, sL T d.length p] 74);have Z := heap_at wr (.cells #[nI l, nI A, sL T d.length p] 74);have G := heap_on (.cells #[nI l, nI A, sL T d.length p] 74) X2;have D := below_step B2 BZ;have aB : Hid (clearB (l, A, d) = false → ¬ (fullB isL (l, A, d) = true ∧ l % (c.1.length : Int) = (s : Nat) ∧ ∀ j, j < s * f.length + i → (wayK c f.length j).1 ≠ l) → okB isL treeB c = false) := fun h1 h2 => no_of_upto fun h => by
          rw [← O.out] at h;have := h _ (idx_lt dB L);rw [HW.out, (div_mod_at L).1] at this;rcases this with h | h
          ·rw [h1] at h;cases h
          ·exact h2 h
         have yB : Hid (clearB (l, A, d) = true ∨ (fullB isL (l, A, d) = true ∧ l % (c.1.length : Int) = (s : Nat) ∧ ∀ j, j < s * f.length + i → (wayK c f.length j).1 ≠ l) → UptoOk c f.length (s * f.length + (i + 1))) := fun h => upto_next I (by show clearB (wayK c f.length (s * f.length + i)) = true ∨ (fullB isL (wayK c f.length (s * f.length + i)) = true ∧ (wayK c f.length (s * f.length + i)).1 % (c.1.length : Int) = ((s * f.length + i) / f.length : Nat) ∧ ∀ j, j < s * f.length + i → (wayK c f.length j).1 ≠ (wayK c f.length (s * f.length + i)).1); rw [HW.out, (div_mod_at L).1]; exact h);clear X2 n0 n1 gk x0 x1 x2;cases R : clearB (l, A, d)
         case true =>
          have E : Calls Tryz.prog 58 #[.agg #[nI l, nI A, sL T d.length p]] (wr.alloc (.cells #[nI l, nI A, sL T d.length p] 74)) _ := l6Clear_any l A T d.length p _ nB;rw [clr_eq (l, A, d), R] at E;refine E.mono ?_;rintro e w2 ⟨rfl, b2⟩;replace G := row_keep b2 G;replace D := below_step D b2;clear E b2 BZ Z;go_wp2;go_roundw
          case rel => exact ⟨i + 1, by omega, by go_num, yB.out (.inl R), D, G⟩
          case measure => simp [intOf]; omega
         case false =>
          have E : Calls Tryz.prog 58 #[.agg #[nI l, nI A, sL T d.length p]] (wr.alloc (.cells #[nI l, nI A, sL T d.length p] 74)) _ := l6Clear_any l A T d.length p _ nB;rw [clr_eq (l, A, d), R] at E;refine E.mono ?_;rintro e w2 ⟨rfl, b2⟩;replace G := row_keep b2 G;replace D := below_step D b2;replace Z := row_keep b2 Z;have qA := slrd_next (slrd_next HD.out BZ) b2;clear E b2 BZ HD;obtain ⟨y0, y1, y2⟩ := cells_three Z;go_wp2_with fail
          cases lA : fullB isL (l, A, d)
          case false =>
           have E := l6Full_any l A d T p w2 qA;rw [lA] at E;refine E.mono ?_;rintro e w3 ⟨rfl, b3⟩;replace D := below_step D b3;clear E b3 Z y0 y1 y2 qA G;go_wp2;go_ret
           exact ⟨ret_bool (aB.out R (fun h => by rw [lA] at h; exact absurd h.1 (by simp))).symm, D⟩
          case true =>
           have U := full_line lA;simp only at U
           have hz : (c.1.length : Int) ≠ 0 := by omega
           have E := l6Full_any l A d T p w2 qA;rw [lA] at E;refine E.mono ?_;rintro e w3 ⟨rfl, b3⟩;replace D := below_step D b3;replace G := row_keep b3 G;replace Z := row_keep b3 Z;clear E b3 y0 y1 y2 qA;obtain ⟨y0, y1, y2⟩ := cells_three Z;have sB : Int.tmod l (c.1.length : Int) = l % (c.1.length : Int) := Int.tmod_eq_emod_of_nonneg U.1;by_cases hq : l % (c.1.length : Int) = (s : Nat)
           ·rw [hq] at sB;have HQ : Hid (l % (c.1.length : Int) = (s : Nat)) := hq;go_wp2;go_loopw [7] (fun q wq => ∃ k : Nat, k ≤ i ∧ q = nI k ∧ (∀ j, j < k → (wayK c f.length (s * f.length + j)).1 ≠ l) ∧ Bl w wq ∧ wq.heap[w.heap.size]? = some (.cells #[sL (some ⟨r, y, none⟩) c.1.length cap, sL (some ⟨M, S, none⟩) c.1.length cp] 95 (0, 0)) ∧ wq.heap[wr.heap.size]? = some (.cells #[nI l, nI A, sL T d.length p] 74 (0, 0))) (fun q _ => i - (intOf q).toNat)
            case atStart => exact ⟨0, Nat.zero_le _, rfl, fun j hj => by omega, D, G, Z⟩
            case round =>
             clear D G Z y0 y1 y2;obtain ⟨k, jD, rfl, kB, D, G, Z⟩ := hrel;obtain ⟨y0, y1, y2⟩ := cells_three Z;by_cases OC : k < i
             ·have aC : (k : Int) < (i : Int) := by omega
              have TC : (k : Int) < (f.length : Int) := by omega
              obtain ⟨v, hv⟩ : ∃ v, f[k]? = some v := ⟨_, List.getElem?_eq_getElem (by omega)⟩;have HV : Hid (wayK c f.length (s * f.length + k) = v) := wayK_at rfl GA.out hv;obtain ⟨YC, eD, cs, e9, mA, g⟩ := slrd_at (slrd_keep iB.out fun k hk => D.block k hk) hv;cases e9;obtain ⟨nD, rC, rfl, -, -, -, -, -⟩ := way_rd mA;have x0 := g 0 _ rfl;rw [show ok + (k * wayR.size + 0) = ok + k * 3 from rfl] at x0;obtain ⟨n0, n1⟩ := cells_two G;obtain ⟨_, gk, _⟩ := KW.out _ D;obtain ⟨l', kD, d'⟩ := v;simp only at x0
              clear g mA hv;by_cases SA : l' = l
              ·subst SA;have nA : Hid (okB isL treeB c = false) := aB.out R fun h => h.2.2 (s * f.length + k) (by omega) (by rw [HV.out]);go_wp2_with fail
               go_quiet (fail)
               go_wp2;go_ret
               exact ⟨ret_bool nA.out.symm, bl_drewN D nq⟩
              ·have mC : (l' == l) = false := by simpa using SA
               go_wp2_with fail
               go_quiet (fail)
               go_wp2;go_roundw
               case rel =>
                refine ⟨k + 1, by omega, by go_num, fun j hj => ?_, bl_drewN D nq, G, Z⟩;by_cases he : j < k
                ·exact kB j he
                ·have : j = k := by omega
                 subst this;rw [HV.out];exact SA
               case measure => simp [intOf]; omega
             ·have jC : k = i := by omega
              subst jC;go_wp2;go_roundw
              case rel => exact ⟨k + 1, by omega, by go_num, yB.out (.inr ⟨lA, HQ.out, upto_row L I U.1 HQ.out kB⟩), D, G⟩
              case measure => simp [intOf]; omega
           ·have nA : Hid (okB isL treeB c = false) := aB.out R fun h => hq h.2.1;have VC : (l % (c.1.length : Int) != (s : Int)) = true := by simpa using hq
            clear sB;go_wp2;go_ret
            exact ⟨ret_bool nA.out.symm, D⟩
        ·have XB : Hid (i = f.length) := by unfold Hid; omega
         have oB : ¬ ((i : Int) < (f.length : Int)) := by omega
         clear L;obtain ⟨n0, n1⟩ := cells_two X2;obtain ⟨_, gk, _⟩ := KW.out _ B2;go_wp2;go_roundw
         case rel =>
          refine ⟨s + 1, by omega, by go_num, fun j hj => ?_, by rw [Nat.add_one_mul]; have := XB.out; rw [this] at I; exact I, B2, X2⟩;by_cases he : j < s
          ·exact CA j he
          ·have : j = s := by omega
           subst this;exact HY.out (by simp) AA
         case measure => simp [intOf]; omega
     ·have dC : ((f.length : Int) != (m : Int)) = true := by simp; omega
      go_wp2_with fail
      refine region_class (fun wx => Bl w wx ∧ wx.heap[w.heap.size]? = some (.cells #[sL (some ⟨r, y, none⟩) c.1.length cap, sL (some ⟨M, S, none⟩) c.1.length cp] 95 (0, 0))) (by kernel_rfl) (by kernel_rfl) ⟨BB.drew, X⟩ ?_;intro bA;iterate 12 (quiet_step (fail))
      clear dC;refine wpQuiet_step (fun K hK => ?_);go_simp
      refine hid_act K _ ?_;intro A0 lB;refine hK A0 ?_;clear hK K;have pB : A0.tmps[49]? = some (.bool true) := by rw [lB]; rfl
      refine wpQuiet_skip (b := false) (d := 49) pB rfl rfl rfl (by decide) ?_;intro SC TA kA;clear pB;refine wpQuiet_skip (b := false) (d := 49) kA rfl rfl rfl (by decide) ?_;intro RC cB dA;clear kA;refine wpQuiet_skip (b := false) (d := 49) dA rfl rfl rfl (by decide) ?_;intro GC LA eA;clear dA;refine wpQuiet_skip (b := false) (d := 49) eA rfl rfl rfl (by decide) ?_;intro EC VA gA;clear eA;refine wpQuiet_skip (b := false) (d := 49) gA rfl rfl rfl (by decide) ?_;intro vC UA cA;clear gA;refine wpQuiet_skip (b := false) (d := 49) cA rfl rfl rfl (by decide) ?_;intro nC ZA iA;clear cA;refine wpQuiet_skip (b := false) (d := 49) iA rfl rfl rfl (by decide) ?_;intro DC OA fA;clear iA;refine wpQuiet_skip (b := false) (d := 49) fA rfl rfl rfl (by decide) ?_;intro NC XA jA;clear fA;refine wpQuiet_skip (b := false) (d := 49) jA rfl rfl rfl (by decide) ?_;intro AC HA Y;clear jA;refine wpQuiet_skip (b := false) (d := 49) Y rfl rfl rfl (by decide) ?_;intro qC bB aA;clear Y;refine wpQuiet_skip (b := false) (d := 49) aA rfl rfl rfl (by decide) ?_;intro fC sA J;clear aA;refine wpQuiet_skip (b := false) (d := 49) J rfl rfl rfl (by decide) ?_;intro iC rA BA;clear J BA;subst rA sA bB HA XA OA ZA UA VA LA cB TA;subst lB;quiet_step (skip)
      refine wpQuiet_nil ?_;rintro wx ⟨N, zA⟩;clear n0 n1 g0 gk gt BB X bA;go_wp2;go_ret
      exact ⟨ret_bool (HF.out fun h => hm (HN.out h).1).symm, N⟩
    ·have IA : s = c.1.length := by omega
     have H : Hid (okB isL treeB c = true) := yes_of ⟨HP.out, EA.out, by rw [← IA]; exact CA⟩ (by rw [← O.out, ← IA]; exact mB);subst IA;go_wp2;go_ret
     exact ⟨ret_bool H.out.symm, BB⟩
 ·have H : Hid (okB isL treeB c = false) := no_of_shape fun h => hl h.2.1;have dD : ((c.2.length : Int) == (c.1.length : Int)) = false := by simp; omega
  clear h1 h2 m1 m2 m3;go_enter Tryz.func133, Tryz.ntmps133;go_wp2_with (go_at_call 127; refine (l2Pow_any _ _).mono ?_; rintro e F ⟨rfl, rfl⟩; rw [hp])
  go_ret
  exact ⟨ret_bool H.out.symm, HB.out _⟩
end Go.Proofs.YtdamokokcdcedaaGreatDoor
