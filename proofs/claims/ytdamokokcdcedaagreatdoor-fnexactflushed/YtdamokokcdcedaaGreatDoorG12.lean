import Derived.Test.YtdamokokcdcedaaGreatDoorG00Box
import Derived.Test.YtdamokokcdcedaaGreatDoorG11
namespace Go.Proofs.YtdamokokcdcedaaGreatDoor
open Go.ChangeShapes Go.WideShapes Go.ChangeAt Go.RowKit Go.Shelf
set_option linter.unusedVariables false
theorem pow_iff (n : Nat) : powB (n : Int) = true ↔ pow3 n := by
 simp only [powB, pow3, decide_eq_true_eq];omega
theorem div_mod_at {m i j : Nat} (hj : j < m) : (i * m + j) / m = i ∧ (i * m + j) % m = j := by
 have a : 0 < m := by omega
 exact ⟨by rw [Nat.mul_comm, Nat.mul_add_div a, Nat.div_eq_of_lt hj, Nat.add_zero], by rw [Nat.mul_comm, Nat.mul_add_mod, Nat.mod_eq_of_lt hj]⟩
theorem idx_lt {s m i j : Nat} (hi : i < s) (hj : j < m) : i * m + j < s * m := by
 have : (i + 1) * m ≤ s * m := Nat.mul_le_mul_right _ hi;rw [Nat.add_one_mul] at this;omega
theorem wayK_at {c : CacheD} {m i j : Nat} {row : List WayD} {u : WayD} (hl : row.length = m) (hr : c.1[i]? = some row) (hu : row[j]? = some u) : wayK c m (i * m + j) = u := by
 have b : j < m := by have := (List.getElem?_eq_some_iff.1 hu).1; omega
 obtain ⟨d, a⟩ := div_mod_at (i := i) b;unfold wayK;rw [d, a];simp [List.getD_eq_getElem?_getD, hr, hu]
theorem ok_link {c : CacheD} : OkC isL treeB c ↔ Shape c ∧ UptoOk c (waysN c) (c.1.length * waysN c) := by
 constructor
 ·rintro ⟨C, K, m, G, l⟩;have b := pow3_pos C;have y := pow3_pos G;have O : waysN c = m := by
   have e : c.1[0]? = some (c.1.getD 0 []) := by rw [List.getD_eq_getElem?_getD, List.getElem?_eq_getElem b]; rfl
   exact (l 0 _ e).1
  rw [O];have n : ∀ a ∈ c.1, a.length = m := fun a hr => by
   obtain ⟨i, f⟩ := List.mem_iff_getElem?.1 hr;exact (l i a f).1
  refine ⟨⟨(pow_iff _).2 C, K, fun i f a t hr E => ?_⟩, fun j hj => ?_⟩
  ·obtain ⟨q, ⟨t', A, a3⟩, _⟩ := l i a hr;rw [E] at A;cases A;rw [O];exact ⟨q, a3⟩
  ·obtain ⟨a, H, L⟩ := wayK_get y n hj;obtain ⟨_, _, q, A⟩ := l _ a H;rcases q _ _ L with I | ⟨N, o⟩
   ·exact .inl I
   ·refine .inr ⟨N, o, fun i f d => ?_⟩;have hl := full_line N;obtain ⟨v, U, R⟩ := wayK_get y n (show i < c.1.length * m by omega);obtain ⟨_, _, Z, X⟩ := l _ v U;rcases Z _ _ R with I | ⟨aA, F⟩
    ·rw [clear_eq I] at d;simp [emptyW] at d
     omega
    ·rw [d, o] at F;have p : j / m = i / m := by omega
     rw [p, U] at H;cases H;have := X _ _ _ _ R L (by omega) d;have d1 := Nat.div_add_mod i m;have Y := Nat.div_add_mod j m;rw [p, ← this] at Y;omega
 ·rintro ⟨⟨C, K, l⟩, T⟩;have M := (pow_iff _).1 C;have b := pow3_pos M;have V : c.1[0]? = some (c.1.getD 0 []) := by rw [List.getD_eq_getElem?_getD, List.getElem?_eq_getElem b]; rfl
  obtain ⟨t0, J⟩ : ∃ t, c.2[0]? = some t := ⟨_, List.getElem?_eq_getElem (by omega)⟩;have G : pow3 (waysN c) := by
   have := tree_pow (l 0 b _ _ V J).2;unfold pow3;omega
  refine ⟨M, K, waysN c, G, fun s a o => ?_⟩;have r := (List.getElem?_eq_some_iff.1 o).1;obtain ⟨t, E⟩ : ∃ t, c.2[s]? = some t := ⟨_, List.getElem?_eq_getElem (by omega)⟩;obtain ⟨q, A⟩ := l s r a t o E;refine ⟨q, ⟨t, E, A⟩, fun i u g => ?_, fun i k u x g z S d => ?_⟩
  ·have f : i < waysN c := by have := (List.getElem?_eq_some_iff.1 g).1; omega
   have := T _ (idx_lt r f);rw [wayK_at q o g, (div_mod_at f).1] at this;rcases this with h | ⟨h, h', _⟩
   ·exact .inl h
   ·exact .inr ⟨h, h'⟩
  ·have f : i < waysN c := by have := (List.getElem?_eq_some_iff.1 g).1; omega
   have D : k < waysN c := by have := (List.getElem?_eq_some_iff.1 z).1; omega
   have B : ∀ (i k : Nat) (u x : WayD), a[i]? = some u → a[k]? = some x → 0 ≤ u.1 → u.1 = x.1 → i < waysN c → k < waysN c → ¬ i < k := by
    intro i k u x g z S d f D dA;have := T _ (idx_lt r D);rw [wayK_at q o z] at this;rcases this with h | ⟨_, _, h⟩
    ·rw [clear_eq h] at d;simp [emptyW] at d
     omega
    ·have := h (s * waysN c + i) (by omega);rw [wayK_at q o g] at this;exact this d
   have k1 := B i k u x g z S d f D;have k2 := B k i x u z g (by omega) d.symm D f;omega
theorem ok_eq (c : CacheD) : okB isL treeB c = (shapeB c && waysB c (waysN c)) := by
 rw [Bool.eq_iff_iff, okB_iff, ok_link, Bool.and_eq_true];simp [shapeB, waysB]
theorem shape_facts {c : CacheD} (h : shapeB c = true) : Shape c ∧ (c.1.length = 1 ∨ c.1.length = 2 ∨ c.1.length = 4) ∧ (waysN c = 1 ∨ waysN c = 2 ∨ waysN c = 4) ∧ ∀ row ∈ c.1, row.length = waysN c := by
 have m : Shape c := by simpa [shapeB] using h
 obtain ⟨j, o, d⟩ := m;have k := (pow_iff _).1 j;have a := pow3_pos k;have l : c.1[0]? = some (c.1.getD 0 []) := by rw [List.getD_eq_getElem?_getD, List.getElem?_eq_getElem a]; rfl
 obtain ⟨t0, f⟩ : ∃ t, c.2[0]? = some t := ⟨_, List.getElem?_eq_getElem (by omega)⟩;have hm := tree_pow (d 0 a _ _ l f).2;refine ⟨⟨j, o, d⟩, k, by omega, fun row hr => ?_⟩;obtain ⟨i, g⟩ := List.mem_iff_getElem?.1 hr;have b := (List.getElem?_eq_some_iff.1 g).1;obtain ⟨t, n⟩ : ∃ t, c.2[i]? = some t := ⟨_, List.getElem?_eq_getElem (by omega)⟩;exact (d i b row t g n).1
set_option maxHeartbeats 400000 in
theorem implCacheOk_any (a b : Option Addr) (c : CacheD) (cap cp : Nat) (w : World) (h1 : SlRd waysR w a c.1) (h2 : SlRd intR w b c.2) (m1 : c.1.length ≤ maxLen) (m2 : c.2.length ≤ maxLen) (m3 : ∀ row ∈ c.1, row.length ≤ maxLen) :
    Calls Tryz.prog 231 #[.agg #[sL a c.1.length cap, sL b c.2.length cp]] w fun e f => e = .returned (.bool (okB isL treeB c)) ∧ Bl w f := by
 rw [ok_eq];have X := heap_at w (.cells #[sL a c.1.length cap, sL b c.2.length cp] 95);have B := box_below w (.cells #[sL a c.1.length cap, sL b c.2.length cp] 95);have d := shapeOk_any a b c cap cp (w.alloc (.cells #[sL a c.1.length cap, sL b c.2.length cp] 95)) (slrd_next h1 B) (slrd_next h2 B) m1 m2 m3;have q : Hid _ := h1;clear h1 h2 m1 m2 m3;cases j : shapeB c
 ·rw [j] at d;go_enter Tryz.func231, Tryz.ntmps231;go_wp2_with (go_at_call 256; refine d.mono ?_; rintro e f ⟨rfl, s⟩)
  go_ret
  exact ⟨rfl, below_step B s⟩
 ·rw [j] at d;obtain ⟨_, p, o, m⟩ := shape_facts j;have l : Hid (∀ W, Bl w W → Calls Tryz.prog 257 #[.agg #[sL a c.1.length cap, sL b c.2.length cp]] W fun e f => e = .returned (.bool (waysB c (waysN c))) ∧ Bl W f) :=
   fun W hb => waysOk_any a b c cap cp (waysN c) W (slrd_keep q.out fun k hk => hb.block k hk) p o m
  clear p o m;go_enter Tryz.func231, Tryz.ntmps231;go_wp2_with fail
  refine d.mono ?_;rintro e w1 ⟨rfl, i⟩;have g := below_step B i;obtain ⟨r, v⟩ := cells_two (row_keep i X);go_wp2_with fail
  refine (l.out _ g).mono ?_;rintro e w2 ⟨rfl, n⟩;have y := below_step g n;clear i g n r v X B d l;go_wp2
  all_goals go_ret
  all_goals exact ⟨by simp_all, y⟩
theorem upto_row {c : CacheD} {m s i : Nat} (hm : i < m) (h : UptoOk c m (s * m + i)) {l : Int} (h0 : 0 ≤ l) (hs : l % (c.1.length : Int) = (s : Nat)) (hno : ∀ k, k < i → (wayK c m (s * m + k)).1 ≠ l) : ∀ j, j < s * m + i → (wayK c m j).1 ≠ l := by
 intro j g a;by_cases hr : s * m ≤ j
 ·exact hno (j - s * m) (by omega) (by rw [show s * m + (j - s * m) = j by omega]; exact a)
 ·have b : j / m < s := by rw [Nat.div_lt_iff_lt_mul (by omega)]; omega
  rcases h j g with d | ⟨_, f, _⟩
  ·rw [clear_eq d] at a;simp [emptyW] at a
   omega
  ·rw [a, hs] at f;omega
theorem no_of_upto {c : CacheD} (h : ¬ UptoOk c (waysN c) (c.1.length * waysN c)) : okB isL treeB c = false := by
 rw [ok_eq, waysB_no h, Bool.and_false]
theorem no_of_shape {c : CacheD} (h : ¬ Shape c) : okB isL treeB c = false := by
 rw [ok_eq, shape_no h, Bool.false_and]
theorem yes_of {c : CacheD} (h : Shape c) (h' : UptoOk c (waysN c) (c.1.length * waysN c)) : okB isL treeB c = true := by
 rw [ok_eq, shape_yes h, waysB_yes h', Bool.and_true]
set_option maxHeartbeats 4000000 in
set_option maxRecDepth 100000 in
theorem specCacheOk_any (a b : Option Addr) (c : CacheD) (cap cp : Nat) (w : World) (h1 : SlRd waysR w a c.1) (h2 : SlRd intR w b c.2) (m1 : c.1.length ≤ maxLen) (m2 : c.2.length ≤ maxLen) (m3 : ∀ f ∈ c.1, f.length ≤ maxLen) :
    Calls Tryz.prog 133 #[.agg #[sL a c.1.length cap, sL b c.2.length cp]] w fun e F => e = .returned (.bool (okB isL treeB c)) ∧ Bl w F := by
 have cD : c.1.length ≤ 9223372036854775807 := m1;have nD : c.2.length ≤ 9223372036854775807 := m2;have HB : Hid _ := box_below w;cases hp : powB c.1.length
 ·have H : Hid (okB isL treeB c = false) := no_of_shape fun h => by rw [h.1] at hp; cases hp
  clear h1 h2 m1 m2 m3;go_enter Tryz.func133, Tryz.ntmps133;go_wp2_with (go_at_call 127; refine (l2Pow_any _ _).mono ?_; rintro e F ⟨rfl, rfl⟩; rw [hp])
  go_ret
  exact ⟨ret_bool H.out.symm, HB.out _⟩
 by_cases hl : c.2.length = c.1.length
 ·rw [hl];have jB : 0 < c.1.length := by simp [powB] at hp; omega
  have SA : c.1[0]? = some (c.1.getD 0 []) := by rw [List.getD_eq_getElem?_getD, List.getElem?_eq_getElem jB]; rfl
  have UA : (c.1.getD 0 []).length ≤ maxLen := m3 _ (List.mem_of_getElem? SA);obtain ⟨r, y, a0, c0, rfl, g0, -, -, -⟩ := set_at h1 SA;have O : Hid ((c.1.getD 0 []).length = waysN c) := rfl;have G0 : Hid (w.cell? ⟨r, y + 0, none⟩ = some (sL a0 (c.1.getD 0 []).length c0)) := g0;have GB : Hid (Shape c → powB (waysN c) = true) := fun h => by
   obtain ⟨_, _, f2, _⟩ := shape_facts (shape_yes h);simp [powB]
   omega
  have l1 := cell_lt g0;clear g0 SA;generalize (c.1.getD 0 []).length = m at UA O G0;have GC : m ≤ 9223372036854775807 := UA;cases fA : powB m
  ·have H : Hid (okB isL treeB c = false) := no_of_shape fun h => by have := GB.out h; rw [← O.out, fA] at this; cases this
   have g0 : ∀ o, (w.alloc o).cell? ⟨r, y, none⟩ = some (sL a0 m c0) := fun o => cell_keep (box_below w o) G0.out l1;clear h1 h2 m1 m2 m3;go_enter Tryz.func133, Tryz.ntmps133;go_wp2_with (go_at_call 127; refine (l2Pow_any _ _).mono ?_; rintro e F ⟨rfl, rfl⟩; first | rw [hp] | rw [fA])
   go_ret
   exact ⟨ret_bool H.out.symm, HB.out _⟩
  ·have X0 := heap_at w (.cells #[sL (some ⟨r, y, none⟩) c.1.length cap, sL b c.1.length cp] 95);have B0 := box_below w (.cells #[sL (some ⟨r, y, none⟩) c.1.length cap, sL b c.1.length cp] 95);have g0 : ∀ o, (w.alloc o).cell? ⟨r, y, none⟩ = some (sL a0 m c0) := fun o => cell_keep (box_below w o) G0.out l1;have H1 : Hid _ := h1;have H2 : Hid _ := h2;have HM : Hid (∀ f ∈ c.1, f.length ≤ maxLen) := m3;have FA : Hid (c.2.length = c.1.length) := hl;have HP : Hid (powB c.1.length = true) := hp;have ZC : Hid (powB m = true) := fA;clear h1 h2 m1 m2 m3 hl GB;go_enter Tryz.func133, Tryz.ntmps133;go_wp2_with (go_at_call 127; refine (l2Pow_any _ _).mono ?_; rintro e F ⟨rfl, rfl⟩; first | rw [hp] | rw [fA])
   clear g0 hp fA;generalize w.alloc (.cells #[sL (some ⟨r, y, none⟩) c.1.length cap, sL b c.1.length cp] 95) = W0 at X0 B0 ⊢;go_loopw [4] (fun i wr => ∃ k : Nat, k ≤ c.1.length ∧ i = nI k ∧ (∀ j, j < k → RowFit c j) ∧ UptoOk c m (k * m) ∧ Bl w wr ∧ wr.heap[w.heap.size]? = some (.cells #[sL (some ⟨r, y, none⟩) c.1.length cap, sL b c.1.length cp] 95 (0, 0))) (fun i _ => c.1.length - (intOf i).toNat)
   case atStart => exact ⟨0, Nat.zero_le _, rfl, fun j hj => by omega, fun j hj => by omega, B0, X0⟩
   case round =>
    clear B0 X0;obtain ⟨s, hk, rfl, EA, oB, BB, X⟩ := hrel;by_cases NA : s < c.1.length
    ·have LC : (s : Int) < (c.1.length : Int) := by omega
     obtain ⟨f, A⟩ : ∃ f, c.1[s]? = some f := ⟨_, List.getElem?_eq_getElem NA⟩;obtain ⟨t, ht⟩ : ∃ t, c.2[s]? = some t := ⟨_, List.getElem?_eq_getElem (by have := FA.out; omega)⟩;obtain ⟨_, _, ak, ck, e1, gk, -, -, DA⟩ := set_at H1.out A;cases e1;obtain ⟨L, M, rfl, gt⟩ := int_at H2.out ht;have yB : f.length ≤ maxLen := HM.out _ (List.mem_of_getElem? A);have l2 := cell_lt gt;have KW : Hid (∀ F, Bl w F → F.cell? ⟨r, y, none⟩ = some (sL a0 m c0) ∧ F.cell? ⟨r, y + s, none⟩ = some (sL ak f.length ck) ∧ F.cell? ⟨L, M + s, none⟩ = some (nI t)) :=
      fun F hb => ⟨cell_keep hb G0.out l1, cell_keep hb gk l1, cell_keep hb gt l2⟩
     have HR : Hid (∀ r' t', c.1[s]? = some r' → c.2[s]? = some t' → r' = f ∧ t' = t) := fun r' t' h h' => by rw [A] at h; rw [ht] at h'; cases h; cases h'; exact ⟨rfl, rfl⟩
     have HF : Hid (¬ RowFit c s → okB isL treeB c = false) := fun h => no_of_shape fun z => h (z.2.2 s NA);have HN : Hid (RowFit c s → f.length = m ∧ treeB t m = true) := fun h => by have := h f t A ht; rwa [← O.out] at this
     have HY : Hid (f.length = m → treeB t m = true → RowFit c s) := fun e1 e2 r' t' h h' => by obtain ⟨rfl, rfl⟩ := HR.out r' t' h h'; rw [← O.out]; exact ⟨e1, e2⟩
     have GA : Hid (c.1[s]? = some f) := A;have sB : Hid (SlRd wayR w ak f) := DA;have NC : f.length ≤ 9223372036854775807 := yB;clear gk gt A ht yB UA G0 DA HR;have n0 : ∀ n : Cls (fun wx => Bl w wx ∧ wx.heap[w.heap.size]? = some (.cells #[sL (some ⟨r, y, none⟩) c.1.length cap, sL (some ⟨L, M, none⟩) c.1.length cp] 95 (0, 0))), n.w.cell? ⟨w.heap.size, 0, none⟩ = some (sL (some ⟨r, y, none⟩) c.1.length cap) := fun n => (cells_two n.h.2).1;have n1 : ∀ n : Cls (fun wx => Bl w wx ∧ wx.heap[w.heap.size]? = some (.cells #[sL (some ⟨r, y, none⟩) c.1.length cap, sL (some ⟨L, M, none⟩) c.1.length cp] 95 (0, 0))), n.w.cell? ⟨w.heap.size, 1, none⟩ = some (sL (some ⟨L, M, none⟩) c.1.length cp) := fun n => (cells_two n.h.2).2;have g0 : ∀ n : Cls (fun wx => Bl w wx ∧ wx.heap[w.heap.size]? = some (.cells #[sL (some ⟨r, y, none⟩) c.1.length cap, sL (some ⟨L, M, none⟩) c.1.length cp] 95 (0, 0))), n.w.cell? ⟨r, y, none⟩ = some (sL a0 m c0) := fun n => (KW.out _ n.h.1).1;have gk : ∀ n : Cls (fun wx => Bl w wx ∧ wx.heap[w.heap.size]? = some (.cells #[sL (some ⟨r, y, none⟩) c.1.length cap, sL (some ⟨L, M, none⟩) c.1.length cp] 95 (0, 0))), n.w.cell? ⟨r, y + s, none⟩ = some (sL ak f.length ck) := fun n => (KW.out _ n.h.1).2.1;have gt : ∀ n : Cls (fun wx => Bl w wx ∧ wx.heap[w.heap.size]? = some (.cells #[sL (some ⟨r, y, none⟩) c.1.length cap, sL (some ⟨L, M, none⟩) c.1.length cp] 95 (0, 0))), n.w.cell? ⟨L, M + s, none⟩ = some (nI t) := fun n => (KW.out _ n.h.1).2.2;by_cases hm : f.length = m
     ·subst hm;cases zA : treeB t f.length
      ·have D : Hid (∀ w, Calls Tryz.prog 186 #[nI t, nI f.length] w fun e F => e = .returned (.bool false) ∧ F = w) := fun w => by have := specTreeOk_any t f.length w; rwa [zA] at this
       go_wp2_with fail
       refine region_class (fun wx => Bl w wx ∧ wx.heap[w.heap.size]? = some (.cells #[sL (some ⟨r, y, none⟩) c.1.length cap, sL (some ⟨L, M, none⟩) c.1.length cp] 95 (0, 0))) (by kernel_rfl) (by kernel_rfl) ⟨BB.drew, X⟩ ?_;intro V;repeat (quiet_step ((go_at_call 186; exact calls_class_same (D.out _))))
       refine wpQuiet_nil ?_;rintro wx ⟨S, qA⟩;clear n0 n1 g0 gk gt BB X V;go_wp2;go_ret
       exact ⟨ret_bool (HF.out fun h => by have := (HN.out h).2; rw [zA] at this; cases this).symm, S⟩
      ·have D : Hid (∀ w, Calls Tryz.prog 186 #[nI t, nI f.length] w fun e F => e = .returned (.bool true) ∧ F = w) := fun w => by have := specTreeOk_any t f.length w; rwa [zA] at this
       go_wp2_with fail
       refine region_class (fun wx => Bl w wx ∧ wx.heap[w.heap.size]? = some (.cells #[sL (some ⟨r, y, none⟩) c.1.length cap, sL (some ⟨L, M, none⟩) c.1.length cp] 95 (0, 0))) (by kernel_rfl) (by kernel_rfl) ⟨BB.drew, X⟩ ?_;intro V;repeat (quiet_step ((go_at_call 186; exact calls_class_same (D.out _))))
       refine wpQuiet_nil ?_;rintro wx ⟨S, qA⟩;clear n0 n1 g0 gk gt BB X V D;go_wp2;go_loopw [5] (fun i wr => ∃ k : Nat, k ≤ f.length ∧ i = nI k ∧ UptoOk c f.length (s * f.length + k) ∧ Bl w wr ∧ wr.heap[w.heap.size]? = some (.cells #[sL (some ⟨r, y, none⟩) c.1.length cap, sL (some ⟨L, M, none⟩) c.1.length cp] 95 (0, 0))) (fun i _ => f.length - (intOf i).toNat)
       case atStart => exact ⟨0, Nat.zero_le _, rfl, by simpa using oB, S, qA⟩
       case round =>
        clear S qA;obtain ⟨i, hi, rfl, J, B2, X2⟩ := hrel;by_cases R : i < f.length
        ·have CB : (i : Int) < (f.length : Int) := by omega
         obtain ⟨u, hu⟩ : ∃ u, f[i]? = some u := ⟨_, List.getElem?_eq_getElem R⟩;have HW : Hid (wayK c f.length (s * f.length + i) = u) := wayK_at rfl GA.out hu;obtain ⟨bk, ok, cs, rfl, bA, g⟩ := slrd_at (slrd_keep sB.out fun k hk => B2.block k hk) hu;obtain ⟨T, p, rfl, -, -, mB, JB, KB⟩ := way_rd bA;have x0 := g 0 _ rfl;have x1 := g 1 _ rfl;have x2 := g 2 _ rfl;rw [show ok + (i * wayR.size + 0) = ok + i * 3 from rfl] at x0;rw [show ok + (i * wayR.size + 1) = ok + i * 3 + 1 from rfl] at x1;rw [show ok + (i * wayR.size + 2) = ok + i * 3 + 2 from rfl] at x2;obtain ⟨l, B, d⟩ := u;obtain ⟨n0, n1⟩ := cells_two X2;obtain ⟨_, gk, _⟩ := KW.out _ B2;have HD : Hid _ := KB;have FB : d.length ≤ maxLen := Nat.le_trans mB JB;clear g bA hu mB JB KB;simp only at x0 x1 x2
         go_wp2_with fail
         have BZ := box_below wr (.cells #[nI l, nI B, sL T d.length p] 74);have Z := heap_at wr (.cells #[nI l, nI B, sL T d.length p] 74);have I := heap_on (.cells #[nI l, nI B, sL T d.length p] 74) X2;have C := below_step B2 BZ;have KA : Hid (clearB (l, B, d) = false → ¬ (fullB isL (l, B, d) = true ∧ l % (c.1.length : Int) = (s : Nat) ∧ ∀ j, j < s * f.length + i → (wayK c f.length j).1 ≠ l) → okB isL treeB c = false) := fun h1 h2 => no_of_upto fun h => by
          rw [← O.out] at h;have := h _ (idx_lt NA R);rw [HW.out, (div_mod_at R).1] at this;rcases this with h | h
          ·rw [h1] at h;cases h
          ·exact h2 h
         have EB : Hid (clearB (l, B, d) = true ∨ (fullB isL (l, B, d) = true ∧ l % (c.1.length : Int) = (s : Nat) ∧ ∀ j, j < s * f.length + i → (wayK c f.length j).1 ≠ l) → UptoOk c f.length (s * f.length + (i + 1))) := fun h => upto_next J (by show clearB (wayK c f.length (s * f.length + i)) = true ∨ (fullB isL (wayK c f.length (s * f.length + i)) = true ∧ (wayK c f.length (s * f.length + i)).1 % (c.1.length : Int) = ((s * f.length + i) / f.length : Nat) ∧ ∀ j, j < s * f.length + i → (wayK c f.length j).1 ≠ (wayK c f.length (s * f.length + i)).1); rw [HW.out, (div_mod_at R).1]; exact h);clear X2 n0 n1 gk x0 x1 x2;cases N : clearB (l, B, d)
         case true =>
          have E : Calls Tryz.prog 58 #[.agg #[nI l, nI B, sL T d.length p]] (wr.alloc (.cells #[nI l, nI B, sL T d.length p] 74)) _ := l6Clear_any l B T d.length p _ FB;rw [clr_eq (l, B, d), N] at E;refine E.mono ?_;rintro e w2 ⟨rfl, b2⟩;replace I := row_keep b2 I;replace C := below_step C b2;clear E b2 BZ Z;go_wp2;go_roundw
          case rel => exact ⟨i + 1, by omega, by go_num, EB.out (.inl N), C, I⟩
          case measure => simp [intOf]; omega
         case false =>
          have E : Calls Tryz.prog 58 #[.agg #[nI l, nI B, sL T d.length p]] (wr.alloc (.cells #[nI l, nI B, sL T d.length p] 74)) _ := l6Clear_any l B T d.length p _ FB;rw [clr_eq (l, B, d), N] at E;refine E.mono ?_;rintro e w2 ⟨rfl, b2⟩;replace I := row_keep b2 I;replace C := below_step C b2;replace Z := row_keep b2 Z;have BA := slrd_next (slrd_next HD.out BZ) b2;clear E b2 BZ HD;obtain ⟨y0, y1, y2⟩ := cells_three Z;go_wp2_with fail
          cases iA : fullB isL (l, B, d)
          case false =>
           have E := l6Full_any l B d T p w2 BA;rw [iA] at E;refine E.mono ?_;rintro e w3 ⟨rfl, b3⟩;replace C := below_step C b3;clear E b3 Z y0 y1 y2 BA I;go_wp2;go_ret
           exact ⟨ret_bool (KA.out N (fun h => by rw [iA] at h; exact absurd h.1 (by simp))).symm, C⟩
          case true =>
           have aA := full_line iA;simp only at aA
           have hz : (c.1.length : Int) ≠ 0 := by omega
           have E := l6Full_any l B d T p w2 BA;rw [iA] at E;refine E.mono ?_;rintro e w3 ⟨rfl, b3⟩;replace C := below_step C b3;replace I := row_keep b3 I;replace Z := row_keep b3 Z;clear E b3 y0 y1 y2 BA;obtain ⟨y0, y1, y2⟩ := cells_three Z;have AB : Int.tmod l (c.1.length : Int) = l % (c.1.length : Int) := Int.tmod_eq_emod_of_nonneg aA.1;by_cases hq : l % (c.1.length : Int) = (s : Nat)
           ·rw [hq] at AB;have HQ : Hid (l % (c.1.length : Int) = (s : Nat)) := hq;go_wp2;go_loopw [7] (fun q wq => ∃ k : Nat, k ≤ i ∧ q = nI k ∧ (∀ j, j < k → (wayK c f.length (s * f.length + j)).1 ≠ l) ∧ Bl w wq ∧ wq.heap[w.heap.size]? = some (.cells #[sL (some ⟨r, y, none⟩) c.1.length cap, sL (some ⟨L, M, none⟩) c.1.length cp] 95 (0, 0)) ∧ wq.heap[wr.heap.size]? = some (.cells #[nI l, nI B, sL T d.length p] 74 (0, 0))) (fun q _ => i - (intOf q).toNat)
            case atStart => exact ⟨0, Nat.zero_le _, rfl, fun j hj => by omega, C, I, Z⟩
            case round =>
             clear C I Z y0 y1 y2;obtain ⟨k, iD, rfl, iB, C, I, Z⟩ := hrel;obtain ⟨y0, y1, y2⟩ := cells_three Z;by_cases TC : k < i
             ·have TB : (k : Int) < (i : Int) := by omega
              have nC : (k : Int) < (f.length : Int) := by omega
              obtain ⟨v, hv⟩ : ∃ v, f[k]? = some v := ⟨_, List.getElem?_eq_getElem (by omega)⟩;have HV : Hid (wayK c f.length (s * f.length + k) = v) := wayK_at rfl GA.out hv;obtain ⟨YC, jD, cs, e9, bA, g⟩ := slrd_at (slrd_keep sB.out fun k hk => C.block k hk) hv;cases e9;obtain ⟨mD, SC, rfl, -, -, -, -, -⟩ := way_rd bA;have x0 := g 0 _ rfl;rw [show ok + (k * wayR.size + 0) = ok + k * 3 from rfl] at x0;obtain ⟨n0, n1⟩ := cells_two I;obtain ⟨_, gk, _⟩ := KW.out _ C;obtain ⟨l', gD, d'⟩ := v;simp only at x0
              clear g bA hv;by_cases bB : l' = l
              ·subst bB;have dA : Hid (okB isL treeB c = false) := KA.out N fun h => h.2.2 (s * f.length + k) (by omega) (by rw [HV.out]);go_wp2_with fail
               go_quiet (fail)
               go_wp2;go_ret
               exact ⟨ret_bool dA.out.symm, bl_drewN C nq⟩
              ·have KC : (l' == l) = false := by simpa using bB
               go_wp2_with fail
               go_quiet (fail)
               go_wp2;go_roundw
               case rel =>
                refine ⟨k + 1, by omega, by go_num, fun j hj => ?_, bl_drewN C nq, I, Z⟩;by_cases he : j < k
                ·exact iB j he
                ·have : j = k := by omega
                 subst this;rw [HV.out];exact bB
               case measure => simp [intOf]; omega
             ·have fC : k = i := by omega
              subst fC;go_wp2;go_roundw
              case rel => exact ⟨k + 1, by omega, by go_num, EB.out (.inr ⟨iA, HQ.out, upto_row R J aA.1 HQ.out iB⟩), C, I⟩
              case measure => simp [intOf]; omega
           ·have dA : Hid (okB isL treeB c = false) := KA.out N fun h => hq h.2.1;have lD : (l % (c.1.length : Int) != (s : Int)) = true := by simpa using hq
            clear AB;go_wp2;go_ret
            exact ⟨ret_bool dA.out.symm, C⟩
        ·have kC : Hid (i = f.length) := by unfold Hid; omega
         have CB : ¬ ((i : Int) < (f.length : Int)) := by omega
         clear R;obtain ⟨n0, n1⟩ := cells_two X2;obtain ⟨_, gk, _⟩ := KW.out _ B2;go_wp2;go_roundw
         case rel =>
          refine ⟨s + 1, by omega, by go_num, fun j hj => ?_, by rw [Nat.add_one_mul]; have := kC.out; rw [this] at J; exact J, B2, X2⟩;by_cases he : j < s
          ·exact EA j he
          ·have : j = s := by omega
           subst this;exact HY.out (by simp) zA
         case measure => simp [intOf]; omega
     ·have XB : ((f.length : Int) != (m : Int)) = true := by simp; omega
      go_wp2_with fail
      refine region_class (fun wx => Bl w wx ∧ wx.heap[w.heap.size]? = some (.cells #[sL (some ⟨r, y, none⟩) c.1.length cap, sL (some ⟨L, M, none⟩) c.1.length cp] 95 (0, 0))) (by kernel_rfl) (by kernel_rfl) ⟨BB.drew, X⟩ ?_;intro V;iterate 12 (quiet_step (fail))
      clear XB;refine wpQuiet_step (fun K hK => ?_);go_simp
      refine hid_act K _ ?_;intro A0 rB;refine hK A0 ?_;clear hK K;have zB : A0.tmps[49]? = some (.bool true) := by rw [rB]; rfl
      refine wpQuiet_skip (b := false) (d := 49) zB rfl rfl rfl (by decide) ?_;intro pC eB cA;clear zB;refine wpQuiet_skip (b := false) (d := 49) cA rfl rfl rfl (by decide) ?_;intro AC HA gA;clear cA;refine wpQuiet_skip (b := false) (d := 49) gA rfl rfl rfl (by decide) ?_;intro qC MA nA;clear gA;refine wpQuiet_skip (b := false) (d := 49) nA rfl rfl rfl (by decide) ?_;intro yC aB jA;clear nA;refine wpQuiet_skip (b := false) (d := 49) jA rfl rfl rfl (by decide) ?_;intro HC cB kA;clear jA;refine wpQuiet_skip (b := false) (d := 49) kA rfl rfl rfl (by decide) ?_;intro JC XA eA;clear kA;refine wpQuiet_skip (b := false) (d := 49) eA rfl rfl rfl (by decide) ?_;intro rC VA mA;clear eA;refine wpQuiet_skip (b := false) (d := 49) mA rfl rfl rfl (by decide) ?_;intro IC LA lA;clear mA;refine wpQuiet_skip (b := false) (d := 49) lA rfl rfl rfl (by decide) ?_;intro CC IA U;clear lA;refine wpQuiet_skip (b := false) (d := 49) U rfl rfl rfl (by decide) ?_;intro RC dB Y;clear U;refine wpQuiet_skip (b := false) (d := 49) Y rfl rfl rfl (by decide) ?_;intro VB AA G;clear Y;refine wpQuiet_skip (b := false) (d := 49) G rfl rfl rfl (by decide) ?_;intro aC vA rA;clear G rA;subst vA AA dB IA LA VA XA cB aB MA HA eB;subst rB;quiet_step (skip)
      refine wpQuiet_nil ?_;rintro wx ⟨S, qA⟩;clear n0 n1 g0 gk gt BB X V;go_wp2;go_ret
      exact ⟨ret_bool (HF.out fun h => hm (HN.out h).1).symm, S⟩
    ·have RA : s = c.1.length := by omega
     have H : Hid (okB isL treeB c = true) := yes_of ⟨HP.out, FA.out, by rw [← RA]; exact EA⟩ (by rw [← O.out, ← RA]; exact oB);subst RA;go_wp2;go_ret
     exact ⟨ret_bool H.out.symm, BB⟩
 ·have H : Hid (okB isL treeB c = false) := no_of_shape fun h => hl h.2.1;have bD : ((c.2.length : Int) == (c.1.length : Int)) = false := by simp; omega
  clear h1 h2 m1 m2 m3;go_enter Tryz.func133, Tryz.ntmps133;go_wp2_with (go_at_call 127; refine (l2Pow_any _ _).mono ?_; rintro e F ⟨rfl, rfl⟩; rw [hp])
  go_ret
  exact ⟨ret_bool H.out.symm, HB.out _⟩
end Go.Proofs.YtdamokokcdcedaaGreatDoor
