import Derived.Test.YtcocbafhcpdheaaGreatDoorS00Box
import Derived.Test.YtcocbafhcpdheaaGreatDoorS10
namespace Go.Proofs.YtcocbafhcpdheaaGreatDoor
open Go.ChangeShapes Go.WideShapes Go.ChangeAt Go.RowKit Go.Shelf
set_option linter.unusedVariables false
theorem pow_iff (n : Nat) : powB (n : Int) = true ↔ pow3 n := by
 simp only [powB, pow3, decide_eq_true_eq];omega
theorem div_mod_at {m i j : Nat} (hj : j < m) : (i * m + j) / m = i ∧ (i * m + j) % m = j := by
 have a : 0 < m := by omega
 exact ⟨by rw [Nat.mul_comm, Nat.mul_add_div a, Nat.div_eq_of_lt hj, Nat.add_zero], by rw [Nat.mul_comm, Nat.mul_add_mod, Nat.mod_eq_of_lt hj]⟩
theorem idx_lt {s m i j : Nat} (hi : i < s) (hj : j < m) : i * m + j < s * m := by
 have : (i + 1) * m ≤ s * m := Nat.mul_le_mul_right _ hi;rw [Nat.add_one_mul] at this;omega
theorem wayK_at {c : CacheD} {m i j : Nat} {row : List WayD} {u : WayD} (hl : row.length = m) (hr : c.1[i]? = some row) (hu : row[j]? = some u) : wayK c m (i * m + j) = u := by
 have b : j < m := by have := (List.getElem?_eq_some_iff.1 hu).1; omega
 obtain ⟨a, d⟩ := div_mod_at (i := i) b;unfold wayK;rw [a, d];simp [List.getD_eq_getElem?_getD, hr, hu]
theorem ok_link {c : CacheD} : OkC isL treeB c ↔ Shape c ∧ UptoOk c (waysN c) (c.1.length * waysN c) := by
 constructor
 ·rintro ⟨D, F, m, H, q⟩;have b := pow3_pos D;have v := pow3_pos H;have T : waysN c = m := by
   have e : c.1[0]? = some (c.1.getD 0 []) := by rw [List.getD_eq_getElem?_getD, List.getElem?_eq_getElem b]; rfl
   exact (q 0 _ e).1
  rw [T];have l : ∀ a ∈ c.1, a.length = m := fun a hr => by
   obtain ⟨i, f⟩ := List.mem_iff_getElem?.1 hr;exact (q i a f).1
  refine ⟨⟨(pow_iff _).2 D, F, fun i f a t hr C => ?_⟩, fun j hj => ?_⟩
  ·obtain ⟨g, ⟨t', B, a3⟩, _⟩ := q i a hr;rw [C] at B;cases B;rw [T];exact ⟨g, a3⟩
  ·obtain ⟨a, K, M⟩ := wayK_get v l hj;obtain ⟨_, _, g, B⟩ := q _ a K;rcases g _ _ M with J | ⟨S, o⟩
   ·exact .inl J
   ·refine .inr ⟨S, o, fun i f d => ?_⟩;have hl := full_line S;obtain ⟨y, L, U⟩ := wayK_get v l (show i < c.1.length * m by omega);obtain ⟨_, _, Z, X⟩ := q _ y L;rcases Z _ _ U with J | ⟨aA, I⟩
    ·rw [clear_eq J] at d;simp [emptyW] at d
     omega
    ·rw [d, o] at I;have n : j / m = i / m := by omega
     rw [n, L] at K;cases K;have := X _ _ _ _ U M (by omega) d;have d1 := Nat.div_add_mod i m;have Y := Nat.div_add_mod j m;rw [n, ← this] at Y;omega
 ·rintro ⟨⟨D, F, q⟩, O⟩;have R := (pow_iff _).1 D;have b := pow3_pos R;have e0 : c.1[0]? = some (c.1.getD 0 []) := by rw [List.getD_eq_getElem?_getD, List.getElem?_eq_getElem b]; rfl
  obtain ⟨t0, G⟩ : ∃ t, c.2[0]? = some t := ⟨_, List.getElem?_eq_getElem (by omega)⟩;have H : pow3 (waysN c) := by
   have := tree_pow (q 0 b _ _ e0 G).2;unfold pow3;omega
  refine ⟨R, F, waysN c, H, fun s a o => ?_⟩;have r := (List.getElem?_eq_some_iff.1 o).1;obtain ⟨t, C⟩ : ∃ t, c.2[s]? = some t := ⟨_, List.getElem?_eq_getElem (by omega)⟩;obtain ⟨g, B⟩ := q s r a t o C;refine ⟨g, ⟨t, C, B⟩, fun i u p => ?_, fun i k u x p A N d => ?_⟩
  ·have f : i < waysN c := by have := (List.getElem?_eq_some_iff.1 p).1; omega
   have := O _ (idx_lt r f);rw [wayK_at g o p, (div_mod_at f).1] at this;rcases this with h | ⟨h, h', _⟩
   ·exact .inl h
   ·exact .inr ⟨h, h'⟩
  ·have f : i < waysN c := by have := (List.getElem?_eq_some_iff.1 p).1; omega
   have E : k < waysN c := by have := (List.getElem?_eq_some_iff.1 A).1; omega
   have z : ∀ (i k : Nat) (u x : WayD), a[i]? = some u → a[k]? = some x → 0 ≤ u.1 → u.1 = x.1 → i < waysN c → k < waysN c → ¬ i < k := by
    intro i k u x p A N d f E V;have := O _ (idx_lt r E);rw [wayK_at g o A] at this;rcases this with h | ⟨_, _, h⟩
    ·rw [clear_eq h] at d;simp [emptyW] at d
     omega
    ·have := h (s * waysN c + i) (by omega);rw [wayK_at g o p] at this;exact this d
   have k1 := z i k u x p A N d f E;have k2 := z k i x u A p (by omega) d.symm E f;omega
theorem ok_eq (c : CacheD) : okB isL treeB c = (shapeB c && waysB c (waysN c)) := by
 rw [Bool.eq_iff_iff, okB_iff, ok_link, Bool.and_eq_true];simp [shapeB, waysB]
theorem shape_facts {c : CacheD} (h : shapeB c = true) : Shape c ∧ (c.1.length = 1 ∨ c.1.length = 2 ∨ c.1.length = 4) ∧ (waysN c = 1 ∨ waysN c = 2 ∨ waysN c = 4) ∧ ∀ row ∈ c.1, row.length = waysN c := by
 have n : Shape c := by simpa [shapeB] using h
 obtain ⟨j, l, d⟩ := n;have g := (pow_iff _).1 j;have a := pow3_pos g;have m : c.1[0]? = some (c.1.getD 0 []) := by rw [List.getD_eq_getElem?_getD, List.getElem?_eq_getElem a]; rfl
 obtain ⟨t0, f⟩ : ∃ t, c.2[0]? = some t := ⟨_, List.getElem?_eq_getElem (by omega)⟩;have hm := tree_pow (d 0 a _ _ m f).2;refine ⟨⟨j, l, d⟩, g, by omega, fun row hr => ?_⟩;obtain ⟨i, k⟩ := List.mem_iff_getElem?.1 hr;have b := (List.getElem?_eq_some_iff.1 k).1;obtain ⟨t, o⟩ : ∃ t, c.2[i]? = some t := ⟨_, List.getElem?_eq_getElem (by omega)⟩;exact (d i b row t k o).1
set_option maxHeartbeats 400000 in
theorem implCacheOk_any (a b : Option Addr) (c : CacheD) (cap cp : Nat) (w : World) (h1 : SlRd waysR w a c.1) (h2 : SlRd intR w b c.2) (m1 : c.1.length ≤ maxLen) (m2 : c.2.length ≤ maxLen) (m3 : ∀ row ∈ c.1, row.length ≤ maxLen) :
    Calls Tryz.prog 194 #[.agg #[.slice a c.1.length cap, .slice b c.2.length cp]] w fun e f => e = .returned (.bool (okB isL treeB c)) ∧ Below w.heap.size w f := by
 rw [ok_eq];have X := heap_at w (.cells #[.slice a c.1.length cap, .slice b c.2.length cp] 92);have B := box_below w (.cells #[.slice a c.1.length cap, .slice b c.2.length cp] 92);have d := shapeOk_any a b c cap cp (w.alloc (.cells #[.slice a c.1.length cap, .slice b c.2.length cp] 92)) (slrd_next h1 B) (slrd_next h2 B) m1 m2 m3;have r : Hid _ := h1;clear h1 h2 m1 m2 m3;cases i : shapeB c
 ·rw [i] at d;go_enter Tryz.func194, Tryz.ntmps194;go_wp2_with (go_at_call 234; refine d.mono ?_; rintro e f ⟨rfl, y⟩)
  go_ret
  exact ⟨rfl, below_step B y⟩
 ·rw [i] at d;obtain ⟨_, m, p, o⟩ := shape_facts i;have n : Hid (∀ W, Below w.heap.size w W → Calls Tryz.prog 235 #[.agg #[.slice a c.1.length cap, .slice b c.2.length cp]] W fun e f => e = .returned (.bool (waysB c (waysN c))) ∧ Below W.heap.size W f) :=
   fun W hb => waysOk_any a b c cap cp (waysN c) W (slrd_keep r.out fun k hk => hb.block k hk) m p o
  clear m p o;go_enter Tryz.func194, Tryz.ntmps194;go_wp2_with fail
  refine d.mono ?_;rintro e w1 ⟨rfl, j⟩;have g := below_step B j;obtain ⟨s, v⟩ := cells_two (row_keep j X);go_wp2_with fail
  refine (n.out _ g).mono ?_;rintro e w2 ⟨rfl, l⟩;have q := below_step g l;clear j g l s v X B d n;go_wp2
  all_goals go_ret
  all_goals exact ⟨by simp_all, q⟩
theorem upto_row {c : CacheD} {m s i : Nat} (hm : i < m) (h : UptoOk c m (s * m + i)) {l : Int} (h0 : 0 ≤ l) (hs : l % (c.1.length : Int) = (s : Nat)) (hno : ∀ k, k < i → (wayK c m (s * m + k)).1 ≠ l) : ∀ j, j < s * m + i → (wayK c m j).1 ≠ l := by
 intro j d a;by_cases hr : s * m ≤ j
 ·exact hno (j - s * m) (by omega) (by rw [show s * m + (j - s * m) = j by omega]; exact a)
 ·have g : j / m < s := by rw [Nat.div_lt_iff_lt_mul (by omega)]; omega
  rcases h j d with b | ⟨_, f, _⟩
  ·rw [clear_eq b] at a;simp [emptyW] at a
   omega
  ·rw [a, hs] at f;omega
theorem no_of_upto {c : CacheD} (h : ¬ UptoOk c (waysN c) (c.1.length * waysN c)) : okB isL treeB c = false := by
 rw [ok_eq, waysB_no h, Bool.and_false]
theorem no_of_shape {c : CacheD} (h : ¬ Shape c) : okB isL treeB c = false := by
 rw [ok_eq, shape_no h, Bool.false_and]
theorem yes_of {c : CacheD} (h : Shape c) (h' : UptoOk c (waysN c) (c.1.length * waysN c)) : okB isL treeB c = true := by
 rw [ok_eq, shape_yes h, waysB_yes h', Bool.and_true]
set_option maxHeartbeats 4000000 in
set_option maxRecDepth 100000 in
theorem specCacheOk_any (a b : Option Addr) (c : CacheD) (cap cp : Nat) (w : World) (h1 : SlRd waysR w a c.1) (h2 : SlRd intR w b c.2) (m1 : c.1.length ≤ maxLen) (m2 : c.2.length ≤ maxLen) (m3 : ∀ f ∈ c.1, f.length ≤ maxLen) :
    Calls Tryz.prog 146 #[.agg #[.slice a c.1.length cap, .slice b c.2.length cp]] w fun e F => e = .returned (.bool (okB isL treeB c)) ∧ Below w.heap.size w F := by
 have XC : c.1.length ≤ 9223372036854775807 := m1;have eD : c.2.length ≤ 9223372036854775807 := m2;have HB : Hid _ := box_below w;cases hp : powB c.1.length
 ·have H : Hid (okB isL treeB c = false) := no_of_shape fun h => by rw [h.1] at hp; cases hp
  clear h1 h2 m1 m2 m3;go_enter Tryz.func146, Tryz.ntmps146;go_wp2_with (go_at_call 140; refine (l2Pow_any _ _).mono ?_; rintro e F ⟨rfl, rfl⟩; rw [hp])
  go_ret
  exact ⟨ret_bool H.out.symm, HB.out _⟩
 by_cases hl : c.2.length = c.1.length
 ·rw [hl];have mB : 0 < c.1.length := by simp [powB] at hp; omega
  have IA : c.1[0]? = some (c.1.getD 0 []) := by rw [List.getD_eq_getElem?_getD, List.getElem?_eq_getElem mB]; rfl
  have aB : (c.1.getD 0 []).length ≤ maxLen := m3 _ (List.mem_of_getElem? IA);obtain ⟨r, y, a0, c0, rfl, g0, -, -, -⟩ := set_at h1 IA;have S : Hid ((c.1.getD 0 []).length = waysN c) := rfl;have G0 : Hid (w.cell? ⟨r, y + 0, none⟩ = some (.slice a0 (c.1.getD 0 []).length c0)) := g0;have oB : Hid (Shape c → powB (waysN c) = true) := fun h => by
   obtain ⟨_, _, f2, _⟩ := shape_facts (shape_yes h);simp [powB]
   omega
  have l1 := cell_lt g0;clear g0 IA;generalize (c.1.getD 0 []).length = m at aB S G0;have nC : m ≤ 9223372036854775807 := aB;cases jA : powB m
  ·have H : Hid (okB isL treeB c = false) := no_of_shape fun h => by have := oB.out h; rw [← S.out, jA] at this; cases this
   have g0 : ∀ o, (w.alloc o).cell? ⟨r, y, none⟩ = some (.slice a0 m c0) := fun o => cell_keep (box_below w o) G0.out l1;clear h1 h2 m1 m2 m3;go_enter Tryz.func146, Tryz.ntmps146;go_wp2_with (go_at_call 140; refine (l2Pow_any _ _).mono ?_; rintro e F ⟨rfl, rfl⟩; first | rw [hp] | rw [jA])
   go_ret
   exact ⟨ret_bool H.out.symm, HB.out _⟩
  ·have X0 := heap_at w (.cells #[.slice (some ⟨r, y, none⟩) c.1.length cap, .slice b c.1.length cp] 92);have B0 := box_below w (.cells #[.slice (some ⟨r, y, none⟩) c.1.length cap, .slice b c.1.length cp] 92);have g0 : ∀ o, (w.alloc o).cell? ⟨r, y, none⟩ = some (.slice a0 m c0) := fun o => cell_keep (box_below w o) G0.out l1;have H1 : Hid _ := h1;have H2 : Hid _ := h2;have HM : Hid (∀ f ∈ c.1, f.length ≤ maxLen) := m3;have CA : Hid (c.2.length = c.1.length) := hl;have HP : Hid (powB c.1.length = true) := hp;have cD : Hid (powB m = true) := jA;clear h1 h2 m1 m2 m3 hl oB;go_enter Tryz.func146, Tryz.ntmps146;go_wp2_with (go_at_call 140; refine (l2Pow_any _ _).mono ?_; rintro e F ⟨rfl, rfl⟩; first | rw [hp] | rw [jA])
   clear g0 hp jA;generalize w.alloc (.cells #[.slice (some ⟨r, y, none⟩) c.1.length cap, .slice b c.1.length cp] 92) = W0 at X0 B0 ⊢;go_loopw [4] (fun i wr => ∃ k : Nat, k ≤ c.1.length ∧ i = .int .i64 k ∧ (∀ j, j < k → RowFit c j) ∧ UptoOk c m (k * m) ∧ Below w.heap.size w wr ∧ wr.heap[w.heap.size]? = some (.cells #[.slice (some ⟨r, y, none⟩) c.1.length cap, .slice b c.1.length cp] 92 (0, 0))) (fun i _ => c.1.length - (intOf i).toNat)
   case atStart => exact ⟨0, Nat.zero_le _, rfl, fun j hj => by omega, fun j hj => by omega, B0, X0⟩
   case round =>
    clear B0 X0;obtain ⟨s, hk, rfl, DA, AB, BB, X⟩ := hrel;by_cases YA : s < c.1.length
    ·have sC : (s : Int) < (c.1.length : Int) := by omega
     obtain ⟨f, B⟩ : ∃ f, c.1[s]? = some f := ⟨_, List.getElem?_eq_getElem YA⟩;obtain ⟨t, ht⟩ : ∃ t, c.2[s]? = some t := ⟨_, List.getElem?_eq_getElem (by have := CA.out; omega)⟩;obtain ⟨_, _, ak, ck, e1, gk, -, -, EA⟩ := set_at H1.out B;cases e1;obtain ⟨O, M, rfl, gt⟩ := int_at H2.out ht;have FB : f.length ≤ maxLen := HM.out _ (List.mem_of_getElem? B);have l2 := cell_lt gt;have KW : Hid (∀ F, Below w.heap.size w F → F.cell? ⟨r, y, none⟩ = some (.slice a0 m c0) ∧ F.cell? ⟨r, y + s, none⟩ = some (.slice ak f.length ck) ∧ F.cell? ⟨O, M + s, none⟩ = some (.int .i64 t)) :=
      fun F hb => ⟨cell_keep hb G0.out l1, cell_keep hb gk l1, cell_keep hb gt l2⟩
     have HR : Hid (∀ r' t', c.1[s]? = some r' → c.2[s]? = some t' → r' = f ∧ t' = t) := fun r' t' h h' => by rw [B] at h; rw [ht] at h'; cases h; cases h'; exact ⟨rfl, rfl⟩
     have HF : Hid (¬ RowFit c s → okB isL treeB c = false) := fun h => no_of_shape fun z => h (z.2.2 s YA);have HN : Hid (RowFit c s → f.length = m ∧ treeB t m = true) := fun h => by have := h f t B ht; rwa [← S.out] at this
     have HY : Hid (f.length = m → treeB t m = true → RowFit c s) := fun e1 e2 r' t' h h' => by obtain ⟨rfl, rfl⟩ := HR.out r' t' h h'; rw [← S.out]; exact ⟨e1, e2⟩
     have GA : Hid (c.1[s]? = some f) := B;have qB : Hid (SlRd wayR w ak f) := EA;have GC : f.length ≤ 9223372036854775807 := FB;clear gk gt B ht FB aB G0 EA HR;have n0 : ∀ n : Cls (fun wx => Below w.heap.size w wx ∧ wx.heap[w.heap.size]? = some (.cells #[.slice (some ⟨r, y, none⟩) c.1.length cap, .slice (some ⟨O, M, none⟩) c.1.length cp] 92 (0, 0))), n.w.cell? ⟨w.heap.size, 0, none⟩ = some (.slice (some ⟨r, y, none⟩) c.1.length cap) := fun n => (cells_two n.h.2).1;have n1 : ∀ n : Cls (fun wx => Below w.heap.size w wx ∧ wx.heap[w.heap.size]? = some (.cells #[.slice (some ⟨r, y, none⟩) c.1.length cap, .slice (some ⟨O, M, none⟩) c.1.length cp] 92 (0, 0))), n.w.cell? ⟨w.heap.size, 1, none⟩ = some (.slice (some ⟨O, M, none⟩) c.1.length cp) := fun n => (cells_two n.h.2).2;have g0 : ∀ n : Cls (fun wx => Below w.heap.size w wx ∧ wx.heap[w.heap.size]? = some (.cells #[.slice (some ⟨r, y, none⟩) c.1.length cap, .slice (some ⟨O, M, none⟩) c.1.length cp] 92 (0, 0))), n.w.cell? ⟨r, y, none⟩ = some (.slice a0 m c0) := fun n => (KW.out _ n.h.1).1;have gk : ∀ n : Cls (fun wx => Below w.heap.size w wx ∧ wx.heap[w.heap.size]? = some (.cells #[.slice (some ⟨r, y, none⟩) c.1.length cap, .slice (some ⟨O, M, none⟩) c.1.length cp] 92 (0, 0))), n.w.cell? ⟨r, y + s, none⟩ = some (.slice ak f.length ck) := fun n => (KW.out _ n.h.1).2.1;have gt : ∀ n : Cls (fun wx => Below w.heap.size w wx ∧ wx.heap[w.heap.size]? = some (.cells #[.slice (some ⟨r, y, none⟩) c.1.length cap, .slice (some ⟨O, M, none⟩) c.1.length cp] 92 (0, 0))), n.w.cell? ⟨O, M + s, none⟩ = some (.int .i64 t) := fun n => (KW.out _ n.h.1).2.2;by_cases hm : f.length = m
     ·subst hm;cases zA : treeB t f.length
      ·have D : Hid (∀ w, Calls Tryz.prog 200 #[.int .i64 t, .int .i64 f.length] w fun e F => e = .returned (.bool false) ∧ F = w) := fun w => by have := specTreeOk_any t f.length w; rwa [zA] at this
       go_wp2_with fail
       refine region_class (fun wx => Below w.heap.size w wx ∧ wx.heap[w.heap.size]? = some (.cells #[.slice (some ⟨r, y, none⟩) c.1.length cap, .slice (some ⟨O, M, none⟩) c.1.length cp] 92 (0, 0))) (by kernel_rfl) (by kernel_rfl) ⟨BB.drew, X⟩ ?_;intro aA;repeat (quiet_step ((go_at_call 200; exact calls_class_same (D.out _))))
       refine wpQuiet_nil ?_;rintro wx ⟨N, AA⟩;clear n0 n1 g0 gk gt BB X aA;go_wp2;go_ret
       exact ⟨ret_bool (HF.out fun h => by have := (HN.out h).2; rw [zA] at this; cases this).symm, N⟩
      ·have D : Hid (∀ w, Calls Tryz.prog 200 #[.int .i64 t, .int .i64 f.length] w fun e F => e = .returned (.bool true) ∧ F = w) := fun w => by have := specTreeOk_any t f.length w; rwa [zA] at this
       go_wp2_with fail
       refine region_class (fun wx => Below w.heap.size w wx ∧ wx.heap[w.heap.size]? = some (.cells #[.slice (some ⟨r, y, none⟩) c.1.length cap, .slice (some ⟨O, M, none⟩) c.1.length cp] 92 (0, 0))) (by kernel_rfl) (by kernel_rfl) ⟨BB.drew, X⟩ ?_;intro aA;repeat (quiet_step ((go_at_call 200; exact calls_class_same (D.out _))))
       refine wpQuiet_nil ?_;rintro wx ⟨N, AA⟩;clear n0 n1 g0 gk gt BB X aA;clear D;go_wp2;go_loopw [5] (fun i wr => ∃ k : Nat, k ≤ f.length ∧ i = .int .i64 k ∧ UptoOk c f.length (s * f.length + k) ∧ Below w.heap.size w wr ∧ wr.heap[w.heap.size]? = some (.cells #[.slice (some ⟨r, y, none⟩) c.1.length cap, .slice (some ⟨O, M, none⟩) c.1.length cp] 92 (0, 0))) (fun i _ => f.length - (intOf i).toNat)
       case atStart => exact ⟨0, Nat.zero_le _, rfl, by simpa using AB, N, AA⟩
       case round =>
        clear N AA;obtain ⟨i, hi, rfl, J, B2, X2⟩ := hrel;by_cases L : i < f.length
        ·have jB : (i : Int) < (f.length : Int) := by omega
         obtain ⟨u, hu⟩ : ∃ u, f[i]? = some u := ⟨_, List.getElem?_eq_getElem L⟩;have HW : Hid (wayK c f.length (s * f.length + i) = u) := wayK_at rfl GA.out hu;obtain ⟨bk, ok, cs, rfl, fA, g⟩ := slrd_at (slrd_keep qB.out fun k hk => B2.block k hk) hu;obtain ⟨T, p, rfl, -, -, zB, rB, CB⟩ := way_rd fA;have x0 := g 0 _ rfl;have x1 := g 1 _ rfl;have x2 := g 2 _ rfl;rw [show ok + (i * wayR.size + 0) = ok + i * 3 from rfl] at x0;rw [show ok + (i * wayR.size + 1) = ok + i * 3 + 1 from rfl] at x1;rw [show ok + (i * wayR.size + 2) = ok + i * 3 + 2 from rfl] at x2;obtain ⟨l, A, d⟩ := u;obtain ⟨n0, n1⟩ := cells_two X2;obtain ⟨_, gk, _⟩ := KW.out _ B2;have HD : Hid _ := CB;have DB : d.length ≤ maxLen := Nat.le_trans zB rB;clear g fA hu zB rB CB;simp only at x0 x1 x2
         go_wp2_with fail
         have BZ := box_below wr (.cells #[.int .i64 l, .int .i64 A, .slice T d.length p] 88);have Z := heap_at wr (.cells #[.int .i64 l, .int .i64 A, .slice T d.length p] 88);have I := heap_on (.cells #[.int .i64 l, .int .i64 A, .slice T d.length p] 88) X2;have C := below_step B2 BZ;have dB : Hid (clearB (l, A, d) = false → ¬ (fullB isL (l, A, d) = true ∧ l % (c.1.length : Int) = (s : Nat) ∧ ∀ j, j < s * f.length + i → (wayK c f.length j).1 ≠ l) → okB isL treeB c = false) := fun h1 h2 => no_of_upto fun h => by
          rw [← S.out] at h;have := h _ (idx_lt YA L);rw [HW.out, (div_mod_at L).1] at this;rcases this with h | h
          ·rw [h1] at h;cases h
          ·exact h2 h
         have yB : Hid (clearB (l, A, d) = true ∨ (fullB isL (l, A, d) = true ∧ l % (c.1.length : Int) = (s : Nat) ∧ ∀ j, j < s * f.length + i → (wayK c f.length j).1 ≠ l) → UptoOk c f.length (s * f.length + (i + 1))) := fun h => upto_next J (by show clearB (wayK c f.length (s * f.length + i)) = true ∨ (fullB isL (wayK c f.length (s * f.length + i)) = true ∧ (wayK c f.length (s * f.length + i)).1 % (c.1.length : Int) = ((s * f.length + i) / f.length : Nat) ∧ ∀ j, j < s * f.length + i → (wayK c f.length j).1 ≠ (wayK c f.length (s * f.length + i)).1); rw [HW.out, (div_mod_at L).1]; exact h);clear X2 n0 n1 gk x0 x1 x2;cases R : clearB (l, A, d)
         case true =>
          have E : Calls Tryz.prog 148 #[.agg #[.int .i64 l, .int .i64 A, .slice T d.length p]] (wr.alloc (.cells #[.int .i64 l, .int .i64 A, .slice T d.length p] 88)) _ := l6Clear_any l A T d.length p _ DB;rw [clr_eq (l, A, d), R] at E;refine E.mono ?_;rintro e w2 ⟨rfl, b2⟩;replace I := row_keep b2 I;replace C := below_step C b2;clear E b2 BZ Z;go_wp2;go_roundw
          case rel => exact ⟨i + 1, by omega, by go_num, yB.out (.inl R), C, I⟩
          case measure => simp [intOf]; omega
         case false =>
          have E : Calls Tryz.prog 148 #[.agg #[.int .i64 l, .int .i64 A, .slice T d.length p]] (wr.alloc (.cells #[.int .i64 l, .int .i64 A, .slice T d.length p] 88)) _ := l6Clear_any l A T d.length p _ DB;rw [clr_eq (l, A, d), R] at E;refine E.mono ?_;rintro e w2 ⟨rfl, b2⟩;replace I := row_keep b2 I;replace C := below_step C b2;replace Z := row_keep b2 Z;have rA := slrd_next (slrd_next HD.out BZ) b2;clear E b2 BZ HD;obtain ⟨y0, y1, y2⟩ := cells_three Z;go_wp2_with fail
          cases mA : fullB isL (l, A, d)
          case false =>
           have E := l6Full_any l A d T p w2 rA;rw [mA] at E;refine E.mono ?_;rintro e w3 ⟨rfl, b3⟩;replace C := below_step C b3;clear E b3 Z y0 y1 y2 rA I;go_wp2;go_ret
           exact ⟨ret_bool (dB.out R (fun h => by rw [mA] at h; exact absurd h.1 (by simp))).symm, C⟩
          case true =>
           have eA := full_line mA;simp only at eA
           have hz : (c.1.length : Int) ≠ 0 := by omega
           have E := l6Full_any l A d T p w2 rA;rw [mA] at E;refine E.mono ?_;rintro e w3 ⟨rfl, b3⟩;replace C := below_step C b3;replace I := row_keep b3 I;replace Z := row_keep b3 Z;clear E b3 y0 y1 y2 rA;obtain ⟨y0, y1, y2⟩ := cells_three Z;have kB : Int.tmod l (c.1.length : Int) = l % (c.1.length : Int) := Int.tmod_eq_emod_of_nonneg eA.1;by_cases hq : l % (c.1.length : Int) = (s : Nat)
           ·rw [hq] at kB;have HQ : Hid (l % (c.1.length : Int) = (s : Nat)) := hq;go_wp2;go_loopw [7] (fun q wq => ∃ k : Nat, k ≤ i ∧ q = .int .i64 k ∧ (∀ j, j < k → (wayK c f.length (s * f.length + j)).1 ≠ l) ∧ Below w.heap.size w wq ∧ wq.heap[w.heap.size]? = some (.cells #[.slice (some ⟨r, y, none⟩) c.1.length cap, .slice (some ⟨O, M, none⟩) c.1.length cp] 92 (0, 0)) ∧ wq.heap[wr.heap.size]? = some (.cells #[.int .i64 l, .int .i64 A, .slice T d.length p] 88 (0, 0))) (fun q _ => i - (intOf q).toNat)
            case atStart => exact ⟨0, Nat.zero_le _, rfl, fun j hj => by omega, C, I, Z⟩
            case round =>
             clear C I Z y0 y1 y2;obtain ⟨k, nD, rfl, KB, C, I, Z⟩ := hrel;obtain ⟨y0, y1, y2⟩ := cells_three Z;by_cases FC : k < i
             ·have fC : (k : Int) < (i : Int) := by omega
              have BC : (k : Int) < (f.length : Int) := by omega
              obtain ⟨v, hv⟩ : ∃ v, f[k]? = some v := ⟨_, List.getElem?_eq_getElem (by omega)⟩;have HV : Hid (wayK c f.length (s * f.length + k) = v) := wayK_at rfl GA.out hv;obtain ⟨aD, oD, cs, e9, fA, g⟩ := slrd_at (slrd_keep qB.out fun k hk => C.block k hk) hv;cases e9;obtain ⟨lD, HC, rfl, -, -, -, -, -⟩ := way_rd fA;have x0 := g 0 _ rfl;rw [show ok + (k * wayR.size + 0) = ok + k * 3 from rfl] at x0;obtain ⟨n0, n1⟩ := cells_two I;obtain ⟨_, gk, _⟩ := KW.out _ C;obtain ⟨l', bD, d'⟩ := v;simp only at x0
              clear g fA hv;by_cases SA : l' = l
              ·subst SA;have cA : Hid (okB isL treeB c = false) := dB.out R fun h => h.2.2 (s * f.length + k) (by omega) (by rw [HV.out]);go_wp2_with fail
               go_quiet (fail)
               go_wp2;go_ret
               exact ⟨ret_bool cA.out.symm, bl_drewN C nq⟩
              ·have OC : (l' == l) = false := by simpa using SA
               go_wp2_with fail
               go_quiet (fail)
               go_wp2;go_roundw
               case rel =>
                refine ⟨k + 1, by omega, by go_num, fun j hj => ?_, bl_drewN C nq, I, Z⟩;by_cases he : j < k
                ·exact KB j he
                ·have : j = k := by omega
                 subst this;rw [HV.out];exact SA
               case measure => simp [intOf]; omega
             ·have UB : k = i := by omega
              subst UB;go_wp2;go_roundw
              case rel => exact ⟨k + 1, by omega, by go_num, yB.out (.inr ⟨mA, HQ.out, upto_row L J eA.1 HQ.out KB⟩), C, I⟩
              case measure => simp [intOf]; omega
           ·have cA : Hid (okB isL treeB c = false) := dB.out R fun h => hq h.2.1;have jD : (l % (c.1.length : Int) != (s : Int)) = true := by simpa using hq
            clear kB;go_wp2;go_ret
            exact ⟨ret_bool cA.out.symm, C⟩
        ·have TB : Hid (i = f.length) := by unfold Hid; omega
         have jB : ¬ ((i : Int) < (f.length : Int)) := by omega
         clear L;obtain ⟨n0, n1⟩ := cells_two X2;obtain ⟨_, gk, _⟩ := KW.out _ B2;go_wp2;go_roundw
         case rel =>
          refine ⟨s + 1, by omega, by go_num, fun j hj => ?_, by rw [Nat.add_one_mul]; have := TB.out; rw [this] at J; exact J, B2, X2⟩;by_cases he : j < s
          ·exact DA j he
          ·have : j = s := by omega
           subst this;exact HY.out (by simp) zA
         case measure => simp [intOf]; omega
     ·have XB : ((f.length : Int) != (m : Int)) = true := by simp; omega
      go_wp2_with fail
      refine region_class (fun wx => Below w.heap.size w wx ∧ wx.heap[w.heap.size]? = some (.cells #[.slice (some ⟨r, y, none⟩) c.1.length cap, .slice (some ⟨O, M, none⟩) c.1.length cp] 92 (0, 0))) (by kernel_rfl) (by kernel_rfl) ⟨BB.drew, X⟩ ?_;intro aA;iterate 12 (quiet_step (fail))
      clear XB;refine wpQuiet_step (fun K hK => ?_);go_simp
      refine hid_act K _ ?_;intro A0 vB;refine hK A0 ?_;clear hK K;have lB : A0.tmps[49]? = some (.bool true) := by rw [vB]; rfl
      refine wpQuiet_skip (b := false) (d := 49) lB rfl rfl rfl (by decide) ?_;intro SC eB lA;clear lB;refine wpQuiet_skip (b := false) (d := 49) lA rfl rfl rfl (by decide) ?_;intro KC OA gA;clear lA;refine wpQuiet_skip (b := false) (d := 49) gA rfl rfl rfl (by decide) ?_;intro AC UA Y;clear gA;refine wpQuiet_skip (b := false) (d := 49) Y rfl rfl rfl (by decide) ?_;intro MC XA U;clear Y;refine wpQuiet_skip (b := false) (d := 49) U rfl rfl rfl (by decide) ?_;intro JC HA kA;clear U;refine wpQuiet_skip (b := false) (d := 49) kA rfl rfl rfl (by decide) ?_;intro pC TA iA;clear kA;refine wpQuiet_skip (b := false) (d := 49) iA rfl rfl rfl (by decide) ?_;intro yC RA V;clear iA;refine wpQuiet_skip (b := false) (d := 49) V rfl rfl rfl (by decide) ?_;intro zC JA nA;clear V;refine wpQuiet_skip (b := false) (d := 49) nA rfl rfl rfl (by decide) ?_;intro EC NA dA;clear nA;refine wpQuiet_skip (b := false) (d := 49) dA rfl rfl rfl (by decide) ?_;intro LC KA bA;clear dA;refine wpQuiet_skip (b := false) (d := 49) bA rfl rfl rfl (by decide) ?_;intro jC yA G;clear bA;refine wpQuiet_skip (b := false) (d := 49) G rfl rfl rfl (by decide) ?_;intro eC sA qA;clear G;clear qA;subst sA yA KA NA JA RA TA HA XA UA OA eB;subst vB;quiet_step (skip)
      refine wpQuiet_nil ?_;rintro wx ⟨N, AA⟩;clear n0 n1 g0 gk gt BB X aA;go_wp2;go_ret
      exact ⟨ret_bool (HF.out fun h => hm (HN.out h).1).symm, N⟩
    ·have LA : s = c.1.length := by omega
     have H : Hid (okB isL treeB c = true) := yes_of ⟨HP.out, CA.out, by rw [← LA]; exact DA⟩ (by rw [← S.out, ← LA]; exact AB);subst LA;go_wp2;go_ret
     exact ⟨ret_bool H.out.symm, BB⟩
 ·have H : Hid (okB isL treeB c = false) := no_of_shape fun h => hl h.2.1;have kD : ((c.2.length : Int) == (c.1.length : Int)) = false := by simp; omega
  clear h1 h2 m1 m2 m3;go_enter Tryz.func146, Tryz.ntmps146;go_wp2_with (go_at_call 140; refine (l2Pow_any _ _).mono ?_; rintro e F ⟨rfl, rfl⟩; rw [hp])
  go_ret
  exact ⟨ret_bool H.out.symm, HB.out _⟩
end Go.Proofs.YtcocbafhcpdheaaGreatDoor
