import Derived.Test.YtcocbafhcpdheaaGreatDoorS00Box
import Derived.Test.YtcocbafhcpdheaaGreatDoorS10WaysOk
namespace Go.Proofs.YtcocbafhcpdheaaGreatDoor
open Go.ChangeShapes Go.WideShapes Go.ChangeAt Go.RowKit Go.Shelf
set_option linter.unusedVariables false
theorem pow_iff (n : Nat) : powB (n : Int) = true ↔ pow3 n := by
 simp only [powB, pow3, decide_eq_true_eq];omega
theorem div_mod_at {m i j : Nat} (hj : j < m) : (i * m + j) / m = i ∧ (i * m + j) % m = j := by
 have a : 0 < m := by omega
 exact ⟨by rw [Nat.mul_comm, Nat.mul_add_div a, Nat.div_eq_of_lt hj, Nat.add_zero], by rw [Nat.mul_comm, Nat.mul_add_mod, Nat.mod_eq_of_lt hj]⟩
theorem idx_lt {s m i j : Nat} (hi : i < s) (hj : j < m) : i * m + j < s * m := by
 have : (i + 1) * m ≤ s * m := Nat.mul_le_mul_right _ hi;rw [Nat.add_one_mul] at this;omega
theorem wayK_at {c : CacheD} {m i j : Nat} {row : List WayD} {u : WayD} (hl : row.length = m) (hr : c.1[i]? = some row) (hu : row[j]? = some u) : wayK c m (i * m + j) = u := by
 have b : j < m := by have := (List.getElem?_eq_some_iff.1 hu).1; omega
 obtain ⟨a, d⟩ := div_mod_at (i := i) b;unfold wayK;rw [a, d];simp [List.getD_eq_getElem?_getD, hr, hu]
theorem ok_link {c : CacheD} : OkC isL treeB c ↔ Shape c ∧ UptoOk c (waysN c) (c.1.length * waysN c) := by
 constructor
 ·rintro ⟨C, H, m, F, q⟩;have b := pow3_pos C;have y := pow3_pos F;have U : waysN c = m := by
   have e : c.1[0]? = some (c.1.getD 0 []) := by rw [List.getD_eq_getElem?_getD, List.getElem?_eq_getElem b]; rfl
   exact (q 0 _ e).1
  rw [U];have g : ∀ a ∈ c.1, a.length = m := fun a hr => by
   obtain ⟨i, f⟩ := List.mem_iff_getElem?.1 hr;exact (q i a f).1
  refine ⟨⟨(pow_iff _).2 C, H, fun i f a t hr E => ?_⟩, fun j hj => ?_⟩
  ·obtain ⟨p, ⟨t', A, Y⟩, _⟩ := q i a hr;rw [E] at A;cases A;rw [U];exact ⟨p, Y⟩
  ·obtain ⟨a, K, O⟩ := wayK_get y g hj;obtain ⟨_, _, p, A⟩ := q _ a K;rcases p _ _ O with J | ⟨S, l⟩
   ·exact .inl J
   ·refine .inr ⟨S, l, fun i f d => ?_⟩;have hl := full_line S;obtain ⟨v, L, N⟩ := wayK_get y g (show i < c.1.length * m by omega);obtain ⟨_, _, b1, b2⟩ := q _ v L;rcases b1 _ _ N with J | ⟨V, I⟩
    ·rw [clear_eq J] at d;simp [emptyW] at d
     omega
    ·rw [d, l] at I;have o : j / m = i / m := by omega
     rw [o, L] at K;cases K;have := b2 _ _ _ _ N O (by omega) d;have d1 := Nat.div_add_mod i m;have d2 := Nat.div_add_mod j m;rw [o, ← this] at d2;omega
 ·rintro ⟨⟨C, H, q⟩, T⟩;have M := (pow_iff _).1 C;have b := pow3_pos M;have X : c.1[0]? = some (c.1.getD 0 []) := by rw [List.getD_eq_getElem?_getD, List.getElem?_eq_getElem b]; rfl
  obtain ⟨t0, G⟩ : ∃ t, c.2[0]? = some t := ⟨_, List.getElem?_eq_getElem (by omega)⟩;have F : pow3 (waysN c) := by
   have := tree_pow (q 0 b _ _ X G).2;unfold pow3;omega
  refine ⟨M, H, waysN c, F, fun s a l => ?_⟩;have r := (List.getElem?_eq_some_iff.1 l).1;obtain ⟨t, E⟩ : ∃ t, c.2[s]? = some t := ⟨_, List.getElem?_eq_getElem (by omega)⟩;obtain ⟨p, A⟩ := q s r a t l E;refine ⟨p, ⟨t, E, A⟩, fun i u n => ?_, fun i k u x n z R d => ?_⟩
  ·have f : i < waysN c := by have := (List.getElem?_eq_some_iff.1 n).1; omega
   have := T _ (idx_lt r f);rw [wayK_at p l n, (div_mod_at f).1] at this;rcases this with h | ⟨h, Z, _⟩
   ·exact .inl h
   ·exact .inr ⟨h, Z⟩
  ·have f : i < waysN c := by have := (List.getElem?_eq_some_iff.1 n).1; omega
   have D : k < waysN c := by have := (List.getElem?_eq_some_iff.1 z).1; omega
   have B : ∀ (i k : Nat) (u x : WayD), a[i]? = some u → a[k]? = some x → 0 ≤ u.1 → u.1 = x.1 → i < waysN c → k < waysN c → ¬ i < k := by
    intro i k u x n z R d f D bA;have := T _ (idx_lt r D);rw [wayK_at p l z] at this;rcases this with h | ⟨_, _, h⟩
    ·rw [clear_eq h] at d;simp [emptyW] at d
     omega
    ·have := h (s * waysN c + i) (by omega);rw [wayK_at p l n] at this;exact this d
   have k1 := B i k u x n z R d f D;have k2 := B k i x u z n (by omega) d.symm D f;omega
theorem ok_eq (c : CacheD) : okB isL treeB c = (shapeB c && waysB c (waysN c)) := by
 rw [Bool.eq_iff_iff, okB_iff, ok_link, Bool.and_eq_true];simp [shapeB, waysB]
theorem shape_facts {c : CacheD} (h : shapeB c = true) : Shape c ∧ (c.1.length = 1 ∨ c.1.length = 2 ∨ c.1.length = 4) ∧ (waysN c = 1 ∨ waysN c = 2 ∨ waysN c = 4) ∧ ∀ row ∈ c.1, row.length = waysN c := by
 have l : Shape c := by simpa [shapeB] using h
 obtain ⟨j, m, f⟩ := l;have g := (pow_iff _).1 j;have a := pow3_pos g;have n : c.1[0]? = some (c.1.getD 0 []) := by rw [List.getD_eq_getElem?_getD, List.getElem?_eq_getElem a]; rfl
 obtain ⟨t0, d⟩ : ∃ t, c.2[0]? = some t := ⟨_, List.getElem?_eq_getElem (by omega)⟩;have hm := tree_pow (f 0 a _ _ n d).2;refine ⟨⟨j, m, f⟩, g, by omega, fun row hr => ?_⟩;obtain ⟨i, k⟩ := List.mem_iff_getElem?.1 hr;have b := (List.getElem?_eq_some_iff.1 k).1;obtain ⟨t, o⟩ : ∃ t, c.2[i]? = some t := ⟨_, List.getElem?_eq_getElem (by omega)⟩;exact (f i b row t k o).1
set_option maxHeartbeats 400000 in
theorem implCacheOk_any (a b : Option Addr) (c : CacheD) (cap cp : Nat) (w : World) (h1 : SlRd waysR w a c.1) (h2 : SlRd intR w b c.2) (m1 : c.1.length ≤ maxLen) (m2 : c.2.length ≤ maxLen) (m3 : ∀ row ∈ c.1, row.length ≤ maxLen) :
    Calls Tryz.prog 194 #[.agg #[.slice a c.1.length cap, .slice b c.2.length cp]] w fun e f => e = .returned (.bool (okB isL treeB c)) ∧ Below w.heap.size w f := by
 rw [ok_eq];have X := heap_at w (.cells #[.slice a c.1.length cap, .slice b c.2.length cp] 92);have B := box_below w (.cells #[.slice a c.1.length cap, .slice b c.2.length cp] 92);have d := shapeOk_any a b c cap cp (w.alloc (.cells #[.slice a c.1.length cap, .slice b c.2.length cp] 92)) (slrd_next h1 B) (slrd_next h2 B) m1 m2 m3;have y : Hid _ := h1;clear h1 h2 m1 m2 m3;cases g : shapeB c
 ·rw [g] at d;go_enter Tryz.func194, Tryz.ntmps194;go_wp2_with (go_at_call 234; refine d.mono ?_; rintro e f ⟨rfl, s⟩)
  go_ret
  exact ⟨rfl, below_step B s⟩
 ·rw [g] at d;obtain ⟨_, l, m, p⟩ := shape_facts g;have o : Hid (∀ W, Below w.heap.size w W → Calls Tryz.prog 235 #[.agg #[.slice a c.1.length cap, .slice b c.2.length cp]] W fun e f => e = .returned (.bool (waysB c (waysN c))) ∧ Below W.heap.size W f) :=
   fun W hb => waysOk_any a b c cap cp (waysN c) W (slrd_keep y.out fun k hk => hb.block k hk) l m p
  clear l m p;go_enter Tryz.func194, Tryz.ntmps194;go_wp2_with fail
  refine d.mono ?_;rintro e w1 ⟨rfl, j⟩;have i := below_step B j;obtain ⟨r, q⟩ := cells_two (row_keep j X);go_wp2_with fail
  refine (o.out _ i).mono ?_;rintro e w2 ⟨rfl, n⟩;have v := below_step i n;clear j i n r q X B d o;go_wp2
  all_goals go_ret
  all_goals exact ⟨by simp_all, v⟩
theorem upto_row {c : CacheD} {m s i : Nat} (hm : i < m) (h : UptoOk c m (s * m + i)) {l : Int} (h0 : 0 ≤ l) (hs : l % (c.1.length : Int) = (s : Nat)) (hno : ∀ k, k < i → (wayK c m (s * m + k)).1 ≠ l) : ∀ j, j < s * m + i → (wayK c m j).1 ≠ l := by
 intro j d a;by_cases hr : s * m ≤ j
 ·exact hno (j - s * m) (by omega) (by rw [show s * m + (j - s * m) = j by omega]; exact a)
 ·have f : j / m < s := by rw [Nat.div_lt_iff_lt_mul (by omega)]; omega
  rcases h j d with b | ⟨_, g, _⟩
  ·rw [clear_eq b] at a;simp [emptyW] at a
   omega
  ·rw [a, hs] at g;omega
theorem no_of_upto {c : CacheD} (h : ¬ UptoOk c (waysN c) (c.1.length * waysN c)) : okB isL treeB c = false := by
 rw [ok_eq, waysB_no h, Bool.and_false]
theorem no_of_shape {c : CacheD} (h : ¬ Shape c) : okB isL treeB c = false := by
 rw [ok_eq, shape_no h, Bool.false_and]
theorem yes_of {c : CacheD} (h : Shape c) (h' : UptoOk c (waysN c) (c.1.length * waysN c)) : okB isL treeB c = true := by
 rw [ok_eq, shape_yes h, waysB_yes h', Bool.and_true]
set_option maxHeartbeats 4000000 in
set_option maxRecDepth 100000 in
theorem specCacheOk_any (a b : Option Addr) (c : CacheD) (cap cp : Nat) (w : World) (h1 : SlRd waysR w a c.1) (h2 : SlRd intR w b c.2) (m1 : c.1.length ≤ maxLen) (m2 : c.2.length ≤ maxLen) (m3 : ∀ f ∈ c.1, f.length ≤ maxLen) :
    Calls Tryz.prog 146 #[.agg #[.slice a c.1.length cap, .slice b c.2.length cp]] w fun e E => e = .returned (.bool (okB isL treeB c)) ∧ Below w.heap.size w E := by
 have cD : c.1.length ≤ 9223372036854775807 := m1;have XC : c.2.length ≤ 9223372036854775807 := m2;have HB : Hid _ := box_below w;cases hp : powB c.1.length
 ·have H : Hid (okB isL treeB c = false) := no_of_shape fun h => by rw [h.1] at hp; cases hp
  clear h1 h2 m1 m2 m3;go_enter Tryz.func146, Tryz.ntmps146;go_wp2_with (go_at_call 140; refine (l2Pow_any _ _).mono ?_; rintro e E ⟨rfl, rfl⟩; rw [hp])
  go_ret
  exact ⟨ret_bool H.out.symm, HB.out _⟩
 by_cases hl : c.2.length = c.1.length
 ·rw [hl];have qB : 0 < c.1.length := by simp [powB] at hp; omega
  have XA : c.1[0]? = some (c.1.getD 0 []) := by rw [List.getD_eq_getElem?_getD, List.getElem?_eq_getElem qB]; rfl
  have UA : (c.1.getD 0 []).length ≤ maxLen := m3 _ (List.mem_of_getElem? XA);obtain ⟨y, r, a0, c0, rfl, g0, -, -, -⟩ := set_at h1 XA;have R : Hid ((c.1.getD 0 []).length = waysN c) := rfl;have G0 : Hid (w.cell? ⟨y, r + 0, none⟩ = some (.slice a0 (c.1.getD 0 []).length c0)) := g0;have jB : Hid (Shape c → powB (waysN c) = true) := fun h => by
   obtain ⟨_, _, f2, _⟩ := shape_facts (shape_yes h);simp [powB]
   omega
  have l1 := cell_lt g0;clear g0 XA;generalize (c.1.getD 0 []).length = m at UA R G0;have MC : m ≤ 9223372036854775807 := UA;cases fA : powB m
  ·have H : Hid (okB isL treeB c = false) := no_of_shape fun h => by have := jB.out h; rw [← R.out, fA] at this; cases this
   have g0 : ∀ o, (w.alloc o).cell? ⟨y, r, none⟩ = some (.slice a0 m c0) := fun o => cell_keep (box_below w o) G0.out l1;clear h1 h2 m1 m2 m3;go_enter Tryz.func146, Tryz.ntmps146;go_wp2_with (go_at_call 140; refine (l2Pow_any _ _).mono ?_; rintro e E ⟨rfl, rfl⟩; first | rw [hp] | rw [fA])
   go_ret
   exact ⟨ret_bool H.out.symm, HB.out _⟩
  ·have X0 := heap_at w (.cells #[.slice (some ⟨y, r, none⟩) c.1.length cap, .slice b c.1.length cp] 92);have B0 := box_below w (.cells #[.slice (some ⟨y, r, none⟩) c.1.length cap, .slice b c.1.length cp] 92);have g0 : ∀ o, (w.alloc o).cell? ⟨y, r, none⟩ = some (.slice a0 m c0) := fun o => cell_keep (box_below w o) G0.out l1;have H1 : Hid _ := h1;have H2 : Hid _ := h2;have HM : Hid (∀ f ∈ c.1, f.length ≤ maxLen) := m3;have FA : Hid (c.2.length = c.1.length) := hl;have HP : Hid (powB c.1.length = true) := hp;have bD : Hid (powB m = true) := fA;clear h1 h2 m1 m2 m3 hl jB;go_enter Tryz.func146, Tryz.ntmps146;go_wp2_with (go_at_call 140; refine (l2Pow_any _ _).mono ?_; rintro e E ⟨rfl, rfl⟩; first | rw [hp] | rw [fA])
   clear g0 hp fA;generalize w.alloc (.cells #[.slice (some ⟨y, r, none⟩) c.1.length cap, .slice b c.1.length cp] 92) = W0 at X0 B0 ⊢;go_loopw [4] (fun i wr => ∃ k : Nat, k ≤ c.1.length ∧ i = .int .i64 k ∧ (∀ j, j < k → RowFit c j) ∧ UptoOk c m (k * m) ∧ Below w.heap.size w wr ∧ wr.heap[w.heap.size]? = some (.cells #[.slice (some ⟨y, r, none⟩) c.1.length cap, .slice b c.1.length cp] 92 (0, 0))) (fun i _ => c.1.length - (intOf i).toNat)
   case atStart => exact ⟨0, Nat.zero_le _, rfl, fun j hj => by omega, fun j hj => by omega, B0, X0⟩
   case round =>
    clear B0 X0;obtain ⟨s, hk, rfl, CA, FB, BB, X⟩ := hrel;by_cases VA : s < c.1.length
    ·have HC : (s : Int) < (c.1.length : Int) := by omega
     obtain ⟨f, A⟩ : ∃ f, c.1[s]? = some f := ⟨_, List.getElem?_eq_getElem VA⟩;obtain ⟨t, ht⟩ : ∃ t, c.2[s]? = some t := ⟨_, List.getElem?_eq_getElem (by have := FA.out; omega)⟩;obtain ⟨_, _, ak, ck, e1, gk, -, -, DA⟩ := set_at H1.out A;cases e1;obtain ⟨M, N, rfl, gt⟩ := int_at H2.out ht;have IB : f.length ≤ maxLen := HM.out _ (List.mem_of_getElem? A);have l2 := cell_lt gt;have KW : Hid (∀ E, Below w.heap.size w E → E.cell? ⟨y, r, none⟩ = some (.slice a0 m c0) ∧ E.cell? ⟨y, r + s, none⟩ = some (.slice ak f.length ck) ∧ E.cell? ⟨M, N + s, none⟩ = some (.int .i64 t)) :=
      fun E hb => ⟨cell_keep hb G0.out l1, cell_keep hb gk l1, cell_keep hb gt l2⟩
     have HR : Hid (∀ r' t', c.1[s]? = some r' → c.2[s]? = some t' → r' = f ∧ t' = t) := fun r' t' h h' => by rw [A] at h; rw [ht] at h'; cases h; cases h'; exact ⟨rfl, rfl⟩
     have HF : Hid (¬ RowFit c s → okB isL treeB c = false) := fun h => no_of_shape fun z => h (z.2.2 s VA);have HN : Hid (RowFit c s → f.length = m ∧ treeB t m = true) := fun h => by have := h f t A ht; rwa [← R.out] at this
     have HY : Hid (f.length = m → treeB t m = true → RowFit c s) := fun e1 e2 r' t' h h' => by obtain ⟨rfl, rfl⟩ := HR.out r' t' h h'; rw [← R.out]; exact ⟨e1, e2⟩
     have GA : Hid (c.1[s]? = some f) := A;have vB : Hid (SlRd wayR w ak f) := DA;have NC : f.length ≤ 9223372036854775807 := IB;clear gk gt A ht IB UA G0 DA HR;have n0 : ∀ n : Cls (fun wx => Below w.heap.size w wx ∧ wx.heap[w.heap.size]? = some (.cells #[.slice (some ⟨y, r, none⟩) c.1.length cap, .slice (some ⟨M, N, none⟩) c.1.length cp] 92 (0, 0))), n.w.cell? ⟨w.heap.size, 0, none⟩ = some (.slice (some ⟨y, r, none⟩) c.1.length cap) := fun n => (cells_two n.h.2).1;have n1 : ∀ n : Cls (fun wx => Below w.heap.size w wx ∧ wx.heap[w.heap.size]? = some (.cells #[.slice (some ⟨y, r, none⟩) c.1.length cap, .slice (some ⟨M, N, none⟩) c.1.length cp] 92 (0, 0))), n.w.cell? ⟨w.heap.size, 1, none⟩ = some (.slice (some ⟨M, N, none⟩) c.1.length cp) := fun n => (cells_two n.h.2).2;have g0 : ∀ n : Cls (fun wx => Below w.heap.size w wx ∧ wx.heap[w.heap.size]? = some (.cells #[.slice (some ⟨y, r, none⟩) c.1.length cap, .slice (some ⟨M, N, none⟩) c.1.length cp] 92 (0, 0))), n.w.cell? ⟨y, r, none⟩ = some (.slice a0 m c0) := fun n => (KW.out _ n.h.1).1;have gk : ∀ n : Cls (fun wx => Below w.heap.size w wx ∧ wx.heap[w.heap.size]? = some (.cells #[.slice (some ⟨y, r, none⟩) c.1.length cap, .slice (some ⟨M, N, none⟩) c.1.length cp] 92 (0, 0))), n.w.cell? ⟨y, r + s, none⟩ = some (.slice ak f.length ck) := fun n => (KW.out _ n.h.1).2.1;have gt : ∀ n : Cls (fun wx => Below w.heap.size w wx ∧ wx.heap[w.heap.size]? = some (.cells #[.slice (some ⟨y, r, none⟩) c.1.length cap, .slice (some ⟨M, N, none⟩) c.1.length cp] 92 (0, 0))), n.w.cell? ⟨M, N + s, none⟩ = some (.int .i64 t) := fun n => (KW.out _ n.h.1).2.2;by_cases hm : f.length = m
     ·subst hm;cases vA : treeB t f.length
      ·have C : Hid (∀ w, Calls Tryz.prog 200 #[.int .i64 t, .int .i64 f.length] w fun e E => e = .returned (.bool false) ∧ E = w) := fun w => by have := specTreeOk_any t f.length w; rwa [vA] at this
       go_wp2_with fail
       refine region_class (fun wx => Below w.heap.size w wx ∧ wx.heap[w.heap.size]? = some (.cells #[.slice (some ⟨y, r, none⟩) c.1.length cap, .slice (some ⟨M, N, none⟩) c.1.length cp] 92 (0, 0))) (by kernel_rfl) (by kernel_rfl) ⟨BB.drew, X⟩ ?_;intro aA;repeat (quiet_step ((go_at_call 200; exact calls_class_same (C.out _))))
       refine wpQuiet_nil ?_;rintro wx ⟨O, BA⟩;clear n0 n1 g0 gk gt BB X aA;go_wp2;go_ret
       exact ⟨ret_bool (HF.out fun h => by have := (HN.out h).2; rw [vA] at this; cases this).symm, O⟩
      ·have C : Hid (∀ w, Calls Tryz.prog 200 #[.int .i64 t, .int .i64 f.length] w fun e E => e = .returned (.bool true) ∧ E = w) := fun w => by have := specTreeOk_any t f.length w; rwa [vA] at this
       go_wp2_with fail
       refine region_class (fun wx => Below w.heap.size w wx ∧ wx.heap[w.heap.size]? = some (.cells #[.slice (some ⟨y, r, none⟩) c.1.length cap, .slice (some ⟨M, N, none⟩) c.1.length cp] 92 (0, 0))) (by kernel_rfl) (by kernel_rfl) ⟨BB.drew, X⟩ ?_;intro aA;repeat (quiet_step ((go_at_call 200; exact calls_class_same (C.out _))))
       refine wpQuiet_nil ?_;rintro wx ⟨O, BA⟩;clear n0 n1 g0 gk gt BB X aA;clear C;go_wp2;go_loopw [5] (fun i wr => ∃ k : Nat, k ≤ f.length ∧ i = .int .i64 k ∧ UptoOk c f.length (s * f.length + k) ∧ Below w.heap.size w wr ∧ wr.heap[w.heap.size]? = some (.cells #[.slice (some ⟨y, r, none⟩) c.1.length cap, .slice (some ⟨M, N, none⟩) c.1.length cp] 92 (0, 0))) (fun i _ => f.length - (intOf i).toNat)
       case atStart => exact ⟨0, Nat.zero_le _, rfl, by simpa using FB, O, BA⟩
       case round =>
        clear O BA;obtain ⟨i, hi, rfl, J, B2, X2⟩ := hrel;by_cases S : i < f.length
        ·have KB : (i : Int) < (f.length : Int) := by omega
         obtain ⟨u, hu⟩ : ∃ u, f[i]? = some u := ⟨_, List.getElem?_eq_getElem S⟩;have HW : Hid (wayK c f.length (s * f.length + i) = u) := wayK_at rfl GA.out hu;obtain ⟨bk, ok, cs, rfl, dA, g⟩ := slrd_at (slrd_keep vB.out fun k hk => B2.block k hk) hu;obtain ⟨T, p, rfl, -, -, lB, kB, JB⟩ := way_rd dA;have x0 := g 0 _ rfl;have x1 := g 1 _ rfl;have x2 := g 2 _ rfl;rw [show ok + (i * wayR.size + 0) = ok + i * 3 from rfl] at x0;rw [show ok + (i * wayR.size + 1) = ok + i * 3 + 1 from rfl] at x1;rw [show ok + (i * wayR.size + 2) = ok + i * 3 + 2 from rfl] at x2;obtain ⟨l, B, d⟩ := u;obtain ⟨n0, n1⟩ := cells_two X2;obtain ⟨_, gk, _⟩ := KW.out _ B2;have HD : Hid _ := JB;have sB : d.length ≤ maxLen := Nat.le_trans lB kB;clear g dA hu lB kB JB;simp only at x0 x1 x2
         go_wp2_with fail
         have BZ := box_below wr (.cells #[.int .i64 l, .int .i64 B, .slice T d.length p] 88);have Z := heap_at wr (.cells #[.int .i64 l, .int .i64 B, .slice T d.length p] 88);have I := heap_on (.cells #[.int .i64 l, .int .i64 B, .slice T d.length p] 88) X2;have D := below_step B2 BZ;have YA : Hid (clearB (l, B, d) = false → ¬ (fullB isL (l, B, d) = true ∧ l % (c.1.length : Int) = (s : Nat) ∧ ∀ j, j < s * f.length + i → (wayK c f.length j).1 ≠ l) → okB isL treeB c = false) := fun h1 h2 => no_of_upto fun h => by
          rw [← R.out] at h;have := h _ (idx_lt VA S);rw [HW.out, (div_mod_at S).1] at this;rcases this with h | h
          ·rw [h1] at h;cases h
          ·exact h2 h
         have zB : Hid (clearB (l, B, d) = true ∨ (fullB isL (l, B, d) = true ∧ l % (c.1.length : Int) = (s : Nat) ∧ ∀ j, j < s * f.length + i → (wayK c f.length j).1 ≠ l) → UptoOk c f.length (s * f.length + (i + 1))) := fun h => upto_next J (by show clearB (wayK c f.length (s * f.length + i)) = true ∨ (fullB isL (wayK c f.length (s * f.length + i)) = true ∧ (wayK c f.length (s * f.length + i)).1 % (c.1.length : Int) = ((s * f.length + i) / f.length : Nat) ∧ ∀ j, j < s * f.length + i → (wayK c f.length j).1 ≠ (wayK c f.length (s * f.length + i)).1); rw [HW.out, (div_mod_at S).1]; exact h);clear X2 n0 n1 gk x0 x1 x2;cases L : clearB (l, B, d)
         case true =>
          have F : Calls Tryz.prog 148 #[.agg #[.int .i64 l, .int .i64 B, .slice T d.length p]] (wr.alloc (.cells #[.int .i64 l, .int .i64 B, .slice T d.length p] 88)) _ := l6Clear_any l B T d.length p _ sB;rw [clr_eq (l, B, d), L] at F;refine F.mono ?_;rintro e w2 ⟨rfl, b2⟩;replace I := row_keep b2 I;replace D := below_step D b2;clear F b2 BZ Z;go_wp2;go_roundw
          case rel => exact ⟨i + 1, by omega, by go_num, zB.out (.inl L), D, I⟩
          case measure => simp [intOf]; omega
         case false =>
          have F : Calls Tryz.prog 148 #[.agg #[.int .i64 l, .int .i64 B, .slice T d.length p]] (wr.alloc (.cells #[.int .i64 l, .int .i64 B, .slice T d.length p] 88)) _ := l6Clear_any l B T d.length p _ sB;rw [clr_eq (l, B, d), L] at F;refine F.mono ?_;rintro e w2 ⟨rfl, b2⟩;replace I := row_keep b2 I;replace D := below_step D b2;replace Z := row_keep b2 Z;have AA := slrd_next (slrd_next HD.out BZ) b2;clear F b2 BZ HD;obtain ⟨y0, y1, y2⟩ := cells_three Z;go_wp2_with fail
          cases mA : fullB isL (l, B, d)
          case false =>
           have F := l6Full_any l B d T p w2 AA;rw [mA] at F;refine F.mono ?_;rintro e w3 ⟨rfl, b3⟩;replace D := below_step D b3;clear F b3 Z y0 y1 y2 AA I;go_wp2;go_ret
           exact ⟨ret_bool (YA.out L (fun h => by rw [mA] at h; exact absurd h.1 (by simp))).symm, D⟩
          case true =>
           have cA := full_line mA;simp only at cA
           have hz : (c.1.length : Int) ≠ 0 := by omega
           have F := l6Full_any l B d T p w2 AA;rw [mA] at F;refine F.mono ?_;rintro e w3 ⟨rfl, b3⟩;replace D := below_step D b3;replace I := row_keep b3 I;replace Z := row_keep b3 Z;clear F b3 y0 y1 y2 AA;obtain ⟨y0, y1, y2⟩ := cells_three Z;have AB : Int.tmod l (c.1.length : Int) = l % (c.1.length : Int) := Int.tmod_eq_emod_of_nonneg cA.1;by_cases hq : l % (c.1.length : Int) = (s : Nat)
           ·rw [hq] at AB;have HQ : Hid (l % (c.1.length : Int) = (s : Nat)) := hq;go_wp2;go_loopw [7] (fun q wq => ∃ k : Nat, k ≤ i ∧ q = .int .i64 k ∧ (∀ j, j < k → (wayK c f.length (s * f.length + j)).1 ≠ l) ∧ Below w.heap.size w wq ∧ wq.heap[w.heap.size]? = some (.cells #[.slice (some ⟨y, r, none⟩) c.1.length cap, .slice (some ⟨M, N, none⟩) c.1.length cp] 92 (0, 0)) ∧ wq.heap[wr.heap.size]? = some (.cells #[.int .i64 l, .int .i64 B, .slice T d.length p] 88 (0, 0))) (fun q _ => i - (intOf q).toNat)
            case atStart => exact ⟨0, Nat.zero_le _, rfl, fun j hj => by omega, D, I, Z⟩
            case round =>
             clear D I Z y0 y1 y2;obtain ⟨k, VC, rfl, DB, D, I, Z⟩ := hrel;obtain ⟨y0, y1, y2⟩ := cells_three Z;by_cases nC : k < i
             ·have iC : (k : Int) < (i : Int) := by omega
              have AC : (k : Int) < (f.length : Int) := by omega
              obtain ⟨v, hv⟩ : ∃ v, f[k]? = some v := ⟨_, List.getElem?_eq_getElem (by omega)⟩;have HV : Hid (wayK c f.length (s * f.length + k) = v) := wayK_at rfl GA.out hv;obtain ⟨ZC, lD, cs, e9, dA, g⟩ := slrd_at (slrd_keep vB.out fun k hk => D.block k hk) hv;cases e9;obtain ⟨eD, SC, rfl, -, -, -, -, -⟩ := way_rd dA;have x0 := g 0 _ rfl;rw [show ok + (k * wayR.size + 0) = ok + k * 3 from rfl] at x0;obtain ⟨n0, n1⟩ := cells_two I;obtain ⟨_, gk, _⟩ := KW.out _ D;obtain ⟨l', YC, d'⟩ := v;simp only at x0
              clear g dA hv;by_cases NA : l' = l
              ·subst NA;have kA : Hid (okB isL treeB c = false) := YA.out L fun h => h.2.2 (s * f.length + k) (by omega) (by rw [HV.out]);go_wp2_with fail
               go_quiet (fail)
               go_wp2;go_ret
               exact ⟨ret_bool kA.out.symm, bl_drewN D nq⟩
              ·have TC : (l' == l) = false := by simpa using NA
               go_wp2_with fail
               go_quiet (fail)
               go_wp2;go_roundw
               case rel =>
                refine ⟨k + 1, by omega, by go_num, fun j hj => ?_, bl_drewN D nq, I, Z⟩;by_cases he : j < k
                ·exact DB j he
                ·have : j = k := by omega
                 subst this;rw [HV.out];exact NA
               case measure => simp [intOf]; omega
             ·have bC : k = i := by omega
              subst bC;go_wp2;go_roundw
              case rel => exact ⟨k + 1, by omega, by go_num, zB.out (.inr ⟨mA, HQ.out, upto_row S J cA.1 HQ.out DB⟩), D, I⟩
              case measure => simp [intOf]; omega
           ·have kA : Hid (okB isL treeB c = false) := YA.out L fun h => hq h.2.1;have aD : (l % (c.1.length : Int) != (s : Int)) = true := by simpa using hq
            clear AB;go_wp2;go_ret
            exact ⟨ret_bool kA.out.symm, D⟩
        ·have aC : Hid (i = f.length) := by unfold Hid; omega
         have KB : ¬ ((i : Int) < (f.length : Int)) := by omega
         clear S;obtain ⟨n0, n1⟩ := cells_two X2;obtain ⟨_, gk, _⟩ := KW.out _ B2;go_wp2;go_roundw
         case rel =>
          refine ⟨s + 1, by omega, by go_num, fun j hj => ?_, by rw [Nat.add_one_mul]; have := aC.out; rw [this] at J; exact J, B2, X2⟩;by_cases he : j < s
          ·exact CA j he
          ·have : j = s := by omega
           subst this;exact HY.out (by simp) vA
         case measure => simp [intOf]; omega
     ·have ZB : ((f.length : Int) != (m : Int)) = true := by simp; omega
      go_wp2_with fail
      refine region_class (fun wx => Below w.heap.size w wx ∧ wx.heap[w.heap.size]? = some (.cells #[.slice (some ⟨y, r, none⟩) c.1.length cap, .slice (some ⟨M, N, none⟩) c.1.length cp] 92 (0, 0))) (by kernel_rfl) (by kernel_rfl) ⟨BB.drew, X⟩ ?_;intro aA;iterate 12 (quiet_step (fail))
      clear ZB;refine wpQuiet_step (fun K hK => ?_);go_simp
      refine hid_act K _ ?_;intro A0 rB;refine hK A0 ?_;clear hK K;have pB : A0.tmps[49]? = some (.bool true) := by rw [rB]; rfl
      refine wpQuiet_skip (b := false) (d := 49) pB rfl rfl rfl (by decide) ?_;intro OC TA bA;clear pB;refine wpQuiet_skip (b := false) (d := 49) bA rfl rfl rfl (by decide) ?_;intro JC eB iA;clear bA;refine wpQuiet_skip (b := false) (d := 49) iA rfl rfl rfl (by decide) ?_;intro vC KA nA;clear iA;refine wpQuiet_skip (b := false) (d := 49) nA rfl rfl rfl (by decide) ?_;intro qC SA Y;clear nA;refine wpQuiet_skip (b := false) (d := 49) Y rfl rfl rfl (by decide) ?_;intro rC aB eA;clear Y;refine wpQuiet_skip (b := false) (d := 49) eA rfl rfl rfl (by decide) ?_;intro yC MA gA;clear eA;refine wpQuiet_skip (b := false) (d := 49) gA rfl rfl rfl (by decide) ?_;intro EC bB V;clear gA;refine wpQuiet_skip (b := false) (d := 49) V rfl rfl rfl (by decide) ?_;intro KC LA jA;clear V;refine wpQuiet_skip (b := false) (d := 49) jA rfl rfl rfl (by decide) ?_;intro DC IA U;clear jA;refine wpQuiet_skip (b := false) (d := 49) U rfl rfl rfl (by decide) ?_;intro LC dB lA;clear U;refine wpQuiet_skip (b := false) (d := 49) lA rfl rfl rfl (by decide) ?_;intro XB sA G;clear lA;refine wpQuiet_skip (b := false) (d := 49) G rfl rfl rfl (by decide) ?_;intro dC zA rA;clear G;clear rA;subst zA sA dB IA LA bB MA aB SA KA eB TA;subst rB;quiet_step (skip)
      refine wpQuiet_nil ?_;rintro wx ⟨O, BA⟩;clear n0 n1 g0 gk gt BB X aA;go_wp2;go_ret
      exact ⟨ret_bool (HF.out fun h => hm (HN.out h).1).symm, O⟩
    ·have ZA : s = c.1.length := by omega
     have H : Hid (okB isL treeB c = true) := yes_of ⟨HP.out, FA.out, by rw [← ZA]; exact CA⟩ (by rw [← R.out, ← ZA]; exact FB);subst ZA;go_wp2;go_ret
     exact ⟨ret_bool H.out.symm, BB⟩
 ·have H : Hid (okB isL treeB c = false) := no_of_shape fun h => hl h.2.1;have oD : ((c.2.length : Int) == (c.1.length : Int)) = false := by simp; omega
  clear h1 h2 m1 m2 m3;go_enter Tryz.func146, Tryz.ntmps146;go_wp2_with (go_at_call 140; refine (l2Pow_any _ _).mono ?_; rintro e E ⟨rfl, rfl⟩; rw [hp])
  go_ret
  exact ⟨ret_bool H.out.symm, HB.out _⟩
end Go.Proofs.YtcocbafhcpdheaaGreatDoor
