import Derived.Test.YtmdhblhdfcocjaaGreatDoorP00Box
import Derived.Test.YtmdhblhdfcocjaaGreatDoorP10
namespace Go.Proofs.YtmdhblhdfcocjaaGreatDoor
open Go.ChangeShapes Go.WideShapes Go.ChangeAt Go.RowKit Go.Shelf
set_option linter.unusedVariables false
theorem zKh (n : Nat) : zHg (n : Int) = true ↔ zIT n := by
 simp only [zHg, zIT, decide_eq_true_eq];omega
theorem zE7 {m i j : Nat} (hj : j < m) : (i * m + j) / m = i ∧ (i * m + j) % m = j := by
 have a : 0 < m := by omega
 exact ⟨by rw [Nat.mul_comm, Nat.mul_add_div a, Nat.div_eq_of_lt hj, Nat.add_zero], by rw [Nat.mul_comm, Nat.mul_add_mod, Nat.mod_eq_of_lt hj]⟩
theorem zMN {s m i j : Nat} (hi : i < s) (hj : j < m) : i * m + j < s * m := by
 have : (i + 1) * m ≤ s * m := Nat.mul_le_mul_right _ hi;rw [Nat.add_one_mul] at this;omega
theorem zGB {c : zAu} {m i j : Nat} {row : List zAT} {u : zAT} (hl : row.length = m) (hr : c.1[i]? = some row) (hu : row[j]? = some u) : zBZ c m (i * m + j) = u := by
 have a : j < m := by have := (List.getElem?_eq_some_iff.1 hu).1; omega
 obtain ⟨b, d⟩ := zE7 (i := i) a;unfold zBZ;rw [b, d];simp [List.getD_eq_getElem?_getD, hr, hu]
theorem ok_link {c : zAu} : OkC isL zAJ c ↔ zId c ∧ zDA c (zCB c) (c.1.length * zCB c) := by
 constructor
 ·rintro ⟨D, F, m, I, g⟩;have b := zDv D;have B := zDv I;have L : zCB c = m := by
   have e : c.1[0]? = some (c.1.getD 0 []) := by rw [List.getD_eq_getElem?_getD, List.getElem?_eq_getElem b]; rfl
   exact (g 0 _ e).1
  rw [L];have l : ∀ a ∈ c.1, a.length = m := fun a hr => by
   obtain ⟨i, f⟩ := List.mem_iff_getElem?.1 hr;exact (g i a f).1
  refine ⟨⟨(zKh _).2 D, F, fun i f a t hr E => ?_⟩, fun j hj => ?_⟩
  ·obtain ⟨p, ⟨t', z, V⟩, _⟩ := g i a hr;rw [E] at z;cases z;rw [L];exact ⟨p, V⟩
  ·obtain ⟨a, G, O⟩ := zGn B l hj;obtain ⟨_, _, p, z⟩ := g _ a G;rcases p _ _ O with J | ⟨R, n⟩
   ·exact .inl J
   ·refine .inr ⟨R, n, fun i f d => ?_⟩;have hl := zBY R;obtain ⟨v, S, U⟩ := zGn B l (show i < c.1.length * m by omega);obtain ⟨_, _, b1, b2⟩ := g _ v S;rcases b1 _ _ U with J | ⟨Y, K⟩
    ·rw [zCQ J] at d;simp [zAF] at d
     omega
    ·rw [d, n] at K;have q : j / m = i / m := by omega
     rw [q, S] at G;cases G;have := b2 _ _ _ _ U O (by omega) d;have d1 := Nat.div_add_mod i m;have d2 := Nat.div_add_mod j m;rw [q, ← this] at d2;omega
 ·rintro ⟨⟨D, F, g⟩, N⟩;have T := (zKh _).1 D;have b := zDv T;have X : c.1[0]? = some (c.1.getD 0 []) := by rw [List.getD_eq_getElem?_getD, List.getElem?_eq_getElem b]; rfl
  obtain ⟨t0, H⟩ : ∃ t, c.2[0]? = some t := ⟨_, List.getElem?_eq_getElem (by omega)⟩;have I : zIT (zCB c) := by
   have := zIc (g 0 b _ _ X H).2;unfold zIT;omega
  refine ⟨T, F, zCB c, I, fun s a n => ?_⟩;have r := (List.getElem?_eq_some_iff.1 n).1;obtain ⟨t, E⟩ : ∃ t, c.2[s]? = some t := ⟨_, List.getElem?_eq_getElem (by omega)⟩;obtain ⟨p, z⟩ := g s r a t n E;refine ⟨p, ⟨t, E, z⟩, fun i u o => ?_, fun i k u x o A M d => ?_⟩
  ·have f : i < zCB c := by have := (List.getElem?_eq_some_iff.1 o).1; omega
   have := N _ (zMN r f);rw [zGB p n o, (zE7 f).1] at this;rcases this with h | ⟨h, h', _⟩
   ·exact .inl h
   ·exact .inr ⟨h, h'⟩
  ·have f : i < zCB c := by have := (List.getElem?_eq_some_iff.1 o).1; omega
   have C : k < zCB c := by have := (List.getElem?_eq_some_iff.1 A).1; omega
   have y : ∀ (i k : Nat) (u x : zAT), a[i]? = some u → a[k]? = some x → 0 ≤ u.1 → u.1 = x.1 → i < zCB c → k < zCB c → ¬ i < k := by
    intro i k u x o A M d f C Z;have := N _ (zMN r C);rw [zGB p n A] at this;rcases this with h | ⟨_, _, h⟩
    ·rw [zCQ h] at d;simp [zAF] at d
     omega
    ·have := h (s * zCB c + i) (by omega);rw [zGB p n o] at this;exact this d
   have k1 := y i k u x o A M d f C;have k2 := y k i x u A o (by omega) d.symm C f;omega
theorem ok_eq (c : zAu) : okB isL zAJ c = (zDx c && zHs c (zCB c)) := by
 rw [Bool.eq_iff_iff, zCK, ok_link, Bool.and_eq_true];simp [zDx, zHs]
theorem zGC {c : zAu} (h : zDx c = true) : zId c ∧ (c.1.length = 1 ∨ c.1.length = 2 ∨ c.1.length = 4) ∧ (zCB c = 1 ∨ zCB c = 2 ∨ zCB c = 4) ∧ ∀ row ∈ c.1, row.length = zCB c := by
 have n : zId c := by simpa [zDx] using h
 obtain ⟨k, l, d⟩ := n;have j := (zKh _).1 k;have a := zDv j;have o : c.1[0]? = some (c.1.getD 0 []) := by rw [List.getD_eq_getElem?_getD, List.getElem?_eq_getElem a]; rfl
 obtain ⟨t0, f⟩ : ∃ t, c.2[0]? = some t := ⟨_, List.getElem?_eq_getElem (by omega)⟩;have hm := zIc (d 0 a _ _ o f).2;refine ⟨⟨k, l, d⟩, j, by omega, fun row hr => ?_⟩;obtain ⟨i, g⟩ := List.mem_iff_getElem?.1 hr;have b := (List.getElem?_eq_some_iff.1 g).1;obtain ⟨t, m⟩ : ∃ t, c.2[i]? = some t := ⟨_, List.getElem?_eq_getElem (by omega)⟩;exact (d i b row t g m).1
set_option maxHeartbeats 400000 in
theorem zDk (a b : Option Addr) (c : zAu) (cap cp : Nat) (w : World) (h1 : zBg zBl w a c.1) (h2 : zBg zBC w b c.2) (m1 : c.1.length ≤ maxLen) (m2 : c.2.length ≤ maxLen) (m3 : ∀ row ∈ c.1, row.length ≤ maxLen) :
    Calls Tryz.prog 64 #[.agg #[sL a c.1.length cap, sL b c.2.length cp]] w fun e f => e = .returned (.bool (okB isL zAJ c)) ∧ Bl w f := by
 rw [ok_eq];have X := zAx w (.cells #[sL a c.1.length cap, sL b c.2.length cp] 37);have B := zAf w (.cells #[sL a c.1.length cap, sL b c.2.length cp] 37);have d := zKg a b c cap cp (w.alloc (.cells #[sL a c.1.length cap, sL b c.2.length cp] 37)) (zAG h1 B) (zAG h2 B) m1 m2 m3;have y : Hid _ := h1;clear h1 h2 m1 m2 m3;cases g : zDx c
 ·rw [g] at d;go_enter Tryz.func64, Tryz.ntmps64;go_wp2_with (go_at_call 89; refine d.mono ?_; rintro e f ⟨rfl, v⟩)
  go_ret
  exact ⟨rfl, zAb B v⟩
 ·rw [g] at d;obtain ⟨_, n, p, o⟩ := zGC g;have m : Hid (∀ W, Bl w W → Calls Tryz.prog 90 #[.agg #[sL a c.1.length cap, sL b c.2.length cp]] W fun e f => e = .returned (.bool (zHs c (zCB c))) ∧ Bl W f) :=
   fun W hb => zLE a b c cap cp (zCB c) W (zA7 y.out fun k hk => hb.block k hk) n p o
  clear n p o;go_enter Tryz.func64, Tryz.ntmps64;go_wp2_with fail
  refine d.mono ?_;rintro e w1 ⟨rfl, i⟩;have j := zAb B i;obtain ⟨r, s⟩ := zAy (zAa i X);go_wp2_with fail
  refine (m.out _ j).mono ?_;rintro e w2 ⟨rfl, l⟩;have q := zAb j l;clear i j l r s X B d m;go_wp2
  all_goals go_ret
  all_goals exact ⟨by simp_all, q⟩
theorem upto_row {c : zAu} {m s i : Nat} (hm : i < m) (h : zDA c m (s * m + i)) {l : Int} (h0 : 0 ≤ l) (hs : l % (c.1.length : Int) = (s : Nat)) (hno : ∀ k, k < i → (zBZ c m (s * m + k)).1 ≠ l) : ∀ j, j < s * m + i → (zBZ c m j).1 ≠ l := by
 intro j f a;by_cases hr : s * m ≤ j
 ·exact hno (j - s * m) (by omega) (by rw [show s * m + (j - s * m) = j by omega]; exact a)
 ·have g : j / m < s := by rw [Nat.div_lt_iff_lt_mul (by omega)]; omega
  rcases h j f with b | ⟨_, d, _⟩
  ·rw [zCQ b] at a;simp [zAF] at a
   omega
  ·rw [a, hs] at d;omega
theorem zLF {c : zAu} (h : ¬ zDA c (zCB c) (c.1.length * zCB c)) : okB isL zAJ c = false := by
 rw [ok_eq, zLf h, Bool.and_false]
theorem zDQ {c : zAu} (h : ¬ zId c) : okB isL zAJ c = false := by
 rw [ok_eq, zGm h, Bool.false_and]
theorem yes_of {c : zAu} (h : zId c) (h' : zDA c (zCB c) (c.1.length * zCB c)) : okB isL zAJ c = true := by
 rw [ok_eq, zG9 h, zIW h', Bool.and_true]
set_option maxHeartbeats 4000000 in
set_option maxRecDepth 100000 in
theorem zGD (a b : Option Addr) (c : zAu) (cap cp : Nat) (w : World) (h1 : zBg zBl w a c.1) (h2 : zBg zBC w b c.2) (m1 : c.1.length ≤ maxLen) (m2 : c.2.length ≤ maxLen) (m3 : ∀ f ∈ c.1, f.length ≤ maxLen) :
    Calls Tryz.prog 50 #[.agg #[sL a c.1.length cap, sL b c.2.length cp]] w fun e E => e = .returned (.bool (okB isL zAJ c)) ∧ Bl w E := by
 have lD : c.1.length ≤ 9223372036854775807 := m1;have mD : c.2.length ≤ 9223372036854775807 := m2;have HB : Hid _ := zAf w;cases hp : zHg c.1.length
 ·have H : Hid (okB isL zAJ c = false) := zDQ fun h => by rw [h.1] at hp; cases hp
  clear h1 h2 m1 m2 m3;go_enter Tryz.func50, Tryz.ntmps50;go_wp2_with (go_at_call 81; refine (zFm _ _).mono ?_; rintro e E ⟨rfl, rfl⟩; rw [hp])
  go_ret
  exact ⟨zA2 H.out.symm, HB.out _⟩
 by_cases hl : c.2.length = c.1.length
 ·rw [hl];have AB : 0 < c.1.length := by simp [zHg] at hp; omega
  have eB : c.1[0]? = some (c.1.getD 0 []) := by rw [List.getD_eq_getElem?_getD, List.getElem?_eq_getElem AB]; rfl
  have RA : (c.1.getD 0 []).length ≤ maxLen := m3 _ (List.mem_of_getElem? eB);obtain ⟨y, r, a0, c0, rfl, g0, -, -, -⟩ := zDj h1 eB;have M : Hid ((c.1.getD 0 []).length = zCB c) := rfl;have G0 : Hid (w.cell? ⟨y, r + 0, none⟩ = some (sL a0 (c.1.getD 0 []).length c0)) := g0;have pB : Hid (zId c → zHg (zCB c) = true) := fun h => by
   obtain ⟨_, _, f2, _⟩ := zGC (zG9 h);simp [zHg]
   omega
  have l1 := zAi g0;clear g0 eB;generalize (c.1.getD 0 []).length = m at RA M G0;have BC : m ≤ 9223372036854775807 := RA;cases bA : zHg m
  ·have H : Hid (okB isL zAJ c = false) := zDQ fun h => by have := pB.out h; rw [← M.out, bA] at this; cases this
   have g0 : ∀ o, (w.alloc o).cell? ⟨y, r, none⟩ = some (sL a0 m c0) := fun o => zAd (zAf w o) G0.out l1;clear h1 h2 m1 m2 m3;go_enter Tryz.func50, Tryz.ntmps50;go_wp2_with (go_at_call 81; refine (zFm _ _).mono ?_; rintro e E ⟨rfl, rfl⟩; first | rw [hp] | rw [bA])
   go_ret
   exact ⟨zA2 H.out.symm, HB.out _⟩
  ·have X0 := zAx w (.cells #[sL (some ⟨y, r, none⟩) c.1.length cap, sL b c.1.length cp] 37);have B0 := zAf w (.cells #[sL (some ⟨y, r, none⟩) c.1.length cap, sL b c.1.length cp] 37);have g0 : ∀ o, (w.alloc o).cell? ⟨y, r, none⟩ = some (sL a0 m c0) := fun o => zAd (zAf w o) G0.out l1;have H1 : Hid _ := h1;have H2 : Hid _ := h2;have HM : Hid (∀ f ∈ c.1, f.length ≤ maxLen) := m3;have GA : Hid (c.2.length = c.1.length) := hl;have HP : Hid (zHg c.1.length = true) := hp;have fD : Hid (zHg m = true) := bA;clear h1 h2 m1 m2 m3 hl pB;go_enter Tryz.func50, Tryz.ntmps50;go_wp2_with (go_at_call 81; refine (zFm _ _).mono ?_; rintro e E ⟨rfl, rfl⟩; first | rw [hp] | rw [bA])
   clear g0 hp bA;generalize w.alloc (.cells #[sL (some ⟨y, r, none⟩) c.1.length cap, sL b c.1.length cp] 37) = W0 at X0 B0 ⊢;go_loopw [4] (fun i wr => ∃ k : Nat, k ≤ c.1.length ∧ i = nI k ∧ (∀ j, j < k → zFn c j) ∧ zDA c m (k * m) ∧ Bl w wr ∧ wr.heap[w.heap.size]? = some (.cells #[sL (some ⟨y, r, none⟩) c.1.length cap, sL b c.1.length cp] 37 (0, 0))) (fun i _ => c.1.length - (intOf i).toNat)
   case atStart => exact ⟨0, Nat.zero_le _, rfl, fun j hj => by omega, fun j hj => by omega, B0, X0⟩
   case round =>
    clear B0 X0;obtain ⟨s, hk, rfl, DA, FB, BB, X⟩ := hrel;by_cases XA : s < c.1.length
    ·have AC : (s : Int) < (c.1.length : Int) := by omega
     obtain ⟨f, B⟩ : ∃ f, c.1[s]? = some f := ⟨_, List.getElem?_eq_getElem XA⟩;obtain ⟨t, ht⟩ : ∃ t, c.2[s]? = some t := ⟨_, List.getElem?_eq_getElem (by have := GA.out; omega)⟩;obtain ⟨_, _, ak, ck, e1, gk, -, -, FA⟩ := zDj H1.out B;cases e1;obtain ⟨N, R, rfl, gt⟩ := int_at H2.out ht;have EB : f.length ≤ maxLen := HM.out _ (List.mem_of_getElem? B);have l2 := zAi gt;have KW : Hid (∀ E, Bl w E → E.cell? ⟨y, r, none⟩ = some (sL a0 m c0) ∧ E.cell? ⟨y, r + s, none⟩ = some (sL ak f.length ck) ∧ E.cell? ⟨N, R + s, none⟩ = some (nI t)) :=
      fun E hb => ⟨zAd hb G0.out l1, zAd hb gk l1, zAd hb gt l2⟩
     have HR : Hid (∀ r' t', c.1[s]? = some r' → c.2[s]? = some t' → r' = f ∧ t' = t) := fun r' t' h h' => by rw [B] at h; rw [ht] at h'; cases h; cases h'; exact ⟨rfl, rfl⟩
     have HF : Hid (¬ zFn c s → okB isL zAJ c = false) := fun h => zDQ fun z => h (z.2.2 s XA);have HN : Hid (zFn c s → f.length = m ∧ zAJ t m = true) := fun h => by have := h f t B ht; rwa [← M.out] at this
     have HY : Hid (f.length = m → zAJ t m = true → zFn c s) := fun e1 e2 r' t' h h' => by obtain ⟨rfl, rfl⟩ := HR.out r' t' h h'; rw [← M.out]; exact ⟨e1, e2⟩
     have CA : Hid (c.1[s]? = some f) := B;have DB : Hid (zBg zAR w ak f) := FA;have OC : f.length ≤ 9223372036854775807 := EB;clear gk gt B ht EB RA G0 FA HR;have n0 : ∀ n : Cls (fun wx => Bl w wx ∧ wx.heap[w.heap.size]? = some (.cells #[sL (some ⟨y, r, none⟩) c.1.length cap, sL (some ⟨N, R, none⟩) c.1.length cp] 37 (0, 0))), n.w.cell? ⟨w.heap.size, 0, none⟩ = some (sL (some ⟨y, r, none⟩) c.1.length cap) := fun n => (zAy n.h.2).1;have n1 : ∀ n : Cls (fun wx => Bl w wx ∧ wx.heap[w.heap.size]? = some (.cells #[sL (some ⟨y, r, none⟩) c.1.length cap, sL (some ⟨N, R, none⟩) c.1.length cp] 37 (0, 0))), n.w.cell? ⟨w.heap.size, 1, none⟩ = some (sL (some ⟨N, R, none⟩) c.1.length cp) := fun n => (zAy n.h.2).2;have g0 : ∀ n : Cls (fun wx => Bl w wx ∧ wx.heap[w.heap.size]? = some (.cells #[sL (some ⟨y, r, none⟩) c.1.length cap, sL (some ⟨N, R, none⟩) c.1.length cp] 37 (0, 0))), n.w.cell? ⟨y, r, none⟩ = some (sL a0 m c0) := fun n => (KW.out _ n.h.1).1;have gk : ∀ n : Cls (fun wx => Bl w wx ∧ wx.heap[w.heap.size]? = some (.cells #[sL (some ⟨y, r, none⟩) c.1.length cap, sL (some ⟨N, R, none⟩) c.1.length cp] 37 (0, 0))), n.w.cell? ⟨y, r + s, none⟩ = some (sL ak f.length ck) := fun n => (KW.out _ n.h.1).2.1;have gt : ∀ n : Cls (fun wx => Bl w wx ∧ wx.heap[w.heap.size]? = some (.cells #[sL (some ⟨y, r, none⟩) c.1.length cap, sL (some ⟨N, R, none⟩) c.1.length cp] 37 (0, 0))), n.w.cell? ⟨N, R + s, none⟩ = some (nI t) := fun n => (KW.out _ n.h.1).2.2;by_cases hm : f.length = m
     ·subst hm;cases zA : zAJ t f.length
      ·have C : Hid (∀ w, Calls Tryz.prog 82 #[nI t, nI f.length] w fun e E => e = .returned (.bool false) ∧ E = w) := fun w => by have := zEL t f.length w; rwa [zA] at this
       go_wp2_with fail
       refine zA8 (fun wx => Bl w wx ∧ wx.heap[w.heap.size]? = some (.cells #[sL (some ⟨y, r, none⟩) c.1.length cap, sL (some ⟨N, R, none⟩) c.1.length cp] 37 (0, 0))) (by kernel_rfl) (by kernel_rfl) ⟨BB.drew, X⟩ ?_;intro U;repeat (quiet_step ((go_at_call 82; exact zAS (C.out _))))
       refine wpQuiet_nil ?_;rintro wx ⟨S, qA⟩;clear n0 n1 g0 gk gt BB X U;go_wp2;go_ret
       exact ⟨zA2 (HF.out fun h => by have := (HN.out h).2; rw [zA] at this; cases this).symm, S⟩
      ·have C : Hid (∀ w, Calls Tryz.prog 82 #[nI t, nI f.length] w fun e E => e = .returned (.bool true) ∧ E = w) := fun w => by have := zEL t f.length w; rwa [zA] at this
       go_wp2_with fail
       refine zA8 (fun wx => Bl w wx ∧ wx.heap[w.heap.size]? = some (.cells #[sL (some ⟨y, r, none⟩) c.1.length cap, sL (some ⟨N, R, none⟩) c.1.length cp] 37 (0, 0))) (by kernel_rfl) (by kernel_rfl) ⟨BB.drew, X⟩ ?_;intro U;repeat (quiet_step ((go_at_call 82; exact zAS (C.out _))))
       refine wpQuiet_nil ?_;rintro wx ⟨S, qA⟩;clear n0 n1 g0 gk gt BB X U;clear C;go_wp2;go_loopw [5] (fun i wr => ∃ k : Nat, k ≤ f.length ∧ i = nI k ∧ zDA c f.length (s * f.length + k) ∧ Bl w wr ∧ wr.heap[w.heap.size]? = some (.cells #[sL (some ⟨y, r, none⟩) c.1.length cap, sL (some ⟨N, R, none⟩) c.1.length cp] 37 (0, 0))) (fun i _ => f.length - (intOf i).toNat)
       case atStart => exact ⟨0, Nat.zero_le _, rfl, by simpa using FB, S, qA⟩
       case round =>
        clear S qA;obtain ⟨i, hi, rfl, G, B2, X2⟩ := hrel;by_cases L : i < f.length
        ·have kB : (i : Int) < (f.length : Int) := by omega
         obtain ⟨u, hu⟩ : ∃ u, f[i]? = some u := ⟨_, List.getElem?_eq_getElem L⟩;have HW : Hid (zBZ c f.length (s * f.length + i) = u) := zGB rfl CA.out hu;obtain ⟨bk, ok, cs, rfl, eA, g⟩ := zBG (zA7 DB.out fun k hk => B2.block k hk) hu;obtain ⟨T, p, rfl, -, -, JB, CB, sB⟩ := zAL eA;have x0 := g 0 _ rfl;have x1 := g 1 _ rfl;have x2 := g 2 _ rfl;rw [show ok + (i * zAR.size + 0) = ok + i * 3 from rfl] at x0;rw [show ok + (i * zAR.size + 1) = ok + i * 3 + 1 from rfl] at x1;rw [show ok + (i * zAR.size + 2) = ok + i * 3 + 2 from rfl] at x2;obtain ⟨l, A, d⟩ := u;obtain ⟨n0, n1⟩ := zAy X2;obtain ⟨_, gk, _⟩ := KW.out _ B2;have HD : Hid _ := sB;have IB : d.length ≤ maxLen := Nat.le_trans JB CB;clear g eA hu JB CB sB;simp only at x0 x1 x2
         go_wp2_with fail
         have BZ := zAf wr (.cells #[nI l, nI A, sL T d.length p] 39);have Z := zAx wr (.cells #[nI l, nI A, sL T d.length p] 39);have J := zAK (.cells #[nI l, nI A, sL T d.length p] 39) X2;have D := zAb B2 BZ;have SA : Hid (zB7 (l, A, d) = false → ¬ (zBh isL (l, A, d) = true ∧ l % (c.1.length : Int) = (s : Nat) ∧ ∀ j, j < s * f.length + i → (zBZ c f.length j).1 ≠ l) → okB isL zAJ c = false) := fun h1 h2 => zLF fun h => by
          rw [← M.out] at h;have := h _ (zMN XA L);rw [HW.out, (zE7 L).1] at this;rcases this with h | h
          ·rw [h1] at h;cases h
          ·exact h2 h
         have mB : Hid (zB7 (l, A, d) = true ∨ (zBh isL (l, A, d) = true ∧ l % (c.1.length : Int) = (s : Nat) ∧ ∀ j, j < s * f.length + i → (zBZ c f.length j).1 ≠ l) → zDA c f.length (s * f.length + (i + 1))) := fun h => zGA G (by show zB7 (zBZ c f.length (s * f.length + i)) = true ∨ (zBh isL (zBZ c f.length (s * f.length + i)) = true ∧ (zBZ c f.length (s * f.length + i)).1 % (c.1.length : Int) = ((s * f.length + i) / f.length : Nat) ∧ ∀ j, j < s * f.length + i → (zBZ c f.length j).1 ≠ (zBZ c f.length (s * f.length + i)).1); rw [HW.out, (zE7 L).1]; exact h);clear X2 n0 n1 gk x0 x1 x2;cases O : zB7 (l, A, d)
         case true =>
          have F : Calls Tryz.prog 52 #[.agg #[nI l, nI A, sL T d.length p]] (wr.alloc (.cells #[nI l, nI A, sL T d.length p] 39)) _ := zDP l A T d.length p _ IB;rw [zHB (l, A, d), O] at F;refine F.mono ?_;rintro e w2 ⟨rfl, b2⟩;replace J := zAa b2 J;replace D := zAb D b2;clear F b2 BZ Z;go_wp2;go_roundw
          case rel => exact ⟨i + 1, by omega, by go_num, mB.out (.inl O), D, J⟩
          case measure => simp [intOf]; omega
         case false =>
          have F : Calls Tryz.prog 52 #[.agg #[nI l, nI A, sL T d.length p]] (wr.alloc (.cells #[nI l, nI A, sL T d.length p] 39)) _ := zDP l A T d.length p _ IB;rw [zHB (l, A, d), O] at F;refine F.mono ?_;rintro e w2 ⟨rfl, b2⟩;replace J := zAa b2 J;replace D := zAb D b2;replace Z := zAa b2 Z;have AA := zAG (zAG HD.out BZ) b2;clear F b2 BZ HD;obtain ⟨y0, y1, y2⟩ := zAg Z;go_wp2_with fail
          cases aA : zBh isL (l, A, d)
          case false =>
           have F := zE6 l A d T p w2 AA;rw [aA] at F;refine F.mono ?_;rintro e w3 ⟨rfl, b3⟩;replace D := zAb D b3;clear F b3 Z y0 y1 y2 AA J;go_wp2;go_ret
           exact ⟨zA2 (SA.out O (fun h => by rw [aA] at h; exact absurd h.1 (by simp))).symm, D⟩
          case true =>
           have iA := zBY aA;simp only at iA
           have hz : (c.1.length : Int) ≠ 0 := by omega
           have F := zE6 l A d T p w2 AA;rw [aA] at F;refine F.mono ?_;rintro e w3 ⟨rfl, b3⟩;replace D := zAb D b3;replace J := zAa b3 J;replace Z := zAa b3 Z;clear F b3 y0 y1 y2 AA;obtain ⟨y0, y1, y2⟩ := zAg Z;have KB : Int.tmod l (c.1.length : Int) = l % (c.1.length : Int) := Int.tmod_eq_emod_of_nonneg iA.1;by_cases hq : l % (c.1.length : Int) = (s : Nat)
           ·rw [hq] at KB;have HQ : Hid (l % (c.1.length : Int) = (s : Nat)) := hq;go_wp2;go_loopw [7] (fun q wq => ∃ k : Nat, k ≤ i ∧ q = nI k ∧ (∀ j, j < k → (zBZ c f.length (s * f.length + j)).1 ≠ l) ∧ Bl w wq ∧ wq.heap[w.heap.size]? = some (.cells #[sL (some ⟨y, r, none⟩) c.1.length cap, sL (some ⟨N, R, none⟩) c.1.length cp] 37 (0, 0)) ∧ wq.heap[wr.heap.size]? = some (.cells #[nI l, nI A, sL T d.length p] 39 (0, 0))) (fun q _ => i - (intOf q).toNat)
            case atStart => exact ⟨0, Nat.zero_le _, rfl, fun j hj => by omega, D, J, Z⟩
            case round =>
             clear D J Z y0 y1 y2;obtain ⟨k, eD, rfl, jB, D, J, Z⟩ := hrel;obtain ⟨y0, y1, y2⟩ := zAg Z;by_cases mC : k < i
             ·have ZB : (k : Int) < (i : Int) := by omega
              have IC : (k : Int) < (f.length : Int) := by omega
              obtain ⟨v, hv⟩ : ∃ v, f[k]? = some v := ⟨_, List.getElem?_eq_getElem (by omega)⟩;have HV : Hid (zBZ c f.length (s * f.length + k) = v) := zGB rfl CA.out hv;obtain ⟨YC, aD, cs, e9, eA, g⟩ := zBG (zA7 DB.out fun k hk => D.block k hk) hv;cases e9;obtain ⟨bD, KC, rfl, -, -, -, -, -⟩ := zAL eA;have x0 := g 0 _ rfl;rw [show ok + (k * zAR.size + 0) = ok + k * 3 from rfl] at x0;obtain ⟨n0, n1⟩ := zAy J;obtain ⟨_, gk, _⟩ := KW.out _ D;obtain ⟨l', ZC, d'⟩ := v;simp only at x0
              clear g eA hv;by_cases JA : l' = l
              ·subst JA;have lA : Hid (okB isL zAJ c = false) := SA.out O fun h => h.2.2 (s * f.length + k) (by omega) (by rw [HV.out]);go_wp2_with fail
               go_quiet (fail)
               go_wp2;go_ret
               exact ⟨zA2 lA.out.symm, zGi D nq⟩
              ·have FC : (l' == l) = false := by simpa using JA
               go_wp2_with fail
               go_quiet (fail)
               go_wp2;go_roundw
               case rel =>
                refine ⟨k + 1, by omega, by go_num, fun j hj => ?_, zGi D nq, J, Z⟩;by_cases he : j < k
                ·exact jB j he
                ·have : j = k := by omega
                 subst this;rw [HV.out];exact JA
               case measure => simp [intOf]; omega
             ·have bC : k = i := by omega
              subst bC;go_wp2;go_roundw
              case rel => exact ⟨k + 1, by omega, by go_num, mB.out (.inr ⟨aA, HQ.out, upto_row L G iA.1 HQ.out jB⟩), D, J⟩
              case measure => simp [intOf]; omega
           ·have lA : Hid (okB isL zAJ c = false) := SA.out O fun h => hq h.2.1;have XC : (l % (c.1.length : Int) != (s : Int)) = true := by simpa using hq
            clear KB;go_wp2;go_ret
            exact ⟨zA2 lA.out.symm, D⟩
        ·have YB : Hid (i = f.length) := by unfold Hid; omega
         have kB : ¬ ((i : Int) < (f.length : Int)) := by omega
         clear L;obtain ⟨n0, n1⟩ := zAy X2;obtain ⟨_, gk, _⟩ := KW.out _ B2;go_wp2;go_roundw
         case rel =>
          refine ⟨s + 1, by omega, by go_num, fun j hj => ?_, by rw [Nat.add_one_mul]; have := YB.out; rw [this] at G; exact G, B2, X2⟩;by_cases he : j < s
          ·exact DA j he
          ·have : j = s := by omega
           subst this;exact HY.out (by simp) zA
         case measure => simp [intOf]; omega
     ·have jC : ((f.length : Int) != (m : Int)) = true := by simp; omega
      go_wp2_with fail
      refine zA8 (fun wx => Bl w wx ∧ wx.heap[w.heap.size]? = some (.cells #[sL (some ⟨y, r, none⟩) c.1.length cap, sL (some ⟨N, R, none⟩) c.1.length cp] 37 (0, 0))) (by kernel_rfl) (by kernel_rfl) ⟨BB.drew, X⟩ ?_;intro U;iterate 12 (quiet_step (fail))
      clear jC;refine wpQuiet_step (fun K hK => ?_);go_simp
      refine zGy K _ ?_;intro A0 vB;refine hK A0 ?_;clear hK K;have qB : A0.tmps[49]? = some (.bool true) := by rw [vB]; rfl
      refine zA4 (b := false) (d := 49) qB rfl rfl rfl (by decide) ?_;intro GC TA gA;clear qB;refine zA4 (b := false) (d := 49) gA rfl rfl rfl (by decide) ?_;intro qC VA mA;clear gA;refine zA4 (b := false) (d := 49) mA rfl rfl rfl (by decide) ?_;intro vC HA V;clear mA;refine zA4 (b := false) (d := 49) V rfl rfl rfl (by decide) ?_;intro EC dB Y;clear V;refine zA4 (b := false) (d := 49) Y rfl rfl rfl (by decide) ?_;intro RC MA cA;clear Y;refine zA4 (b := false) (d := 49) cA rfl rfl rfl (by decide) ?_;intro zC aB fA;clear cA;refine zA4 (b := false) (d := 49) fA rfl rfl rfl (by decide) ?_;intro SC KA kA;clear fA;refine zA4 (b := false) (d := 49) kA rfl rfl rfl (by decide) ?_;intro pC bB dA;clear kA;refine zA4 (b := false) (d := 49) dA rfl rfl rfl (by decide) ?_;intro DC NA nA;clear dA;refine zA4 (b := false) (d := 49) nA rfl rfl rfl (by decide) ?_;intro oC cB jA;clear nA;refine zA4 (b := false) (d := 49) jA rfl rfl rfl (by decide) ?_;intro VB sA I;clear jA;refine zA4 (b := false) (d := 49) I rfl rfl rfl (by decide) ?_;intro lC rA vA;clear I;clear vA;subst rA sA cB NA bB KA aB MA dB HA VA TA;subst vB;quiet_step (skip)
      refine wpQuiet_nil ?_;rintro wx ⟨S, qA⟩;clear n0 n1 g0 gk gt BB X U;go_wp2;go_ret
      exact ⟨zA2 (HF.out fun h => hm (HN.out h).1).symm, S⟩
    ·have IA : s = c.1.length := by omega
     have H : Hid (okB isL zAJ c = true) := yes_of ⟨HP.out, GA.out, by rw [← IA]; exact DA⟩ (by rw [← M.out, ← IA]; exact FB);subst IA;go_wp2;go_ret
     exact ⟨zA2 H.out.symm, BB⟩
 ·have H : Hid (okB isL zAJ c = false) := zDQ fun h => hl h.2.1;have jD : ((c.2.length : Int) == (c.1.length : Int)) = false := by simp; omega
  clear h1 h2 m1 m2 m3;go_enter Tryz.func50, Tryz.ntmps50;go_wp2_with (go_at_call 81; refine (zFm _ _).mono ?_; rintro e E ⟨rfl, rfl⟩; rw [hp])
  go_ret
  exact ⟨zA2 H.out.symm, HB.out _⟩
end Go.Proofs.YtmdhblhdfcocjaaGreatDoor
