import Derived.Test.YtmdhblhdfcocjaaGreatDoorP00Box
import Derived.Test.YtmdhblhdfcocjaaGreatDoorP10
namespace Go.Proofs.YtmdhblhdfcocjaaGreatDoor
open Go.ChangeShapes Go.WideShapes Go.ChangeAt Go.RowKit Go.Shelf
set_option linter.unusedVariables false
theorem zKh (n : Nat) : zHg (n : Int) = true ↔ zIU n := by
 simp only [zHg, zIU, decide_eq_true_eq];omega
theorem zE7 {m i j : Nat} (hj : j < m) : (i * m + j) / m = i ∧ (i * m + j) % m = j := by
 have a : 0 < m := by omega
 exact ⟨by rw [Nat.mul_comm, Nat.mul_add_div a, Nat.div_eq_of_lt hj, Nat.add_zero], by rw [Nat.mul_comm, Nat.mul_add_mod, Nat.mod_eq_of_lt hj]⟩
theorem zMN {s m i j : Nat} (hi : i < s) (hj : j < m) : i * m + j < s * m := by
 have : (i + 1) * m ≤ s * m := Nat.mul_le_mul_right _ hi;rw [Nat.add_one_mul] at this;omega
theorem zGB {c : zAu} {m i j : Nat} {row : List zAT} {u : zAT} (hl : row.length = m) (hr : c.1[i]? = some row) (hu : row[j]? = some u) : zBZ c m (i * m + j) = u := by
 have a : j < m := by have := (List.getElem?_eq_some_iff.1 hu).1; omega
 obtain ⟨b, d⟩ := zE7 (i := i) a;unfold zBZ;rw [b, d];simp [List.getD_eq_getElem?_getD, hr, hu]
theorem ok_link {c : zAu} : OkC isL zAJ c ↔ zIe c ∧ zDA c (zCB c) (c.1.length * zCB c) := by
 constructor
 ·rintro ⟨D, H, m, F, g⟩;have b := zDv D;have y := zDv F;have L : zCB c = m := by
   have e : c.1[0]? = some (c.1.getD 0 []) := by rw [List.getD_eq_getElem?_getD, List.getElem?_eq_getElem b]; rfl
   exact (g 0 _ e).1
  rw [L];have o : ∀ a ∈ c.1, a.length = m := fun a hr => by
   obtain ⟨i, f⟩ := List.mem_iff_getElem?.1 hr;exact (g i a f).1
  refine ⟨⟨(zKh _).2 D, H, fun i f a t hr E => ?_⟩, fun j hj => ?_⟩
  ·obtain ⟨n, ⟨t', A, X⟩, _⟩ := g i a hr;rw [E] at A;cases A;rw [L];exact ⟨n, X⟩
  ·obtain ⟨a, I, R⟩ := zGn y o hj;obtain ⟨_, _, n, A⟩ := g _ a I;rcases n _ _ R with K | ⟨M, l⟩
   ·exact .inl K
   ·refine .inr ⟨M, l, fun i f d => ?_⟩;have hl := zBY M;obtain ⟨v, N, S⟩ := zGn y o (show i < c.1.length * m by omega);obtain ⟨_, _, Y, b2⟩ := g _ v N;rcases Y _ _ S with K | ⟨Z, G⟩
    ·rw [zCQ K] at d;simp [zAF] at d
     omega
    ·rw [d, l] at G;have p : j / m = i / m := by omega
     rw [p, N] at I;cases I;have := b2 _ _ _ _ S R (by omega) d;have d1 := Nat.div_add_mod i m;have d2 := Nat.div_add_mod j m;rw [p, ← this] at d2;omega
 ·rintro ⟨⟨D, H, g⟩, T⟩;have U := (zKh _).1 D;have b := zDv U;have e0 : c.1[0]? = some (c.1.getD 0 []) := by rw [List.getD_eq_getElem?_getD, List.getElem?_eq_getElem b]; rfl
  obtain ⟨t0, J⟩ : ∃ t, c.2[0]? = some t := ⟨_, List.getElem?_eq_getElem (by omega)⟩;have F : zIU (zCB c) := by
   have := zId (g 0 b _ _ e0 J).2;unfold zIU;omega
  refine ⟨U, H, zCB c, F, fun s a l => ?_⟩;have r := (List.getElem?_eq_some_iff.1 l).1;obtain ⟨t, E⟩ : ∃ t, c.2[s]? = some t := ⟨_, List.getElem?_eq_getElem (by omega)⟩;obtain ⟨n, A⟩ := g s r a t l E;refine ⟨n, ⟨t, E, A⟩, fun i u q => ?_, fun i k u x q B O d => ?_⟩
  ·have f : i < zCB c := by have := (List.getElem?_eq_some_iff.1 q).1; omega
   have := T _ (zMN r f);rw [zGB n l q, (zE7 f).1] at this;rcases this with h | ⟨h, V, _⟩
   ·exact .inl h
   ·exact .inr ⟨h, V⟩
  ·have f : i < zCB c := by have := (List.getElem?_eq_some_iff.1 q).1; omega
   have C : k < zCB c := by have := (List.getElem?_eq_some_iff.1 B).1; omega
   have z : ∀ (i k : Nat) (u x : zAT), a[i]? = some u → a[k]? = some x → 0 ≤ u.1 → u.1 = x.1 → i < zCB c → k < zCB c → ¬ i < k := by
    intro i k u x q B O d f C bA;have := T _ (zMN r C);rw [zGB n l B] at this;rcases this with h | ⟨_, _, h⟩
    ·rw [zCQ h] at d;simp [zAF] at d
     omega
    ·have := h (s * zCB c + i) (by omega);rw [zGB n l q] at this;exact this d
   have k1 := z i k u x q B O d f C;have k2 := z k i x u B q (by omega) d.symm C f;omega
theorem ok_eq (c : zAu) : okB isL zAJ c = (zDx c && zHs c (zCB c)) := by
 rw [Bool.eq_iff_iff, zCK, ok_link, Bool.and_eq_true];simp [zDx, zHs]
theorem zGC {c : zAu} (h : zDx c = true) : zIe c ∧ (c.1.length = 1 ∨ c.1.length = 2 ∨ c.1.length = 4) ∧ (zCB c = 1 ∨ zCB c = 2 ∨ zCB c = 4) ∧ ∀ row ∈ c.1, row.length = zCB c := by
 have l : zIe c := by simpa [zDx] using h
 obtain ⟨j, o, b⟩ := l;have k := (zKh _).1 j;have a := zDv k;have n : c.1[0]? = some (c.1.getD 0 []) := by rw [List.getD_eq_getElem?_getD, List.getElem?_eq_getElem a]; rfl
 obtain ⟨t0, d⟩ : ∃ t, c.2[0]? = some t := ⟨_, List.getElem?_eq_getElem (by omega)⟩;have hm := zId (b 0 a _ _ n d).2;refine ⟨⟨j, o, b⟩, k, by omega, fun row hr => ?_⟩;obtain ⟨i, g⟩ := List.mem_iff_getElem?.1 hr;have f := (List.getElem?_eq_some_iff.1 g).1;obtain ⟨t, m⟩ : ∃ t, c.2[i]? = some t := ⟨_, List.getElem?_eq_getElem (by omega)⟩;exact (b i f row t g m).1
set_option maxHeartbeats 400000 in
theorem zDk (a b : Option Addr) (c : zAu) (cap cp : Nat) (w : World) (h1 : zBg zBl w a c.1) (h2 : zBg zBC w b c.2) (m1 : c.1.length ≤ maxLen) (m2 : c.2.length ≤ maxLen) (m3 : ∀ row ∈ c.1, row.length ≤ maxLen) :
    Calls Tryz.prog 64 #[.agg #[sL a c.1.length cap, sL b c.2.length cp]] w fun e f => e = .returned (.bool (okB isL zAJ c)) ∧ Bl w f := by
 rw [ok_eq];have X := zAx w (.cells #[sL a c.1.length cap, sL b c.2.length cp] 37);have B := zAf w (.cells #[sL a c.1.length cap, sL b c.2.length cp] 37);have d := zKg a b c cap cp (w.alloc (.cells #[sL a c.1.length cap, sL b c.2.length cp] 37)) (zAG h1 B) (zAG h2 B) m1 m2 m3;have q : Hid _ := h1;clear h1 h2 m1 m2 m3;cases i : zDx c
 ·rw [i] at d;go_enter Tryz.func64, Tryz.ntmps64;go_wp2_with (go_at_call 89; refine d.mono ?_; rintro e f ⟨rfl, y⟩)
  go_ret
  exact ⟨rfl, zAb B y⟩
 ·rw [i] at d;obtain ⟨_, m, p, l⟩ := zGC i;have n : Hid (∀ W, Bl w W → Calls Tryz.prog 90 #[.agg #[sL a c.1.length cap, sL b c.2.length cp]] W fun e f => e = .returned (.bool (zHs c (zCB c))) ∧ Bl W f) :=
   fun W hb => zLE a b c cap cp (zCB c) W (zA7 q.out fun k hk => hb.block k hk) m p l
  clear m p l;go_enter Tryz.func64, Tryz.ntmps64;go_wp2_with fail
  refine d.mono ?_;rintro e w1 ⟨rfl, g⟩;have j := zAb B g;obtain ⟨s, r⟩ := zAy (zAa g X);go_wp2_with fail
  refine (n.out _ j).mono ?_;rintro e w2 ⟨rfl, o⟩;have v := zAb j o;clear g j o s r X B d n;go_wp2
  all_goals go_ret
  all_goals exact ⟨by simp_all, v⟩
theorem upto_row {c : zAu} {m s i : Nat} (hm : i < m) (h : zDA c m (s * m + i)) {l : Int} (h0 : 0 ≤ l) (hs : l % (c.1.length : Int) = (s : Nat)) (hno : ∀ k, k < i → (zBZ c m (s * m + k)).1 ≠ l) : ∀ j, j < s * m + i → (zBZ c m j).1 ≠ l := by
 intro j d a;by_cases hr : s * m ≤ j
 ·exact hno (j - s * m) (by omega) (by rw [show s * m + (j - s * m) = j by omega]; exact a)
 ·have g : j / m < s := by rw [Nat.div_lt_iff_lt_mul (by omega)]; omega
  rcases h j d with f | ⟨_, b, _⟩
  ·rw [zCQ f] at a;simp [zAF] at a
   omega
  ·rw [a, hs] at b;omega
theorem zLF {c : zAu} (h : ¬ zDA c (zCB c) (c.1.length * zCB c)) : okB isL zAJ c = false := by
 rw [ok_eq, zLf h, Bool.and_false]
theorem zDQ {c : zAu} (h : ¬ zIe c) : okB isL zAJ c = false := by
 rw [ok_eq, zGm h, Bool.false_and]
theorem yes_of {c : zAu} (h : zIe c) (h' : zDA c (zCB c) (c.1.length * zCB c)) : okB isL zAJ c = true := by
 rw [ok_eq, zG9 h, zIX h', Bool.and_true]
set_option maxHeartbeats 4000000 in
set_option maxRecDepth 100000 in
theorem zGD (a b : Option Addr) (c : zAu) (cap cp : Nat) (w : World) (h1 : zBg zBl w a c.1) (h2 : zBg zBC w b c.2) (m1 : c.1.length ≤ maxLen) (m2 : c.2.length ≤ maxLen) (m3 : ∀ f ∈ c.1, f.length ≤ maxLen) :
    Calls Tryz.prog 50 #[.agg #[sL a c.1.length cap, sL b c.2.length cp]] w fun e E => e = .returned (.bool (okB isL zAJ c)) ∧ Bl w E := by
 have aD : c.1.length ≤ 9223372036854775807 := m1;have mD : c.2.length ≤ 9223372036854775807 := m2;have HB : Hid _ := zAf w;cases hp : zHg c.1.length
 ·have H : Hid (okB isL zAJ c = false) := zDQ fun h => by rw [h.1] at hp; cases hp
  clear h1 h2 m1 m2 m3;go_enter Tryz.func50, Tryz.ntmps50;go_wp2_with (go_at_call 81; refine (zFm _ _).mono ?_; rintro e E ⟨rfl, rfl⟩; rw [hp])
  go_ret
  exact ⟨zA2 H.out.symm, HB.out _⟩
 by_cases hl : c.2.length = c.1.length
 ·rw [hl];have kB : 0 < c.1.length := by simp [zHg] at hp; omega
  have bB : c.1[0]? = some (c.1.getD 0 []) := by rw [List.getD_eq_getElem?_getD, List.getElem?_eq_getElem kB]; rfl
  have aB : (c.1.getD 0 []).length ≤ maxLen := m3 _ (List.mem_of_getElem? bB);obtain ⟨y, r, a0, c0, rfl, g0, -, -, -⟩ := zDj h1 bB;have O : Hid ((c.1.getD 0 []).length = zCB c) := rfl;have G0 : Hid (w.cell? ⟨y, r + 0, none⟩ = some (sL a0 (c.1.getD 0 []).length c0)) := g0;have DB : Hid (zIe c → zHg (zCB c) = true) := fun h => by
   obtain ⟨_, _, f2, _⟩ := zGC (zG9 h);simp [zHg]
   omega
  have l1 := zAi g0;clear g0 bB;generalize (c.1.getD 0 []).length = m at aB O G0;have TC : m ≤ 9223372036854775807 := aB;cases bA : zHg m
  ·have H : Hid (okB isL zAJ c = false) := zDQ fun h => by have := DB.out h; rw [← O.out, bA] at this; cases this
   have g0 : ∀ o, (w.alloc o).cell? ⟨y, r, none⟩ = some (sL a0 m c0) := fun o => zAd (zAf w o) G0.out l1;clear h1 h2 m1 m2 m3;go_enter Tryz.func50, Tryz.ntmps50;go_wp2_with (go_at_call 81; refine (zFm _ _).mono ?_; rintro e E ⟨rfl, rfl⟩; first | rw [hp] | rw [bA])
   go_ret
   exact ⟨zA2 H.out.symm, HB.out _⟩
  ·have X0 := zAx w (.cells #[sL (some ⟨y, r, none⟩) c.1.length cap, sL b c.1.length cp] 37);have B0 := zAf w (.cells #[sL (some ⟨y, r, none⟩) c.1.length cap, sL b c.1.length cp] 37);have g0 : ∀ o, (w.alloc o).cell? ⟨y, r, none⟩ = some (sL a0 m c0) := fun o => zAd (zAf w o) G0.out l1;have H1 : Hid _ := h1;have H2 : Hid _ := h2;have HM : Hid (∀ f ∈ c.1, f.length ≤ maxLen) := m3;have EA : Hid (c.2.length = c.1.length) := hl;have HP : Hid (zHg c.1.length = true) := hp;have iD : Hid (zHg m = true) := bA;clear h1 h2 m1 m2 m3 hl DB;go_enter Tryz.func50, Tryz.ntmps50;go_wp2_with (go_at_call 81; refine (zFm _ _).mono ?_; rintro e E ⟨rfl, rfl⟩; first | rw [hp] | rw [bA])
   clear g0 hp bA;generalize w.alloc (.cells #[sL (some ⟨y, r, none⟩) c.1.length cap, sL b c.1.length cp] 37) = W0 at X0 B0 ⊢;go_loopw [4] (fun i wr => ∃ k : Nat, k ≤ c.1.length ∧ i = nI k ∧ (∀ j, j < k → zFn c j) ∧ zDA c m (k * m) ∧ Bl w wr ∧ wr.heap[w.heap.size]? = some (.cells #[sL (some ⟨y, r, none⟩) c.1.length cap, sL b c.1.length cp] 37 (0, 0))) (fun i _ => c.1.length - (intOf i).toNat)
   case atStart => exact ⟨0, Nat.zero_le _, rfl, fun j hj => by omega, fun j hj => by omega, B0, X0⟩
   case round =>
    clear B0 X0;obtain ⟨s, hk, rfl, CA, oB, BB, X⟩ := hrel;by_cases IA : s < c.1.length
    ·have NC : (s : Int) < (c.1.length : Int) := by omega
     obtain ⟨f, B⟩ : ∃ f, c.1[s]? = some f := ⟨_, List.getElem?_eq_getElem IA⟩;obtain ⟨t, ht⟩ : ∃ t, c.2[s]? = some t := ⟨_, List.getElem?_eq_getElem (by have := EA.out; omega)⟩;obtain ⟨_, _, ak, ck, e1, gk, -, -, DA⟩ := zDj H1.out B;cases e1;obtain ⟨N, L, rfl, gt⟩ := int_at H2.out ht;have qB : f.length ≤ maxLen := HM.out _ (List.mem_of_getElem? B);have l2 := zAi gt;have KW : Hid (∀ E, Bl w E → E.cell? ⟨y, r, none⟩ = some (sL a0 m c0) ∧ E.cell? ⟨y, r + s, none⟩ = some (sL ak f.length ck) ∧ E.cell? ⟨N, L + s, none⟩ = some (nI t)) :=
      fun E hb => ⟨zAd hb G0.out l1, zAd hb gk l1, zAd hb gt l2⟩
     have HR : Hid (∀ r' t', c.1[s]? = some r' → c.2[s]? = some t' → r' = f ∧ t' = t) := fun r' t' h h' => by rw [B] at h; rw [ht] at h'; cases h; cases h'; exact ⟨rfl, rfl⟩
     have HF : Hid (¬ zFn c s → okB isL zAJ c = false) := fun h => zDQ fun z => h (z.2.2 s IA);have HN : Hid (zFn c s → f.length = m ∧ zAJ t m = true) := fun h => by have := h f t B ht; rwa [← O.out] at this
     have HY : Hid (f.length = m → zAJ t m = true → zFn c s) := fun e1 e2 r' t' h h' => by obtain ⟨rfl, rfl⟩ := HR.out r' t' h h'; rw [← O.out]; exact ⟨e1, e2⟩
     have GA : Hid (c.1[s]? = some f) := B;have AB : Hid (zBg zAR w ak f) := DA;have GC : f.length ≤ 9223372036854775807 := qB;clear gk gt B ht qB aB G0 DA HR;have n0 : ∀ n : Cls (fun wx => Bl w wx ∧ wx.heap[w.heap.size]? = some (.cells #[sL (some ⟨y, r, none⟩) c.1.length cap, sL (some ⟨N, L, none⟩) c.1.length cp] 37 (0, 0))), n.w.cell? ⟨w.heap.size, 0, none⟩ = some (sL (some ⟨y, r, none⟩) c.1.length cap) := fun n => (zAy n.h.2).1;have n1 : ∀ n : Cls (fun wx => Bl w wx ∧ wx.heap[w.heap.size]? = some (.cells #[sL (some ⟨y, r, none⟩) c.1.length cap, sL (some ⟨N, L, none⟩) c.1.length cp] 37 (0, 0))), n.w.cell? ⟨w.heap.size, 1, none⟩ = some (sL (some ⟨N, L, none⟩) c.1.length cp) := fun n => (zAy n.h.2).2;have g0 : ∀ n : Cls (fun wx => Bl w wx ∧ wx.heap[w.heap.size]? = some (.cells #[sL (some ⟨y, r, none⟩) c.1.length cap, sL (some ⟨N, L, none⟩) c.1.length cp] 37 (0, 0))), n.w.cell? ⟨y, r, none⟩ = some (sL a0 m c0) := fun n => (KW.out _ n.h.1).1;have gk : ∀ n : Cls (fun wx => Bl w wx ∧ wx.heap[w.heap.size]? = some (.cells #[sL (some ⟨y, r, none⟩) c.1.length cap, sL (some ⟨N, L, none⟩) c.1.length cp] 37 (0, 0))), n.w.cell? ⟨y, r + s, none⟩ = some (sL ak f.length ck) := fun n => (KW.out _ n.h.1).2.1;have gt : ∀ n : Cls (fun wx => Bl w wx ∧ wx.heap[w.heap.size]? = some (.cells #[sL (some ⟨y, r, none⟩) c.1.length cap, sL (some ⟨N, L, none⟩) c.1.length cp] 37 (0, 0))), n.w.cell? ⟨N, L + s, none⟩ = some (nI t) := fun n => (KW.out _ n.h.1).2.2;by_cases hm : f.length = m
     ·subst hm;cases qA : zAJ t f.length
      ·have C : Hid (∀ w, Calls Tryz.prog 82 #[nI t, nI f.length] w fun e E => e = .returned (.bool false) ∧ E = w) := fun w => by have := zEL t f.length w; rwa [qA] at this
       go_wp2_with fail
       refine zA8 (fun wx => Bl w wx ∧ wx.heap[w.heap.size]? = some (.cells #[sL (some ⟨y, r, none⟩) c.1.length cap, sL (some ⟨N, L, none⟩) c.1.length cp] 37 (0, 0))) (by kernel_rfl) (by kernel_rfl) ⟨BB.drew, X⟩ ?_;intro mA;repeat (quiet_step ((go_at_call 82; exact zAS (C.out _))))
       refine wpQuiet_nil ?_;rintro wx ⟨S, BA⟩;clear n0 n1 g0 gk gt BB X mA;go_wp2;go_ret
       exact ⟨zA2 (HF.out fun h => by have := (HN.out h).2; rw [qA] at this; cases this).symm, S⟩
      ·have C : Hid (∀ w, Calls Tryz.prog 82 #[nI t, nI f.length] w fun e E => e = .returned (.bool true) ∧ E = w) := fun w => by have := zEL t f.length w; rwa [qA] at this
       go_wp2_with fail
       refine zA8 (fun wx => Bl w wx ∧ wx.heap[w.heap.size]? = some (.cells #[sL (some ⟨y, r, none⟩) c.1.length cap, sL (some ⟨N, L, none⟩) c.1.length cp] 37 (0, 0))) (by kernel_rfl) (by kernel_rfl) ⟨BB.drew, X⟩ ?_;intro mA;repeat (quiet_step ((go_at_call 82; exact zAS (C.out _))))
       refine wpQuiet_nil ?_;rintro wx ⟨S, BA⟩;clear n0 n1 g0 gk gt BB X mA C;go_wp2;go_loopw [5] (fun i wr => ∃ k : Nat, k ≤ f.length ∧ i = nI k ∧ zDA c f.length (s * f.length + k) ∧ Bl w wr ∧ wr.heap[w.heap.size]? = some (.cells #[sL (some ⟨y, r, none⟩) c.1.length cap, sL (some ⟨N, L, none⟩) c.1.length cp] 37 (0, 0))) (fun i _ => f.length - (intOf i).toNat)
       case atStart => exact ⟨0, Nat.zero_le _, rfl, by simpa using oB, S, BA⟩
       case round =>
        clear S BA;obtain ⟨i, hi, rfl, J, B2, X2⟩ := hrel;by_cases R : i < f.length
        ·have iB : (i : Int) < (f.length : Int) := by omega
         obtain ⟨u, hu⟩ : ∃ u, f[i]? = some u := ⟨_, List.getElem?_eq_getElem R⟩;have HW : Hid (zBZ c f.length (s * f.length + i) = u) := zGB rfl GA.out hu;obtain ⟨bk, ok, cs, rfl, Y, g⟩ := zBG (zA7 AB.out fun k hk => B2.block k hk) hu;obtain ⟨T, p, rfl, -, -, FB, JB, GB⟩ := zAL Y;have x0 := g 0 _ rfl;have x1 := g 1 _ rfl;have x2 := g 2 _ rfl;rw [show ok + (i * zAR.size + 0) = ok + i * 3 from rfl] at x0;rw [show ok + (i * zAR.size + 1) = ok + i * 3 + 1 from rfl] at x1;rw [show ok + (i * zAR.size + 2) = ok + i * 3 + 2 from rfl] at x2;obtain ⟨l, A, d⟩ := u;obtain ⟨n0, n1⟩ := zAy X2;obtain ⟨_, gk, _⟩ := KW.out _ B2;have HD : Hid _ := GB;have KB : d.length ≤ maxLen := Nat.le_trans FB JB;clear g Y hu FB JB GB;simp only at x0 x1 x2
         go_wp2_with fail
         have BZ := zAf wr (.cells #[nI l, nI A, sL T d.length p] 39);have Z := zAx wr (.cells #[nI l, nI A, sL T d.length p] 39);have G := zAK (.cells #[nI l, nI A, sL T d.length p] 39) X2;have D := zAb B2 BZ;have UA : Hid (zB7 (l, A, d) = false → ¬ (zBi isL (l, A, d) = true ∧ l % (c.1.length : Int) = (s : Nat) ∧ ∀ j, j < s * f.length + i → (zBZ c f.length j).1 ≠ l) → okB isL zAJ c = false) := fun h1 h2 => zLF fun h => by
          rw [← O.out] at h;have := h _ (zMN IA R);rw [HW.out, (zE7 R).1] at this;rcases this with h | h
          ·rw [h1] at h;cases h
          ·exact h2 h
         have mB : Hid (zB7 (l, A, d) = true ∨ (zBi isL (l, A, d) = true ∧ l % (c.1.length : Int) = (s : Nat) ∧ ∀ j, j < s * f.length + i → (zBZ c f.length j).1 ≠ l) → zDA c f.length (s * f.length + (i + 1))) := fun h => zGA J (by show zB7 (zBZ c f.length (s * f.length + i)) = true ∨ (zBi isL (zBZ c f.length (s * f.length + i)) = true ∧ (zBZ c f.length (s * f.length + i)).1 % (c.1.length : Int) = ((s * f.length + i) / f.length : Nat) ∧ ∀ j, j < s * f.length + i → (zBZ c f.length j).1 ≠ (zBZ c f.length (s * f.length + i)).1); rw [HW.out, (zE7 R).1]; exact h);clear X2 n0 n1 gk x0 x1 x2;cases M : zB7 (l, A, d)
         case true =>
          have F : Calls Tryz.prog 52 #[.agg #[nI l, nI A, sL T d.length p]] (wr.alloc (.cells #[nI l, nI A, sL T d.length p] 39)) _ := zDP l A T d.length p _ KB;rw [zHB (l, A, d), M] at F;refine F.mono ?_;rintro e w2 ⟨rfl, b2⟩;replace G := zAa b2 G;replace D := zAb D b2;clear F b2 BZ Z;go_wp2;go_roundw
          case rel => exact ⟨i + 1, by omega, by go_num, mB.out (.inl M), D, G⟩
          case measure => simp [intOf]; omega
         case false =>
          have F : Calls Tryz.prog 52 #[.agg #[nI l, nI A, sL T d.length p]] (wr.alloc (.cells #[nI l, nI A, sL T d.length p] 39)) _ := zDP l A T d.length p _ KB;rw [zHB (l, A, d), M] at F;refine F.mono ?_;rintro e w2 ⟨rfl, b2⟩;replace G := zAa b2 G;replace D := zAb D b2;replace Z := zAa b2 Z;have zA := zAG (zAG HD.out BZ) b2;clear F b2 BZ HD;obtain ⟨y0, y1, y2⟩ := zAg Z;go_wp2_with fail
          cases cA : zBi isL (l, A, d)
          case false =>
           have F := zE6 l A d T p w2 zA;rw [cA] at F;refine F.mono ?_;rintro e w3 ⟨rfl, b3⟩;replace D := zAb D b3;clear F b3 Z y0 y1 y2 zA G;go_wp2;go_ret
           exact ⟨zA2 (UA.out M (fun h => by rw [cA] at h; exact absurd h.1 (by simp))).symm, D⟩
          case true =>
           have fA := zBY cA;simp only at fA
           have hz : (c.1.length : Int) ≠ 0 := by omega
           have F := zE6 l A d T p w2 zA;rw [cA] at F;refine F.mono ?_;rintro e w3 ⟨rfl, b3⟩;replace D := zAb D b3;replace G := zAa b3 G;replace Z := zAa b3 Z;clear F b3 y0 y1 y2 zA;obtain ⟨y0, y1, y2⟩ := zAg Z;have nB : Int.tmod l (c.1.length : Int) = l % (c.1.length : Int) := Int.tmod_eq_emod_of_nonneg fA.1;by_cases hq : l % (c.1.length : Int) = (s : Nat)
           ·rw [hq] at nB;have HQ : Hid (l % (c.1.length : Int) = (s : Nat)) := hq;go_wp2;go_loopw [7] (fun q wq => ∃ k : Nat, k ≤ i ∧ q = nI k ∧ (∀ j, j < k → (zBZ c f.length (s * f.length + j)).1 ≠ l) ∧ Bl w wq ∧ wq.heap[w.heap.size]? = some (.cells #[sL (some ⟨y, r, none⟩) c.1.length cap, sL (some ⟨N, L, none⟩) c.1.length cp] 37 (0, 0)) ∧ wq.heap[wr.heap.size]? = some (.cells #[nI l, nI A, sL T d.length p] 39 (0, 0))) (fun q _ => i - (intOf q).toNat)
            case atStart => exact ⟨0, Nat.zero_le _, rfl, fun j hj => by omega, D, G, Z⟩
            case round =>
             clear D G Z y0 y1 y2;obtain ⟨k, gD, rfl, zB, D, G, Z⟩ := hrel;obtain ⟨y0, y1, y2⟩ := zAg Z;by_cases DC : k < i
             ·have YB : (k : Int) < (i : Int) := by omega
              have EC : (k : Int) < (f.length : Int) := by omega
              obtain ⟨v, hv⟩ : ∃ v, f[k]? = some v := ⟨_, List.getElem?_eq_getElem (by omega)⟩;have HV : Hid (zBZ c f.length (s * f.length + k) = v) := zGB rfl GA.out hv;obtain ⟨bD, fD, cs, e9, Y, g⟩ := zBG (zA7 AB.out fun k hk => D.block k hk) hv;cases e9;obtain ⟨ZC, LC, rfl, -, -, -, -, -⟩ := zAL Y;have x0 := g 0 _ rfl;rw [show ok + (k * zAR.size + 0) = ok + k * 3 from rfl] at x0;obtain ⟨n0, n1⟩ := zAy G;obtain ⟨_, gk, _⟩ := KW.out _ D;obtain ⟨l', dD, d'⟩ := v;simp only at x0
              clear g Y hv;by_cases KA : l' = l
              ·subst KA;have dA : Hid (okB isL zAJ c = false) := UA.out M fun h => h.2.2 (s * f.length + k) (by omega) (by rw [HV.out]);go_wp2_with fail
               go_quiet (fail)
               go_wp2;go_ret
               exact ⟨zA2 dA.out.symm, zGi D nq⟩
              ·have rC : (l' == l) = false := by simpa using KA
               go_wp2_with fail
               go_quiet (fail)
               go_wp2;go_roundw
               case rel =>
                refine ⟨k + 1, by omega, by go_num, fun j hj => ?_, zGi D nq, G, Z⟩;by_cases he : j < k
                ·exact zB j he
                ·have : j = k := by omega
                 subst this;rw [HV.out];exact KA
               case measure => simp [intOf]; omega
             ·have aC : k = i := by omega
              subst aC;go_wp2;go_roundw
              case rel => exact ⟨k + 1, by omega, by go_num, mB.out (.inr ⟨cA, HQ.out, upto_row R J fA.1 HQ.out zB⟩), D, G⟩
              case measure => simp [intOf]; omega
           ·have dA : Hid (okB isL zAJ c = false) := UA.out M fun h => hq h.2.1;have eD : (l % (c.1.length : Int) != (s : Int)) = true := by simpa using hq
            clear nB;go_wp2;go_ret
            exact ⟨zA2 dA.out.symm, D⟩
        ·have UB : Hid (i = f.length) := by unfold Hid; omega
         have iB : ¬ ((i : Int) < (f.length : Int)) := by omega
         clear R;obtain ⟨n0, n1⟩ := zAy X2;obtain ⟨_, gk, _⟩ := KW.out _ B2;go_wp2;go_roundw
         case rel =>
          refine ⟨s + 1, by omega, by go_num, fun j hj => ?_, by rw [Nat.add_one_mul]; have := UB.out; rw [this] at J; exact J, B2, X2⟩;by_cases he : j < s
          ·exact CA j he
          ·have : j = s := by omega
           subst this;exact HY.out (by simp) qA
         case measure => simp [intOf]; omega
     ·have lC : ((f.length : Int) != (m : Int)) = true := by simp; omega
      go_wp2_with fail
      refine zA8 (fun wx => Bl w wx ∧ wx.heap[w.heap.size]? = some (.cells #[sL (some ⟨y, r, none⟩) c.1.length cap, sL (some ⟨N, L, none⟩) c.1.length cp] 37 (0, 0))) (by kernel_rfl) (by kernel_rfl) ⟨BB.drew, X⟩ ?_;intro mA;iterate 12 (quiet_step (fail))
      clear lC;refine wpQuiet_step (fun K hK => ?_);go_simp
      refine zGy K _ ?_;intro A0 CB;refine hK A0 ?_;clear hK K;have vB : A0.tmps[49]? = some (.bool true) := by rw [CB]; rfl
      refine zA4 (b := false) (d := 49) vB rfl rfl rfl (by decide) ?_;intro pC JA U;clear vB;refine zA4 (b := false) (d := 49) U rfl rfl rfl (by decide) ?_;intro AC eB eA;clear U;refine zA4 (b := false) (d := 49) eA rfl rfl rfl (by decide) ?_;intro CC VA iA;clear eA;refine zA4 (b := false) (d := 49) iA rfl rfl rfl (by decide) ?_;intro FC OA V;clear iA;refine zA4 (b := false) (d := 49) V rfl rfl rfl (by decide) ?_;intro mC ZA nA;clear V;refine zA4 (b := false) (d := 49) nA rfl rfl rfl (by decide) ?_;intro HC RA gA;clear nA;refine zA4 (b := false) (d := 49) gA rfl rfl rfl (by decide) ?_;intro sC cB kA;clear gA;refine zA4 (b := false) (d := 49) kA rfl rfl rfl (by decide) ?_;intro yC XA lA;clear kA;refine zA4 (b := false) (d := 49) lA rfl rfl rfl (by decide) ?_;intro nC NA jA;clear lA;refine zA4 (b := false) (d := 49) jA rfl rfl rfl (by decide) ?_;intro RC YA aA;clear jA;refine zA4 (b := false) (d := 49) aA rfl rfl rfl (by decide) ?_;intro VB yA I;clear aA;refine zA4 (b := false) (d := 49) I rfl rfl rfl (by decide) ?_;intro eC AA sA;clear I sA;subst AA yA YA NA XA cB RA ZA OA VA eB JA;subst CB;quiet_step (skip)
      refine wpQuiet_nil ?_;rintro wx ⟨S, BA⟩;clear n0 n1 g0 gk gt BB X mA;go_wp2;go_ret
      exact ⟨zA2 (HF.out fun h => hm (HN.out h).1).symm, S⟩
    ·have TA : s = c.1.length := by omega
     have H : Hid (okB isL zAJ c = true) := yes_of ⟨HP.out, EA.out, by rw [← TA]; exact CA⟩ (by rw [← O.out, ← TA]; exact oB);subst TA;go_wp2;go_ret
     exact ⟨zA2 H.out.symm, BB⟩
 ·have H : Hid (okB isL zAJ c = false) := zDQ fun h => hl h.2.1;have YC : ((c.2.length : Int) == (c.1.length : Int)) = false := by simp; omega
  clear h1 h2 m1 m2 m3;go_enter Tryz.func50, Tryz.ntmps50;go_wp2_with (go_at_call 81; refine (zFm _ _).mono ?_; rintro e E ⟨rfl, rfl⟩; rw [hp])
  go_ret
  exact ⟨zA2 H.out.symm, HB.out _⟩
end Go.Proofs.YtmdhblhdfcocjaaGreatDoor
