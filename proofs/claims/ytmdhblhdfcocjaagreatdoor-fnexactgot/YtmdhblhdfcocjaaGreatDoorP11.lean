import Derived.Test.YtmdhblhdfcocjaaGreatDoorP00Box
import Derived.Test.YtmdhblhdfcocjaaGreatDoorP10
namespace Go.Proofs.YtmdhblhdfcocjaaGreatDoor
open Go.ChangeShapes Go.WideShapes Go.ChangeAt Go.RowKit Go.Shelf
set_option linter.unusedVariables false
theorem zKh (n : Nat) : zHg (n : Int) = true ↔ zIT n := by
 simp only [zHg, zIT, decide_eq_true_eq];omega
theorem zE7 {m i j : Nat} (hj : j < m) : (i * m + j) / m = i ∧ (i * m + j) % m = j := by
 have a : 0 < m := by omega
 exact ⟨by rw [Nat.mul_comm, Nat.mul_add_div a, Nat.div_eq_of_lt hj, Nat.add_zero], by rw [Nat.mul_comm, Nat.mul_add_mod, Nat.mod_eq_of_lt hj]⟩
theorem zMN {s m i j : Nat} (hi : i < s) (hj : j < m) : i * m + j < s * m := by
 have : (i + 1) * m ≤ s * m := Nat.mul_le_mul_right _ hi;rw [Nat.add_one_mul] at this;omega
theorem zGB {c : zAu} {m i j : Nat} {row : List zAT} {u : zAT} (hl : row.length = m) (hr : c.1[i]? = some row) (hu : row[j]? = some u) : zBY c m (i * m + j) = u := by
 have d : j < m := by have := (List.getElem?_eq_some_iff.1 hu).1; omega
 obtain ⟨a, b⟩ := zE7 (i := i) d;unfold zBY;rw [a, b];simp [List.getD_eq_getElem?_getD, hr, hu]
theorem ok_link {c : zAu} : OkC isL zAI c ↔ zIc c ∧ zDA c (zCB c) (c.1.length * zCB c) := by
 constructor
 ·rintro ⟨C, I, m, H, o⟩;have b := zDv C;have v := zDv H;have N : zCB c = m := by
   have e : c.1[0]? = some (c.1.getD 0 []) := by rw [List.getD_eq_getElem?_getD, List.getElem?_eq_getElem b]; rfl
   exact (o 0 _ e).1
  rw [N];have g : ∀ a ∈ c.1, a.length = m := fun a hr => by
   obtain ⟨i, f⟩ := List.mem_iff_getElem?.1 hr;exact (o i a f).1
  refine ⟨⟨(zKh _).2 C, I, fun i f a t hr E => ?_⟩, fun j hj => ?_⟩
  ·obtain ⟨p, ⟨t', A, a3⟩, _⟩ := o i a hr;rw [E] at A;cases A;rw [N];exact ⟨p, a3⟩
  ·obtain ⟨a, K, S⟩ := zGm v g hj;obtain ⟨_, _, p, A⟩ := o _ a K;rcases p _ _ S with J | ⟨T, n⟩
   ·exact .inl J
   ·refine .inr ⟨T, n, fun i f d => ?_⟩;have hl := zBX T;obtain ⟨y, U, L⟩ := zGm v g (show i < c.1.length * m by omega);obtain ⟨_, _, X, Z⟩ := o _ y U;rcases X _ _ L with J | ⟨V, G⟩
    ·rw [zCQ J] at d;simp [zAF] at d
     omega
    ·rw [d, n] at G;have q : j / m = i / m := by omega
     rw [q, U] at K;cases K;have := Z _ _ _ _ L S (by omega) d;have d1 := Nat.div_add_mod i m;have d2 := Nat.div_add_mod j m;rw [q, ← this] at d2;omega
 ·rintro ⟨⟨C, I, o⟩, O⟩;have R := (zKh _).1 C;have b := zDv R;have Y : c.1[0]? = some (c.1.getD 0 []) := by rw [List.getD_eq_getElem?_getD, List.getElem?_eq_getElem b]; rfl
  obtain ⟨t0, F⟩ : ∃ t, c.2[0]? = some t := ⟨_, List.getElem?_eq_getElem (by omega)⟩;have H : zIT (zCB c) := by
   have := zIb (o 0 b _ _ Y F).2;unfold zIT;omega
  refine ⟨R, I, zCB c, H, fun s a n => ?_⟩;have r := (List.getElem?_eq_some_iff.1 n).1;obtain ⟨t, E⟩ : ∃ t, c.2[s]? = some t := ⟨_, List.getElem?_eq_getElem (by omega)⟩;obtain ⟨p, A⟩ := o s r a t n E;refine ⟨p, ⟨t, E, A⟩, fun i u l => ?_, fun i k u x l B M d => ?_⟩
  ·have f : i < zCB c := by have := (List.getElem?_eq_some_iff.1 l).1; omega
   have := O _ (zMN r f);rw [zGB p n l, (zE7 f).1] at this;rcases this with h | ⟨h, h', _⟩
   ·exact .inl h
   ·exact .inr ⟨h, h'⟩
  ·have f : i < zCB c := by have := (List.getElem?_eq_some_iff.1 l).1; omega
   have D : k < zCB c := by have := (List.getElem?_eq_some_iff.1 B).1; omega
   have z : ∀ (i k : Nat) (u x : zAT), a[i]? = some u → a[k]? = some x → 0 ≤ u.1 → u.1 = x.1 → i < zCB c → k < zCB c → ¬ i < k := by
    intro i k u x l B M d f D cA;have := O _ (zMN r D);rw [zGB p n B] at this;rcases this with h | ⟨_, _, h⟩
    ·rw [zCQ h] at d;simp [zAF] at d
     omega
    ·have := h (s * zCB c + i) (by omega);rw [zGB p n l] at this;exact this d
   have k1 := z i k u x l B M d f D;have k2 := z k i x u B l (by omega) d.symm D f;omega
theorem ok_eq (c : zAu) : okB isL zAI c = (zDx c && zHs c (zCB c)) := by
 rw [Bool.eq_iff_iff, zCK, ok_link, Bool.and_eq_true];simp [zDx, zHs]
theorem zGC {c : zAu} (h : zDx c = true) : zIc c ∧ (c.1.length = 1 ∨ c.1.length = 2 ∨ c.1.length = 4) ∧ (zCB c = 1 ∨ zCB c = 2 ∨ zCB c = 4) ∧ ∀ row ∈ c.1, row.length = zCB c := by
 have n : zIc c := by simpa [zDx] using h
 obtain ⟨k, l, f⟩ := n;have j := (zKh _).1 k;have a := zDv j;have o : c.1[0]? = some (c.1.getD 0 []) := by rw [List.getD_eq_getElem?_getD, List.getElem?_eq_getElem a]; rfl
 obtain ⟨t0, b⟩ : ∃ t, c.2[0]? = some t := ⟨_, List.getElem?_eq_getElem (by omega)⟩;have hm := zIb (f 0 a _ _ o b).2;refine ⟨⟨k, l, f⟩, j, by omega, fun row hr => ?_⟩;obtain ⟨i, g⟩ := List.mem_iff_getElem?.1 hr;have d := (List.getElem?_eq_some_iff.1 g).1;obtain ⟨t, m⟩ : ∃ t, c.2[i]? = some t := ⟨_, List.getElem?_eq_getElem (by omega)⟩;exact (f i d row t g m).1
set_option maxHeartbeats 400000 in
theorem zDk (a b : Option Addr) (c : zAu) (cap cp : Nat) (w : World) (h1 : zBg zBl w a c.1) (h2 : zBg zBC w b c.2) (m1 : c.1.length ≤ maxLen) (m2 : c.2.length ≤ maxLen) (m3 : ∀ row ∈ c.1, row.length ≤ maxLen) :
    Calls Tryz.prog 64 #[.agg #[sL a c.1.length cap, sL b c.2.length cp]] w fun e f => e = .returned (.bool (okB isL zAI c)) ∧ Bl w f := by
 rw [ok_eq];have X := zAy w (.cells #[sL a c.1.length cap, sL b c.2.length cp] 37);have B := zAf w (.cells #[sL a c.1.length cap, sL b c.2.length cp] 37);have d := zKg a b c cap cp (w.alloc (.cells #[sL a c.1.length cap, sL b c.2.length cp] 37)) (zAG h1 B) (zAG h2 B) m1 m2 m3;have s : Hid _ := h1;clear h1 h2 m1 m2 m3;cases i : zDx c
 ·rw [i] at d;go_enter Tryz.func64, Tryz.ntmps64;go_wp2_with (go_at_call 89; refine d.mono ?_; rintro e f ⟨rfl, y⟩)
  go_ret
  exact ⟨rfl, zAb B y⟩
 ·rw [i] at d;obtain ⟨_, p, l, o⟩ := zGC i;have m : Hid (∀ W, Bl w W → Calls Tryz.prog 90 #[.agg #[sL a c.1.length cap, sL b c.2.length cp]] W fun e f => e = .returned (.bool (zHs c (zCB c))) ∧ Bl W f) :=
   fun W hb => zLE a b c cap cp (zCB c) W (zA7 s.out fun k hk => hb.block k hk) p l o
  clear p l o;go_enter Tryz.func64, Tryz.ntmps64;go_wp2_with fail
  refine d.mono ?_;rintro e w1 ⟨rfl, g⟩;have j := zAb B g;obtain ⟨q, r⟩ := zAx (zAa g X);go_wp2_with fail
  refine (m.out _ j).mono ?_;rintro e w2 ⟨rfl, n⟩;have v := zAb j n;clear g j n q r X B d m;go_wp2
  all_goals go_ret
  all_goals exact ⟨by simp_all, v⟩
theorem upto_row {c : zAu} {m s i : Nat} (hm : i < m) (h : zDA c m (s * m + i)) {l : Int} (h0 : 0 ≤ l) (hs : l % (c.1.length : Int) = (s : Nat)) (hno : ∀ k, k < i → (zBY c m (s * m + k)).1 ≠ l) : ∀ j, j < s * m + i → (zBY c m j).1 ≠ l := by
 intro j d a;by_cases hr : s * m ≤ j
 ·exact hno (j - s * m) (by omega) (by rw [show s * m + (j - s * m) = j by omega]; exact a)
 ·have g : j / m < s := by rw [Nat.div_lt_iff_lt_mul (by omega)]; omega
  rcases h j d with b | ⟨_, f, _⟩
  ·rw [zCQ b] at a;simp [zAF] at a
   omega
  ·rw [a, hs] at f;omega
theorem zLF {c : zAu} (h : ¬ zDA c (zCB c) (c.1.length * zCB c)) : okB isL zAI c = false := by
 rw [ok_eq, zLf h, Bool.and_false]
theorem zDQ {c : zAu} (h : ¬ zIc c) : okB isL zAI c = false := by
 rw [ok_eq, zGl h, Bool.false_and]
theorem yes_of {c : zAu} (h : zIc c) (h' : zDA c (zCB c) (c.1.length * zCB c)) : okB isL zAI c = true := by
 rw [ok_eq, zG9 h, zIW h', Bool.and_true]
set_option maxHeartbeats 4000000 in
set_option maxRecDepth 100000 in
theorem zGD (a b : Option Addr) (c : zAu) (cap cp : Nat) (w : World) (h1 : zBg zBl w a c.1) (h2 : zBg zBC w b c.2) (m1 : c.1.length ≤ maxLen) (m2 : c.2.length ≤ maxLen) (m3 : ∀ f ∈ c.1, f.length ≤ maxLen) :
    Calls Tryz.prog 50 #[.agg #[sL a c.1.length cap, sL b c.2.length cp]] w fun e E => e = .returned (.bool (okB isL zAI c)) ∧ Bl w E := by
 have XC : c.1.length ≤ 9223372036854775807 := m1;have dD : c.2.length ≤ 9223372036854775807 := m2;have HB : Hid _ := zAf w;cases hp : zHg c.1.length
 ·have H : Hid (okB isL zAI c = false) := zDQ fun h => by rw [h.1] at hp; cases hp
  clear h1 h2 m1 m2 m3;go_enter Tryz.func50, Tryz.ntmps50;go_wp2_with (go_at_call 81; refine (zFm _ _).mono ?_; rintro e E ⟨rfl, rfl⟩; rw [hp])
  go_ret
  exact ⟨zA2 H.out.symm, HB.out _⟩
 by_cases hl : c.2.length = c.1.length
 ·rw [hl];have zB : 0 < c.1.length := by simp [zHg] at hp; omega
  have UA : c.1[0]? = some (c.1.getD 0 []) := by rw [List.getD_eq_getElem?_getD, List.getElem?_eq_getElem zB]; rfl
  have MA : (c.1.getD 0 []).length ≤ maxLen := m3 _ (List.mem_of_getElem? UA);obtain ⟨y, r, a0, c0, rfl, g0, -, -, -⟩ := zDj h1 UA;have S : Hid ((c.1.getD 0 []).length = zCB c) := rfl;have G0 : Hid (w.cell? ⟨y, r + 0, none⟩ = some (sL a0 (c.1.getD 0 []).length c0)) := g0;have oB : Hid (zIc c → zHg (zCB c) = true) := fun h => by
   obtain ⟨_, _, f2, _⟩ := zGC (zG9 h);simp [zHg]
   omega
  have l1 := zAi g0;clear g0 UA;generalize (c.1.getD 0 []).length = m at MA S G0;have OC : m ≤ 9223372036854775807 := MA;cases Y : zHg m
  ·have H : Hid (okB isL zAI c = false) := zDQ fun h => by have := oB.out h; rw [← S.out, Y] at this; cases this
   have g0 : ∀ o, (w.alloc o).cell? ⟨y, r, none⟩ = some (sL a0 m c0) := fun o => zAd (zAf w o) G0.out l1;clear h1 h2 m1 m2 m3;go_enter Tryz.func50, Tryz.ntmps50;go_wp2_with (go_at_call 81; refine (zFm _ _).mono ?_; rintro e E ⟨rfl, rfl⟩; first | rw [hp] | rw [Y])
   go_ret
   exact ⟨zA2 H.out.symm, HB.out _⟩
  ·have X0 := zAy w (.cells #[sL (some ⟨y, r, none⟩) c.1.length cap, sL b c.1.length cp] 37);have B0 := zAf w (.cells #[sL (some ⟨y, r, none⟩) c.1.length cap, sL b c.1.length cp] 37);have g0 : ∀ o, (w.alloc o).cell? ⟨y, r, none⟩ = some (sL a0 m c0) := fun o => zAd (zAf w o) G0.out l1;have H1 : Hid _ := h1;have H2 : Hid _ := h2;have HM : Hid (∀ f ∈ c.1, f.length ≤ maxLen) := m3;have GA : Hid (c.2.length = c.1.length) := hl;have HP : Hid (zHg c.1.length = true) := hp;have iD : Hid (zHg m = true) := Y;clear h1 h2 m1 m2 m3 hl oB;go_enter Tryz.func50, Tryz.ntmps50;go_wp2_with (go_at_call 81; refine (zFm _ _).mono ?_; rintro e E ⟨rfl, rfl⟩; first | rw [hp] | rw [Y])
   clear g0 hp Y;generalize w.alloc (.cells #[sL (some ⟨y, r, none⟩) c.1.length cap, sL b c.1.length cp] 37) = W0 at X0 B0 ⊢;go_loopw [4] (fun i wr => ∃ k : Nat, k ≤ c.1.length ∧ i = nI k ∧ (∀ j, j < k → zFn c j) ∧ zDA c m (k * m) ∧ Bl w wr ∧ wr.heap[w.heap.size]? = some (.cells #[sL (some ⟨y, r, none⟩) c.1.length cap, sL b c.1.length cp] 37 (0, 0))) (fun i _ => c.1.length - (intOf i).toNat)
   case atStart => exact ⟨0, Nat.zero_le _, rfl, fun j hj => by omega, fun j hj => by omega, B0, X0⟩
   case round =>
    clear B0 X0;obtain ⟨s, hk, rfl, EA, iB, BB, X⟩ := hrel;by_cases bB : s < c.1.length
    ·have sC : (s : Int) < (c.1.length : Int) := by omega
     obtain ⟨f, B⟩ : ∃ f, c.1[s]? = some f := ⟨_, List.getElem?_eq_getElem bB⟩;obtain ⟨t, ht⟩ : ∃ t, c.2[s]? = some t := ⟨_, List.getElem?_eq_getElem (by have := GA.out; omega)⟩;obtain ⟨_, _, ak, ck, e1, gk, -, -, CA⟩ := zDj H1.out B;cases e1;obtain ⟨L, O, rfl, gt⟩ := int_at H2.out ht;have sB : f.length ≤ maxLen := HM.out _ (List.mem_of_getElem? B);have l2 := zAi gt;have KW : Hid (∀ E, Bl w E → E.cell? ⟨y, r, none⟩ = some (sL a0 m c0) ∧ E.cell? ⟨y, r + s, none⟩ = some (sL ak f.length ck) ∧ E.cell? ⟨L, O + s, none⟩ = some (nI t)) :=
      fun E hb => ⟨zAd hb G0.out l1, zAd hb gk l1, zAd hb gt l2⟩
     have HR : Hid (∀ r' t', c.1[s]? = some r' → c.2[s]? = some t' → r' = f ∧ t' = t) := fun r' t' h h' => by rw [B] at h; rw [ht] at h'; cases h; cases h'; exact ⟨rfl, rfl⟩
     have HF : Hid (¬ zFn c s → okB isL zAI c = false) := fun h => zDQ fun z => h (z.2.2 s bB);have HN : Hid (zFn c s → f.length = m ∧ zAI t m = true) := fun h => by have := h f t B ht; rwa [← S.out] at this
     have HY : Hid (f.length = m → zAI t m = true → zFn c s) := fun e1 e2 r' t' h h' => by obtain ⟨rfl, rfl⟩ := HR.out r' t' h h'; rw [← S.out]; exact ⟨e1, e2⟩
     have DA : Hid (c.1[s]? = some f) := B;have mB : Hid (zBg zAR w ak f) := CA;have NC : f.length ≤ 9223372036854775807 := sB;clear gk gt B ht sB MA G0 CA HR;have n0 : ∀ n : Cls (fun wx => Bl w wx ∧ wx.heap[w.heap.size]? = some (.cells #[sL (some ⟨y, r, none⟩) c.1.length cap, sL (some ⟨L, O, none⟩) c.1.length cp] 37 (0, 0))), n.w.cell? ⟨w.heap.size, 0, none⟩ = some (sL (some ⟨y, r, none⟩) c.1.length cap) := fun n => (zAx n.h.2).1;have n1 : ∀ n : Cls (fun wx => Bl w wx ∧ wx.heap[w.heap.size]? = some (.cells #[sL (some ⟨y, r, none⟩) c.1.length cap, sL (some ⟨L, O, none⟩) c.1.length cp] 37 (0, 0))), n.w.cell? ⟨w.heap.size, 1, none⟩ = some (sL (some ⟨L, O, none⟩) c.1.length cp) := fun n => (zAx n.h.2).2;have g0 : ∀ n : Cls (fun wx => Bl w wx ∧ wx.heap[w.heap.size]? = some (.cells #[sL (some ⟨y, r, none⟩) c.1.length cap, sL (some ⟨L, O, none⟩) c.1.length cp] 37 (0, 0))), n.w.cell? ⟨y, r, none⟩ = some (sL a0 m c0) := fun n => (KW.out _ n.h.1).1;have gk : ∀ n : Cls (fun wx => Bl w wx ∧ wx.heap[w.heap.size]? = some (.cells #[sL (some ⟨y, r, none⟩) c.1.length cap, sL (some ⟨L, O, none⟩) c.1.length cp] 37 (0, 0))), n.w.cell? ⟨y, r + s, none⟩ = some (sL ak f.length ck) := fun n => (KW.out _ n.h.1).2.1;have gt : ∀ n : Cls (fun wx => Bl w wx ∧ wx.heap[w.heap.size]? = some (.cells #[sL (some ⟨y, r, none⟩) c.1.length cap, sL (some ⟨L, O, none⟩) c.1.length cp] 37 (0, 0))), n.w.cell? ⟨L, O + s, none⟩ = some (nI t) := fun n => (KW.out _ n.h.1).2.2;by_cases hm : f.length = m
     ·subst hm;cases qA : zAI t f.length
      ·have D : Hid (∀ w, Calls Tryz.prog 82 #[nI t, nI f.length] w fun e E => e = .returned (.bool false) ∧ E = w) := fun w => by have := zEL t f.length w; rwa [qA] at this
       go_wp2_with fail
       refine zA8 (fun wx => Bl w wx ∧ wx.heap[w.heap.size]? = some (.cells #[sL (some ⟨y, r, none⟩) c.1.length cap, sL (some ⟨L, O, none⟩) c.1.length cp] 37 (0, 0))) (by kernel_rfl) (by kernel_rfl) ⟨BB.drew, X⟩ ?_;intro kA;repeat (quiet_step ((go_at_call 82; exact zAS (D.out _))))
       refine wpQuiet_nil ?_;rintro wx ⟨M, AA⟩;clear n0 n1 g0 gk gt BB X kA;go_wp2;go_ret
       exact ⟨zA2 (HF.out fun h => by have := (HN.out h).2; rw [qA] at this; cases this).symm, M⟩
      ·have D : Hid (∀ w, Calls Tryz.prog 82 #[nI t, nI f.length] w fun e E => e = .returned (.bool true) ∧ E = w) := fun w => by have := zEL t f.length w; rwa [qA] at this
       go_wp2_with fail
       refine zA8 (fun wx => Bl w wx ∧ wx.heap[w.heap.size]? = some (.cells #[sL (some ⟨y, r, none⟩) c.1.length cap, sL (some ⟨L, O, none⟩) c.1.length cp] 37 (0, 0))) (by kernel_rfl) (by kernel_rfl) ⟨BB.drew, X⟩ ?_;intro kA;repeat (quiet_step ((go_at_call 82; exact zAS (D.out _))))
       refine wpQuiet_nil ?_;rintro wx ⟨M, AA⟩;clear n0 n1 g0 gk gt BB X kA;clear D;go_wp2;go_loopw [5] (fun i wr => ∃ k : Nat, k ≤ f.length ∧ i = nI k ∧ zDA c f.length (s * f.length + k) ∧ Bl w wr ∧ wr.heap[w.heap.size]? = some (.cells #[sL (some ⟨y, r, none⟩) c.1.length cap, sL (some ⟨L, O, none⟩) c.1.length cp] 37 (0, 0))) (fun i _ => f.length - (intOf i).toNat)
       case atStart => exact ⟨0, Nat.zero_le _, rfl, by simpa using iB, M, AA⟩
       case round =>
        clear M AA;obtain ⟨i, hi, rfl, J, B2, X2⟩ := hrel;by_cases R : i < f.length
        ·have KB : (i : Int) < (f.length : Int) := by omega
         obtain ⟨u, hu⟩ : ∃ u, f[i]? = some u := ⟨_, List.getElem?_eq_getElem R⟩;have HW : Hid (zBY c f.length (s * f.length + i) = u) := zGB rfl DA.out hu;obtain ⟨bk, ok, cs, rfl, bA, g⟩ := zBG (zA7 mB.out fun k hk => B2.block k hk) hu;obtain ⟨T, p, rfl, -, -, IB, GB, yB⟩ := zAK bA;have x0 := g 0 _ rfl;have x1 := g 1 _ rfl;have x2 := g 2 _ rfl;rw [show ok + (i * zAR.size + 0) = ok + i * 3 from rfl] at x0;rw [show ok + (i * zAR.size + 1) = ok + i * 3 + 1 from rfl] at x1;rw [show ok + (i * zAR.size + 2) = ok + i * 3 + 2 from rfl] at x2;obtain ⟨l, A, d⟩ := u;obtain ⟨n0, n1⟩ := zAx X2;obtain ⟨_, gk, _⟩ := KW.out _ B2;have HD : Hid _ := yB;have kB : d.length ≤ maxLen := Nat.le_trans IB GB;clear g bA hu IB GB yB;simp only at x0 x1 x2
         go_wp2_with fail
         have BZ := zAf wr (.cells #[nI l, nI A, sL T d.length p] 39);have Z := zAy wr (.cells #[nI l, nI A, sL T d.length p] 39);have I := zAJ (.cells #[nI l, nI A, sL T d.length p] 39) X2;have C := zAb B2 BZ;have eB : Hid (zBA (l, A, d) = false → ¬ (zBj isL (l, A, d) = true ∧ l % (c.1.length : Int) = (s : Nat) ∧ ∀ j, j < s * f.length + i → (zBY c f.length j).1 ≠ l) → okB isL zAI c = false) := fun h1 h2 => zLF fun h => by
          rw [← S.out] at h;have := h _ (zMN bB R);rw [HW.out, (zE7 R).1] at this;rcases this with h | h
          ·rw [h1] at h;cases h
          ·exact h2 h
         have AB : Hid (zBA (l, A, d) = true ∨ (zBj isL (l, A, d) = true ∧ l % (c.1.length : Int) = (s : Nat) ∧ ∀ j, j < s * f.length + i → (zBY c f.length j).1 ≠ l) → zDA c f.length (s * f.length + (i + 1))) := fun h => zGA J (by show zBA (zBY c f.length (s * f.length + i)) = true ∨ (zBj isL (zBY c f.length (s * f.length + i)) = true ∧ (zBY c f.length (s * f.length + i)).1 % (c.1.length : Int) = ((s * f.length + i) / f.length : Nat) ∧ ∀ j, j < s * f.length + i → (zBY c f.length j).1 ≠ (zBY c f.length (s * f.length + i)).1); rw [HW.out, (zE7 R).1]; exact h);clear X2 n0 n1 gk x0 x1 x2;cases N : zBA (l, A, d)
         case true =>
          have F : Calls Tryz.prog 52 #[.agg #[nI l, nI A, sL T d.length p]] (wr.alloc (.cells #[nI l, nI A, sL T d.length p] 39)) _ := zDP l A T d.length p _ kB;rw [zHA (l, A, d), N] at F;refine F.mono ?_;rintro e w2 ⟨rfl, b2⟩;replace I := zAa b2 I;replace C := zAb C b2;clear F b2 BZ Z;go_wp2;go_roundw
          case rel => exact ⟨i + 1, by omega, by go_num, AB.out (.inl N), C, I⟩
          case measure => simp [intOf]; omega
         case false =>
          have F : Calls Tryz.prog 52 #[.agg #[nI l, nI A, sL T d.length p]] (wr.alloc (.cells #[nI l, nI A, sL T d.length p] 39)) _ := zDP l A T d.length p _ kB;rw [zHA (l, A, d), N] at F;refine F.mono ?_;rintro e w2 ⟨rfl, b2⟩;replace I := zAa b2 I;replace C := zAb C b2;replace Z := zAa b2 Z;have yA := zAG (zAG HD.out BZ) b2;clear F b2 BZ HD;obtain ⟨y0, y1, y2⟩ := zAg Z;go_wp2_with fail
          cases aA : zBj isL (l, A, d)
          case false =>
           have F := zE6 l A d T p w2 yA;rw [aA] at F;refine F.mono ?_;rintro e w3 ⟨rfl, b3⟩;replace C := zAb C b3;clear F b3 Z y0 y1 y2 yA I;go_wp2;go_ret
           exact ⟨zA2 (eB.out N (fun h => by rw [aA] at h; exact absurd h.1 (by simp))).symm, C⟩
          case true =>
           have fA := zBX aA;simp only at fA
           have hz : (c.1.length : Int) ≠ 0 := by omega
           have F := zE6 l A d T p w2 yA;rw [aA] at F;refine F.mono ?_;rintro e w3 ⟨rfl, b3⟩;replace C := zAb C b3;replace I := zAa b3 I;replace Z := zAa b3 Z;clear F b3 y0 y1 y2 yA;obtain ⟨y0, y1, y2⟩ := zAg Z;have nB : Int.tmod l (c.1.length : Int) = l % (c.1.length : Int) := Int.tmod_eq_emod_of_nonneg fA.1;by_cases hq : l % (c.1.length : Int) = (s : Nat)
           ·rw [hq] at nB;have HQ : Hid (l % (c.1.length : Int) = (s : Nat)) := hq;go_wp2;go_loopw [7] (fun q wq => ∃ k : Nat, k ≤ i ∧ q = nI k ∧ (∀ j, j < k → (zBY c f.length (s * f.length + j)).1 ≠ l) ∧ Bl w wq ∧ wq.heap[w.heap.size]? = some (.cells #[sL (some ⟨y, r, none⟩) c.1.length cap, sL (some ⟨L, O, none⟩) c.1.length cp] 37 (0, 0)) ∧ wq.heap[wr.heap.size]? = some (.cells #[nI l, nI A, sL T d.length p] 39 (0, 0))) (fun q _ => i - (intOf q).toNat)
            case atStart => exact ⟨0, Nat.zero_le _, rfl, fun j hj => by omega, C, I, Z⟩
            case round =>
             clear C I Z y0 y1 y2;obtain ⟨k, fD, rfl, vB, C, I, Z⟩ := hrel;obtain ⟨y0, y1, y2⟩ := zAg Z;by_cases KC : k < i
             ·have YB : (k : Int) < (i : Int) := by omega
              have mC : (k : Int) < (f.length : Int) := by omega
              obtain ⟨v, hv⟩ : ∃ v, f[k]? = some v := ⟨_, List.getElem?_eq_getElem (by omega)⟩;have HV : Hid (zBY c f.length (s * f.length + k) = v) := zGB rfl DA.out hv;obtain ⟨mD, YC, cs, e9, bA, g⟩ := zBG (zA7 mB.out fun k hk => C.block k hk) hv;cases e9;obtain ⟨jD, BC, rfl, -, -, -, -, -⟩ := zAK bA;have x0 := g 0 _ rfl;rw [show ok + (k * zAR.size + 0) = ok + k * 3 from rfl] at x0;obtain ⟨n0, n1⟩ := zAx I;obtain ⟨_, gk, _⟩ := KW.out _ C;obtain ⟨l', nD, d'⟩ := v;simp only at x0
              clear g bA hv;by_cases ZA : l' = l
              ·subst ZA;have gA : Hid (okB isL zAI c = false) := eB.out N fun h => h.2.2 (s * f.length + k) (by omega) (by rw [HV.out]);go_wp2_with fail
               go_quiet (fail)
               go_wp2;go_ret
               exact ⟨zA2 gA.out.symm, zGh C nq⟩
              ·have yC : (l' == l) = false := by simpa using ZA
               go_wp2_with fail
               go_quiet (fail)
               go_wp2;go_roundw
               case rel =>
                refine ⟨k + 1, by omega, by go_num, fun j hj => ?_, zGh C nq, I, Z⟩;by_cases he : j < k
                ·exact vB j he
                ·have : j = k := by omega
                 subst this;rw [HV.out];exact ZA
               case measure => simp [intOf]; omega
             ·have eC : k = i := by omega
              subst eC;go_wp2;go_roundw
              case rel => exact ⟨k + 1, by omega, by go_num, AB.out (.inr ⟨aA, HQ.out, upto_row R J fA.1 HQ.out vB⟩), C, I⟩
              case measure => simp [intOf]; omega
           ·have gA : Hid (okB isL zAI c = false) := eB.out N fun h => hq h.2.1;have ZC : (l % (c.1.length : Int) != (s : Int)) = true := by simpa using hq
            clear nB;go_wp2;go_ret
            exact ⟨zA2 gA.out.symm, C⟩
        ·have lC : Hid (i = f.length) := by unfold Hid; omega
         have KB : ¬ ((i : Int) < (f.length : Int)) := by omega
         clear R;obtain ⟨n0, n1⟩ := zAx X2;obtain ⟨_, gk, _⟩ := KW.out _ B2;go_wp2;go_roundw
         case rel =>
          refine ⟨s + 1, by omega, by go_num, fun j hj => ?_, by rw [Nat.add_one_mul]; have := lC.out; rw [this] at J; exact J, B2, X2⟩;by_cases he : j < s
          ·exact EA j he
          ·have : j = s := by omega
           subst this;exact HY.out (by simp) qA
         case measure => simp [intOf]; omega
     ·have VB : ((f.length : Int) != (m : Int)) = true := by simp; omega
      go_wp2_with fail
      refine zA8 (fun wx => Bl w wx ∧ wx.heap[w.heap.size]? = some (.cells #[sL (some ⟨y, r, none⟩) c.1.length cap, sL (some ⟨L, O, none⟩) c.1.length cp] 37 (0, 0))) (by kernel_rfl) (by kernel_rfl) ⟨BB.drew, X⟩ ?_;intro kA;iterate 12 (quiet_step (fail))
      clear VB;refine wpQuiet_step (fun K hK => ?_);go_simp
      refine zGy K _ ?_;intro A0 FB;refine hK A0 ?_;clear hK K;have qB : A0.tmps[49]? = some (.bool true) := by rw [FB]; rfl
      refine zA4 (b := false) (d := 49) qB rfl rfl rfl (by decide) ?_;intro IC XA U;clear qB;refine zA4 (b := false) (d := 49) U rfl rfl rfl (by decide) ?_;intro RC TA eA;clear U;refine zA4 (b := false) (d := 49) eA rfl rfl rfl (by decide) ?_;intro zC NA mA;clear eA;refine zA4 (b := false) (d := 49) mA rfl rfl rfl (by decide) ?_;intro rC LA nA;clear mA;refine zA4 (b := false) (d := 49) nA rfl rfl rfl (by decide) ?_;intro qC dB V;clear nA;refine zA4 (b := false) (d := 49) V rfl rfl rfl (by decide) ?_;intro JC aB cA;clear V;refine zA4 (b := false) (d := 49) cA rfl rfl rfl (by decide) ?_;intro DC VA jA;clear cA;refine zA4 (b := false) (d := 49) jA rfl rfl rfl (by decide) ?_;intro TC JA dA;clear jA;refine zA4 (b := false) (d := 49) dA rfl rfl rfl (by decide) ?_;intro AC RA iA;clear dA;refine zA4 (b := false) (d := 49) iA rfl rfl rfl (by decide) ?_;intro pC HA lA;clear iA;refine zA4 (b := false) (d := 49) lA rfl rfl rfl (by decide) ?_;intro ZB vA G;clear lA;refine zA4 (b := false) (d := 49) G rfl rfl rfl (by decide) ?_;intro XB zA BA;clear G;clear BA;subst zA vA HA RA JA VA aB dB LA NA TA XA;subst FB;quiet_step (skip)
      refine wpQuiet_nil ?_;rintro wx ⟨M, AA⟩;clear n0 n1 g0 gk gt BB X kA;go_wp2;go_ret
      exact ⟨zA2 (HF.out fun h => hm (HN.out h).1).symm, M⟩
    ·have cB : s = c.1.length := by omega
     have H : Hid (okB isL zAI c = true) := yes_of ⟨HP.out, GA.out, by rw [← cB]; exact EA⟩ (by rw [← S.out, ← cB]; exact iB);subst cB;go_wp2;go_ret
     exact ⟨zA2 H.out.symm, BB⟩
 ·have H : Hid (okB isL zAI c = false) := zDQ fun h => hl h.2.1;have UC : ((c.2.length : Int) == (c.1.length : Int)) = false := by simp; omega
  clear h1 h2 m1 m2 m3;go_enter Tryz.func50, Tryz.ntmps50;go_wp2_with (go_at_call 81; refine (zFm _ _).mono ?_; rintro e E ⟨rfl, rfl⟩; rw [hp])
  go_ret
  exact ⟨zA2 H.out.symm, HB.out _⟩
end Go.Proofs.YtmdhblhdfcocjaaGreatDoor
