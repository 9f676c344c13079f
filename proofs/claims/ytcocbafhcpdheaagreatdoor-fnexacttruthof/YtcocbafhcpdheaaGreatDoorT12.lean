import Derived.Test.YtcocbafhcpdheaaGreatDoorT00Box
import Derived.Test.YtcocbafhcpdheaaGreatDoorT11
namespace Go.Proofs.YtcocbafhcpdheaaGreatDoor
open Go.ChangeShapes Go.WideShapes Go.ChangeAt Go.RowKit Go.Shelf
set_option linter.unusedVariables false
theorem zKp (n : Nat) : zET (n : Int) = true ↔ zN6 n := by
 simp only [zET, zN6, decide_eq_true_eq];omega
theorem zE7 {m i j : Nat} (hj : j < m) : (i * m + j) / m = i ∧ (i * m + j) % m = j := by
 have a : 0 < m := by omega
 exact ⟨by rw [Nat.mul_comm, Nat.mul_add_div a, Nat.div_eq_of_lt hj, Nat.add_zero], by rw [Nat.mul_comm, Nat.mul_add_mod, Nat.mod_eq_of_lt hj]⟩
theorem zNE {s m i j : Nat} (hi : i < s) (hj : j < m) : i * m + j < s * m := by
 have : (i + 1) * m ≤ s * m := Nat.mul_le_mul_right _ hi;rw [Nat.add_one_mul] at this;omega
theorem zG6 {c : zA7} {m i j : Nat} {row : List zC3} {u : zC3} (hl : row.length = m) (hr : c.1[i]? = some row) (hu : row[j]? = some u) : zBM c m (i * m + j) = u := by
 have d : j < m := by have := (List.getElem?_eq_some_iff.1 hu).1; omega
 obtain ⟨a, b⟩ := zE7 (i := i) d;unfold zBM;rw [a, b];simp [List.getD_eq_getElem?_getD, hr, hu]
theorem ok_link {c : zA7} : OkC isL zAH c ↔ zHV c ∧ zDG c (zB8 c) (c.1.length * zB8 c) := by
 constructor
 ·rintro ⟨C, I, m, H, n⟩;have b := zDP C;have z := zDP H;have T : zB8 c = m := by
   have e : c.1[0]? = some (c.1.getD 0 []) := by rw [List.getD_eq_getElem?_getD, List.getElem?_eq_getElem b]; rfl
   exact (n 0 _ e).1
  rw [T];have l : ∀ a ∈ c.1, a.length = m := fun a hr => by
   obtain ⟨i, f⟩ := List.mem_iff_getElem?.1 hr;exact (n i a f).1
  refine ⟨⟨(zKp _).2 C, I, fun i f a t hr D => ?_⟩, fun j hj => ?_⟩
  ·obtain ⟨g, ⟨t', v, a3⟩, _⟩ := n i a hr;rw [D] at v;cases v;rw [T];exact ⟨g, a3⟩
  ·obtain ⟨a, J, O⟩ := zFn z l hj;obtain ⟨_, _, g, v⟩ := n _ a J;rcases g _ _ O with F | ⟨M, p⟩
   ·exact .inl F
   ·refine .inr ⟨M, p, fun i f d => ?_⟩;have hl := zFl M;obtain ⟨A, L, S⟩ := zFn z l (show i < c.1.length * m by omega);obtain ⟨_, _, V, Z⟩ := n _ A L;rcases V _ _ S with F | ⟨dA, G⟩
    ·rw [zE6 F] at d;simp [zB0] at d
     omega
    ·rw [d, p] at G;have q : j / m = i / m := by omega
     rw [q, L] at J;cases J;have := Z _ _ _ _ S O (by omega) d;have d1 := Nat.div_add_mod i m;have d2 := Nat.div_add_mod j m;rw [q, ← this] at d2;omega
 ·rintro ⟨⟨C, I, n⟩, R⟩;have U := (zKp _).1 C;have b := zDP U;have e0 : c.1[0]? = some (c.1.getD 0 []) := by rw [List.getD_eq_getElem?_getD, List.getElem?_eq_getElem b]; rfl
  obtain ⟨t0, K⟩ : ∃ t, c.2[0]? = some t := ⟨_, List.getElem?_eq_getElem (by omega)⟩;have H : zN6 (zB8 c) := by
   have := zLv (n 0 b _ _ e0 K).2;unfold zN6;omega
  refine ⟨U, I, zB8 c, H, fun s a p => ?_⟩;have r := (List.getElem?_eq_some_iff.1 p).1;obtain ⟨t, D⟩ : ∃ t, c.2[s]? = some t := ⟨_, List.getElem?_eq_getElem (by omega)⟩;obtain ⟨g, v⟩ := n s r a t p D;refine ⟨g, ⟨t, D, v⟩, fun i u o => ?_, fun i k u x o y N d => ?_⟩
  ·have f : i < zB8 c := by have := (List.getElem?_eq_some_iff.1 o).1; omega
   have := R _ (zNE r f);rw [zG6 g p o, (zE7 f).1] at this;rcases this with h | ⟨h, Y, _⟩
   ·exact .inl h
   ·exact .inr ⟨h, Y⟩
  ·have f : i < zB8 c := by have := (List.getElem?_eq_some_iff.1 o).1; omega
   have E : k < zB8 c := by have := (List.getElem?_eq_some_iff.1 y).1; omega
   have B : ∀ (i k : Nat) (u x : zC3), a[i]? = some u → a[k]? = some x → 0 ≤ u.1 → u.1 = x.1 → i < zB8 c → k < zB8 c → ¬ i < k := by
    intro i k u x o y N d f E X;have := R _ (zNE r E);rw [zG6 g p y] at this;rcases this with h | ⟨_, _, h⟩
    ·rw [zE6 h] at d;simp [zB0] at d
     omega
    ·have := h (s * zB8 c + i) (by omega);rw [zG6 g p o] at this;exact this d
   have k1 := B i k u x o y N d f E;have k2 := B k i x u y o (by omega) d.symm E f;omega
theorem ok_eq (c : zA7) : okB isL zAH c = (zD5 c && zHl c (zB8 c)) := by
 rw [Bool.eq_iff_iff, zEQ, ok_link, Bool.and_eq_true];simp [zD5, zHl]
theorem zG7 {c : zA7} (h : zD5 c = true) : zHV c ∧ (c.1.length = 1 ∨ c.1.length = 2 ∨ c.1.length = 4) ∧ (zB8 c = 1 ∨ zB8 c = 2 ∨ zB8 c = 4) ∧ ∀ row ∈ c.1, row.length = zB8 c := by
 have m : zHV c := by simpa [zD5] using h
 obtain ⟨j, n, b⟩ := m;have k := (zKp _).1 j;have a := zDP k;have o : c.1[0]? = some (c.1.getD 0 []) := by rw [List.getD_eq_getElem?_getD, List.getElem?_eq_getElem a]; rfl
 obtain ⟨t0, d⟩ : ∃ t, c.2[0]? = some t := ⟨_, List.getElem?_eq_getElem (by omega)⟩;have hm := zLv (b 0 a _ _ o d).2;refine ⟨⟨j, n, b⟩, k, by omega, fun row hr => ?_⟩;obtain ⟨i, g⟩ := List.mem_iff_getElem?.1 hr;have f := (List.getElem?_eq_some_iff.1 g).1;obtain ⟨t, l⟩ : ∃ t, c.2[i]? = some t := ⟨_, List.getElem?_eq_getElem (by omega)⟩;exact (b i f row t g l).1
set_option maxHeartbeats 400000 in
theorem zEl (a b : Option Addr) (c : zA7) (cap cp : Nat) (w : World) (h1 : zA4 zBh w a c.1) (h2 : zA4 zAG w b c.2) (m1 : c.1.length ≤ maxLen) (m2 : c.2.length ≤ maxLen) (m3 : ∀ row ∈ c.1, row.length ≤ maxLen) :
    Calls Tryz.prog 194 #[.agg #[.slice a c.1.length cap, .slice b c.2.length cp]] w fun e f => e = .returned (.bool (okB isL zAH c)) ∧ Below w.heap.size w f := by
 rw [ok_eq];have X := zAn w (.cells #[.slice a c.1.length cap, .slice b c.2.length cp] 92);have B := zAf w (.cells #[.slice a c.1.length cap, .slice b c.2.length cp] 92);have d := zKo a b c cap cp (w.alloc (.cells #[.slice a c.1.length cap, .slice b c.2.length cp] 92)) (zAm h1 B) (zAm h2 B) m1 m2 m3;have q : Hid _ := h1;clear h1 h2 m1 m2 m3;cases j : zD5 c
 ·rw [j] at d;go_enter Tryz.func194, Tryz.ntmps194;go_wp2_with (go_at_call 234; refine d.mono ?_; rintro e f ⟨rfl, s⟩)
  go_ret
  exact ⟨rfl, zAa B s⟩
 ·rw [j] at d;obtain ⟨_, l, o, n⟩ := zG7 j;have p : Hid (∀ W, Below w.heap.size w W → Calls Tryz.prog 235 #[.agg #[.slice a c.1.length cap, .slice b c.2.length cp]] W fun e f => e = .returned (.bool (zHl c (zB8 c))) ∧ Below W.heap.size W f) :=
   fun W hb => zMj a b c cap cp (zB8 c) W (zAq q.out fun k hk => hb.block k hk) l o n
  clear l o n;go_enter Tryz.func194, Tryz.ntmps194;go_wp2_with fail
  refine d.mono ?_;rintro e w1 ⟨rfl, g⟩;have i := zAa B g;obtain ⟨y, r⟩ := zAK (zAb g X);go_wp2_with fail
  refine (p.out _ i).mono ?_;rintro e w2 ⟨rfl, m⟩;have v := zAa i m;clear g i m y r X B d p;go_wp2
  all_goals go_ret
  all_goals exact ⟨by simp_all, v⟩
theorem upto_row {c : zA7} {m s i : Nat} (hm : i < m) (h : zDG c m (s * m + i)) {l : Int} (h0 : 0 ≤ l) (hs : l % (c.1.length : Int) = (s : Nat)) (hno : ∀ k, k < i → (zBM c m (s * m + k)).1 ≠ l) : ∀ j, j < s * m + i → (zBM c m j).1 ≠ l := by
 intro j g a;by_cases hr : s * m ≤ j
 ·exact hno (j - s * m) (by omega) (by rw [show s * m + (j - s * m) = j by omega]; exact a)
 ·have b : j / m < s := by rw [Nat.div_lt_iff_lt_mul (by omega)]; omega
  rcases h j g with f | ⟨_, d, _⟩
  ·rw [zE6 f] at a;simp [zB0] at a
   omega
  ·rw [a, hs] at d;omega
theorem zMk {c : zA7} (h : ¬ zDG c (zB8 c) (c.1.length * zB8 c)) : okB isL zAH c = false := by
 rw [ok_eq, zLw h, Bool.and_false]
theorem zDR {c : zA7} (h : ¬ zHV c) : okB isL zAH c = false := by
 rw [ok_eq, zGl h, Bool.false_and]
theorem yes_of {c : zA7} (h : zHV c) (h' : zDG c (zB8 c) (c.1.length * zB8 c)) : okB isL zAH c = true := by
 rw [ok_eq, zG4 h, zJe h', Bool.and_true]
set_option maxHeartbeats 4000000 in
set_option maxRecDepth 100000 in
theorem zG8 (a b : Option Addr) (c : zA7) (cap cp : Nat) (w : World) (h1 : zA4 zBh w a c.1) (h2 : zA4 zAG w b c.2) (m1 : c.1.length ≤ maxLen) (m2 : c.2.length ≤ maxLen) (m3 : ∀ f ∈ c.1, f.length ≤ maxLen) :
    Calls Tryz.prog 146 #[.agg #[.slice a c.1.length cap, .slice b c.2.length cp]] w fun e F => e = .returned (.bool (okB isL zAH c)) ∧ Below w.heap.size w F := by
 have iD : c.1.length ≤ 9223372036854775807 := m1;have oD : c.2.length ≤ 9223372036854775807 := m2;have HB : Hid _ := zAf w;cases hp : zET c.1.length
 ·have H : Hid (okB isL zAH c = false) := zDR fun h => by rw [h.1] at hp; cases hp
  clear h1 h2 m1 m2 m3;go_enter Tryz.func146, Tryz.ntmps146;go_wp2_with (go_at_call 140; refine (zEj _ _).mono ?_; rintro e F ⟨rfl, rfl⟩; rw [hp])
  go_ret
  exact ⟨zAl H.out.symm, HB.out _⟩
 by_cases hl : c.2.length = c.1.length
 ·rw [hl];have FB : 0 < c.1.length := by simp [zET] at hp; omega
  have dB : c.1[0]? = some (c.1.getD 0 []) := by rw [List.getD_eq_getElem?_getD, List.getElem?_eq_getElem FB]; rfl
  have aB : (c.1.getD 0 []).length ≤ maxLen := m3 _ (List.mem_of_getElem? dB);obtain ⟨y, r, a0, c0, rfl, g0, -, -, -⟩ := zDV h1 dB;have S : Hid ((c.1.getD 0 []).length = zB8 c) := rfl;have G0 : Hid (w.cell? ⟨y, r + 0, none⟩ = some (.slice a0 (c.1.getD 0 []).length c0)) := g0;have pB : Hid (zHV c → zET (zB8 c) = true) := fun h => by
   obtain ⟨_, _, f2, _⟩ := zG7 (zG4 h);simp [zET]
   omega
  have l1 := zAk g0;clear g0 dB;generalize (c.1.getD 0 []).length = m at aB S G0;have oC : m ≤ 9223372036854775807 := aB;cases aA : zET m
  ·have H : Hid (okB isL zAH c = false) := zDR fun h => by have := pB.out h; rw [← S.out, aA] at this; cases this
   have g0 : ∀ o, (w.alloc o).cell? ⟨y, r, none⟩ = some (.slice a0 m c0) := fun o => zAe (zAf w o) G0.out l1;clear h1 h2 m1 m2 m3;go_enter Tryz.func146, Tryz.ntmps146;go_wp2_with (go_at_call 140; refine (zEj _ _).mono ?_; rintro e F ⟨rfl, rfl⟩; first | rw [hp] | rw [aA])
   go_ret
   exact ⟨zAl H.out.symm, HB.out _⟩
  ·have X0 := zAn w (.cells #[.slice (some ⟨y, r, none⟩) c.1.length cap, .slice b c.1.length cp] 92);have B0 := zAf w (.cells #[.slice (some ⟨y, r, none⟩) c.1.length cap, .slice b c.1.length cp] 92);have g0 : ∀ o, (w.alloc o).cell? ⟨y, r, none⟩ = some (.slice a0 m c0) := fun o => zAe (zAf w o) G0.out l1;have H1 : Hid _ := h1;have H2 : Hid _ := h2;have HM : Hid (∀ f ∈ c.1, f.length ≤ maxLen) := m3;have FA : Hid (c.2.length = c.1.length) := hl;have HP : Hid (zET c.1.length = true) := hp;have mD : Hid (zET m = true) := aA;clear h1 h2 m1 m2 m3 hl pB;go_enter Tryz.func146, Tryz.ntmps146;go_wp2_with (go_at_call 140; refine (zEj _ _).mono ?_; rintro e F ⟨rfl, rfl⟩; first | rw [hp] | rw [aA])
   clear g0 hp aA;generalize w.alloc (.cells #[.slice (some ⟨y, r, none⟩) c.1.length cap, .slice b c.1.length cp] 92) = W0 at X0 B0 ⊢;go_loopw [4] (fun i wr => ∃ k : Nat, k ≤ c.1.length ∧ i = .int .i64 k ∧ (∀ j, j < k → zFm c j) ∧ zDG c m (k * m) ∧ Below w.heap.size w wr ∧ wr.heap[w.heap.size]? = some (.cells #[.slice (some ⟨y, r, none⟩) c.1.length cap, .slice b c.1.length cp] 92 (0, 0))) (fun i _ => c.1.length - (intOf i).toNat)
   case atStart => exact ⟨0, Nat.zero_le _, rfl, fun j hj => by omega, fun j hj => by omega, B0, X0⟩
   case round =>
    clear B0 X0;obtain ⟨s, hk, rfl, GA, EB, BB, X⟩ := hrel;by_cases ZA : s < c.1.length
    ·have vC : (s : Int) < (c.1.length : Int) := by omega
     obtain ⟨f, B⟩ : ∃ f, c.1[s]? = some f := ⟨_, List.getElem?_eq_getElem ZA⟩;obtain ⟨t, ht⟩ : ∃ t, c.2[s]? = some t := ⟨_, List.getElem?_eq_getElem (by have := FA.out; omega)⟩;obtain ⟨_, _, ak, ck, e1, gk, -, -, DA⟩ := zDV H1.out B;cases e1;obtain ⟨R, O, rfl, gt⟩ := int_at H2.out ht;have GB : f.length ≤ maxLen := HM.out _ (List.mem_of_getElem? B);have l2 := zAk gt;have KW : Hid (∀ F, Below w.heap.size w F → F.cell? ⟨y, r, none⟩ = some (.slice a0 m c0) ∧ F.cell? ⟨y, r + s, none⟩ = some (.slice ak f.length ck) ∧ F.cell? ⟨R, O + s, none⟩ = some (.int .i64 t)) :=
      fun F hb => ⟨zAe hb G0.out l1, zAe hb gk l1, zAe hb gt l2⟩
     have HR : Hid (∀ r' t', c.1[s]? = some r' → c.2[s]? = some t' → r' = f ∧ t' = t) := fun r' t' h h' => by rw [B] at h; rw [ht] at h'; cases h; cases h'; exact ⟨rfl, rfl⟩
     have HF : Hid (¬ zFm c s → okB isL zAH c = false) := fun h => zDR fun z => h (z.2.2 s ZA);have HN : Hid (zFm c s → f.length = m ∧ zAH t m = true) := fun h => by have := h f t B ht; rwa [← S.out] at this
     have HY : Hid (f.length = m → zAH t m = true → zFm c s) := fun e1 e2 r' t' h h' => by obtain ⟨rfl, rfl⟩ := HR.out r' t' h h'; rw [← S.out]; exact ⟨e1, e2⟩
     have CA : Hid (c.1[s]? = some f) := B;have sB : Hid (zA4 zBu w ak f) := DA;have DC : f.length ≤ 9223372036854775807 := GB;clear gk gt B ht GB aB G0 DA HR;have n0 : ∀ n : Cls (fun wx => Below w.heap.size w wx ∧ wx.heap[w.heap.size]? = some (.cells #[.slice (some ⟨y, r, none⟩) c.1.length cap, .slice (some ⟨R, O, none⟩) c.1.length cp] 92 (0, 0))), n.w.cell? ⟨w.heap.size, 0, none⟩ = some (.slice (some ⟨y, r, none⟩) c.1.length cap) := fun n => (zAK n.h.2).1;have n1 : ∀ n : Cls (fun wx => Below w.heap.size w wx ∧ wx.heap[w.heap.size]? = some (.cells #[.slice (some ⟨y, r, none⟩) c.1.length cap, .slice (some ⟨R, O, none⟩) c.1.length cp] 92 (0, 0))), n.w.cell? ⟨w.heap.size, 1, none⟩ = some (.slice (some ⟨R, O, none⟩) c.1.length cp) := fun n => (zAK n.h.2).2;have g0 : ∀ n : Cls (fun wx => Below w.heap.size w wx ∧ wx.heap[w.heap.size]? = some (.cells #[.slice (some ⟨y, r, none⟩) c.1.length cap, .slice (some ⟨R, O, none⟩) c.1.length cp] 92 (0, 0))), n.w.cell? ⟨y, r, none⟩ = some (.slice a0 m c0) := fun n => (KW.out _ n.h.1).1;have gk : ∀ n : Cls (fun wx => Below w.heap.size w wx ∧ wx.heap[w.heap.size]? = some (.cells #[.slice (some ⟨y, r, none⟩) c.1.length cap, .slice (some ⟨R, O, none⟩) c.1.length cp] 92 (0, 0))), n.w.cell? ⟨y, r + s, none⟩ = some (.slice ak f.length ck) := fun n => (KW.out _ n.h.1).2.1;have gt : ∀ n : Cls (fun wx => Below w.heap.size w wx ∧ wx.heap[w.heap.size]? = some (.cells #[.slice (some ⟨y, r, none⟩) c.1.length cap, .slice (some ⟨R, O, none⟩) c.1.length cp] 92 (0, 0))), n.w.cell? ⟨R, O + s, none⟩ = some (.int .i64 t) := fun n => (KW.out _ n.h.1).2.2;by_cases hm : f.length = m
     ·subst hm;cases zA : zAH t f.length
      ·have C : Hid (∀ w, Calls Tryz.prog 200 #[.int .i64 t, .int .i64 f.length] w fun e F => e = .returned (.bool false) ∧ F = w) := fun w => by have := zEI t f.length w; rwa [zA] at this
       go_wp2_with fail
       refine zAz (fun wx => Below w.heap.size w wx ∧ wx.heap[w.heap.size]? = some (.cells #[.slice (some ⟨y, r, none⟩) c.1.length cap, .slice (some ⟨R, O, none⟩) c.1.length cp] 92 (0, 0))) (by kernel_rfl) (by kernel_rfl) ⟨BB.drew, X⟩ ?_;intro gA;repeat (quiet_step ((go_at_call 200; exact zAY (C.out _))))
       refine wpQuiet_nil ?_;rintro wx ⟨L, vA⟩;clear n0 n1 g0 gk gt BB X gA;go_wp2;go_ret
       exact ⟨zAl (HF.out fun h => by have := (HN.out h).2; rw [zA] at this; cases this).symm, L⟩
      ·have C : Hid (∀ w, Calls Tryz.prog 200 #[.int .i64 t, .int .i64 f.length] w fun e F => e = .returned (.bool true) ∧ F = w) := fun w => by have := zEI t f.length w; rwa [zA] at this
       go_wp2_with fail
       refine zAz (fun wx => Below w.heap.size w wx ∧ wx.heap[w.heap.size]? = some (.cells #[.slice (some ⟨y, r, none⟩) c.1.length cap, .slice (some ⟨R, O, none⟩) c.1.length cp] 92 (0, 0))) (by kernel_rfl) (by kernel_rfl) ⟨BB.drew, X⟩ ?_;intro gA;repeat (quiet_step ((go_at_call 200; exact zAY (C.out _))))
       refine wpQuiet_nil ?_;rintro wx ⟨L, vA⟩;clear n0 n1 g0 gk gt BB X gA;clear C;go_wp2;go_loopw [5] (fun i wr => ∃ k : Nat, k ≤ f.length ∧ i = .int .i64 k ∧ zDG c f.length (s * f.length + k) ∧ Below w.heap.size w wr ∧ wr.heap[w.heap.size]? = some (.cells #[.slice (some ⟨y, r, none⟩) c.1.length cap, .slice (some ⟨R, O, none⟩) c.1.length cp] 92 (0, 0))) (fun i _ => f.length - (intOf i).toNat)
       case atStart => exact ⟨0, Nat.zero_le _, rfl, by simpa using EB, L, vA⟩
       case round =>
        clear L vA;obtain ⟨i, hi, rfl, I, B2, X2⟩ := hrel;by_cases M : i < f.length
        ·have DB : (i : Int) < (f.length : Int) := by omega
         obtain ⟨u, hu⟩ : ∃ u, f[i]? = some u := ⟨_, List.getElem?_eq_getElem M⟩;have HW : Hid (zBM c f.length (s * f.length + i) = u) := zG6 rfl CA.out hu;obtain ⟨bk, ok, cs, rfl, bA, g⟩ := zAy (zAq sB.out fun k hk => B2.block k hk) hu;obtain ⟨T, p, rfl, -, -, rB, iB, AB⟩ := zBz bA;have x0 := g 0 _ rfl;have x1 := g 1 _ rfl;have x2 := g 2 _ rfl;rw [show ok + (i * zBu.size + 0) = ok + i * 3 from rfl] at x0;rw [show ok + (i * zBu.size + 1) = ok + i * 3 + 1 from rfl] at x1;rw [show ok + (i * zBu.size + 2) = ok + i * 3 + 2 from rfl] at x2;obtain ⟨l, A, d⟩ := u;obtain ⟨n0, n1⟩ := zAK X2;obtain ⟨_, gk, _⟩ := KW.out _ B2;have HD : Hid _ := AB;have nB : d.length ≤ maxLen := Nat.le_trans rB iB;clear g bA hu rB iB AB;simp only at x0 x1 x2
         go_wp2_with fail
         have BZ := zAf wr (.cells #[.int .i64 l, .int .i64 A, .slice T d.length p] 88);have Z := zAn wr (.cells #[.int .i64 l, .int .i64 A, .slice T d.length p] 88);have G := zA3 (.cells #[.int .i64 l, .int .i64 A, .slice T d.length p] 88) X2;have D := zAa B2 BZ;have LA : Hid (zB3 (l, A, d) = false → ¬ (zCC isL (l, A, d) = true ∧ l % (c.1.length : Int) = (s : Nat) ∧ ∀ j, j < s * f.length + i → (zBM c f.length j).1 ≠ l) → okB isL zAH c = false) := fun h1 h2 => zMk fun h => by
          rw [← S.out] at h;have := h _ (zNE ZA M);rw [HW.out, (zE7 M).1] at this;rcases this with h | h
          ·rw [h1] at h;cases h
          ·exact h2 h
         have KB : Hid (zB3 (l, A, d) = true ∨ (zCC isL (l, A, d) = true ∧ l % (c.1.length : Int) = (s : Nat) ∧ ∀ j, j < s * f.length + i → (zBM c f.length j).1 ≠ l) → zDG c f.length (s * f.length + (i + 1))) := fun h => zG5 I (by show zB3 (zBM c f.length (s * f.length + i)) = true ∨ (zCC isL (zBM c f.length (s * f.length + i)) = true ∧ (zBM c f.length (s * f.length + i)).1 % (c.1.length : Int) = ((s * f.length + i) / f.length : Nat) ∧ ∀ j, j < s * f.length + i → (zBM c f.length j).1 ≠ (zBM c f.length (s * f.length + i)).1); rw [HW.out, (zE7 M).1]; exact h);clear X2 n0 n1 gk x0 x1 x2;cases N : zB3 (l, A, d)
         case true =>
          have E : Calls Tryz.prog 148 #[.agg #[.int .i64 l, .int .i64 A, .slice T d.length p]] (wr.alloc (.cells #[.int .i64 l, .int .i64 A, .slice T d.length p] 88)) _ := zEU l A T d.length p _ nB;rw [zJc (l, A, d), N] at E;refine E.mono ?_;rintro e w2 ⟨rfl, b2⟩;replace G := zAb b2 G;replace D := zAa D b2;clear E b2 BZ Z;go_wp2;go_roundw
          case rel => exact ⟨i + 1, by omega, by go_num, KB.out (.inl N), D, G⟩
          case measure => simp [intOf]; omega
         case false =>
          have E : Calls Tryz.prog 148 #[.agg #[.int .i64 l, .int .i64 A, .slice T d.length p]] (wr.alloc (.cells #[.int .i64 l, .int .i64 A, .slice T d.length p] 88)) _ := zEU l A T d.length p _ nB;rw [zJc (l, A, d), N] at E;refine E.mono ?_;rintro e w2 ⟨rfl, b2⟩;replace G := zAb b2 G;replace D := zAa D b2;replace Z := zAb b2 Z;have BA := zAm (zAm HD.out BZ) b2;clear E b2 BZ HD;obtain ⟨y0, y1, y2⟩ := zAJ Z;go_wp2_with fail
          cases U : zCC isL (l, A, d)
          case false =>
           have E := zF5 l A d T p w2 BA;rw [U] at E;refine E.mono ?_;rintro e w3 ⟨rfl, b3⟩;replace D := zAa D b3;clear E b3 Z y0 y1 y2 BA G;go_wp2;go_ret
           exact ⟨zAl (LA.out N (fun h => by rw [U] at h; exact absurd h.1 (by simp))).symm, D⟩
          case true =>
           have V := zFl U;simp only at V
           have hz : (c.1.length : Int) ≠ 0 := by omega
           have E := zF5 l A d T p w2 BA;rw [U] at E;refine E.mono ?_;rintro e w3 ⟨rfl, b3⟩;replace D := zAa D b3;replace G := zAb b3 G;replace Z := zAb b3 Z;clear E b3 y0 y1 y2 BA;obtain ⟨y0, y1, y2⟩ := zAJ Z;have lB : Int.tmod l (c.1.length : Int) = l % (c.1.length : Int) := Int.tmod_eq_emod_of_nonneg V.1;by_cases hq : l % (c.1.length : Int) = (s : Nat)
           ·rw [hq] at lB;have HQ : Hid (l % (c.1.length : Int) = (s : Nat)) := hq;go_wp2;go_loopw [7] (fun q wq => ∃ k : Nat, k ≤ i ∧ q = .int .i64 k ∧ (∀ j, j < k → (zBM c f.length (s * f.length + j)).1 ≠ l) ∧ Below w.heap.size w wq ∧ wq.heap[w.heap.size]? = some (.cells #[.slice (some ⟨y, r, none⟩) c.1.length cap, .slice (some ⟨R, O, none⟩) c.1.length cp] 92 (0, 0)) ∧ wq.heap[wr.heap.size]? = some (.cells #[.int .i64 l, .int .i64 A, .slice T d.length p] 88 (0, 0))) (fun q _ => i - (intOf q).toNat)
            case atStart => exact ⟨0, Nat.zero_le _, rfl, fun j hj => by omega, D, G, Z⟩
            case round =>
             clear D G Z y0 y1 y2;obtain ⟨k, UC, rfl, zB, D, G, Z⟩ := hrel;obtain ⟨y0, y1, y2⟩ := zAJ Z;by_cases JC : k < i
             ·have gC : (k : Int) < (i : Int) := by omega
              have GC : (k : Int) < (f.length : Int) := by omega
              obtain ⟨v, hv⟩ : ∃ v, f[k]? = some v := ⟨_, List.getElem?_eq_getElem (by omega)⟩;have HV : Hid (zBM c f.length (s * f.length + k) = v) := zG6 rfl CA.out hv;obtain ⟨YC, dD, cs, e9, bA, g⟩ := zAy (zAq sB.out fun k hk => D.block k hk) hv;cases e9;obtain ⟨ZC, qC, rfl, -, -, -, -, -⟩ := zBz bA;have x0 := g 0 _ rfl;rw [show ok + (k * zBu.size + 0) = ok + k * 3 from rfl] at x0;obtain ⟨n0, n1⟩ := zAK G;obtain ⟨_, gk, _⟩ := KW.out _ D;obtain ⟨l', nD, d'⟩ := v;simp only at x0
              clear g bA hv;by_cases KA : l' = l
              ·subst KA;have fA : Hid (okB isL zAH c = false) := LA.out N fun h => h.2.2 (s * f.length + k) (by omega) (by rw [HV.out]);go_wp2_with fail
               go_quiet (fail)
               go_wp2;go_ret
               exact ⟨zAl fA.out.symm, zHQ D nq⟩
              ·have rC : (l' == l) = false := by simpa using KA
               go_wp2_with fail
               go_quiet (fail)
               go_wp2;go_roundw
               case rel =>
                refine ⟨k + 1, by omega, by go_num, fun j hj => ?_, zHQ D nq, G, Z⟩;by_cases he : j < k
                ·exact zB j he
                ·have : j = k := by omega
                 subst this;rw [HV.out];exact KA
               case measure => simp [intOf]; omega
             ·have aC : k = i := by omega
              subst aC;go_wp2;go_roundw
              case rel => exact ⟨k + 1, by omega, by go_num, KB.out (.inr ⟨U, HQ.out, upto_row M I V.1 HQ.out zB⟩), D, G⟩
              case measure => simp [intOf]; omega
           ·have fA : Hid (okB isL zAH c = false) := LA.out N fun h => hq h.2.1;have VC : (l % (c.1.length : Int) != (s : Int)) = true := by simpa using hq
            clear lB;go_wp2;go_ret
            exact ⟨zAl fA.out.symm, D⟩
        ·have YB : Hid (i = f.length) := by unfold Hid; omega
         have DB : ¬ ((i : Int) < (f.length : Int)) := by omega
         clear M;obtain ⟨n0, n1⟩ := zAK X2;obtain ⟨_, gk, _⟩ := KW.out _ B2;go_wp2;go_roundw
         case rel =>
          refine ⟨s + 1, by omega, by go_num, fun j hj => ?_, by rw [Nat.add_one_mul]; have := YB.out; rw [this] at I; exact I, B2, X2⟩;by_cases he : j < s
          ·exact GA j he
          ·have : j = s := by omega
           subst this;exact HY.out (by simp) zA
         case measure => simp [intOf]; omega
     ·have ZB : ((f.length : Int) != (m : Int)) = true := by simp; omega
      go_wp2_with fail
      refine zAz (fun wx => Below w.heap.size w wx ∧ wx.heap[w.heap.size]? = some (.cells #[.slice (some ⟨y, r, none⟩) c.1.length cap, .slice (some ⟨R, O, none⟩) c.1.length cp] 92 (0, 0))) (by kernel_rfl) (by kernel_rfl) ⟨BB.drew, X⟩ ?_;intro gA;iterate 12 (quiet_step (fail))
      clear ZB;refine wpQuiet_step (fun K hK => ?_);go_simp
      refine zCp K _ ?_;intro A0 CB;refine hK A0 ?_;clear hK K;have vB : A0.tmps[49]? = some (.bool true) := by rw [CB]; rfl
      refine zAg (b := false) (d := 49) vB rfl rfl rfl (by decide) ?_;intro KC OA Y;clear vB;refine zAg (b := false) (d := 49) Y rfl rfl rfl (by decide) ?_;intro LC MA iA;clear Y;refine zAg (b := false) (d := 49) iA rfl rfl rfl (by decide) ?_;intro RC SA eA;clear iA;refine zAg (b := false) (d := 49) eA rfl rfl rfl (by decide) ?_;intro FC eB dA;clear eA;refine zAg (b := false) (d := 49) dA rfl rfl rfl (by decide) ?_;intro MC TA lA;clear dA;refine zAg (b := false) (d := 49) lA rfl rfl rfl (by decide) ?_;intro EC bB kA;clear lA;refine zAg (b := false) (d := 49) kA rfl rfl rfl (by decide) ?_;intro pC HA mA;clear kA;refine zAg (b := false) (d := 49) mA rfl rfl rfl (by decide) ?_;intro NC cB nA;clear mA;refine zAg (b := false) (d := 49) nA rfl rfl rfl (by decide) ?_;intro nC IA jA;clear nA;refine zAg (b := false) (d := 49) jA rfl rfl rfl (by decide) ?_;intro zC VA cA;clear jA;refine zAg (b := false) (d := 49) cA rfl rfl rfl (by decide) ?_;intro dC rA J;clear cA;refine zAg (b := false) (d := 49) J rfl rfl rfl (by decide) ?_;intro cC yA qA;clear J;clear qA;subst yA rA VA IA cB HA bB TA eB SA MA OA;subst CB;quiet_step (skip)
      refine wpQuiet_nil ?_;rintro wx ⟨L, vA⟩;clear n0 n1 g0 gk gt BB X gA;go_wp2;go_ret
      exact ⟨zAl (HF.out fun h => hm (HN.out h).1).symm, L⟩
    ·have JA : s = c.1.length := by omega
     have H : Hid (okB isL zAH c = true) := yes_of ⟨HP.out, FA.out, by rw [← JA]; exact GA⟩ (by rw [← S.out, ← JA]; exact EB);subst JA;go_wp2;go_ret
     exact ⟨zAl H.out.symm, BB⟩
 ·have H : Hid (okB isL zAH c = false) := zDR fun h => hl h.2.1;have gD : ((c.2.length : Int) == (c.1.length : Int)) = false := by simp; omega
  clear h1 h2 m1 m2 m3;go_enter Tryz.func146, Tryz.ntmps146;go_wp2_with (go_at_call 140; refine (zEj _ _).mono ?_; rintro e F ⟨rfl, rfl⟩; rw [hp])
  go_ret
  exact ⟨zAl H.out.symm, HB.out _⟩
end Go.Proofs.YtcocbafhcpdheaaGreatDoor
