import Derived.Test.YtoihjejenjcokaaGreatDoorP00Box
import Derived.Test.YtoihjejenjcokaaGreatDoorP10WaysOk
namespace Go.Proofs.YtoihjejenjcokaaGreatDoor
open Go.ChangeShapes Go.WideShapes Go.ChangeAt Go.RowKit Go.Shelf
set_option linter.unusedVariables false
theorem zKh (n : Nat) : zHg (n : Int) = true ↔ zIU n := by
 simp only [zHg, zIU, decide_eq_true_eq]
 omega
theorem zE7 {m i j : Nat} (hj : j < m) : (i * m + j) / m = i ∧ (i * m + j) % m = j := by
 have hm0 : 0 < m := by omega
 exact ⟨by rw [Nat.mul_comm, Nat.mul_add_div hm0, Nat.div_eq_of_lt hj, Nat.add_zero], by rw [Nat.mul_comm, Nat.mul_add_mod, Nat.mod_eq_of_lt hj]⟩
theorem zMN {s m i j : Nat} (hi : i < s) (hj : j < m) : i * m + j < s * m := by
 have : (i + 1) * m ≤ s * m := Nat.mul_le_mul_right _ hi
 rw [Nat.add_one_mul] at this
 omega
theorem zGB {c : zAu} {m i j : Nat} {row : List zAU} {u : zAU} (hl : row.length = m) (hr : c.1[i]? = some row) (hu : row[j]? = some u) : zBZ c m (i * m + j) = u := by
 have hj : j < m := by have := (List.getElem?_eq_some_iff.1 hu).1; omega
 obtain ⟨e1, e2⟩ := zE7 (i := i) hj
 unfold zBZ
 rw [e1, e2]
 simp [List.getD_eq_getElem?_getD, hr, hu]
theorem ok_link {c : zAu} : OkC isL zAJ c ↔ zId c ∧ zDA c (zCB c) (c.1.length * zCB c) := by
 constructor
 ·rintro ⟨h1, h2, m, hm, h3⟩
  have hpos := zDv h1
  have hmp := zDv hm
  have hw : zCB c = m := by
   have e : c.1[0]? = some (c.1.getD 0 []) := by rw [List.getD_eq_getElem?_getD, List.getElem?_eq_getElem hpos]; rfl
   exact (h3 0 _ e).1
  rw [hw]
  have hrow : ∀ row ∈ c.1, row.length = m := fun row hr => by
   obtain ⟨i, hi⟩ := List.mem_iff_getElem?.1 hr
   exact (h3 i row hi).1
  refine ⟨⟨(zKh _).2 h1, h2, fun i hi row t hr ht => ?_⟩, fun j hj => ?_⟩
  ·obtain ⟨a1, ⟨t', a2, a3⟩, _⟩ := h3 i row hr
   rw [ht] at a2
   cases a2
   rw [hw]
   exact ⟨a1, a3⟩
  ·obtain ⟨row, e1, e2⟩ := zGn hmp hrow hj
   obtain ⟨_, _, a1, a2⟩ := h3 _ row e1
   rcases a1 _ _ e2 with hc | ⟨hf, hs⟩
   ·exact .inl hc
   ·refine .inr ⟨hf, hs, fun i hi he => ?_⟩
    have hl := zBY hf
    obtain ⟨row', f1, f2⟩ := zGn hmp hrow (show i < c.1.length * m by omega)
    obtain ⟨_, _, b1, b2⟩ := h3 _ row' f1
    rcases b1 _ _ f2 with hc | ⟨hf', hs'⟩
    ·rw [zCQ hc] at he
     simp [zAA] at he
     omega
    ·rw [he, hs] at hs'
     have hdiv : j / m = i / m := by omega
     rw [hdiv, f1] at e1
     cases e1
     have := b2 _ _ _ _ f2 e2 (by omega) he
     have d1 := Nat.div_add_mod i m
     have d2 := Nat.div_add_mod j m
     rw [hdiv, ← this] at d2
     omega
 ·rintro ⟨⟨h1, h2, h3⟩, h4⟩
  have hp := (zKh _).1 h1
  have hpos := zDv hp
  have e0 : c.1[0]? = some (c.1.getD 0 []) := by rw [List.getD_eq_getElem?_getD, List.getElem?_eq_getElem hpos]; rfl
  obtain ⟨t0, ht0⟩ : ∃ t, c.2[0]? = some t := ⟨_, List.getElem?_eq_getElem (by omega)⟩
  have hm : zIU (zCB c) := by
   have := zIc (h3 0 hpos _ _ e0 ht0).2
   unfold zIU
   omega
  refine ⟨hp, h2, zCB c, hm, fun s row hs => ?_⟩
  have hsl := (List.getElem?_eq_some_iff.1 hs).1
  obtain ⟨t, ht⟩ : ∃ t, c.2[s]? = some t := ⟨_, List.getElem?_eq_getElem (by omega)⟩
  obtain ⟨a1, a2⟩ := h3 s hsl row t hs ht
  refine ⟨a1, ⟨t, ht, a2⟩, fun i u hu => ?_, fun i k u x hu hx h0 he => ?_⟩
  ·have hi : i < zCB c := by have := (List.getElem?_eq_some_iff.1 hu).1; omega
   have := h4 _ (zMN hsl hi)
   rw [zGB a1 hs hu, (zE7 hi).1] at this
   rcases this with h | ⟨h, h', _⟩
   ·exact .inl h
   ·exact .inr ⟨h, h'⟩
  ·have hi : i < zCB c := by have := (List.getElem?_eq_some_iff.1 hu).1; omega
   have hk : k < zCB c := by have := (List.getElem?_eq_some_iff.1 hx).1; omega
   have key : ∀ (i k : Nat) (u x : zAU), row[i]? = some u → row[k]? = some x → 0 ≤ u.1 → u.1 = x.1 → i < zCB c → k < zCB c → ¬ i < k := by
    intro i k u x hu hx h0 he hi hk hlt
    have := h4 _ (zMN hsl hk)
    rw [zGB a1 hs hx] at this
    rcases this with h | ⟨_, _, h⟩
    ·rw [zCQ h] at he
     simp [zAA] at he
     omega
    ·have := h (s * zCB c + i) (by omega)
     rw [zGB a1 hs hu] at this
     exact this he
   have k1 := key i k u x hu hx h0 he hi hk
   have k2 := key k i x u hx hu (by omega) he.symm hk hi
   omega
theorem ok_eq (c : zAu) : okB isL zAJ c = (zDx c && zHs c (zCB c)) := by
 rw [Bool.eq_iff_iff, zCK, ok_link, Bool.and_eq_true]
 simp [zDx, zHs]
theorem zGC {c : zAu} (h : zDx c = true) : zId c ∧ (c.1.length = 1 ∨ c.1.length = 2 ∨ c.1.length = 4) ∧ (zCB c = 1 ∨ zCB c = 2 ∨ zCB c = 4) ∧ ∀ row ∈ c.1, row.length = zCB c := by
 have hs : zId c := by simpa [zDx] using h
 obtain ⟨h1, h2, h3⟩ := hs
 have hp := (zKh _).1 h1
 have hpos := zDv hp
 have e0 : c.1[0]? = some (c.1.getD 0 []) := by rw [List.getD_eq_getElem?_getD, List.getElem?_eq_getElem hpos]; rfl
 obtain ⟨t0, ht0⟩ : ∃ t, c.2[0]? = some t := ⟨_, List.getElem?_eq_getElem (by omega)⟩
 have hm := zIc (h3 0 hpos _ _ e0 ht0).2
 refine ⟨⟨h1, h2, h3⟩, hp, by omega, fun row hr => ?_⟩
 obtain ⟨i, hi⟩ := List.mem_iff_getElem?.1 hr
 have hil := (List.getElem?_eq_some_iff.1 hi).1
 obtain ⟨t, ht⟩ : ∃ t, c.2[i]? = some t := ⟨_, List.getElem?_eq_getElem (by omega)⟩
 exact (h3 i hil row t hi ht).1
set_option maxHeartbeats 400000 in
theorem zDk (a b : Option Addr) (c : zAu) (cap cp : Nat) (w : World) (h1 : zBh zBl w a c.1) (h2 : zBh zBC w b c.2) (m1 : c.1.length ≤ maxLen) (m2 : c.2.length ≤ maxLen) (m3 : ∀ row ∈ c.1, row.length ≤ maxLen) :
    Calls Tryz.prog 64 #[.agg #[.slice a c.1.length cap, .slice b c.2.length cp]] w fun e w' => e = .returned (.bool (okB isL zAJ c)) ∧ Below w.heap.size w w' := by
 rw [ok_eq]
 have X := zAy w (.cells #[.slice a c.1.length cap, .slice b c.2.length cp] 37)
 have B := zAf w (.cells #[.slice a c.1.length cap, .slice b c.2.length cp] 37)
 have HS := zKg a b c cap cp (w.alloc (.cells #[.slice a c.1.length cap, .slice b c.2.length cp] 37)) (zAG h1 B) (zAG h2 B) m1 m2 m3
 have H1 : Hid _ := h1
 clear h1 h2 m1 m2 m3
 cases hs : zDx c
 ·rw [hs] at HS
  go_enter Tryz.func64, Tryz.ntmps64
  go_wp2_with (go_at_call 89; refine HS.mono ?_; rintro e w' ⟨rfl, bb⟩)
  go_ret
  exact ⟨rfl, zAb B bb⟩
 ·rw [hs] at HS
  obtain ⟨_, f1, f2, f3⟩ := zGC hs
  have HW : Hid (∀ W, Below w.heap.size w W → Calls Tryz.prog 90 #[.agg #[.slice a c.1.length cap, .slice b c.2.length cp]] W fun e w' => e = .returned (.bool (zHs c (zCB c))) ∧ Below W.heap.size W w') :=
   fun W hb => zLE a b c cap cp (zCB c) W (zA7 H1.out fun k hk => hb.block k hk) f1 f2 f3
  clear f1 f2 f3
  go_enter Tryz.func64, Tryz.ntmps64
  go_wp2_with fail
  refine HS.mono ?_
  rintro e w1 ⟨rfl, b1⟩
  have b2 := zAb B b1
  obtain ⟨n0, n1⟩ := zAx (zAa b1 X)
  go_wp2_with fail
  refine (HW.out _ b2).mono ?_
  rintro e w2 ⟨rfl, b3⟩
  have b4 := zAb b2 b3
  clear b1 b2 b3 n0 n1 X B HS HW
  go_wp2
  all_goals go_ret
  all_goals exact ⟨by simp_all, b4⟩
theorem upto_row {c : zAu} {m s i : Nat} (hm : i < m) (h : zDA c m (s * m + i)) {l : Int} (h0 : 0 ≤ l) (hs : l % (c.1.length : Int) = (s : Nat)) (hno : ∀ k, k < i → (zBZ c m (s * m + k)).1 ≠ l) : ∀ j, j < s * m + i → (zBZ c m j).1 ≠ l := by
 intro j hj he
 by_cases hr : s * m ≤ j
 ·exact hno (j - s * m) (by omega) (by rw [show s * m + (j - s * m) = j by omega]; exact he)
 ·have hjs : j / m < s := by rw [Nat.div_lt_iff_lt_mul (by omega)]; omega
  rcases h j hj with hc | ⟨_, hq, _⟩
  ·rw [zCQ hc] at he
   simp [zAA] at he
   omega
  ·rw [he, hs] at hq
   omega
theorem zLF {c : zAu} (h : ¬ zDA c (zCB c) (c.1.length * zCB c)) : okB isL zAJ c = false := by
 rw [ok_eq, zLf h, Bool.and_false]
theorem zDQ {c : zAu} (h : ¬ zId c) : okB isL zAJ c = false := by
 rw [ok_eq, zGm h, Bool.false_and]
theorem yes_of {c : zAu} (h : zId c) (h' : zDA c (zCB c) (c.1.length * zCB c)) : okB isL zAJ c = true := by
 rw [ok_eq, zG9 h, zIX h', Bool.and_true]
set_option maxHeartbeats 4000000 in
set_option maxRecDepth 100000 in
theorem zGD (a b : Option Addr) (c : zAu) (cap cp : Nat) (w : World) (h1 : zBh zBl w a c.1) (h2 : zBh zBC w b c.2) (m1 : c.1.length ≤ maxLen) (m2 : c.2.length ≤ maxLen) (m3 : ∀ row ∈ c.1, row.length ≤ maxLen) :
    Calls Tryz.prog 50 #[.agg #[.slice a c.1.length cap, .slice b c.2.length cp]] w fun e w' => e = .returned (.bool (okB isL zAJ c)) ∧ Below w.heap.size w w' := by
 have m1' : c.1.length ≤ 9223372036854775807 := m1
 have m2' : c.2.length ≤ 9223372036854775807 := m2
 have HB : Hid _ := zAf w
 cases hp : zHg c.1.length
 ·have H : Hid (okB isL zAJ c = false) := zDQ fun h => by rw [h.1] at hp; cases hp
  clear h1 h2 m1 m2 m3
  go_enter Tryz.func50, Tryz.ntmps50
  go_wp2_with (go_at_call 81; refine (zFm _ _).mono ?_; rintro e w' ⟨rfl, rfl⟩; rw [hp])
  go_ret
  exact ⟨zA2 H.out.symm, HB.out _⟩
 by_cases hl : c.2.length = c.1.length
 ·rw [hl]
  have hpos : 0 < c.1.length := by simp [zHg] at hp; omega
  have hx0 : c.1[0]? = some (c.1.getD 0 []) := by rw [List.getD_eq_getElem?_getD, List.getElem?_eq_getElem hpos]; rfl
  have hm0 : (c.1.getD 0 []).length ≤ maxLen := m3 _ (List.mem_of_getElem? hx0)
  obtain ⟨bs, os, a0, c0, rfl, g0, -, -, -⟩ := zDj h1 hx0
  have hw0 : Hid ((c.1.getD 0 []).length = zCB c) := rfl
  have G0 : Hid (w.cell? ⟨bs, os + 0, none⟩ = some (.slice a0 (c.1.getD 0 []).length c0)) := g0
  have HS0 : Hid (zId c → zHg (zCB c) = true) := fun h => by
   obtain ⟨_, _, f2, _⟩ := zGC (zG9 h)
   simp [zHg]
   omega
  have l1 := zAi g0
  clear g0 hx0
  generalize (c.1.getD 0 []).length = m at hm0 hw0 G0
  have hm0' : m ≤ 9223372036854775807 := hm0
  cases hpm : zHg m
  ·have H : Hid (okB isL zAJ c = false) := zDQ fun h => by have := HS0.out h; rw [← hw0.out, hpm] at this; cases this
   have g0 : ∀ o, (w.alloc o).cell? ⟨bs, os, none⟩ = some (.slice a0 m c0) := fun o => zAd (zAf w o) G0.out l1
   clear h1 h2 m1 m2 m3
   go_enter Tryz.func50, Tryz.ntmps50
   go_wp2_with (go_at_call 81; refine (zFm _ _).mono ?_; rintro e w' ⟨rfl, rfl⟩; first | rw [hp] | rw [hpm])
   go_ret
   exact ⟨zA2 H.out.symm, HB.out _⟩
  ·have X0 := zAy w (.cells #[.slice (some ⟨bs, os, none⟩) c.1.length cap, .slice b c.1.length cp] 37)
   have B0 := zAf w (.cells #[.slice (some ⟨bs, os, none⟩) c.1.length cap, .slice b c.1.length cp] 37)
   have g0 : ∀ o, (w.alloc o).cell? ⟨bs, os, none⟩ = some (.slice a0 m c0) := fun o => zAd (zAf w o) G0.out l1
   have H1 : Hid _ := h1
   have H2 : Hid _ := h2
   have HM : Hid (∀ row ∈ c.1, row.length ≤ maxLen) := m3
   have hlen : Hid (c.2.length = c.1.length) := hl
   have HP : Hid (zHg c.1.length = true) := hp
   have HPM : Hid (zHg m = true) := hpm
   clear h1 h2 m1 m2 m3 hl HS0
   go_enter Tryz.func50, Tryz.ntmps50
   go_wp2_with (go_at_call 81; refine (zFm _ _).mono ?_; rintro e w' ⟨rfl, rfl⟩; first | rw [hp] | rw [hpm])
   clear g0 hp hpm
   generalize w.alloc (.cells #[.slice (some ⟨bs, os, none⟩) c.1.length cap, .slice b c.1.length cp] 37) = W0 at X0 B0 ⊢
   go_loopw [4] (fun i wr => ∃ k : Nat, k ≤ c.1.length ∧ i = .int .i64 k ∧ (∀ j, j < k → zFn c j) ∧ zDA c m (k * m) ∧ Below w.heap.size w wr ∧ wr.heap[w.heap.size]? = some (.cells #[.slice (some ⟨bs, os, none⟩) c.1.length cap, .slice b c.1.length cp] 37 (0, 0))) (fun i _ => c.1.length - (intOf i).toNat)
   case atStart => exact ⟨0, Nat.zero_le _, rfl, fun j hj => by omega, fun j hj => by omega, B0, X0⟩
   case round =>
    clear B0 X0
    obtain ⟨s, hk, rfl, hfit, hup, BB, X⟩ := hrel
    by_cases hlt : s < c.1.length
    ·have hlt' : (s : Int) < (c.1.length : Int) := by omega
     obtain ⟨row, hrow⟩ : ∃ row, c.1[s]? = some row := ⟨_, List.getElem?_eq_getElem hlt⟩
     obtain ⟨t, ht⟩ : ∃ t, c.2[s]? = some t := ⟨_, List.getElem?_eq_getElem (by have := hlen.out; omega)⟩
     obtain ⟨_, _, ak, ck, e1, gk, -, -, hrdk⟩ := zDj H1.out hrow
     cases e1
     obtain ⟨bt, ot, rfl, gt⟩ := int_at H2.out ht
     have hmk : row.length ≤ maxLen := HM.out _ (List.mem_of_getElem? hrow)
     have l2 := zAi gt
     have KW : Hid (∀ w', Below w.heap.size w w' → w'.cell? ⟨bs, os, none⟩ = some (.slice a0 m c0) ∧ w'.cell? ⟨bs, os + s, none⟩ = some (.slice ak row.length ck) ∧ w'.cell? ⟨bt, ot + s, none⟩ = some (.int .i64 t)) :=
      fun w' hb => ⟨zAd hb G0.out l1, zAd hb gk l1, zAd hb gt l2⟩
     have HR : Hid (∀ r' t', c.1[s]? = some r' → c.2[s]? = some t' → r' = row ∧ t' = t) := fun r' t' h h' => by rw [hrow] at h; rw [ht] at h'; cases h; cases h'; exact ⟨rfl, rfl⟩
     have HF : Hid (¬ zFn c s → okB isL zAJ c = false) := fun h => zDQ fun z => h (z.2.2 s hlt)
     have HN : Hid (zFn c s → row.length = m ∧ zAJ t m = true) := fun h => by have := h row t hrow ht; rwa [← hw0.out] at this
     have HY : Hid (row.length = m → zAJ t m = true → zFn c s) := fun e1 e2 r' t' h h' => by obtain ⟨rfl, rfl⟩ := HR.out r' t' h h'; rw [← hw0.out]; exact ⟨e1, e2⟩
     have HROW : Hid (c.1[s]? = some row) := hrow
     have HRD : Hid (zBh zAS w ak row) := hrdk
     have hmk' : row.length ≤ 9223372036854775807 := hmk
     clear gk gt hrow ht hmk hm0 G0 hrdk HR
     have n0 : ∀ n : Cls (fun wx => Below w.heap.size w wx ∧ wx.heap[w.heap.size]? = some (.cells #[.slice (some ⟨bs, os, none⟩) c.1.length cap, .slice (some ⟨bt, ot, none⟩) c.1.length cp] 37 (0, 0))), n.w.cell? ⟨w.heap.size, 0, none⟩ = some (.slice (some ⟨bs, os, none⟩) c.1.length cap) := fun n => (zAx n.h.2).1
     have n1 : ∀ n : Cls (fun wx => Below w.heap.size w wx ∧ wx.heap[w.heap.size]? = some (.cells #[.slice (some ⟨bs, os, none⟩) c.1.length cap, .slice (some ⟨bt, ot, none⟩) c.1.length cp] 37 (0, 0))), n.w.cell? ⟨w.heap.size, 1, none⟩ = some (.slice (some ⟨bt, ot, none⟩) c.1.length cp) := fun n => (zAx n.h.2).2
     have g0 : ∀ n : Cls (fun wx => Below w.heap.size w wx ∧ wx.heap[w.heap.size]? = some (.cells #[.slice (some ⟨bs, os, none⟩) c.1.length cap, .slice (some ⟨bt, ot, none⟩) c.1.length cp] 37 (0, 0))), n.w.cell? ⟨bs, os, none⟩ = some (.slice a0 m c0) := fun n => (KW.out _ n.h.1).1
     have gk : ∀ n : Cls (fun wx => Below w.heap.size w wx ∧ wx.heap[w.heap.size]? = some (.cells #[.slice (some ⟨bs, os, none⟩) c.1.length cap, .slice (some ⟨bt, ot, none⟩) c.1.length cp] 37 (0, 0))), n.w.cell? ⟨bs, os + s, none⟩ = some (.slice ak row.length ck) := fun n => (KW.out _ n.h.1).2.1
     have gt : ∀ n : Cls (fun wx => Below w.heap.size w wx ∧ wx.heap[w.heap.size]? = some (.cells #[.slice (some ⟨bs, os, none⟩) c.1.length cap, .slice (some ⟨bt, ot, none⟩) c.1.length cp] 37 (0, 0))), n.w.cell? ⟨bt, ot + s, none⟩ = some (.int .i64 t) := fun n => (KW.out _ n.h.1).2.2
     by_cases hm : row.length = m
     ·subst hm
      cases htr : zAJ t row.length
      ·have htree : Hid (∀ w, Calls Tryz.prog 82 #[.int .i64 t, .int .i64 row.length] w fun e w' => e = .returned (.bool false) ∧ w' = w) := fun w => by have := zEL t row.length w; rwa [htr] at this
       go_wp2_with fail
       refine zA8 (fun wx => Below w.heap.size w wx ∧ wx.heap[w.heap.size]? = some (.cells #[.slice (some ⟨bs, os, none⟩) c.1.length cap, .slice (some ⟨bt, ot, none⟩) c.1.length cp] 37 (0, 0))) (by kernel_rfl) (by kernel_rfl) ⟨BB.drew, X⟩ ?_
       intro hne
       repeat (quiet_step ((go_at_call 82; exact zAT (htree.out _))))
       refine wpQuiet_nil ?_
       rintro wx ⟨b20, X20⟩
       clear n0 n1 g0 gk gt BB X hne
       go_wp2
       go_ret
       exact ⟨zA2 (HF.out fun h => by have := (HN.out h).2; rw [htr] at this; cases this).symm, b20⟩
      ·have htree : Hid (∀ w, Calls Tryz.prog 82 #[.int .i64 t, .int .i64 row.length] w fun e w' => e = .returned (.bool true) ∧ w' = w) := fun w => by have := zEL t row.length w; rwa [htr] at this
       go_wp2_with fail
       refine zA8 (fun wx => Below w.heap.size w wx ∧ wx.heap[w.heap.size]? = some (.cells #[.slice (some ⟨bs, os, none⟩) c.1.length cap, .slice (some ⟨bt, ot, none⟩) c.1.length cp] 37 (0, 0))) (by kernel_rfl) (by kernel_rfl) ⟨BB.drew, X⟩ ?_
       intro hne
       repeat (quiet_step ((go_at_call 82; exact zAT (htree.out _))))
       refine wpQuiet_nil ?_
       rintro wx ⟨b20, X20⟩
       clear n0 n1 g0 gk gt BB X hne
       clear htree
       go_wp2
       go_loopw [5] (fun i wr => ∃ k : Nat, k ≤ row.length ∧ i = .int .i64 k ∧ zDA c row.length (s * row.length + k) ∧ Below w.heap.size w wr ∧ wr.heap[w.heap.size]? = some (.cells #[.slice (some ⟨bs, os, none⟩) c.1.length cap, .slice (some ⟨bt, ot, none⟩) c.1.length cp] 37 (0, 0))) (fun i _ => row.length - (intOf i).toNat)
       case atStart => exact ⟨0, Nat.zero_le _, rfl, by simpa using hup, b20, X20⟩
       case round =>
        clear b20 X20
        obtain ⟨i, hi, rfl, hupi, B2, X2⟩ := hrel
        by_cases hil : i < row.length
        ·have hil' : (i : Int) < (row.length : Int) := by omega
         obtain ⟨u, hu⟩ : ∃ u, row[i]? = some u := ⟨_, List.getElem?_eq_getElem hil⟩
         have HW : Hid (zBZ c row.length (s * row.length + i) = u) := zGB rfl HROW.out hu
         obtain ⟨bk, ok, cs, rfl, hrd, hcell⟩ := zBG (zA7 HRD.out fun k hk => B2.block k hk) hu
         obtain ⟨ad, cpw, rfl, -, -, hd1, hd2, hd3⟩ := zAL hrd
         have x0 := hcell 0 _ rfl
         have x1 := hcell 1 _ rfl
         have x2 := hcell 2 _ rfl
         rw [show ok + (i * zAS.size + 0) = ok + i * 3 from rfl] at x0
         rw [show ok + (i * zAS.size + 1) = ok + i * 3 + 1 from rfl] at x1
         rw [show ok + (i * zAS.size + 2) = ok + i * 3 + 2 from rfl] at x2
         obtain ⟨l, st, d⟩ := u
         obtain ⟨n0, n1⟩ := zAx X2
         obtain ⟨_, gk, _⟩ := KW.out _ B2
         have HD : Hid _ := hd3
         have hd4 : d.length ≤ maxLen := Nat.le_trans hd1 hd2
         clear hcell hrd hu hd1 hd2 hd3
         simp only at x0 x1 x2
         go_wp2_with fail
         have BZ := zAf wr (.cells #[.int .i64 l, .int .i64 st, .slice ad d.length cpw] 39)
         have Z := zAy wr (.cells #[.int .i64 l, .int .i64 st, .slice ad d.length cpw] 39)
         have X3 := zAK (.cells #[.int .i64 l, .int .i64 st, .slice ad d.length cpw] 39) X2
         have B3 := zAb B2 BZ
         have HNO : Hid (zB7 (l, st, d) = false → ¬ (zBi isL (l, st, d) = true ∧ l % (c.1.length : Int) = (s : Nat) ∧ ∀ j, j < s * row.length + i → (zBZ c row.length j).1 ≠ l) → okB isL zAJ c = false) := fun h1 h2 => zLF fun h => by
          rw [← hw0.out] at h
          have := h _ (zMN hlt hil)
          rw [HW.out, (zE7 hil).1] at this
          rcases this with h | h
          ·rw [h1] at h
           cases h
          ·exact h2 h
         have HUP : Hid (zB7 (l, st, d) = true ∨ (zBi isL (l, st, d) = true ∧ l % (c.1.length : Int) = (s : Nat) ∧ ∀ j, j < s * row.length + i → (zBZ c row.length j).1 ≠ l) → zDA c row.length (s * row.length + (i + 1))) := fun h => zGA hupi (by show zB7 (zBZ c row.length (s * row.length + i)) = true ∨ (zBi isL (zBZ c row.length (s * row.length + i)) = true ∧ (zBZ c row.length (s * row.length + i)).1 % (c.1.length : Int) = ((s * row.length + i) / row.length : Nat) ∧ ∀ j, j < s * row.length + i → (zBZ c row.length j).1 ≠ (zBZ c row.length (s * row.length + i)).1); rw [HW.out, (zE7 hil).1]; exact h)
         clear X2 n0 n1 gk x0 x1 x2
         cases hcl : zB7 (l, st, d)
         case true =>
          have HE : Calls Tryz.prog 52 #[.agg #[.int .i64 l, .int .i64 st, .slice ad d.length cpw]] (wr.alloc (.cells #[.int .i64 l, .int .i64 st, .slice ad d.length cpw] 39)) _ := zDP l st ad d.length cpw _ hd4
          rw [zHA (l, st, d), hcl] at HE
          refine HE.mono ?_
          rintro e w2 ⟨rfl, b2⟩
          replace X3 := zAa b2 X3
          replace B3 := zAb B3 b2
          clear HE b2 BZ Z
          go_wp2
          go_roundw
          case rel => exact ⟨i + 1, by omega, by go_num, HUP.out (.inl hcl), B3, X3⟩
          case measure => simp [intOf]; omega
         case false =>
          have HE : Calls Tryz.prog 52 #[.agg #[.int .i64 l, .int .i64 st, .slice ad d.length cpw]] (wr.alloc (.cells #[.int .i64 l, .int .i64 st, .slice ad d.length cpw] 39)) _ := zDP l st ad d.length cpw _ hd4
          rw [zHA (l, st, d), hcl] at HE
          refine HE.mono ?_
          rintro e w2 ⟨rfl, b2⟩
          replace X3 := zAa b2 X3
          replace B3 := zAb B3 b2
          replace Z := zAa b2 Z
          have HD2 := zAG (zAG HD.out BZ) b2
          clear HE b2 BZ HD
          obtain ⟨y0, y1, y2⟩ := zAg Z
          go_wp2_with fail
          cases hfl : zBi isL (l, st, d)
          case false =>
           have HE := zE6 l st d ad cpw w2 HD2
           rw [hfl] at HE
           refine HE.mono ?_
           rintro e w3 ⟨rfl, b3⟩
           replace B3 := zAb B3 b3
           clear HE b3 Z y0 y1 y2 HD2 X3
           go_wp2
           go_ret
           exact ⟨zA2 (HNO.out hcl (fun h => by rw [hfl] at h; exact absurd h.1 (by simp))).symm, B3⟩
          case true =>
           have hl15 := zBY hfl
           simp only at hl15
           have hz : (c.1.length : Int) ≠ 0 := by omega
           have HE := zE6 l st d ad cpw w2 HD2
           rw [hfl] at HE
           refine HE.mono ?_
           rintro e w3 ⟨rfl, b3⟩
           replace B3 := zAb B3 b3
           replace X3 := zAa b3 X3
           replace Z := zAa b3 Z
           clear HE b3 y0 y1 y2 HD2
           obtain ⟨y0, y1, y2⟩ := zAg Z
           have ht3 : Int.tmod l (c.1.length : Int) = l % (c.1.length : Int) := Int.tmod_eq_emod_of_nonneg hl15.1
           by_cases hq : l % (c.1.length : Int) = (s : Nat)
           ·rw [hq] at ht3
            have HQ : Hid (l % (c.1.length : Int) = (s : Nat)) := hq
            go_wp2
            go_loopw [7] (fun q wq => ∃ k : Nat, k ≤ i ∧ q = .int .i64 k ∧ (∀ j, j < k → (zBZ c row.length (s * row.length + j)).1 ≠ l) ∧ Below w.heap.size w wq ∧ wq.heap[w.heap.size]? = some (.cells #[.slice (some ⟨bs, os, none⟩) c.1.length cap, .slice (some ⟨bt, ot, none⟩) c.1.length cp] 37 (0, 0)) ∧ wq.heap[wr.heap.size]? = some (.cells #[.int .i64 l, .int .i64 st, .slice ad d.length cpw] 39 (0, 0))) (fun q _ => i - (intOf q).toNat)
            case atStart => exact ⟨0, Nat.zero_le _, rfl, fun j hj => by omega, B3, X3, Z⟩
            case round =>
             clear B3 X3 Z y0 y1 y2
             obtain ⟨k, hki, rfl, hno, B3, X3, Z⟩ := hrel
             obtain ⟨y0, y1, y2⟩ := zAg Z
             by_cases hlt3 : k < i
             ·have hlt3' : (k : Int) < (i : Int) := by omega
              have hlt4 : (k : Int) < (row.length : Int) := by omega
              obtain ⟨v, hv⟩ : ∃ v, row[k]? = some v := ⟨_, List.getElem?_eq_getElem (by omega)⟩
              have HV : Hid (zBZ c row.length (s * row.length + k) = v) := zGB rfl HROW.out hv
              obtain ⟨bk', ok', cs, e9, hrd, hcell⟩ := zBG (zA7 HRD.out fun k hk => B3.block k hk) hv
              cases e9
              obtain ⟨ad', cpw', rfl, -, -, -, -, -⟩ := zAL hrd
              have x0 := hcell 0 _ rfl
              rw [show ok + (k * zAS.size + 0) = ok + k * 3 from rfl] at x0
              obtain ⟨n0, n1⟩ := zAx X3
              obtain ⟨_, gk, _⟩ := KW.out _ B3
              obtain ⟨l', st', d'⟩ := v
              simp only at x0
              clear hcell hrd hv
              by_cases hll : l' = l
              ·subst hll
               have HRES : Hid (okB isL zAJ c = false) := HNO.out hcl fun h => h.2.2 (s * row.length + k) (by omega) (by rw [HV.out])
               go_wp2_with fail
               go_quiet (fail)
               go_wp2
               go_ret
               exact ⟨zA2 HRES.out.symm, zGi B3 nq⟩
              ·have hll' : (l' == l) = false := by simpa using hll
               go_wp2_with fail
               go_quiet (fail)
               go_wp2
               go_roundw
               case rel =>
                refine ⟨k + 1, by omega, by go_num, fun j hj => ?_, zGi B3 nq, X3, Z⟩
                by_cases he : j < k
                ·exact hno j he
                ·have : j = k := by omega
                 subst this
                 rw [HV.out]
                 exact hll
               case measure => simp [intOf]; omega
             ·have hk2 : k = i := by omega
              subst hk2
              go_wp2
              go_roundw
              case rel => exact ⟨k + 1, by omega, by go_num, HUP.out (.inr ⟨hfl, HQ.out, upto_row hil hupi hl15.1 HQ.out hno⟩), B3, X3⟩
              case measure => simp [intOf]; omega
           ·have HRES : Hid (okB isL zAJ c = false) := HNO.out hcl fun h => hq h.2.1
            have hq3 : (l % (c.1.length : Int) != (s : Int)) = true := by simpa using hq
            clear ht3
            go_wp2
            go_ret
            exact ⟨zA2 HRES.out.symm, B3⟩
        ·have hi2 : Hid (i = row.length) := by unfold Hid; omega
         have hil' : ¬ ((i : Int) < (row.length : Int)) := by omega
         clear hil
         obtain ⟨n0, n1⟩ := zAx X2
         obtain ⟨_, gk, _⟩ := KW.out _ B2
         go_wp2
         go_roundw
         case rel =>
          refine ⟨s + 1, by omega, by go_num, fun j hj => ?_, by rw [Nat.add_one_mul]; have := hi2.out; rw [this] at hupi; exact hupi, B2, X2⟩
          by_cases he : j < s
          ·exact hfit j he
          ·have : j = s := by omega
           subst this
           exact HY.out (by simp) htr
         case measure => simp [intOf]; omega
     ·have hm3 : ((row.length : Int) != (m : Int)) = true := by simp; omega
      go_wp2_with fail
      refine zA8 (fun wx => Below w.heap.size w wx ∧ wx.heap[w.heap.size]? = some (.cells #[.slice (some ⟨bs, os, none⟩) c.1.length cap, .slice (some ⟨bt, ot, none⟩) c.1.length cp] 37 (0, 0))) (by kernel_rfl) (by kernel_rfl) ⟨BB.drew, X⟩ ?_
      intro hne
      iterate 12 (quiet_step (fail))
      clear hm3
      refine wpQuiet_step (fun K hK => ?_)
      go_simp
      refine zGy K _ ?_
      intro A0 hA0
      refine hK A0 ?_
      clear hK K
      have ht0 : A0.tmps[49]? = some (.bool true) := by rw [hA0]; rfl
      refine zA4 (b := false) (d := 49) ht0 rfl rfl rfl (by decide) ?_
      intro S0x0 eS0x0 hS0x0
      clear ht0
      refine zA4 (b := false) (d := 49) hS0x0 rfl rfl rfl (by decide) ?_
      intro S0x1 eS0x1 hS0x1
      clear hS0x0
      refine zA4 (b := false) (d := 49) hS0x1 rfl rfl rfl (by decide) ?_
      intro S0x2 eS0x2 hS0x2
      clear hS0x1
      refine zA4 (b := false) (d := 49) hS0x2 rfl rfl rfl (by decide) ?_
      intro S0x3 eS0x3 hS0x3
      clear hS0x2
      refine zA4 (b := false) (d := 49) hS0x3 rfl rfl rfl (by decide) ?_
      intro S0x4 eS0x4 hS0x4
      clear hS0x3
      refine zA4 (b := false) (d := 49) hS0x4 rfl rfl rfl (by decide) ?_
      intro S0x5 eS0x5 hS0x5
      clear hS0x4
      refine zA4 (b := false) (d := 49) hS0x5 rfl rfl rfl (by decide) ?_
      intro S0x6 eS0x6 hS0x6
      clear hS0x5
      refine zA4 (b := false) (d := 49) hS0x6 rfl rfl rfl (by decide) ?_
      intro S0x7 eS0x7 hS0x7
      clear hS0x6
      refine zA4 (b := false) (d := 49) hS0x7 rfl rfl rfl (by decide) ?_
      intro S0x8 eS0x8 hS0x8
      clear hS0x7
      refine zA4 (b := false) (d := 49) hS0x8 rfl rfl rfl (by decide) ?_
      intro S0x9 eS0x9 hS0x9
      clear hS0x8
      refine zA4 (b := false) (d := 49) hS0x9 rfl rfl rfl (by decide) ?_
      intro S0x10 eS0x10 hS0x10
      clear hS0x9
      refine zA4 (b := false) (d := 49) hS0x10 rfl rfl rfl (by decide) ?_
      intro S0x11 eS0x11 hS0x11
      clear hS0x10
      clear hS0x11
      subst eS0x11 eS0x10 eS0x9 eS0x8 eS0x7 eS0x6 eS0x5 eS0x4 eS0x3 eS0x2 eS0x1 eS0x0
      subst hA0
      quiet_step (skip)
      refine wpQuiet_nil ?_
      rintro wx ⟨b20, X20⟩
      clear n0 n1 g0 gk gt BB X hne
      go_wp2
      go_ret
      exact ⟨zA2 (HF.out fun h => hm (HN.out h).1).symm, b20⟩
    ·have hkl : s = c.1.length := by omega
     have H : Hid (okB isL zAJ c = true) := yes_of ⟨HP.out, hlen.out, by rw [← hkl]; exact hfit⟩ (by rw [← hw0.out, ← hkl]; exact hup)
     subst hkl
     go_wp2
     go_ret
     exact ⟨zA2 H.out.symm, BB⟩
 ·have H : Hid (okB isL zAJ c = false) := zDQ fun h => hl h.2.1
  have hl' : ((c.2.length : Int) == (c.1.length : Int)) = false := by simp; omega
  clear h1 h2 m1 m2 m3
  go_enter Tryz.func50, Tryz.ntmps50
  go_wp2_with (go_at_call 81; refine (zFm _ _).mono ?_; rintro e w' ⟨rfl, rfl⟩; rw [hp])
  go_ret
  exact ⟨zA2 H.out.symm, HB.out _⟩
end Go.Proofs.YtoihjejenjcokaaGreatDoor
