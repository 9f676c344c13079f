import Derived.Test.YthnfkacboijneaaGreatDoorP33Mems6
import Derived.BigRegion
import Derived.Deep.RegionLaw
import Derived.Deep.DeepCutAuto
import Derived.Deep.CutBlock
namespace Go.Proofs.YthnfkacboijneaaGreatDoor
set_option maxHeartbeats 8000000
set_option maxRecDepth 20000
open Go.ChangeShapes Go.WideShapes Go.ChangeAt Go.RowKit
set_option linter.unusedVariables false
theorem rep_64 (n : Nat) : ∀ xs ∈ List.replicate n [(0 : Int), 0], ∀ x ∈ xs, In64 x := by
 intro xs h x hx
 rw [List.eq_of_mem_replicate h] at hx
 simp at hx
 subst hx
 exact i64_0
theorem lown_rows {lo hi : Nat} {w : World} : ∀ (rs : List Rw), Inn lo hi w rs → (∀ r ∈ rs, ∀ x ∈ r.xs, In64 x) → lown intsR w (fun k => ∃ (i : Nat) (r : Rw), rs[i]? = some r ∧ r.g = k) (rs.map Rw.v) (rs.map Rw.xs)
 | [], _, _ => rfl
 | r :: rs, h, h64 => by
  have hin : Inn lo hi w rs := ⟨fun i s hs => h.1 (i + 1) s (by simpa using hs), fun i j s t hs ht e => by have := h.2 (i + 1) (j + 1) s t (by simpa using hs) (by simpa using ht) e; omega⟩
  have h0 := h.1 0 r rfl
  refine ⟨[r.v], rs.map Rw.v, fun k => k = r.g, fun k => ∃ (i : Nat) (s : Rw), rs[i]? = some s ∧ s.g = k, rfl, ?_, lown_rows rs hin (fun s hs => h64 s (List.mem_cons_of_mem _ hs)), ?_, ?_, ?_⟩
  ·exact own_of (S := fun k => k = r.g) h0.1 rfl (h64 r (List.mem_cons_self ..))
  ·rintro k rfl
   exact ⟨0, r, rfl, rfl⟩
  ·rintro k ⟨i, s, hs, e⟩
   exact ⟨i + 1, s, by simpa using hs, e⟩
  ·rintro k rfl ⟨i, s, hs, e⟩
   have := h.2 (i + 1) 0 s r (by simpa using hs) rfl e
   omega
theorem madeM_rep {w w' : World} {v : Value} {xss : List (List Int)} (h : MadeM w w' v xss) (h64 : ∀ xs ∈ xss, ∀ x ∈ xs, In64 x) : MadeR rowsR w w' [v] xss := by
 obtain ⟨G, cap, rfl, g1, g2, ⟨rs, rfl, ho, g3, hin⟩, hb⟩ := h
 refine ⟨⟨_, rs.map Rw.v, fun k => ∃ (i : Nat) (r : Rw), rs[i]? = some r ∧ r.g = k, rfl, row_base ho (fun _ _ => Nat.zero_le _), fun g hg => ?_, ?_, lown_rows rs hin fun r hr => h64 r.xs (List.mem_map_of_mem hr)⟩, hb⟩
 ·simp [Value.ownBlock] at hg
  subst hg
  refine ⟨⟨g1, g2⟩, ?_⟩
  rintro ⟨i, r, hr, e⟩
  exact out_ne ho (hin.1 i r hr).1 e
 ·rintro k ⟨i, r, hr, rfl⟩
  have := hin.1 i r hr
  exact ⟨(own_lt this.1).1, this.2⟩
theorem own_noneH {α : Type} {e : TypeId} {R : Rep α} (w : World) (S : Foot) : (slR e R).own w S [.slice none 0 0] [] := ⟨_, [], fun _ => False, rfl, World.ownsRow_nil _ _ _ _, fun g hg => by simp [Value.ownBlock] at hg, fun _ h => h.elim, rfl⟩
theorem sum_rep (n : Nat) : ∀ k : Nat, (List.replicate k n).sum = k * n
 | 0 => by simp
 | k + 1 => by rw [List.replicate_succ, List.sum_cons, sum_rep n k, Nat.add_one_mul]; omega
noncomputable def newHouseI (n : Int) : HouseD × Bool := if betw n 1 16 then ((List.replicate n.toNat [0, 0], List.replicate n.toNat newE), true) else (([], []), false)
theorem made_newE {w w' : World} (h : Below w.heap.size w w') : MadeR entR w w' [.int .i64 (-1), .int .i64 0, .bool false, .int .i64 0, .int .i64 0, .int .i64 0, .int .i64 0, .slice none 0 0] newE := ⟨own_ent i64_m i64_0 i64_0 i64_0 i64_0 i64_0 (own_zero _ _), h⟩
def BkI (w : World) (hb : Nat) (mv : Value) (xss : List (List Int)) (k : Nat) (wr : World) : Prop := ∃ au cu,
 wr.heap[hb]? = some (.cells #[mv, .slice au k cu] 41 (0, 0)) ∧ rowsR.own wr (rng (w.heap.size + 1) hb) [mv] xss ∧ entsR.own wr (rng (hb + 1) wr.heap.size) [.slice au k cu] (List.replicate k newE) ∧
 wr.heap[w.heap.size]? = some (.cells #[.slice none 0 0, .slice none 0 0] 41 (0, 0)) ∧ Below w.heap.size w wr ∧ w.heap.size < hb
theorem bk_next {w wr wr' : World} {hb k : Nat} {mv : Value} {xss : List (List Int)} (h : BkI w hb mv xss k wr) (hq : Below wr.heap.size wr wr') : BkI w hb mv xss k wr' := by
 obtain ⟨au, cu, h1, h2, h3, h4, h5, h6⟩ := h
 have := hq.size
 exact ⟨au, cu, row_keep hq h1, rowsR.own_keep h2 (keeps_below hq), entsR.own_mono (entsR.own_keep h3 (keeps_below hq)) (rng_sub (Nat.le_refl _) this), row_keep hq h4, below_step h5 hq, h6⟩
theorem bk_step {w wr : World} {hb k : Nat} {mv : Value} {xss : List (List Int)} (h : BkI w hb mv xss k wr) (hk : k ≤ 1000) :
    ∃ au cu, wr.heap[hb]? = some (.cells #[mv, .slice au k cu] 41 (0, 0)) ∧ ∀ w9, Below wr.heap.size wr w9 → w9.heap[hb]? = some (.cells #[mv, .slice au k cu] 41 (0, 0)) ∧
     ∃ g' c' w2, (Builtin.append_ #[39, 39] 39 #[.slice au k cu, .slice (some ⟨w9.heap.size, 0, none⟩) 1 1]).run Tryz.prog (w9.alloc (.cells #[.int .i64 (-1), .int .i64 0, .bool false, .int .i64 0, .int .i64 0, .int .i64 0, .int .i64 0, .slice none 0 0] 92)) = .ok (.slice (some ⟨g', 0, none⟩) (k + 1) c') w2 ∧
      w2.heap[hb]? = some (.cells #[mv, .slice au k cu] 41 (0, 0)) ∧ BkI w hb mv xss (k + 1) (w2.setCell ⟨hb, 1, none⟩ (.slice (some ⟨g', 0, none⟩) (k + 1) c')) := by
 obtain ⟨au, cu, h1, h2, h3, h4, h5, h6⟩ := h
 refine ⟨au, cu, h1, fun w9 hb9 => ⟨row_keep hb9 h1, ?_⟩⟩
 have mm := made_newE hb9
 have hlr : (List.replicate k newE).length = k := List.length_replicate
 have ho' := h3
 obtain ⟨v0, rows0, S0, hv0, hr0, _, _, _⟩ := ho'
 simp only [List.cons.injEq, and_true] at hv0
 subst hv0
 rw [hlr] at hr0
 have hrA : (w9.alloc (.cells #[.int .i64 (-1), .int .i64 0, .bool false, .int .i64 0, .int .i64 0, .int .i64 0, .int .i64 0, .slice none 0 0] 92)).ownsRow 0 92 8 (.slice au k cu) k rows0 := orow_keep hr0 fun g hgb => by
  obtain ⟨cur', hh⟩ := row_block hr0 hgb
  have hl := (Array.getElem?_eq_some_iff.1 hh).1
  rw [Below.heap_alloc _ _ _ (Nat.lt_of_lt_of_le hl hb9.size), hb9.block _ hl]
 obtain ⟨i0, hi, hz0, hz1, hz2⟩ := info_parts Tryz.infoEntry
 obtain ⟨v', w2, hrun, hown', hgrow, _, hblk⟩ := run_append_own_at (P := Tryz.prog) (w9.alloc (.cells #[.int .i64 (-1), .int .i64 0, .bool false, .int .i64 0, .int .i64 0, .int .i64 0, .int .i64 0, .slice none 0 0] 92)) 0 39 39 92 i0 (.agg #[.int .i64 0, .int .i64 0, .bool false, .int .i64 0, .int .i64 0, .int .i64 0, .int .i64 0, .slice none 0 0]) 8 80 Tryz.underlying39 hi hz0 hz1 hz2 rfl (by decide) _ _ _ hrA ⟨w9.heap.size, 0, none⟩ 1 1 [.int .i64 (-1), .int .i64 0, .bool false, .int .i64 0, .int .i64 0, .int .i64 0, .int .i64 0, .slice none 0 0] rfl (cells_news w9 [.int .i64 (-1), .int .i64 0, .bool false, .int .i64 0, .int .i64 0, .int .i64 0, .int .i64 0, .slice none 0 0] _) (by intro u hu; simp at hu; rcases hu with rfl | rfl | rfl | rfl | rfl <;> rfl) (by unfold maxLen; omega) (by omega) (Nat.zero_le _)
 obtain ⟨g', c', rfl⟩ := owns_shape hown'
 obtain ⟨NO, NC⟩ := appR_any (e := 92) (R := entR) (by decide) h3 mm (fun rows hr' => by rw [hlr] at hr' ⊢; rw [rows_unique hr' hr0]; exact hown') hgrow (hblk.imp id fun h => ⟨_, h, by have := hb9.size; simp; omega⟩)
 have z0 := NC.size
 have hbl := (Array.getElem?_eq_some_iff.1 h1).1
 have nS : ∀ x, x ≤ hb → ¬ Old wr (rng (hb + 1) wr.heap.size) x := fun x hx h => by have := h.1.1; omega
 have P2 := (NC.block hb hbl (nS hb (Nat.le_refl _))).trans h1
 have N2 := own_old NO
 refine ⟨g', c', w2, hrun, P2, _, _, heap_setCell_same w2 hb 1 _ _ _ P2, own_setC (own_chg h2 NC (fun x a b => nS x (by have := a.2; omega) b)) (fun h => by have := h.2; omega), ?_, heap_setC ((NC.block _ (by omega) (nS _ (by omega))).trans h4) (by omega), below_setC (NC.below h5 (fun x h => by have := h.1.1; omega) (by omega)) (by omega), h6⟩
 rw [List.replicate_succ']
 refine own_setC (entsR.own_mono N2 ?_) (fun h => by have := h.1; omega)
 rintro x ⟨h | h, hl⟩
 ·exact ⟨h.1.1, by simpa using hl⟩
 ·exact ⟨by omega, by simpa using hl⟩
theorem implNewHouse_u (a : Int) (w : World) :
    Calls Tryz.prog 62 #[.int .i64 a] w fun e w' => ∃ ds, e = .returned (.tuple #[aggV ds, .bool (newHouseI a).2]) ∧ MadeR houseR w w' ds (newHouseI a).1 := by
 have R0 := heap_at w (.cells #[.slice none 0 0, .slice none 0 0] 41)
 have B0 := box_below w (.cells #[.slice none 0 0, .slice none 0 0] 41)
 have e1 := alloc_len w (.cells #[.slice none 0 0, .slice none 0 0] 41)
 cases hb : betw a 1 16
 ·have HN : Hid (newHouseI a = (([], []), false)) := by unfold Hid newHouseI; rw [hb]; rfl
  rw [HN.out]
  have HC : Hid (∀ W, Calls Tryz.prog 129 #[.int .i64 a] W fun e w' => e = .returned (.bool false) ∧ w' = W) := fun W => by have := linesOk_any a W; rw [hb] at this; exact this
  have HZ : Hid _ := And.intro R0 B0
  obtain ⟨y0, y1⟩ := cells_house R0
  obtain ⟨f0, f1⟩ := froz_house R0
  have lt0 := (Array.getElem?_eq_some_iff.1 R0).1
  clear R0 B0 hb
  go_enter Tryz.func62, Tryz.ntmps62
  go_wp2_with (go_at_call 129; refine (HC.out _).mono ?_; rintro e w1 ⟨rfl, hw⟩; rw [hw]; clear hw w1)
  have FM : MadeR houseR w (w.alloc (.cells #[.slice none 0 0, .slice none 0 0] 41)) [.slice none 0 0, .slice none 0 0] ([], []) := ⟨own_house (S0 := fun _ => False) (S1 := fun _ => False) (own_noneH _ _) (own_noneH _ _) (fun _ h => h.elim) (fun _ h => h.elim) (fun _ h _ => h), HZ.out.2⟩
  exact bodyPost_ret (v := .tuple #[.agg #[.slice none 0 0, .slice none 0 0], .bool false]) (by simp [results, Tryz.results62, go_sem]) rfl ⟨[.slice none 0 0, .slice none 0 0], rfl, FM⟩
 ·have h1 : 1 ≤ a ∧ a ≤ 16 := by simpa [betw] using hb
  obtain ⟨n, rfl⟩ : ∃ n : Nat, a = n := ⟨a.toNat, by omega⟩
  have hn : n ≤ 16 := by omega
  have HN : Hid (newHouseI n = ((List.replicate n [0, 0], List.replicate n newE), true)) := by unfold Hid newHouseI; rw [hb]; rfl
  rw [HN.out]
  have HC : Hid (∀ W, Calls Tryz.prog 129 #[.int .i64 (n : Int)] W fun e w' => e = .returned (.bool true) ∧ w' = W) := fun W => by have := linesOk_any (n : Int) W; rw [hb] at this; exact this
  have HM : Hid (∀ W, Calls Tryz.prog 130 #[.int .i64 (n : Int)] W fun e w' => ∃ v, e = .returned v ∧ MadeR rowsR W w' [v] (List.replicate n [0, 0])) := fun W => by
   refine (implNewMemory_any (n : Int) W).mono ?_
   rintro e w' ⟨v, rfl, m⟩
   have e9 : newM (n : Int) = List.replicate n [0, 0] := by unfold newM; rw [hb]; rfl
   rw [e9] at m
   exact ⟨v, rfl, madeM_rep m (rep_64 n)⟩
  clear hb h1
  go_enter Tryz.func62, Tryz.ntmps62
  go_wp2_with fail
  generalize w.alloc (.cells #[.slice none 0 0, .slice none 0 0] 41) = W0 at R0 B0 e1 ⊢
  refine (HC.out _).mono ?_
  rintro e w1 ⟨rfl, hw⟩
  rw [hw]
  clear hw w1 HC
  have e1a := Nat.le_of_eq e1
  have e1b := Nat.le_of_eq e1.symm
  clear e1
  go_wp2_with fail
  refine (HM.out _).mono ?_
  rintro e w2 ⟨v, rfl, mm⟩
  obtain ⟨ma, mc, rfl⟩ := slown_val mm.1
  have hl9 : (List.replicate n [(0 : Int), 0]).length = n := List.length_replicate
  rw [hl9] at mm ⊢
  clear hl9 HM
  have I0 : BkI w w2.heap.size (.slice ma n mc) (List.replicate n [0, 0]) 0 (w2.alloc (.cells #[.slice ma n mc, .slice none 0 0] 41)) :=
   ⟨none, 0, heap_at w2 _, rowsR.own_mono (rowsR.own_keep mm.1 (keeps_below (box_below w2 _))) (fun k hk => ⟨by have := hk.1; omega, hk.2⟩), own_noneH _ _, row_keep (box_below w2 _) (row_keep mm.2 R0), below_step (below_step B0 mm.2) (box_below w2 _), by have := mm.2.size; omega⟩
  have HI : Hid _ := I0
  have lt2 := alloc_len w2 (.cells #[.slice ma n mc, .slice none 0 0] 41)
  have hs2 : w.heap.size < w2.heap.size := by have := mm.2.size; omega
  clear I0 mm R0 B0
  go_wp2
  clear lt2
  go_loopw [13] (fun q wr => ∃ k : Nat, k ≤ n ∧ q = .int .i64 k ∧ BkI w w2.heap.size (.slice ma n mc) (List.replicate n [0, 0]) k wr) (fun q _ => n - (intOf q).toNat)
  case atStart => exact ⟨0, Nat.zero_le _, rfl, HI.out⟩
  case round =>
   clear HI
   obtain ⟨k, hk, rfl, I⟩ := hrel
   by_cases hlt : k < n
   ·have hlt' : (k : Int) < (n : Int) := by omega
    obtain ⟨au, cu, x, st⟩ := bk_step (bk_next I (below_drewN (Below.refl _ wr) 1)) (by omega)
    obtain ⟨x0, x1⟩ := cells_house (show wr.heap[w2.heap.size]? = _ from x)
    have xlt := (Array.getElem?_eq_some_iff.1 (show wr.heap[w2.heap.size]? = _ from x)).1
    have ST : Hid _ := st
    clear I st x
    go_upto_block 1 with fail
    go_cut [15, 16, 17, 18, 19, 20] (fun _ _ _ _ _ _ wx => BkI w w2.heap.size (.slice ma n mc) (List.replicate n [0, 0]) (k + 1) wx)
    case first =>
     go_wp2_with fail
     go_region_law (first
      | (refine step_run (by rfl) _ _ _ _ (by rfl) (by rfl) _ _ _ (by rfl) (by rfl) hrun ?_)
      | (go_simp
         go_at_call 131
         refine (implNewEntry_any _).mono ?_
         rintro e w9 ⟨rfl, b9⟩
         obtain ⟨z, g', c', w3, hrun, zz, I2⟩ := ST.out w9 b9
         have HI2 : Hid _ := I2
         obtain ⟨q0, q1⟩ := cells_house z
         obtain ⟨q5, q6⟩ := cells_house zz
         obtain ⟨q7, q8⟩ := froz_house zz
         have q2 := (Array.getElem?_eq_some_iff.1 z).1
         have q3 := (Array.getElem?_eq_some_iff.1 zz).1
         clear z zz b9 I2))
     all_goals go_wp2_with fail
     all_goals go_meet
     all_goals exact HI2.out
    case rest =>
     go_wp2
     go_roundw
     case rel => exact ⟨k + 1, by omega, by go_num, hcut⟩
     case measure => simp [intOf]; omega
   ·have hkn : k = n := by omega
    subst hkn
    obtain ⟨au, cu, i1, i2, i3, i4, i5, i6⟩ := I
    obtain ⟨x0, x1⟩ := cells_house i1
    obtain ⟨y0, y1⟩ := cells_house i4
    obtain ⟨f0, f1⟩ := froz_house i4
    have xlt := (Array.getElem?_eq_some_iff.1 i1).1
    have ylt := (Array.getElem?_eq_some_iff.1 i4).1
    have HF : Hid _ := And.intro i2 (And.intro i3 (And.intro i4 i5))
    clear i1 i2 i3 i4 i5
    go_wp2
    obtain ⟨i2, i3, i4, i5⟩ := HF.out
    have V := put_house (y0 := .slice ma k mc) (y1 := .slice au k cu) i4
    obtain ⟨r0, r1⟩ := cells_house V
    have FM : MadeR houseR w ((wr.setCell ⟨w.heap.size, 0, none⟩ (.slice ma k mc)).setCell ⟨w.heap.size, 1, none⟩ (.slice au k cu)) [.slice ma k mc, .slice au k cu] (List.replicate k [0, 0], List.replicate k newE) := ⟨own_house (S0 := rng (w.heap.size + 1) w2.heap.size) (S1 := rng (w2.heap.size + 1) wr.heap.size) (own_setC (own_setC i2 (fun h => by have := h.1; omega)) (fun h => by have := h.1; omega)) (own_setC (own_setC i3 (fun h => by have := h.1; omega)) (fun h => by have := h.1; omega)) (rng_sub (by omega) (by simp; omega)) (rng_sub (by omega) (by simp)) (rng_dis (.inl (by omega))), below_setC (below_setC i5 (Nat.le_refl _)) (Nat.le_refl _)⟩
    exact bodyPost_ret (v := .tuple #[.agg #[.slice ma k mc, .slice au k cu], .bool true]) (by simp [results, Tryz.results62, go_sem, r0, r1]) rfl ⟨[.slice ma k mc, .slice au k cu], rfl, FM⟩
theorem specNewHouse_m (a : Int) (w : World) :
    Calls Tryz.prog 56 #[.int .i64 a] w fun e w' => ∃ ds, e = .returned (.tuple #[aggV ds, .bool (newHouseI a).2]) ∧ MadeR houseR w w' ds (newHouseI a).1 := by
 have R0 := heap_at w (.cells #[.slice none 0 0, .slice none 0 0] 41)
 have B0 := box_below w (.cells #[.slice none 0 0, .slice none 0 0] 41)
 have e1 := alloc_len w (.cells #[.slice none 0 0, .slice none 0 0] 41)
 cases hb : betw a 1 16
 ·have HN : Hid (newHouseI a = (([], []), false)) := by unfold Hid newHouseI; rw [hb]; rfl
  rw [HN.out]
  have HC : Hid (∀ W, Calls Tryz.prog 84 #[.int .i64 a, .int .i64 1, .int .i64 16] W fun e w' => e = .returned (.bool false) ∧ w' = W) := fun W => by have := l1In_any a 1 16 W; rw [hb] at this; exact this
  have HZ : Hid _ := And.intro R0 B0
  obtain ⟨y0, y1⟩ := cells_house R0
  obtain ⟨f0, f1⟩ := froz_house R0
  have lt0 := (Array.getElem?_eq_some_iff.1 R0).1
  clear R0 B0 hb
  go_enter Tryz.func56, Tryz.ntmps56
  go_wp2_with (go_at_call 84; refine (HC.out _).mono ?_; rintro e w1 ⟨rfl, hw⟩; rw [hw]; clear hw w1)
  have FM : MadeR houseR w (w.alloc (.cells #[.slice none 0 0, .slice none 0 0] 41)) [.slice none 0 0, .slice none 0 0] ([], []) := ⟨own_house (S0 := fun _ => False) (S1 := fun _ => False) (own_noneH _ _) (own_noneH _ _) (fun _ h => h.elim) (fun _ h => h.elim) (fun _ h _ => h), HZ.out.2⟩
  exact bodyPost_ret (v := .tuple #[.agg #[.slice none 0 0, .slice none 0 0], .bool false]) (by simp [results, Tryz.results56, go_sem]) rfl ⟨[.slice none 0 0, .slice none 0 0], rfl, FM⟩
 ·have h1 : 1 ≤ a ∧ a ≤ 16 := by simpa [betw] using hb
  obtain ⟨n, rfl⟩ : ∃ n : Nat, a = n := ⟨a.toNat, by omega⟩
  have hn : n ≤ 16 := by omega
  have HN : Hid (newHouseI n = ((List.replicate n [0, 0], List.replicate n newE), true)) := by unfold Hid newHouseI; rw [hb]; rfl
  rw [HN.out]
  have HC : Hid (∀ W, Calls Tryz.prog 84 #[.int .i64 (n : Int), .int .i64 1, .int .i64 16] W fun e w' => e = .returned (.bool true) ∧ w' = W) := fun W => by have := l1In_any (n : Int) 1 16 W; rw [hb] at this; exact this
  have HM : Hid (∀ W, Calls Tryz.prog 121 #[.int .i64 (n : Int)] W fun e w' => ∃ v, e = .returned v ∧ MadeR rowsR W w' [v] (List.replicate n [0, 0])) := fun W => by
   refine (l4New_any n W (by omega)).mono ?_
   rintro e w' ⟨v, rfl, m⟩
   skip
   skip
   exact ⟨v, rfl, madeM_rep m (rep_64 n)⟩
  clear hb h1
  go_enter Tryz.func56, Tryz.ntmps56
  go_wp2_with fail
  generalize w.alloc (.cells #[.slice none 0 0, .slice none 0 0] 41) = W0 at R0 B0 e1 ⊢
  refine (HC.out _).mono ?_
  rintro e w1 ⟨rfl, hw⟩
  rw [hw]
  clear hw w1 HC
  have e1a := Nat.le_of_eq e1
  have e1b := Nat.le_of_eq e1.symm
  clear e1
  go_wp2_with fail
  refine (HM.out _).mono ?_
  rintro e w2 ⟨v, rfl, mm⟩
  obtain ⟨ma, mc, rfl⟩ := slown_val mm.1
  have hl9 : (List.replicate n [(0 : Int), 0]).length = n := List.length_replicate
  rw [hl9] at mm ⊢
  clear hl9 HM
  have I0 : BkI w w2.heap.size (.slice ma n mc) (List.replicate n [0, 0]) 0 (w2.alloc (.cells #[.slice ma n mc, .slice none 0 0] 41)) :=
   ⟨none, 0, heap_at w2 _, rowsR.own_mono (rowsR.own_keep mm.1 (keeps_below (box_below w2 _))) (fun k hk => ⟨by have := hk.1; omega, hk.2⟩), own_noneH _ _, row_keep (box_below w2 _) (row_keep mm.2 R0), below_step (below_step B0 mm.2) (box_below w2 _), by have := mm.2.size; omega⟩
  have HI : Hid _ := I0
  have lt2 := alloc_len w2 (.cells #[.slice ma n mc, .slice none 0 0] 41)
  have hs2 : w.heap.size < w2.heap.size := by have := mm.2.size; omega
  clear I0 mm R0 B0
  go_wp2
  clear lt2
  go_loopw [5] (fun q wr => ∃ k : Nat, k ≤ n ∧ q = .int .i64 k ∧ BkI w w2.heap.size (.slice ma n mc) (List.replicate n [0, 0]) k wr) (fun q _ => n - (intOf q).toNat)
  case atStart => exact ⟨0, Nat.zero_le _, rfl, HI.out⟩
  case round =>
   clear HI
   obtain ⟨k, hk, rfl, I⟩ := hrel
   by_cases hlt : k < n
   ·have hlt' : (k : Int) < (n : Int) := by omega
    obtain ⟨au, cu, x, st⟩ := bk_step (bk_next I (below_drewN (Below.refl _ wr) 1)) (by omega)
    obtain ⟨x0, x1⟩ := cells_house (show wr.heap[w2.heap.size]? = _ from x)
    have xlt := (Array.getElem?_eq_some_iff.1 (show wr.heap[w2.heap.size]? = _ from x)).1
    have ST : Hid _ := st
    clear I st x
    go_upto_block 1 with fail
    go_cut [18, 19, 20, 21, 22, 23] (fun _ _ _ _ _ _ wx => BkI w w2.heap.size (.slice ma n mc) (List.replicate n [0, 0]) (k + 1) wx)
    case first =>
     go_wp2_with fail
     go_region_law (first
      | (refine step_run (by rfl) _ _ _ _ (by rfl) (by rfl) _ _ _ (by rfl) (by rfl) hrun ?_)
      | (go_simp
         go_at_call 122
         refine (specNewEntry_any _).mono ?_
         rintro e w9 ⟨rfl, b9⟩
         obtain ⟨z, g', c', w3, hrun, zz, I2⟩ := ST.out w9 b9
         have HI2 : Hid _ := I2
         obtain ⟨q0, q1⟩ := cells_house z
         obtain ⟨q5, q6⟩ := cells_house zz
         obtain ⟨q7, q8⟩ := froz_house zz
         have q2 := (Array.getElem?_eq_some_iff.1 z).1
         have q3 := (Array.getElem?_eq_some_iff.1 zz).1
         clear z zz b9 I2))
     all_goals go_wp2_with fail
     all_goals go_meet
     all_goals exact HI2.out
    case rest =>
     go_wp2
     go_roundw
     case rel => exact ⟨k + 1, by omega, by go_num, hcut⟩
     case measure => simp [intOf]; omega
   ·have hkn : k = n := by omega
    subst hkn
    obtain ⟨au, cu, i1, i2, i3, i4, i5, i6⟩ := I
    obtain ⟨x0, x1⟩ := cells_house i1
    obtain ⟨y0, y1⟩ := cells_house i4
    obtain ⟨f0, f1⟩ := froz_house i4
    have xlt := (Array.getElem?_eq_some_iff.1 i1).1
    have ylt := (Array.getElem?_eq_some_iff.1 i4).1
    have HF : Hid _ := And.intro i2 (And.intro i3 (And.intro i4 i5))
    clear i1 i2 i3 i4 i5
    go_wp2
    obtain ⟨i2, i3, i4, i5⟩ := HF.out
    have V := put_house (y0 := .slice ma k mc) (y1 := .slice au k cu) i4
    obtain ⟨r0, r1⟩ := cells_house V
    have FM : MadeR houseR w ((wr.setCell ⟨w.heap.size, 0, none⟩ (.slice ma k mc)).setCell ⟨w.heap.size, 1, none⟩ (.slice au k cu)) [.slice ma k mc, .slice au k cu] (List.replicate k [0, 0], List.replicate k newE) := ⟨own_house (S0 := rng (w.heap.size + 1) w2.heap.size) (S1 := rng (w2.heap.size + 1) wr.heap.size) (own_setC (own_setC i2 (fun h => by have := h.1; omega)) (fun h => by have := h.1; omega)) (own_setC (own_setC i3 (fun h => by have := h.1; omega)) (fun h => by have := h.1; omega)) (rng_sub (by omega) (by simp; omega)) (rng_sub (by omega) (by simp)) (rng_dis (.inl (by omega))), below_setC (below_setC i5 (Nat.le_refl _)) (Nat.le_refl _)⟩
    exact bodyPost_ret (v := .tuple #[.agg #[.slice ma k mc, .slice au k cu], .bool true]) (by simp [results, Tryz.results56, go_sem, r0, r1]) rfl ⟨[.slice ma k mc, .slice au k cu], rfl, FM⟩
end Go.Proofs.YthnfkacboijneaaGreatDoor
