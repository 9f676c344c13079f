import Derived.Test.YtiiipclglngdhaaGreatDoorQ00Box
import Derived.Test.YtiiipclglngdhaaGreatDoorQ42FabDefs
import Derived.Test.YtiiipclglngdhaaGreatDoorQ43EvImpl
import Derived.Test.YtiiipclglngdhaaGreatDoorQ07OpL
import Derived.Test.YtiiipclglngdhaaGreatDoorQ19Prog11
import Derived.Test.YtiiipclglngdhaaGreatDoorQ03Bits
import Derived.Test.YtiiipclglngdhaaGreatDoorQ40DmaOkS
import Derived.Test.YtiiipclglngdhaaGreatDoorQ22CopyInts
import Derived.Test.YtiiipclglngdhaaGreatDoorQ13StoreC
import Derived.Test.YtiiipclglngdhaaGreatDoorQ29RepInt64SS
namespace Go.Proofs.YtiiipclglngdhaaGreatDoor
open Go.ChangeShapes Go.WideShapes Go.ChangeAt Go.RowKit
set_option linter.unusedVariables false
set_option linter.unusedSimpArgs false
set_option maxHeartbeats 4000000 in
set_option maxRecDepth 20000 in
theorem implFabricOk_any (x : FabricD) (a1 : Option Addr) (c1 : Nat) (b1 : Option Addr) (d1 : Nat) (a2 : Option Addr) (c2 : Nat) (a3 : Option Addr) (c3 : Nat) (b3 : Option Addr) (d3 : Nat) (a4 : Option Addr) (c4 : Nat) (a5 : Option Addr) (c5 : Nat) (w : World) (R : FabRd w x a1 c1 b1 d1 a2 c2 a3 c3 b3 d3 a4 c4 a5 c5) (hh : Hold w) :
    Calls Tryz.prog 25 #[.agg #[.int .i64 x.1.1, .int .i64 x.1.2.1, .int .i64 x.1.2.2.1, .int .i64 x.1.2.2.2, .slice a1 x.2.1.1.length c1, .slice b1 x.2.1.2.length d1, .slice a2 x.2.2.1.length c2, .slice a3 x.2.2.2.1.1.length c3, .int .i64 x.2.2.2.1.2.1, .bool x.2.2.2.1.2.2.1, .slice b3 x.2.2.2.1.2.2.2.length d3, .slice a4 x.2.2.2.2.1.length c4, .slice a5 x.2.2.2.2.2.length c5]] w fun e w' => e = .returned (.bool (fabI x)) ∧ Below w.heap.size w w' := by
 have H0 : Hid (∀ W, Below w.heap.size w W → Calls Tryz.prog 56 #[.agg #[.int .i64 x.1.1, .int .i64 x.1.2.1, .int .i64 x.1.2.2.1, .int .i64 x.1.2.2.2]] W fun e w' => e = .returned (.int .i64 (codeI x.1.1 x.1.2.1 x.1.2.2.1 x.1.2.2.2)) ∧ Below W.heap.size W w') := fun W hb => implCode_any x.1.1 x.1.2.1 x.1.2.2.1 x.1.2.2.2 W
 have H1 : Hid (codeI x.1.1 x.1.2.1 x.1.2.2.1 x.1.2.2.2 = 0 → ∀ W, Below w.heap.size w W → Calls Tryz.prog 57 #[.agg #[.int .i64 x.1.1, .int .i64 x.1.2.1, .int .i64 x.1.2.2.1, .int .i64 x.1.2.2.2, .slice a1 x.2.1.1.length c1, .slice b1 x.2.1.2.length d1, .slice a2 x.2.2.1.length c2, .slice a3 x.2.2.2.1.1.length c3, .int .i64 x.2.2.2.1.2.1, .bool x.2.2.2.1.2.2.1, .slice b3 x.2.2.2.1.2.2.2.length d3, .slice a4 x.2.2.2.2.1.length c4, .slice a5 x.2.2.2.2.2.length c5]] W fun e w' => e = .returned (.bool (houseFit x)) ∧ Below W.heap.size W w') := fun hc W hb => fabHouse_any x a1 c1 b1 d1 a2 c2 a3 c3 b3 d3 a4 c4 a5 c5 W hc (fab_next R hb)
 have H2 : Hid (codeI x.1.1 x.1.2.1 x.1.2.2.1 x.1.2.2.2 = 0 → ∀ W, Below w.heap.size w W → Calls Tryz.prog 58 #[.agg #[.int .i64 x.1.1, .int .i64 x.1.2.1, .int .i64 x.1.2.2.1, .int .i64 x.1.2.2.2, .slice a1 x.2.1.1.length c1, .slice b1 x.2.1.2.length d1, .slice a2 x.2.2.1.length c2, .slice a3 x.2.2.2.1.1.length c3, .int .i64 x.2.2.2.1.2.1, .bool x.2.2.2.1.2.2.1, .slice b3 x.2.2.2.1.2.2.2.length d3, .slice a4 x.2.2.2.2.1.length c4, .slice a5 x.2.2.2.2.2.length c5]] W fun e w' => e = .returned (.bool (coresFit x)) ∧ Below W.heap.size W w') := fun hc W hb => fabCores_any x a1 c1 b1 d1 a2 c2 a3 c3 b3 d3 a4 c4 a5 c5 W hc (fab_next R hb) (hh.goes hb)
 have H3 : Hid (codeI x.1.1 x.1.2.1 x.1.2.2.1 x.1.2.2.2 = 0 → ∀ W, Below w.heap.size w W → Calls Tryz.prog 59 #[.agg #[.int .i64 x.1.1, .int .i64 x.1.2.1, .int .i64 x.1.2.2.1, .int .i64 x.1.2.2.2, .slice a1 x.2.1.1.length c1, .slice b1 x.2.1.2.length d1, .slice a2 x.2.2.1.length c2, .slice a3 x.2.2.2.1.1.length c3, .int .i64 x.2.2.2.1.2.1, .bool x.2.2.2.1.2.2.1, .slice b3 x.2.2.2.1.2.2.2.length d3, .slice a4 x.2.2.2.2.1.length c4, .slice a5 x.2.2.2.2.2.length c5]] W fun e w' => e = .returned (.bool (dmaFit x)) ∧ Below W.heap.size W w') := fun hc W hb => fabDma_any x a1 c1 b1 d1 a2 c2 a3 c3 b3 d3 a4 c4 a5 c5 W hc (fab_next R hb) (hh.goes hb)
 have H4 : Hid (codeI x.1.1 x.1.2.1 x.1.2.2.1 x.1.2.2.2 = 0 → ∀ W, Below w.heap.size w W → Calls Tryz.prog 60 #[.agg #[.int .i64 x.1.1, .int .i64 x.1.2.1, .int .i64 x.1.2.2.1, .int .i64 x.1.2.2.2, .slice a1 x.2.1.1.length c1, .slice b1 x.2.1.2.length d1, .slice a2 x.2.2.1.length c2, .slice a3 x.2.2.2.1.1.length c3, .int .i64 x.2.2.2.1.2.1, .bool x.2.2.2.1.2.2.1, .slice b3 x.2.2.2.1.2.2.2.length d3, .slice a4 x.2.2.2.2.1.length c4, .slice a5 x.2.2.2.2.2.length c5]] W fun e w' => e = .returned (.bool (netFit x)) ∧ Below W.heap.size W w') := fun hc W hb => fabNet_any x a1 c1 b1 d1 a2 c2 a3 c3 b3 d3 a4 c4 a5 c5 W hc (fab_next R hb)
 have H5 : Hid (∀ W, Below w.heap.size w W → Calls Tryz.prog 61 #[.agg #[.int .i64 x.1.1, .int .i64 x.1.2.1, .int .i64 x.1.2.2.1, .int .i64 x.1.2.2.2, .slice a1 x.2.1.1.length c1, .slice b1 x.2.1.2.length d1, .slice a2 x.2.2.1.length c2, .slice a3 x.2.2.2.1.1.length c3, .int .i64 x.2.2.2.1.2.1, .bool x.2.2.2.1.2.2.1, .slice b3 x.2.2.2.1.2.2.2.length d3, .slice a4 x.2.2.2.2.1.length c4, .slice a5 x.2.2.2.2.2.length c5]] W fun e w' => e = .returned (.bool (decide (x.2.2.2.2.2.length ≤ 200) && x.2.2.2.2.2.all evB)) ∧ Below W.heap.size W w') := fun W hb => fabEvents_any x a1 c1 b1 d1 a2 c2 a3 c3 b3 d3 a4 c4 a5 c5 W (fab_next R hb)
 unfold fabI
 clear R hh
 generalize codeI x.1.1 x.1.2.1 x.1.2.2.1 x.1.2.2.2 = kc at H0 H1 H2 H3 H4 ⊢
 generalize houseFit x = q1 at H1 ⊢
 generalize coresFit x = q2 at H2 ⊢
 generalize dmaFit x = q3 at H3 ⊢
 generalize netFit x = q4 at H4 ⊢
 generalize (decide (x.2.2.2.2.2.length ≤ 200) && x.2.2.2.2.2.all evB) = q5 at H5 ⊢
 have B := Below.refl w.heap.size w
 go_enter Tryz.func25, Tryz.ntmps25
 go_upto_region 1 with fail
 generalize hu1w : w.alloc _ = u1w
 have F := boxH hu1w
 have bz := boxB hu1w
 have zF := boxL hu1w
 clear hu1w
 replace B := below_step B bz
 clear bz
 have zFa := Nat.le_of_eq zF
 have zFb := Nat.le_of_eq zF.symm
 clear zF
 obtain ⟨Fc0, Fc1, Fc2, Fc3, Fc4, Fc5, Fc6, Fc7, Fc8, Fc9, Fc10, Fc11, Fc12⟩ := cells_fabric F
 have Flt := (Array.getElem?_eq_some_iff.1 F).1
 go_wp2_with fail
 clear Fc0 Fc1 Fc2 Fc3 Fc4 Fc5 Fc6 Fc7 Fc8 Fc9 Fc10 Fc11 Fc12 Flt
 refine (H0.out _ B).mono ?_
 rintro e u2w ⟨rfl, bq⟩
 have tu2w : u1w.heap.size ≤ u2w.heap.size := bq.size
 replace B := below_step B bq
 replace F := row_keep bq F
 clear bq
 by_cases hz : kc = 0
 ·have zt : (kc == 0) = true := by simp [hz]
  subst hz
  have hz : (0 : Int) = 0 := rfl
  clear hz
  obtain ⟨Fc0, Fc1, Fc2, Fc3, Fc4, Fc5, Fc6, Fc7, Fc8, Fc9, Fc10, Fc11, Fc12⟩ := cells_fabric F
  have Flt := (Array.getElem?_eq_some_iff.1 F).1
  go_wp2_with fail
  clear Fc0 Fc1 Fc2 Fc3 Fc4 Fc5 Fc6 Fc7 Fc8 Fc9 Fc10 Fc11 Fc12 Flt
  refine (H1.out (by first | rfl | trivial) _ B).mono ?_
  rintro e u3w ⟨rfl, bq⟩
  have tu3w : u2w.heap.size ≤ u3w.heap.size := bq.size
  replace B := below_step B bq
  replace F := row_keep bq F
  clear bq
  cases q1
  ·skip
   obtain ⟨Fc0, Fc1, Fc2, Fc3, Fc4, Fc5, Fc6, Fc7, Fc8, Fc9, Fc10, Fc11, Fc12⟩ := cells_fabric F
   have Flt := (Array.getElem?_eq_some_iff.1 F).1
   have HB : Hid _ := B
   clear B F
   go_wp2
   go_ret
   exact ⟨by simp, HB.out⟩
  ·skip
   obtain ⟨Fc0, Fc1, Fc2, Fc3, Fc4, Fc5, Fc6, Fc7, Fc8, Fc9, Fc10, Fc11, Fc12⟩ := cells_fabric F
   have Flt := (Array.getElem?_eq_some_iff.1 F).1
   go_wp2_with fail
   clear Fc0 Fc1 Fc2 Fc3 Fc4 Fc5 Fc6 Fc7 Fc8 Fc9 Fc10 Fc11 Fc12 Flt
   refine (H2.out (by first | rfl | trivial) _ B).mono ?_
   rintro e u4w ⟨rfl, bq⟩
   have tu4w : u3w.heap.size ≤ u4w.heap.size := bq.size
   replace B := below_step B bq
   replace F := row_keep bq F
   clear bq
   cases q2
   ·skip
    obtain ⟨Fc0, Fc1, Fc2, Fc3, Fc4, Fc5, Fc6, Fc7, Fc8, Fc9, Fc10, Fc11, Fc12⟩ := cells_fabric F
    have Flt := (Array.getElem?_eq_some_iff.1 F).1
    have HB : Hid _ := B
    clear B F
    go_wp2
    go_ret
    exact ⟨by simp, HB.out⟩
   ·skip
    obtain ⟨Fc0, Fc1, Fc2, Fc3, Fc4, Fc5, Fc6, Fc7, Fc8, Fc9, Fc10, Fc11, Fc12⟩ := cells_fabric F
    have Flt := (Array.getElem?_eq_some_iff.1 F).1
    go_wp2_with fail
    clear Fc0 Fc1 Fc2 Fc3 Fc4 Fc5 Fc6 Fc7 Fc8 Fc9 Fc10 Fc11 Fc12 Flt
    refine (H3.out (by first | rfl | trivial) _ B).mono ?_
    rintro e u5w ⟨rfl, bq⟩
    have tu5w : u4w.heap.size ≤ u5w.heap.size := bq.size
    replace B := below_step B bq
    replace F := row_keep bq F
    clear bq
    cases q3
    ·skip
     obtain ⟨Fc0, Fc1, Fc2, Fc3, Fc4, Fc5, Fc6, Fc7, Fc8, Fc9, Fc10, Fc11, Fc12⟩ := cells_fabric F
     have Flt := (Array.getElem?_eq_some_iff.1 F).1
     have HB : Hid _ := B
     clear B F
     go_wp2
     go_ret
     exact ⟨by simp, HB.out⟩
    ·skip
     obtain ⟨Fc0, Fc1, Fc2, Fc3, Fc4, Fc5, Fc6, Fc7, Fc8, Fc9, Fc10, Fc11, Fc12⟩ := cells_fabric F
     have Flt := (Array.getElem?_eq_some_iff.1 F).1
     go_wp2_with fail
     clear Fc0 Fc1 Fc2 Fc3 Fc4 Fc5 Fc6 Fc7 Fc8 Fc9 Fc10 Fc11 Fc12 Flt
     refine (H4.out (by first | rfl | trivial) _ B).mono ?_
     rintro e u6w ⟨rfl, bq⟩
     have tu6w : u5w.heap.size ≤ u6w.heap.size := bq.size
     replace B := below_step B bq
     replace F := row_keep bq F
     clear bq
     cases q4
     ·skip
      obtain ⟨Fc0, Fc1, Fc2, Fc3, Fc4, Fc5, Fc6, Fc7, Fc8, Fc9, Fc10, Fc11, Fc12⟩ := cells_fabric F
      have Flt := (Array.getElem?_eq_some_iff.1 F).1
      have HB : Hid _ := B
      clear B F
      go_wp2
      go_ret
      exact ⟨by simp, HB.out⟩
     ·skip
      obtain ⟨Fc0, Fc1, Fc2, Fc3, Fc4, Fc5, Fc6, Fc7, Fc8, Fc9, Fc10, Fc11, Fc12⟩ := cells_fabric F
      have Flt := (Array.getElem?_eq_some_iff.1 F).1
      go_wp2_with fail
      clear Fc0 Fc1 Fc2 Fc3 Fc4 Fc5 Fc6 Fc7 Fc8 Fc9 Fc10 Fc11 Fc12 Flt
      refine (H5.out _ B).mono ?_
      rintro e u7w ⟨rfl, bq⟩
      have tu7w : u6w.heap.size ≤ u7w.heap.size := bq.size
      replace B := below_step B bq
      replace F := row_keep bq F
      clear bq
      obtain ⟨Fc0, Fc1, Fc2, Fc3, Fc4, Fc5, Fc6, Fc7, Fc8, Fc9, Fc10, Fc11, Fc12⟩ := cells_fabric F
      have Flt := (Array.getElem?_eq_some_iff.1 F).1
      have HB : Hid _ := B
      clear B F
      go_wp2
      go_ret
      exact ⟨by simp, HB.out⟩
 ·have zt : (kc == 0) = false := by simp [hz]
  have HZ : Hid (¬ kc = 0) := hz
  clear hz
  obtain ⟨Fc0, Fc1, Fc2, Fc3, Fc4, Fc5, Fc6, Fc7, Fc8, Fc9, Fc10, Fc11, Fc12⟩ := cells_fabric F
  have Flt := (Array.getElem?_eq_some_iff.1 F).1
  have HB : Hid _ := B
  clear B F
  go_wp2
  go_ret
  exact ⟨by simp [HZ.out], HB.out⟩
set_option maxHeartbeats 2000000 in
theorem implWork_any (a : Option Addr) (ps : List (List OpD)) (cap : Nat) (b : Option Addr) (n cp : Nat) (w : World) (h : SlRd opsR w a ps) (hm : n + lensI ps ≤ 4611686018427387904) (hl : ps.length ≤ 4611686018427387904) :
    Calls Tryz.prog 33 #[.slice a ps.length cap, .slice b n cp] w fun e w' => e = .returned (.int .i64 ((n + lensI ps : Nat) : Int)) ∧ Below w.heap.size w w' := by
 go_enter Tryz.func33, Tryz.ntmps33
 go_wp2
 go_loop [5, 12] (fun q i => ∃ k : Nat, k ≤ ps.length ∧ i = .int .i64 k ∧ q = .int .i64 ((n + lensI (ps.take k) : Nat) : Int)) (fun _ i => ps.length - (intOf i).toNat)
 case atStart => exact ⟨0, Nat.zero_le _, rfl, by simp [lensI]⟩
 case round =>
  obtain ⟨k, hk, rfl, rfl⟩ := hrel
  by_cases hlt : k < ps.length
  ·have hlt' : (k : Int) < (ps.length : Int) := by omega
   obtain ⟨x, hx⟩ : ∃ x, ps[k]? = some x := ⟨_, List.getElem?_eq_getElem hlt⟩
   obtain ⟨b1, off, cs, rfl, ⟨aj, cj, rfl, -, -, -⟩, hcell⟩ := slrd_at h hx
   have g1 := hcell 0 _ rfl
   rw [show k * opsR.size + 0 = k from Nat.mul_one k] at g1
   have HT : Hid (lensI (ps.take (k + 1)) = _) := lens_step hx
   have hg := lens_get hx
   clear hcell hx
   generalize lensI (ps.take k) = t at HT hg ⊢
   go_wp2
   go_round
   case rel => exact ⟨k + 1, by omega, by go_num, by rw [HT.out]; go_num⟩
   case measure => simp [intOf]; omega
  ·have hkl : k = ps.length := by omega
   subst hkl
   rw [List.take_length]
   go_wp2
   go_ret
   exact ⟨rfl, Below.refl _ _⟩
variable {α : Type}
theorem appR_sep {base : Nat} {e : TypeId} {R : Rep α} {S T : Foot} {w w2 : World} {o : Obj} {v v' : Value} {xs : List α} {c : List Value} {x : α} (hty : e ∉ R.tys) (h : (slR e R).own w S [v] xs) (hx : R.own w T c x) (hd : Dis S T) (hSb : ∀ k, S k → base ≤ k) (hTb : ∀ k, T k → base ≤ k)
    (happ : ∀ rows, w.ownsRow base e R.size v xs.length rows → w2.ownsRow base e R.size v' (xs.length + 1) (rows ++ c)) (hg : (w.alloc o).grownBy w2 v.ownBlock) :
    (slR e R).own w2 (rng base w2.heap.size) [v'] (xs ++ [x]) ∧ Chg (Old w S) w w2 := by
 obtain ⟨v1, rows, S', hv, hr, hgg, hs, hl⟩ := own_old h
 simp only [List.cons.injEq, and_true] at hv
 subst hv
 have hr2 := happ rows (row_base hr fun g h => hSb g (hgg g h).1.1)
 have hx := R.own_tight (own_old hx)
 have lt := lown_tight hl
 have s2 : w.heap.size + 1 ≤ w2.heap.size := by have := hg.size; simpa using this
 have keepw : ∀ k, k < w.heap.size → v.ownBlock ≠ some k → w2.heap[k]? = w.heap[k]? := fun k hk hne => by
  rw [hg.block k (by simp; omega) (fun e => hne e.symm), Below.heap_alloc w o k hk]
 have L2 := lown_keep (w' := w2) lt fun k hk hlk => keepw k hlk (fun e => (hgg k e).2 hk.1)
 have O2 := R.own_keep (w' := w2) hx fun k hk hlk => keepw k hlk (fun e => hd k (hgg k e).1.1 hk.1.1)
 refine ⟨⟨v', rows ++ c, (fun k => (S' k ∧ ∃ cur t, t ∈ R.tys ∧ w.heap[k]? = some (.cells cur t (0, 0))) ∨ (Old w T k ∧ ∃ cur t, t ∈ R.tys ∧ w.heap[k]? = some (.cells cur t (0, 0)))), rfl, by rw [List.length_append]; exact row_base hr2 (fun _ _ => Nat.zero_le _), fun g hg' => ?_, ?_, lown_push L2 O2 ?_ (fun k h => .inl h) (fun k h => .inr h)⟩, ?_⟩
 ·obtain ⟨cur, hcur⟩ := row_block hr2 hg'
  have hin := World.ownsRow.lt hr2 g hg'
  refine ⟨⟨hin.1, hin.2⟩, ?_⟩
  have key : (∃ cur t, t ∈ R.tys ∧ w.heap[g]? = some (.cells cur t (0, 0))) → v.ownBlock ≠ some g → False := by
   rintro ⟨cur', t, ht, hh⟩ hne
   have hlk : g < w.heap.size := (Array.getElem?_eq_some_iff.1 hh).1
   have := keepw g hlk hne
   rw [hcur, hh] at this
   simp at this
   rw [this.2] at hty
   exact hty ht
  rintro (⟨h1, h2⟩ | ⟨h1, h2⟩)
  ·exact key h2 (fun e => (hgg g e).2 h1)
  ·exact key h2 (fun e => hd g (hgg g e).1.1 h1.1)
 ·rintro k (⟨h1, _⟩ | ⟨h1, _⟩)
  ·exact ⟨hSb k (hs k h1).1, by have := (hs k h1).2; omega⟩
  ·exact ⟨hTb k h1.1, by have := h1.2; omega⟩
 ·rintro k ⟨h1, _⟩ ⟨h2, _⟩
  exact hd k (hs k h1).1 h2.1
 ·exact ⟨hg.os, hg.tape, hg.output, by omega, fun k hk hn => keepw k hk (fun e => hn (hgg k e).1)⟩
theorem wpList_push {P : Program} {w : World} {ops : Array Oper} {rest : List Oper} {o : Oper} {a : Act} {Q : Exit → Act → World → Prop} (hgd : o.guard = none) (s x : Operand) (t : TypeId)
    (ho : o.op = .call { callee := .builtin .append, args := #[s, x], argTypes := #[t, t] })
    (R : Rep α) (e : TypeId) (i : TypeInfo) (z : Value) (bytes : Nat) (ht : P.underlying t = some (.slice e)) (hi : P.info? e = some i) (hz : i.zero = some z) (hsize : i.size = R.size) (hby : i.bytes = bytes) (hzs : z.cells.size = R.size) (hsz : 0 < R.size) (hty : e ∉ R.tys)
    (base : Nat) (S T : Foot) (v : Value) (xs : List α) (c : List Value) (y : α) (cc : Nat) (hs : a.eval s = v) (qb : Nat) (hx : a.eval x = .slice (some ⟨qb, 0, none⟩) 1 cc) (hq : qb = w.heap.size)
    (h : (slR e R).own w S [v] xs) (hy : R.own w T c y) (hd : Dis S T) (hSb : ∀ k, S k → base ≤ k) (hTb : ∀ k, T k → base ≤ k) (hb : base ≤ w.heap.size) (hone : ∀ u ∈ c, u.oneCell' = true) (hlen : xs.length + 1 ≤ maxLen) (hbytes : (xs.length + 1) * bytes ≤ 140737488355328)
    (k : ∀ g' cap' w2, (slR e R).own w2 (rng base w2.heap.size) [.slice (some ⟨g', 0, none⟩) (xs.length + 1) cap'] (xs ++ [y]) → Chg (Old w S) w w2 → wpList P ops Q rest (a.put o.dst (.slice (some ⟨g', 0, none⟩) (xs.length + 1) cap')) w2) :
    wpList P ops Q (o :: rest) a (w.alloc (.cells c.toArray e)) := by
 subst hq
 have h0 := h
 obtain ⟨v1, rows, S', hv, hr, hgg, hs', hl⟩ := h0
 simp only [List.cons.injEq, and_true] at hv
 subst hv
 have hr0 : w.ownsRow base e R.size v xs.length rows := row_base hr fun g hg => hSb g (hgg g hg).1
 have hrA : (w.alloc (.cells c.toArray e)).ownsRow base e R.size v xs.length rows := orow_keep hr0 fun g hg => by
  have hl := World.ownsRow.lt hr0 g hg
  rw [Below.heap_alloc _ _ _ hl.2]
 have hcl : c.length = 1 * R.size := by rw [R.rd_len (R.own_rd hy)]; omega
 refine wpList_append_own (w.alloc (.cells c.toArray e)) hgd s x t ho base e i z R.size bytes ht hi hz hsize hby hzs hsz v xs.length rows hs hrA ⟨w.heap.size, 0, none⟩ 1 cc c hx hcl (cells_news w c e) hone hlen hbytes (by simp; omega) ?_
 intro v' w9 hown' hgrow hnil
 obtain ⟨g', cap', rfl⟩ := owns_shape hown'
 obtain ⟨N1, N2⟩ := appR_sep (base := base) (e := e) (R := R) hty h hy hd hSb hTb (fun rows2 hr2 => by rw [rows_unique hr2 hr0]; exact hown') hgrow
 exact k _ _ _ N1 N2
theorem below_by {B : Nat} {w0 w1 w2 : World} {S : Foot} (h : Below B w0 w1) (hB : B ≤ w1.heap.size) (n : Chg (Old w1 S) w1 w2) (hs : ∀ k, S k → B ≤ k) : Below B w0 w2 :=
 ⟨n.os.trans h.os, n.tape.trans h.tape, n.output.trans h.output, Nat.le_trans h.size n.size, fun j hj => (n.block j (Nat.lt_of_lt_of_le hj hB) (fun q => by have := hs j q.1; omega)).trans (h.block j hj)⟩
theorem wpList_pm {α : Type} {P : Program} {w0 wr w1 : World} {ops : Array Oper} {rest : List Oper} {o : Oper} {a : Act} {Q : Exit → Act → World → Prop} (hgd : o.guard = none) (s x : Operand) (t : TypeId)
    (ho : o.op = .call { callee := .builtin .append, args := #[s, x], argTypes := #[t, t] })
    (R : Rep α) (e : TypeId) (i : TypeInfo) (z : Value) (bytes : Nat) (ht : P.underlying t = some (.slice e)) (hi : P.info? e = some i) (hz : i.zero = some z) (hsize : i.size = R.size) (hby : i.bytes = bytes) (hzs : z.cells.size = R.size) (hsz : 0 < R.size) (hty : e ∉ R.tys)
    (v : Value) (xs : List α) (c : List Value) (y : α) (cc : Nat) (hs : a.eval s = v) (qb : Nat) (hx : a.eval x = .slice (some ⟨qb, 0, none⟩) 1 cc) (hq : qb = w1.heap.size)
    (M : MadeR (slR e R) w0 wr [v] xs) (hb : Below wr.heap.size wr w1) (Y : R.own w1 (rng wr.heap.size w1.heap.size) c y) (hone : ∀ u ∈ c, u.oneCell' = true) (hlen : xs.length + 1 ≤ maxLen) (hbytes : (xs.length + 1) * bytes ≤ 140737488355328)
    (k : ∀ g' cap' w2, MadeR (slR e R) w0 w2 [.slice (some ⟨g', 0, none⟩) (xs.length + 1) cap'] (xs ++ [y]) → Chg (rng w0.heap.size w1.heap.size) w1 w2 → wpList P ops Q rest (a.put o.dst (.slice (some ⟨g', 0, none⟩) (xs.length + 1) cap')) w2) :
    wpList P ops Q (o :: rest) a (w1.alloc (.cells c.toArray e)) := by
 have h0 := M.2.size
 have h1 := below_step M.2 hb
 refine wpList_push hgd s x t ho R e i z bytes ht hi hz hsize hby hzs hsz hty w0.heap.size (rng w0.heap.size wr.heap.size) (rng wr.heap.size w1.heap.size) v xs c y cc hs qb hx hq (own_next M.1 hb) Y (rng_dis (.inl (Nat.le_refl _))) (fun k hk => hk.1) (fun k hk => Nat.le_trans h0 hk.1) h1.size hone hlen hbytes ?_
 intro g' cap' w2 N1 N2
 exact k g' cap' w2 ⟨N1, below_by h1 h1.size N2 (fun k hk => hk.1)⟩ (N2.mono (fun k hk => ⟨hk.1.1, hk.2⟩))
theorem made_cap {α : Type} {e : TypeId} {R : Rep α} (w : World) (cur : Array Value) (n : Nat) (hm : n ≤ maxLen) (hs : cur.size = n * R.size) : MadeR (slR e R) w (w.alloc (.cells cur e)) [.slice (some ⟨w.heap.size, 0, none⟩) 0 n] [] := by
 refine ⟨⟨_, [], fun _ => False, rfl, World.ownsRow_made (base := 0) (e := e) (size := R.size) w cur n (Nat.zero_le _) hm hs, fun g hg => ?_, fun _ h => h.elim, rfl⟩, box_below w _⟩
 simp [Value.ownBlock] at hg
 subst hg
 exact ⟨⟨Nat.le_refl _, by simp⟩, fun h => h⟩
end Go.Proofs.YtiiipclglngdhaaGreatDoor
