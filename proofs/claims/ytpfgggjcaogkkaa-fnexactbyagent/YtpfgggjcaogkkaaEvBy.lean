
/- Those of one agent, of the program and of its specification. Conditions: how many there are. -/
import Derived.Test.YtpfgggjcaogkkaaEventsL
import Derived.Test.YtpfgggjcaogkkaaPushM
import Derived.Test.YtpfgggjcaogkkaaMarkOp
namespace Go.Proofs.Ytpfgggjcaogkkaa
open Go.ChangeShapes Go.WideShapes Go.ChangeAt Go.RowKit
set_option linter.unusedVariables false
set_option linter.unusedSimpArgs false
def EvI (x : EventD) : Prop := In64 x.1 ∧ In4 x.2.1 ∧ In64 x.2.2.1 ∧ In64 x.2.2.2.1 ∧ In64 x.2.2.2.2.2
theorem ev_parts {w : World} {cs : List Value} {x : EventD} (h : eventR.rd w cs x) : ∃ (da : Option Addr) (dc : Nat), cs = [.int .i64 x.1, .int .i64 x.2.1.1, .int .i64 x.2.1.2.1, .int .i64 x.2.1.2.2.1, .int .i64 x.2.1.2.2.2, .int .i64 x.2.2.1, .int .i64 x.2.2.2.1, .slice da x.2.2.2.2.1.length dc, .int .i64 x.2.2.2.2.2] ∧ EvI x ∧ SlRd intR w da x.2.2.2.2.1 := by
  obtain ⟨v1, v2, v3, v4, v7, rfl, i0, r1, i2, i3, r4, i5⟩ := event_rd h
  obtain ⟨e1, j1⟩ := op_rd r1
  simp only [List.cons.injEq, and_true] at e1
  obtain ⟨rfl, rfl, rfl, rfl⟩ := e1
  obtain ⟨a4, c4, e4, -, -, q⟩ := r4
  simp only [List.cons.injEq, and_true] at e4
  obtain rfl := e4
  exact ⟨a4, c4, rfl, ⟨i0, j1, i2, i3, i5⟩, q⟩
theorem own_ev {w : World} {S : Foot} {x : EventD} {v : Value} (i : EvI x) (h : intsR.own w S [v] x.2.2.2.2.1) : eventR.own w S [.int .i64 x.1, .int .i64 x.2.1.1, .int .i64 x.2.1.2.1, .int .i64 x.2.1.2.2.1, .int .i64 x.2.1.2.2.2, .int .i64 x.2.2.1, .int .i64 x.2.2.2.1, v, .int .i64 x.2.2.2.2.2] x :=
  own_event (S1 := fun _ => False) i.1 i.2.2.1 i.2.2.2.1 i.2.2.2.2 (own_op i.2.1) h (fun _ h => h.elim) (fun _ h => h) (fun _ h => h.elim)
theorem made_on9 {α : Type} {R : Rep α} {w w1 w2 : World} {cs : List Value} {u : α} (h : MadeR R w w1 cs u) (hb : Below w1.heap.size w1 w2) : MadeR R w w2 cs u :=
  ⟨R.own_mono (own_next h.1 hb) (rng_sub (Nat.le_refl _) hb.size), below_step h.2 hb⟩
def byA (a : Int) (xs : List EventD) : List EventD := xs.filter fun u => decide (u.1 = a)
theorem by_yes {a : Int} {xs : List EventD} {k : Nat} {u : EventD} (hx : xs[k]? = some u) (h : u.1 = a) : byA a (xs.take k) ++ [u] = byA a (xs.take (k + 1)) := by
  unfold byA
  rw [List.take_add_one, hx, List.filter_append]
  simp [h]
theorem by_no {a : Int} {xs : List EventD} {k : Nat} {u : EventD} (hx : xs[k]? = some u) (h : ¬ u.1 = a) : byA a (xs.take (k + 1)) = byA a (xs.take k) := by
  unfold byA
  rw [List.take_add_one, hx, List.filter_append]
  simp [h]
theorem by_len (a : Int) (xs : List EventD) (k : Nat) (h : k ≤ xs.length) : (byA a (xs.take k)).length ≤ k := by
  have := List.length_filter_le (fun u : EventD => decide (u.1 = a)) (xs.take k)
  rw [List.length_take] at this
  unfold byA
  omega
set_option maxHeartbeats 4000000 in
set_option maxRecDepth 20000 in
theorem evCopied_any (x : EventD) (da : Option Addr) (dc : Nat) (w : World) (i : EvI x) (h : SlRd intR w da x.2.2.2.2.1) (hm : x.2.2.2.2.1.length ≤ 1048576) :
    Calls Try.prog 14 #[.agg #[.int .i64 x.1, .int .i64 x.2.1.1, .int .i64 x.2.1.2.1, .int .i64 x.2.1.2.2.1, .int .i64 x.2.1.2.2.2, .int .i64 x.2.2.1, .int .i64 x.2.2.2.1, .slice da x.2.2.2.2.1.length dc, .int .i64 x.2.2.2.2.2]] w fun e w' => ∃ na nc, e = .returned (.agg #[.int .i64 x.1, .int .i64 x.2.1.1, .int .i64 x.2.1.2.1, .int .i64 x.2.1.2.2.1, .int .i64 x.2.1.2.2.2, .int .i64 x.2.2.1, .int .i64 x.2.2.2.1, .slice na x.2.2.2.2.1.length nc, .int .i64 x.2.2.2.2.2]) ∧ MadeR eventR w w' [.int .i64 x.1, .int .i64 x.2.1.1, .int .i64 x.2.1.2.1, .int .i64 x.2.1.2.2.1, .int .i64 x.2.1.2.2.2, .int .i64 x.2.2.1, .int .i64 x.2.2.2.1, .slice na x.2.2.2.2.1.length nc, .int .i64 x.2.2.2.2.2] x := by
  have HS : Hid (∀ W, Below w.heap.size w W → SlRd intR W da x.2.2.2.2.1) := fun W hb => slrd_next h hb
  have HI : Hid _ := i
  clear h i
  have B := Below.refl w.heap.size w
  go_enter Try.func14, Try.ntmps14
  go_upto_region 1 with fail
  have X := heap_at w (.cells #[.int .i64 x.1, .int .i64 x.2.1.1, .int .i64 x.2.1.2.1, .int .i64 x.2.1.2.2.1, .int .i64 x.2.1.2.2.2, .int .i64 x.2.2.1, .int .i64 x.2.2.2.1, .slice da x.2.2.2.2.1.length dc, .int .i64 x.2.2.2.2.2] 38)
  have bz := box_below w (.cells #[.int .i64 x.1, .int .i64 x.2.1.1, .int .i64 x.2.1.2.1, .int .i64 x.2.1.2.2.1, .int .i64 x.2.1.2.2.2, .int .i64 x.2.2.1, .int .i64 x.2.2.2.1, .slice da x.2.2.2.2.1.length dc, .int .i64 x.2.2.2.2.2] 38)
  have zX := alloc_len w (.cells #[.int .i64 x.1, .int .i64 x.2.1.1, .int .i64 x.2.1.2.1, .int .i64 x.2.1.2.2.1, .int .i64 x.2.1.2.2.2, .int .i64 x.2.2.1, .int .i64 x.2.2.2.1, .slice da x.2.2.2.2.1.length dc, .int .i64 x.2.2.2.2.2] 38)
  replace B := below_step B bz
  clear bz
  generalize w.alloc (.cells #[.int .i64 x.1, .int .i64 x.2.1.1, .int .i64 x.2.1.2.1, .int .i64 x.2.1.2.2.1, .int .i64 x.2.1.2.2.2, .int .i64 x.2.2.1, .int .i64 x.2.2.2.1, .slice da x.2.2.2.2.1.length dc, .int .i64 x.2.2.2.2.2] 38) = u1w at B X zX ⊢
  have zXa := Nat.le_of_eq zX
  have zXb := Nat.le_of_eq zX.symm
  clear zX
  have R := heap_at u1w (.cells #[.int .i64 0, .int .i64 0, .int .i64 0, .int .i64 0, .int .i64 0, .int .i64 0, .int .i64 0, .slice none 0 0, .int .i64 0] 38)
  have bz := box_below u1w (.cells #[.int .i64 0, .int .i64 0, .int .i64 0, .int .i64 0, .int .i64 0, .int .i64 0, .int .i64 0, .slice none 0 0, .int .i64 0] 38)
  have zR := alloc_len u1w (.cells #[.int .i64 0, .int .i64 0, .int .i64 0, .int .i64 0, .int .i64 0, .int .i64 0, .int .i64 0, .slice none 0 0, .int .i64 0] 38)
  rw [show u1w.heap.size = w.heap.size + 1 from by omega] at R
  replace B := below_step B bz
  replace X := row_keep bz X
  clear bz
  generalize u1w.alloc (.cells #[.int .i64 0, .int .i64 0, .int .i64 0, .int .i64 0, .int .i64 0, .int .i64 0, .int .i64 0, .slice none 0 0, .int .i64 0] 38) = u2w at B X R zR ⊢
  have zRa := Nat.le_of_eq zR
  have zRb := Nat.le_of_eq zR.symm
  clear zR
  obtain ⟨Xc0, Xc1, Xc2, Xc3, Xc4, Xc5, Xc6, Xc7, Xc8⟩ := cells_event X
  have Xlt := (Array.getElem?_eq_some_iff.1 X).1
  go_wp2_with fail
  clear Xc0 Xc1 Xc2 Xc3 Xc4 Xc5 Xc6 Xc7 Xc8 Xlt
  refine (wordsC_rep da x.2.2.2.2.1 dc _ (HS.out _ B) hm).mono ?_
  rintro e u3w ⟨vn, rfl, mm⟩
  obtain ⟨na, nc, rfl⟩ := slown_val mm.1
  have D := owned_made (R := intsR) mm
  have mb := mm.2
  have tu3w : u2w.heap.size ≤ u3w.heap.size := mb.size
  replace B := below_step B mb
  replace X := row_keep mb X
  replace R := row_keep mb R
  clear mb mm
  obtain ⟨Xc0, Xc1, Xc2, Xc3, Xc4, Xc5, Xc6, Xc7, Xc8⟩ := cells_event X
  have Xlt := (Array.getElem?_eq_some_iff.1 X).1
  obtain ⟨Xf0, Xf1, Xf2, Xf3, Xf4, Xf5, Xf6, Xf7, Xf8⟩ := froz_event X
  obtain ⟨Rc0, Rc1, Rc2, Rc3, Rc4, Rc5, Rc6, Rc7, Rc8⟩ := cells_event R
  have Rlt := (Array.getElem?_eq_some_iff.1 R).1
  obtain ⟨Rf0, Rf1, Rf2, Rf3, Rf4, Rf5, Rf6, Rf7, Rf8⟩ := froz_event R
  have HK : Hid _ := And.intro X (And.intro R (And.intro B D))
  clear X R B D
  go_wp2
  clear Xc0 Xc1 Xc2 Xc3 Xc4 Xc5 Xc6 Xc7 Xc8 Xlt Xf0 Xf1 Xf2 Xf3 Xf4 Xf5 Xf6 Xf7 Xf8 Rc0 Rc1 Rc2 Rc3 Rc4 Rc5 Rc6 Rc7 Rc8 Rlt Rf0 Rf1 Rf2 Rf3 Rf4 Rf5 Rf6 Rf7 Rf8
  obtain ⟨X, R, B, D⟩ := HK.out
  have R2 : (u3w.setCell ⟨w.heap.size, 7, none⟩ (.slice na x.2.2.2.2.1.length nc)).heap[w.heap.size + 1]? = some (.cells #[.int .i64 0, .int .i64 0, .int .i64 0, .int .i64 0, .int .i64 0, .int .i64 0, .int .i64 0, .slice none 0 0, .int .i64 0] 38 (0, 0)) := row_otherCs (g := w.heap.size) (o := 7) (vs := [.slice na x.2.2.2.2.1.length nc]) R (by omega)
  obtain ⟨r0, r1, r2, r3, r4, r5, r6, r7, r8⟩ := cells_event (put_event (y0 := .int .i64 x.1) (y1 := .int .i64 x.2.1.1) (y2 := .int .i64 x.2.1.2.1) (y3 := .int .i64 x.2.1.2.2.1) (y4 := .int .i64 x.2.1.2.2.2) (y5 := .int .i64 x.2.2.1) (y6 := .int .i64 x.2.2.2.1) (y7 := .slice na x.2.2.2.2.1.length nc) (y8 := .int .i64 x.2.2.2.2.2) R2)
  have D2 := owned_setCs (g := w.heap.size + 1) (o := 0) (vs := [.int .i64 x.1, .int .i64 x.2.1.1, .int .i64 x.2.1.2.1, .int .i64 x.2.1.2.2.1, .int .i64 x.2.1.2.2.2, .int .i64 x.2.2.1, .int .i64 x.2.2.2.1, .slice na x.2.2.2.2.1.length nc, .int .i64 x.2.2.2.2.2]) (owned_setCs (g := w.heap.size) (o := 7) (vs := [.slice na x.2.2.2.2.1.length nc]) D (by omega)) (by omega)
  refine bodyPost_ret (v := .agg #[.int .i64 x.1, .int .i64 x.2.1.1, .int .i64 x.2.1.2.1, .int .i64 x.2.1.2.2.1, .int .i64 x.2.1.2.2.2, .int .i64 x.2.2.1, .int .i64 x.2.2.2.1, .slice na x.2.2.2.2.1.length nc, .int .i64 x.2.2.2.2.2]) (by simp [results, Try.results14, go_sem, r0, r1, r2, r3, r4, r5, r6, r7, r8]) rfl ⟨na, nc, rfl, own_ev HI.out (intsR.own_mono D2.1 (rng_sub (by omega) D2.2)), below_setCs0 (g := w.heap.size + 1) (o := 0) (vs := [.int .i64 x.1, .int .i64 x.2.1.1, .int .i64 x.2.1.2.1, .int .i64 x.2.1.2.2.1, .int .i64 x.2.1.2.2.2, .int .i64 x.2.2.1, .int .i64 x.2.2.2.1, .slice na x.2.2.2.2.1.length nc, .int .i64 x.2.2.2.2.2]) (below_setCs0 (g := w.heap.size) (o := 7) (vs := [.slice na x.2.2.2.2.1.length nc]) B (by omega)) (by omega)⟩
set_option maxHeartbeats 4000000 in
set_option maxRecDepth 20000 in
theorem implBy_any (a : Option Addr) (xs : List EventD) (cap : Nat) (ag : Int) (w : World) (h : SlRd eventR w a xs) (hm : xs.length ≤ 1048576) (hd : ∀ u ∈ xs, u.2.2.2.2.1.length ≤ 1048576) :
    Calls Try.prog 7 #[.slice a xs.length cap, .int .i64 ag] w fun e w' => ∃ v, e = .returned v ∧ MadeR eventsR w w' [v] (byA ag xs) := by
  have H0 : Hid (∀ W, Below w.heap.size w W → SlRd eventR W a xs) := fun W hb => slrd_next h hb
  have HD : Hid _ := hd
  have MN := made_none (e := 38) (R := eventR) w
  clear h hd
  go_enter Try.func7, Try.ntmps7
  go_wp2
  go_loopw [5, 11] (fun r i wi => ∃ k : Nat, k ≤ xs.length ∧ i = .int .i64 k ∧ ∃ rv, rv = r ∧ MadeR eventsR w wi [rv] (byA ag (xs.take k))) (fun _ i _ => xs.length - (intOf i).toNat)
  case atStart => exact ⟨0, Nat.zero_le _, rfl, _, rfl, MN⟩
  case round =>
    clear MN
    obtain ⟨k, hk, rfl, rv, rfl, M⟩ := hrel
    by_cases hlt : k < xs.length
    · have hlt' : (k : Int) < (xs.length : Int) := by omega
      obtain ⟨u, hx⟩ : ∃ u, xs[k]? = some u := ⟨_, List.getElem?_eq_getElem hlt⟩
      obtain ⟨b, off, cs, rfl, hrdx, hcell⟩ := slrd_at (H0.out _ M.2) hx
      obtain ⟨da, dc, rfl, hi0, hd3⟩ := ev_parts hrdx
      have x0 := hcell 0 _ rfl
      rw [show off + (k * eventR.size + 0) = off + k * 9 from rfl] at x0
      have x1 := hcell 1 _ rfl
      rw [show off + (k * eventR.size + 1) = off + k * 9 + 1 from rfl] at x1
      have x2 := hcell 2 _ rfl
      rw [show off + (k * eventR.size + 2) = off + k * 9 + 2 from rfl] at x2
      have x3 := hcell 3 _ rfl
      rw [show off + (k * eventR.size + 3) = off + k * 9 + 3 from rfl] at x3
      have x4 := hcell 4 _ rfl
      rw [show off + (k * eventR.size + 4) = off + k * 9 + 4 from rfl] at x4
      have x5 := hcell 5 _ rfl
      rw [show off + (k * eventR.size + 5) = off + k * 9 + 5 from rfl] at x5
      have x6 := hcell 6 _ rfl
      rw [show off + (k * eventR.size + 6) = off + k * 9 + 6 from rfl] at x6
      have x7 := hcell 7 _ rfl
      rw [show off + (k * eventR.size + 7) = off + k * 9 + 7 from rfl] at x7
      have x8 := hcell 8 _ rfl
      rw [show off + (k * eventR.size + 8) = off + k * 9 + 8 from rfl] at x8
      have HC := evCopied_any u da dc (wr.alloc (.cells #[.int .i64 u.1, .int .i64 u.2.1.1, .int .i64 u.2.1.2.1, .int .i64 u.2.1.2.2.1, .int .i64 u.2.1.2.2.2, .int .i64 u.2.2.1, .int .i64 u.2.2.2.1, .slice da u.2.2.2.2.1.length dc, .int .i64 u.2.2.2.2.2] 38)) hi0 (slrd_next hd3 (box_below wr (.cells #[.int .i64 u.1, .int .i64 u.2.1.1, .int .i64 u.2.1.2.1, .int .i64 u.2.1.2.2.1, .int .i64 u.2.1.2.2.2, .int .i64 u.2.2.1, .int .i64 u.2.2.2.1, .slice da u.2.2.2.2.1.length dc, .int .i64 u.2.2.2.2.2] 38))) (HD.out u (List.mem_of_getElem? hx))
      have HLN := by_len ag xs k hk
      have HY : Hid (u.1 = ag → byA ag (xs.take k) ++ [u] = byA ag (xs.take (k + 1))) := fun q => by_yes hx q
      have HN : Hid (¬ u.1 = ag → byA ag (xs.take (k + 1)) = byA ag (xs.take k)) := fun q => by_no hx q
      obtain ⟨ti, hi, hz0, hz1, hz2⟩ := info_parts Try.infoEvent
      have HM : Hid _ := M
      have X := heap_at wr (.cells #[.int .i64 u.1, .int .i64 u.2.1.1, .int .i64 u.2.1.2.1, .int .i64 u.2.1.2.2.1, .int .i64 u.2.1.2.2.2, .int .i64 u.2.2.1, .int .i64 u.2.2.2.1, .slice da u.2.2.2.2.1.length dc, .int .i64 u.2.2.2.2.2] 38)
      clear hcell hrdx hd3 hi0 hx M
      go_upto_region 5 with fail
      clear x0 x1 x2 x3 x4 x5 x6 x7 x8
      have BZ := box_below wr (.cells #[.int .i64 u.1, .int .i64 u.2.1.1, .int .i64 u.2.1.2.1, .int .i64 u.2.1.2.2.1, .int .i64 u.2.1.2.2.2, .int .i64 u.2.2.1, .int .i64 u.2.2.2.1, .slice da u.2.2.2.2.1.length dc, .int .i64 u.2.2.2.2.2] 38)
      generalize wr.alloc (.cells #[.int .i64 u.1, .int .i64 u.2.1.1, .int .i64 u.2.1.2.1, .int .i64 u.2.1.2.2.1, .int .i64 u.2.1.2.2.2, .int .i64 u.2.2.1, .int .i64 u.2.2.2.1, .slice da u.2.2.2.2.1.length dc, .int .i64 u.2.2.2.2.2] 38) = wv at HC X BZ ⊢
      obtain ⟨y0, y1, y2, y3, y4, y5, y6, y7, y8⟩ := cells_event X
      have ylt := (Array.getElem?_eq_some_iff.1 X).1
      by_cases ha : u.1 = ag
      · have zha : (u.1 == ag) = true := by simp [ha]
        have HTK : Hid (byA ag (xs.take k) ++ [u] = byA ag (xs.take (k + 1))) := HY.out ha
        clear ha HY HN
        go_wp2_with fail
        clear y0 y1 y2 y3 y4 y5 y6 y7 y8 ylt X zha
        refine HC.mono ?_
        rintro e w9 ⟨na, nc, rfl, mm⟩
        clear HC
        go_wp2_with (at_builtin; refine wpList_pm (w0 := w) (wr := wr) (w1 := w9) rfl _ _ 24 rfl eventR 38 ti (.agg #[.int .i64 0, .int .i64 0, .int .i64 0, .int .i64 0, .int .i64 0, .int .i64 0, .int .i64 0, .slice none 0 0, .int .i64 0]) 88 Try.underlying24 hi hz0 hz1 hz2 rfl (by decide) (by decide) rv (byA ag (xs.take k)) [.int .i64 u.1, .int .i64 u.2.1.1, .int .i64 u.2.1.2.1, .int .i64 u.2.1.2.2.1, .int .i64 u.2.1.2.2.2, .int .i64 u.2.2.1, .int .i64 u.2.2.2.1, .slice na u.2.2.2.2.1.length nc, .int .i64 u.2.2.2.2.2] u 1 rfl _ rfl rfl HM.out (below_step BZ mm.2) (eventR.own_mono mm.1 (rng_sub (by have := BZ.size; omega) (Nat.le_refl _))) ?c1 ?c2 ?c3 ?_)
        case c1 => intro q hq; simp at hq; rcases hq with rfl | rfl | rfl | rfl | rfl | rfl | rfl | rfl | rfl <;> rfl
        case c2 => unfold maxLen; omega
        case c3 => omega
        intro g' cap' w2 NM NC
        rw [HTK.out] at NM
        have HNM : Hid _ := NM
        clear NM NC mm BZ HM
        go_wp2
        go_roundw
        case rel => exact ⟨k + 1, by omega, by go_num, _, rfl, HNM.out⟩
        case measure => simp [intOf]; omega
      · have zha : (u.1 == ag) = false := by simp [ha]
        have HNM : Hid (MadeR eventsR w wv [rv] (byA ag (xs.take (k + 1)))) := by
          unfold Hid
          rw [HN.out ha]
          exact made_on9 HM.out BZ
        clear ha HY HN HM HC BZ
        go_wp2
        go_roundw
        case rel => exact ⟨k + 1, by omega, by go_num, _, rfl, HNM.out⟩
        case measure => simp [intOf]; omega
    · have hkn : k = xs.length := by omega
      subst hkn
      rw [List.take_length] at M
      have HM : Hid _ := M
      clear M
      go_wp2
      go_ret
      exact ⟨_, rfl, HM.out⟩
set_option maxHeartbeats 4000000 in
set_option maxRecDepth 20000 in
theorem specBy_any (a : Option Addr) (xs : List EventD) (cap : Nat) (ag : Int) (w : World) (h : SlRd eventR w a xs) (hm : xs.length ≤ 1048576) (hd : ∀ u ∈ xs, u.2.2.2.2.1.length ≤ 1048576) :
    Calls Try.prog 5 #[.slice a xs.length cap, .int .i64 ag] w fun e w' => ∃ v, e = .returned v ∧ MadeR eventsR w w' [v] (byA ag xs) := by
  have H0 : Hid (∀ W, Below w.heap.size w W → SlRd eventR W a xs) := fun W hb => slrd_next h hb
  have HD : Hid _ := hd
  have MN := made_none (e := 38) (R := eventR) w
  clear h hd
  go_enter Try.func5, Try.ntmps5
  go_wp2
  go_loopw [5, 6] (fun r i wi => ∃ k : Nat, k ≤ xs.length ∧ i = .int .i64 k ∧ ∃ rv, rv = r ∧ MadeR eventsR w wi [rv] (byA ag (xs.take k))) (fun _ i _ => xs.length - (intOf i).toNat)
  case atStart => exact ⟨0, Nat.zero_le _, rfl, _, rfl, MN⟩
  case round =>
    clear MN
    obtain ⟨k, hk, rfl, rv, rfl, M⟩ := hrel
    by_cases hlt : k < xs.length
    · have hlt' : (k : Int) < (xs.length : Int) := by omega
      obtain ⟨u, hx⟩ : ∃ u, xs[k]? = some u := ⟨_, List.getElem?_eq_getElem hlt⟩
      obtain ⟨b, off, cs, rfl, hrdx, hcell⟩ := slrd_at (H0.out _ M.2) hx
      obtain ⟨da, dc, rfl, hi0, hd3⟩ := ev_parts hrdx
      have x0 := hcell 0 _ rfl
      rw [show off + (k * eventR.size + 0) = off + k * 9 from rfl] at x0
      have x1 := hcell 1 _ rfl
      rw [show off + (k * eventR.size + 1) = off + k * 9 + 1 from rfl] at x1
      have x2 := hcell 2 _ rfl
      rw [show off + (k * eventR.size + 2) = off + k * 9 + 2 from rfl] at x2
      have x3 := hcell 3 _ rfl
      rw [show off + (k * eventR.size + 3) = off + k * 9 + 3 from rfl] at x3
      have x4 := hcell 4 _ rfl
      rw [show off + (k * eventR.size + 4) = off + k * 9 + 4 from rfl] at x4
      have x5 := hcell 5 _ rfl
      rw [show off + (k * eventR.size + 5) = off + k * 9 + 5 from rfl] at x5
      have x6 := hcell 6 _ rfl
      rw [show off + (k * eventR.size + 6) = off + k * 9 + 6 from rfl] at x6
      have x7 := hcell 7 _ rfl
      rw [show off + (k * eventR.size + 7) = off + k * 9 + 7 from rfl] at x7
      have x8 := hcell 8 _ rfl
      rw [show off + (k * eventR.size + 8) = off + k * 9 + 8 from rfl] at x8
      have HLN := by_len ag xs k hk
      have HY : Hid (u.1 = ag → byA ag (xs.take k) ++ [u] = byA ag (xs.take (k + 1))) := fun q => by_yes hx q
      have HN : Hid (¬ u.1 = ag → byA ag (xs.take (k + 1)) = byA ag (xs.take k)) := fun q => by_no hx q
      have HDL : Hid _ := HD.out u (List.mem_of_getElem? hx)
      have HDS : Hid (∀ W, Below wr.heap.size wr W → SlRd intR W da u.2.2.2.2.1) := fun W hb => slrd_next hd3 hb
      have HI : Hid _ := hi0
      obtain ⟨ti, hi, hz0, hz1, hz2⟩ := info_parts Try.infoEvent
      have HM : Hid _ := M
      clear hcell hrdx hd3 hi0 hx M
      by_cases ha : u.1 = ag
      · have zha : (u.1 == ag) = true := by simp [ha]
        have HTK : Hid (byA ag (xs.take k) ++ [u] = byA ag (xs.take (k + 1))) := HY.out ha
        clear ha HY HN
        go_upto_region 7 with fail
        clear x0 x1 x2 x3 x4 x5 x6 x7 x8 zha
        have E := heap_at wr (.cells #[.int .i64 u.1, .int .i64 u.2.1.1, .int .i64 u.2.1.2.1, .int .i64 u.2.1.2.2.1, .int .i64 u.2.1.2.2.2, .int .i64 u.2.2.1, .int .i64 u.2.2.2.1, .slice da u.2.2.2.2.1.length dc, .int .i64 u.2.2.2.2.2] 38)
        have BE := box_below wr (.cells #[.int .i64 u.1, .int .i64 u.2.1.1, .int .i64 u.2.1.2.1, .int .i64 u.2.1.2.2.1, .int .i64 u.2.1.2.2.2, .int .i64 u.2.2.1, .int .i64 u.2.2.2.1, .slice da u.2.2.2.2.1.length dc, .int .i64 u.2.2.2.2.2] 38)
        have zE := alloc_len wr (.cells #[.int .i64 u.1, .int .i64 u.2.1.1, .int .i64 u.2.1.2.1, .int .i64 u.2.1.2.2.1, .int .i64 u.2.1.2.2.2, .int .i64 u.2.2.1, .int .i64 u.2.2.2.1, .slice da u.2.2.2.2.1.length dc, .int .i64 u.2.2.2.2.2] 38)
        generalize wr.alloc (.cells #[.int .i64 u.1, .int .i64 u.2.1.1, .int .i64 u.2.1.2.1, .int .i64 u.2.1.2.2.1, .int .i64 u.2.1.2.2.2, .int .i64 u.2.2.1, .int .i64 u.2.2.2.1, .slice da u.2.2.2.2.1.length dc, .int .i64 u.2.2.2.2.2] 38) = u4w at BE E zE ⊢
        have zEa := Nat.le_of_eq zE
        have zEb := Nat.le_of_eq zE.symm
        clear zE
        obtain ⟨y0, y1, y2, y3, y4, y5, y6, y7, y8⟩ := cells_event E
        have ylt := (Array.getElem?_eq_some_iff.1 E).1
        go_wp2_with fail
        clear y0 y1 y2 y3 y4 y5 y6 y7 y8 ylt
        refine (l1Copy_rep da u.2.2.2.2.1 dc _ (HDS.out _ BE) HDL.out).mono ?_
        rintro e u5w ⟨vn, rfl, mm⟩
        obtain ⟨na, nc, rfl⟩ := slown_val mm.1
        have D := owned_made (R := intsR) mm
        have B5 := below_step BE mm.2
        have tu5w : u4w.heap.size ≤ u5w.heap.size := mm.2.size
        replace E := row_keep mm.2 E
        clear mm BE HDS HDL
        obtain ⟨y0, y1, y2, y3, y4, y5, y6, y7, y8⟩ := cells_event E
        have ylt := (Array.getElem?_eq_some_iff.1 E).1
        obtain ⟨f0, f1, f2, f3, f4, f5, f6, f7, f8⟩ := froz_event E
        go_upto_region 8 with fail
        clear y0 y1 y2 y3 y4 y5 y6 y7 y8 ylt f0 f1 f2 f3 f4 f5 f6 f7 f8
        rw [show (u5w.setCell ⟨wr.heap.size, 7, none⟩ (.slice na u.2.2.2.2.1.length nc)) = (setCs u5w (wr.heap.size) 7 [.slice na u.2.2.2.2.1.length nc]) from rfl]
        replace D := owned_setCs (g := wr.heap.size) (o := 7) (vs := [.slice na u.2.2.2.2.1.length nc]) D (by omega)
        replace B5 := below_setCs0 (g := wr.heap.size) (o := 7) (vs := [.slice na u.2.2.2.2.1.length nc]) B5 (by omega)
        replace E : (setCs u5w (wr.heap.size) 7 [.slice na u.2.2.2.2.1.length nc]).heap[wr.heap.size]? = some (.cells #[.int .i64 u.1, .int .i64 u.2.1.1, .int .i64 u.2.1.2.1, .int .i64 u.2.1.2.2.1, .int .i64 u.2.1.2.2.2, .int .i64 u.2.2.1, .int .i64 u.2.2.2.1, .slice na u.2.2.2.2.1.length nc, .int .i64 u.2.2.2.2.2] 38 (0, 0)) := row_setCs _ _ E
        have tu6w := Nat.le_of_eq (setCs_size (g := wr.heap.size) [.slice na u.2.2.2.2.1.length nc] 7 u5w)
        have qu6w := Nat.le_of_eq (setCs_size (g := wr.heap.size) [.slice na u.2.2.2.2.1.length nc] 7 u5w).symm
        generalize (setCs u5w (wr.heap.size) 7 [.slice na u.2.2.2.2.1.length nc]) = u6w at B5 E D tu6w qu6w ⊢
        obtain ⟨y0, y1, y2, y3, y4, y5, y6, y7, y8⟩ := cells_event E
        have ylt := (Array.getElem?_eq_some_iff.1 E).1
        go_wp2_with (at_builtin; refine wpList_pm (w0 := w) (wr := wr) (w1 := u6w) rfl _ _ 24 rfl eventR 38 ti (.agg #[.int .i64 0, .int .i64 0, .int .i64 0, .int .i64 0, .int .i64 0, .int .i64 0, .int .i64 0, .slice none 0 0, .int .i64 0]) 88 Try.underlying24 hi hz0 hz1 hz2 rfl (by decide) (by decide) rv (byA ag (xs.take k)) [.int .i64 u.1, .int .i64 u.2.1.1, .int .i64 u.2.1.2.1, .int .i64 u.2.1.2.2.1, .int .i64 u.2.1.2.2.2, .int .i64 u.2.2.1, .int .i64 u.2.2.2.1, .slice na u.2.2.2.2.1.length nc, .int .i64 u.2.2.2.2.2] u 1 rfl _ rfl rfl HM.out B5 (own_ev HI.out (intsR.own_mono D.1 (rng_sub (by omega) D.2))) ?c1 ?c2 ?c3 ?_)
        case c1 => intro q hq; simp at hq; rcases hq with rfl | rfl | rfl | rfl | rfl | rfl | rfl | rfl | rfl <;> rfl
        case c2 => unfold maxLen; omega
        case c3 => omega
        intro g' cap' w2 NM NC
        rw [HTK.out] at NM
        have HNM : Hid _ := NM
        clear NM NC D E B5 HM y0 y1 y2 y3 y4 y5 y6 y7 y8 ylt
        go_wp2
        go_roundw
        case rel => exact ⟨k + 1, by omega, by go_num, _, rfl, HNM.out⟩
        case measure => simp [intOf]; omega
      · have zha : (u.1 == ag) = false := by simp [ha]
        have HNM : Hid (MadeR eventsR w wr [rv] (byA ag (xs.take (k + 1)))) := by
          unfold Hid
          rw [HN.out ha]
          exact HM.out
        clear ha HY HN HM HDS HDL HI
        go_wp2
        go_roundw
        case rel => exact ⟨k + 1, by omega, by go_num, _, rfl, HNM.out⟩
        case measure => simp [intOf]; omega
    · have hkn : k = xs.length := by omega
      subst hkn
      rw [List.take_length] at M
      have HM : Hid _ := M
      clear M
      go_wp2
      go_ret
      exact ⟨_, rfl, HM.out⟩
end Go.Proofs.Ytpfgggjcaogkkaa
