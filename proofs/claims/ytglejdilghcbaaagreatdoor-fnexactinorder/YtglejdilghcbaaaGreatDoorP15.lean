import Derived.Test.YtglejdilghcbaaaGreatDoorP00Box
import Derived.Test.YtglejdilghcbaaaGreatDoorP14
namespace Go.Proofs.YtglejdilghcbaaaGreatDoor
set_option maxHeartbeats 4000000
set_option maxRecDepth 20000
open Go.ChangeShapes Go.WideShapes Go.ChangeAt Go.RowKit
set_option linter.unusedVariables false
set_option linter.unusedSimpArgs false
def EvI (x : EventD) : Prop := In64 x.1 ∧ In4 x.2.1 ∧ In64 x.2.2.1 ∧ In64 x.2.2.2.1 ∧ In64 x.2.2.2.2.2
theorem ev_parts {w : World} {cs : List Value} {x : EventD} (h : eventR.rd w cs x) : ∃ (da : Option Addr) (dc : Nat), cs = [nI x.1, nI x.2.1.1, nI x.2.1.2.1, nI x.2.1.2.2.1, nI x.2.1.2.2.2, nI x.2.2.1, nI x.2.2.2.1, sL da x.2.2.2.2.1.length dc, nI x.2.2.2.2.2] ∧ EvI x ∧ SlRd intR w da x.2.2.2.2.1 := by
 obtain ⟨v1, v2, v3, v4, v7, rfl, g, l, m, c, d, j⟩ := event_rd h;obtain ⟨a, f⟩ := op_rd l;simp only [List.cons.injEq, and_true] at a;obtain ⟨rfl, rfl, rfl, rfl⟩ := a;obtain ⟨i, k, b, -, -, q⟩ := d;simp only [List.cons.injEq, and_true] at b;obtain rfl := b;exact ⟨i, k, rfl, ⟨g, f, m, c, j⟩, q⟩
theorem own_ev {w : World} {S : Foot} {x : EventD} {v : Value} (i : EvI x) (h : intsR.own w S [v] x.2.2.2.2.1) : eventR.own w S [nI x.1, nI x.2.1.1, nI x.2.1.2.1, nI x.2.1.2.2.1, nI x.2.1.2.2.2, nI x.2.2.1, nI x.2.2.2.1, v, nI x.2.2.2.2.2] x :=
 own_event (S1 := fun _ => False) i.1 i.2.2.1 i.2.2.2.1 i.2.2.2.2 (own_op i.2.1) h (fun _ h => h.elim) (fun _ h => h) (fun _ h => h.elim)
theorem made_on9 {α : Type} {R : Rep α} {w w1 w2 : World} {cs : List Value} {u : α} (h : MadeR R w w1 cs u) (hb : Below w1.heap.size w1 w2) : MadeR R w w2 cs u :=
 ⟨R.own_mono (own_next h.1 hb) (rng_sub (Nat.le_refl _) hb.size), below_step h.2 hb⟩
def byA (a : Int) (xs : List EventD) : List EventD := xs.filter fun u => decide (u.1 = a)
theorem by_yes {a : Int} {xs : List EventD} {k : Nat} {u : EventD} (hx : xs[k]? = some u) (h : u.1 = a) : byA a (xs.take k) ++ [u] = byA a (xs.take (k + 1)) := by
 unfold byA;rw [List.take_add_one, hx, List.filter_append];simp [h]
theorem by_no {a : Int} {xs : List EventD} {k : Nat} {u : EventD} (hx : xs[k]? = some u) (h : ¬ u.1 = a) : byA a (xs.take (k + 1)) = byA a (xs.take k) := by
 unfold byA;rw [List.take_add_one, hx, List.filter_append];simp [h]
theorem by_len (a : Int) (xs : List EventD) (k : Nat) (h : k ≤ xs.length) : (byA a (xs.take k)).length ≤ k := by
 have := List.length_filter_le (fun u : EventD => decide (u.1 = a)) (xs.take k);rw [List.length_take] at this;unfold byA;omega
theorem evCopied_any (x : EventD) (da : Option Addr) (dc : Nat) (w : World) (i : EvI x) (h : SlRd intR w da x.2.2.2.2.1) (hm : x.2.2.2.2.1.length ≤ 1048576) :
    Calls Tryz.prog 111 #[.agg #[nI x.1, nI x.2.1.1, nI x.2.1.2.1, nI x.2.1.2.2.1, nI x.2.1.2.2.2, nI x.2.2.1, nI x.2.2.2.1, sL da x.2.2.2.2.1.length dc, nI x.2.2.2.2.2]] w fun e w' => ∃ b a, e = .returned (.agg #[nI x.1, nI x.2.1.1, nI x.2.1.2.1, nI x.2.1.2.2.1, nI x.2.1.2.2.2, nI x.2.2.1, nI x.2.2.2.1, sL b x.2.2.2.2.1.length a, nI x.2.2.2.2.2]) ∧ MadeR eventR w w' [nI x.1, nI x.2.1.1, nI x.2.1.2.1, nI x.2.1.2.2.1, nI x.2.1.2.2.2, nI x.2.2.1, nI x.2.2.2.1, sL b x.2.2.2.2.1.length a, nI x.2.2.2.2.2] x := by
 have J : Hid (∀ W, Below w.heap.size w W → SlRd intR W da x.2.2.2.2.1) := fun W hb => slrd_next h hb;have K : Hid _ := i;clear h i;have B := Below.refl w.heap.size w;go_enter Tryz.func111, Tryz.ntmps111;go_upto_region 1 with fail
 have X := heap_at w (.cells #[nI x.1, nI x.2.1.1, nI x.2.1.2.1, nI x.2.1.2.2.1, nI x.2.1.2.2.2, nI x.2.2.1, nI x.2.2.2.1, sL da x.2.2.2.2.1.length dc, nI x.2.2.2.2.2] 71);have c := box_below w (.cells #[nI x.1, nI x.2.1.1, nI x.2.1.2.1, nI x.2.1.2.2.1, nI x.2.1.2.2.2, nI x.2.2.1, nI x.2.2.2.1, sL da x.2.2.2.2.1.length dc, nI x.2.2.2.2.2] 71);have k := alloc_len w (.cells #[nI x.1, nI x.2.1.1, nI x.2.1.2.1, nI x.2.1.2.2.1, nI x.2.1.2.2.2, nI x.2.2.1, nI x.2.2.2.1, sL da x.2.2.2.2.1.length dc, nI x.2.2.2.2.2] 71);replace B := below_step B c;clear c;generalize w.alloc (.cells #[nI x.1, nI x.2.1.1, nI x.2.1.2.1, nI x.2.1.2.2.1, nI x.2.1.2.2.2, nI x.2.2.1, nI x.2.2.2.1, sL da x.2.2.2.2.1.length dc, nI x.2.2.2.2.2] 71) = u1w at B X k ⊢;have M := lE k;have q := lE k.symm;clear k;have R := heap_at u1w (.cells #[nI 0, nI 0, nI 0, nI 0, nI 0, nI 0, nI 0, sL none 0 0, nI 0] 71);have c := box_below u1w (.cells #[nI 0, nI 0, nI 0, nI 0, nI 0, nI 0, nI 0, sL none 0 0, nI 0] 71);have l := alloc_len u1w (.cells #[nI 0, nI 0, nI 0, nI 0, nI 0, nI 0, nI 0, sL none 0 0, nI 0] 71);rw [show u1w.heap.size = w.heap.size + 1 from by omega] at R;replace B := below_step B c;replace X := row_keep c X;clear c;generalize u1w.alloc (.cells #[nI 0, nI 0, nI 0, nI 0, nI 0, nI 0, nI 0, sL none 0 0, nI 0] 71) = u2w at B X R l ⊢;have I := lE l;have p := lE l.symm;clear l;obtain ⟨Xc0, Xc1, Xc2, Xc3, Xc4, Xc5, Xc6, Xc7, Xc8⟩ := cells_event X;have Xlt := (ltH X);go_wp2_with fail
 clear Xc0 Xc1 Xc2 Xc3 Xc4 Xc5 Xc6 Xc7 Xc8 Xlt;refine (wordsC_rep da x.2.2.2.2.1 dc _ (J.out _ B) hm).mono ?_;rintro e f ⟨vn, rfl, j⟩;obtain ⟨b, a, rfl⟩ := slown_val j.1;have D := owned_made (R := intsR) j;have d := j.2;have m : u2w.heap.size ≤ f.heap.size := d.size;replace B := below_step B d;replace X := row_keep d X;replace R := row_keep d R;clear d j;obtain ⟨Xc0, Xc1, Xc2, Xc3, Xc4, Xc5, Xc6, Xc7, Xc8⟩ := cells_event X;have Xlt := (ltH X);obtain ⟨Xf0, Xf1, Xf2, Xf3, Xf4, Xf5, Xf6, Xf7, Xf8⟩ := froz_event X;obtain ⟨Rc0, Rc1, Rc2, Rc3, Rc4, Rc5, Rc6, Rc7, Rc8⟩ := cells_event R;have Rlt := (ltH R);obtain ⟨Rf0, Rf1, Rf2, Rf3, Rf4, Rf5, Rf6, Rf7, Rf8⟩ := froz_event R;have s : Hid _ := aI X (aI R (aI B D));clear X R B D;go_wp2;clear Xc0 Xc1 Xc2 Xc3 Xc4 Xc5 Xc6 Xc7 Xc8 Xlt Xf0 Xf1 Xf2 Xf3 Xf4 Xf5 Xf6 Xf7 Xf8 Rc0 Rc1 Rc2 Rc3 Rc4 Rc5 Rc6 Rc7 Rc8 Rlt Rf0 Rf1 Rf2 Rf3 Rf4 Rf5 Rf6 Rf7 Rf8;obtain ⟨X, R, B, D⟩ := s.out;have F : (f.setCell ⟨w.heap.size, 7, none⟩ (sL b x.2.2.2.2.1.length a)).heap[w.heap.size + 1]? = some (.cells #[nI 0, nI 0, nI 0, nI 0, nI 0, nI 0, nI 0, sL none 0 0, nI 0] 71 (0, 0)) := row_otherCs (g := w.heap.size) (o := 7) (vs := [sL b x.2.2.2.2.1.length a]) R (by omega);obtain ⟨A, E, z, C, r, y, L, G, H⟩ := cells_event (put_event (y0 := nI x.1) (y1 := nI x.2.1.1) (y2 := nI x.2.1.2.1) (y3 := nI x.2.1.2.2.1) (y4 := nI x.2.1.2.2.2) (y5 := nI x.2.2.1) (y6 := nI x.2.2.2.1) (y7 := sL b x.2.2.2.2.1.length a) (y8 := nI x.2.2.2.2.2) F);have n := owned_setCs (g := w.heap.size + 1) (o := 0) (vs := [nI x.1, nI x.2.1.1, nI x.2.1.2.1, nI x.2.1.2.2.1, nI x.2.1.2.2.2, nI x.2.2.1, nI x.2.2.2.1, sL b x.2.2.2.2.1.length a, nI x.2.2.2.2.2]) (owned_setCs (g := w.heap.size) (o := 7) (vs := [sL b x.2.2.2.2.1.length a]) D (by omega)) (by omega);refine bodyPost_ret (v := .agg #[nI x.1, nI x.2.1.1, nI x.2.1.2.1, nI x.2.1.2.2.1, nI x.2.1.2.2.2, nI x.2.2.1, nI x.2.2.2.1, sL b x.2.2.2.2.1.length a, nI x.2.2.2.2.2]) (by simp [results, Tryz.results111, go_sem, A, E, z, C, r, y, L, G, H]) rfl ⟨b, a, rfl, own_ev K.out (intsR.own_mono n.1 (rng_sub (by omega) n.2)), below_setCs0 (g := w.heap.size + 1) (o := 0) (vs := [nI x.1, nI x.2.1.1, nI x.2.1.2.1, nI x.2.1.2.2.1, nI x.2.1.2.2.2, nI x.2.2.1, nI x.2.2.2.1, sL b x.2.2.2.2.1.length a, nI x.2.2.2.2.2]) (below_setCs0 (g := w.heap.size) (o := 7) (vs := [sL b x.2.2.2.2.1.length a]) B (by omega)) (by omega)⟩
theorem implBy_any (a : Option Addr) (xs : List EventD) (cap : Nat) (ag : Int) (w : World) (h : SlRd eventR w a xs) (hm : xs.length ≤ 1048576) (hd : ∀ u ∈ xs, u.2.2.2.2.1.length ≤ 1048576) :
    Calls Tryz.prog 60 #[sL a xs.length cap, nI ag] w fun e w' => ∃ v, e = .returned v ∧ MadeR eventsR w w' [v] (byA ag xs) := by
 have H0 : Hid (∀ W, Below w.heap.size w W → SlRd eventR W a xs) := fun W hb => slrd_next h hb;have Y : Hid _ := hd;have T := made_none (e := 71) (R := eventR) w;clear h hd;go_enter Tryz.func60, Tryz.ntmps60;go_wp2;go_loopw [5, 11] (fun r i wi => ∃ k : Nat, k ≤ xs.length ∧ i = nI k ∧ ∃ s, s = r ∧ MadeR eventsR w wi [s] (byA ag (xs.take k))) (fun _ i _ => xs.length - (intOf i).toNat)
 case atStart => exact ⟨0, Nat.zero_le _, rfl, _, rfl, T⟩
 case round =>
  clear T;obtain ⟨k, hk, rfl, s, rfl, M⟩ := hrel;by_cases E : k < xs.length
  ·have O : (k : Int) < (xs.length : Int) := by omega
   obtain ⟨u, p⟩ : ∃ u, xs[k]? = some u := ⟨_, List.getElem?_eq_getElem E⟩;obtain ⟨b, nA, cs, rfl, d, c⟩ := slrd_at (H0.out _ M.2) p;obtain ⟨l, g, rfl, y, z⟩ := ev_parts d;obtain ⟨x0, x1, x2, x3, x4, x5, x6, x7, x8⟩ := cellsAt9 c rfl;have A := evCopied_any u l g (wr.alloc (.cells #[nI u.1, nI u.2.1.1, nI u.2.1.2.1, nI u.2.1.2.2.1, nI u.2.1.2.2.2, nI u.2.2.1, nI u.2.2.2.1, sL l u.2.2.2.2.1.length g, nI u.2.2.2.2.2] 71)) y (slrd_next z (box_below wr (.cells #[nI u.1, nI u.2.1.1, nI u.2.1.2.1, nI u.2.1.2.2.1, nI u.2.1.2.2.2, nI u.2.2.1, nI u.2.2.2.1, sL l u.2.2.2.2.1.length g, nI u.2.2.2.2.2] 71))) (Y.out u (List.mem_of_getElem? p));have jA := by_len ag xs k hk;have H : Hid (u.1 = ag → byA ag (xs.take k) ++ [u] = byA ag (xs.take (k + 1))) := fun q => by_yes p q;have J : Hid (¬ u.1 = ag → byA ag (xs.take (k + 1)) = byA ag (xs.take k)) := fun q => by_no p q;obtain ⟨ti, hi, L, G, B⟩ := info_parts Tryz.infoEvent;have j : Hid _ := M;have X := heap_at wr (.cells #[nI u.1, nI u.2.1.1, nI u.2.1.2.1, nI u.2.1.2.2.1, nI u.2.1.2.2.2, nI u.2.2.1, nI u.2.2.2.1, sL l u.2.2.2.2.1.length g, nI u.2.2.2.2.2] 71);clear c d z y p M;go_upto_region 5 with fail
   clear x0 x1 x2 x3 x4 x5 x6 x7 x8;have n := box_below wr (.cells #[nI u.1, nI u.2.1.1, nI u.2.1.2.1, nI u.2.1.2.2.1, nI u.2.1.2.2.2, nI u.2.2.1, nI u.2.2.2.1, sL l u.2.2.2.2.1.length g, nI u.2.2.2.2.2] 71);generalize wr.alloc (.cells #[nI u.1, nI u.2.1.1, nI u.2.1.2.1, nI u.2.1.2.2.1, nI u.2.1.2.2.2, nI u.2.2.1, nI u.2.2.2.1, sL l u.2.2.2.2.1.length g, nI u.2.2.2.2.2] 71) = wv at A X n ⊢;obtain ⟨y0, U, y2, y3, y4, y5, y6, y7, V⟩ := cells_event X;have I := (ltH X);by_cases m : u.1 = ag
   ·have o : (u.1 == ag) = true := by simp [m]
    have D : Hid (byA ag (xs.take k) ++ [u] = byA ag (xs.take (k + 1))) := H.out m;clear m H J;go_wp2_with fail
    clear y0 U y2 y3 y4 y5 y6 y7 V I X o;refine A.mono ?_;rintro e w9 ⟨na, Z, rfl, F⟩;clear A;go_wp2_with (at_builtin; refine wpList_pm (w0 := w) (wr := wr) (w1 := w9) rfl _ _ 47 rfl eventR 71 ti (.agg #[nI 0, nI 0, nI 0, nI 0, nI 0, nI 0, nI 0, sL none 0 0, nI 0]) 88 Tryz.underlying47 hi L G B rfl (by decide) (by decide) s (byA ag (xs.take k)) [nI u.1, nI u.2.1.1, nI u.2.1.2.1, nI u.2.1.2.2.1, nI u.2.1.2.2.2, nI u.2.2.1, nI u.2.2.2.1, sL na u.2.2.2.2.1.length Z, nI u.2.2.2.2.2] u 1 rfl _ rfl rfl j.out (below_step n F.2) (eventR.own_mono F.1 (rng_sub (by have := n.size; omega) (Nat.le_refl _))) ?c1 ?c2 ?c3 ?_)
    case c1 => intro q N; simp at N; rcases N with rfl | rfl | rfl | rfl | rfl | rfl | rfl | rfl | rfl <;> rfl
    case c2 => unfold maxLen; omega
    case c3 => omega
    intro g' S w2 C NC;rw [D.out] at C;have f : Hid _ := C;clear C NC F n j;go_wp2;go_roundw
    case rel => exact ⟨k + 1, by omega, by go_num, _, rfl, f.out⟩
    case measure => simp [intOf]; omega
   ·have o : (u.1 == ag) = false := by simp [m]
    have f : Hid (MadeR eventsR w wv [s] (byA ag (xs.take (k + 1)))) := by
     unfold Hid;rw [J.out m];exact made_on9 j.out n
    clear m H J j A n;go_wp2;go_roundw
    case rel => exact ⟨k + 1, by omega, by go_num, _, rfl, f.out⟩
    case measure => simp [intOf]; omega
  ·have K : k = xs.length := by omega
   subst K;rw [List.take_length] at M;have j : Hid _ := M;clear M;go_wp2;go_ret
   exact ⟨_, rfl, j.out⟩
theorem specBy_any (a : Option Addr) (xs : List EventD) (cap : Nat) (ag : Int) (w : World) (h : SlRd eventR w a xs) (hm : xs.length ≤ 1048576) (hd : ∀ u ∈ xs, u.2.2.2.2.1.length ≤ 1048576) :
    Calls Tryz.prog 15 #[sL a xs.length cap, nI ag] w fun e w' => ∃ v, e = .returned v ∧ MadeR eventsR w w' [v] (byA ag xs) := by
 have H0 : Hid (∀ W, Below w.heap.size w W → SlRd eventR W a xs) := fun W hb => slrd_next h hb;have HD : Hid _ := hd;have MN := made_none (e := 71) (R := eventR) w;clear h hd;go_enter Tryz.func15, Tryz.ntmps15;go_wp2;go_loopw [5, 6] (fun r i wi => ∃ k : Nat, k ≤ xs.length ∧ i = nI k ∧ ∃ J, J = r ∧ MadeR eventsR w wi [J] (byA ag (xs.take k))) (fun _ i _ => xs.length - (intOf i).toNat)
 case atStart => exact ⟨0, Nat.zero_le _, rfl, _, rfl, MN⟩
 case round =>
  clear MN;obtain ⟨k, hk, rfl, J, rfl, M⟩ := hrel;by_cases lA : k < xs.length
  ·have nA : (k : Int) < (xs.length : Int) := by omega
   obtain ⟨u, Z⟩ : ∃ u, xs[k]? = some u := ⟨_, List.getElem?_eq_getElem lA⟩;obtain ⟨b, CA, cs, rfl, m, d⟩ := slrd_at (H0.out _ M.2) Z;obtain ⟨A, X, rfl, K, V⟩ := ev_parts m;obtain ⟨x0, x1, x2, x3, x4, x5, x6, x7, x8⟩ := cellsAt9 d rfl;have JA := by_len ag xs k hk;have HY : Hid (u.1 = ag → byA ag (xs.take k) ++ [u] = byA ag (xs.take (k + 1))) := fun q => by_yes Z q;have HN : Hid (¬ u.1 = ag → byA ag (xs.take (k + 1)) = byA ag (xs.take k)) := fun q => by_no Z q;have p : Hid _ := HD.out u (List.mem_of_getElem? Z);have s : Hid (∀ W, Below wr.heap.size wr W → SlRd intR W A u.2.2.2.2.1) := fun W hb => slrd_next V hb;have HI : Hid _ := K;obtain ⟨ti, hi, mA, eA, iA⟩ := info_parts Tryz.infoEvent;have z : Hid _ := M;clear d m V K Z M;by_cases y : u.1 = ag
   ·have G : (u.1 == ag) = true := by simp [y]
    have dA : Hid (byA ag (xs.take k) ++ [u] = byA ag (xs.take (k + 1))) := HY.out y;clear y HY HN;go_upto_region 7 with fail
    clear x0 x1 x2 x3 x4 x5 x6 x7 x8 G;have E := heap_at wr (.cells #[nI u.1, nI u.2.1.1, nI u.2.1.2.1, nI u.2.1.2.2.1, nI u.2.1.2.2.2, nI u.2.2.1, nI u.2.2.2.1, sL A u.2.2.2.2.1.length X, nI u.2.2.2.2.2] 71);have BE := box_below wr (.cells #[nI u.1, nI u.2.1.1, nI u.2.1.2.1, nI u.2.1.2.2.1, nI u.2.1.2.2.2, nI u.2.2.1, nI u.2.2.2.1, sL A u.2.2.2.2.1.length X, nI u.2.2.2.2.2] 71);have zE := alloc_len wr (.cells #[nI u.1, nI u.2.1.1, nI u.2.1.2.1, nI u.2.1.2.2.1, nI u.2.1.2.2.2, nI u.2.2.1, nI u.2.2.2.1, sL A u.2.2.2.2.1.length X, nI u.2.2.2.2.2] 71);generalize wr.alloc (.cells #[nI u.1, nI u.2.1.1, nI u.2.1.2.1, nI u.2.1.2.2.1, nI u.2.1.2.2.2, nI u.2.2.1, nI u.2.2.2.1, sL A u.2.2.2.2.1.length X, nI u.2.2.2.2.2] 71) = u4w at BE E zE ⊢;have bB := lE zE;have YA := lE zE.symm;clear zE;obtain ⟨L, C, Y, S, H, U, O, N, F⟩ := cells_event E;have f := (ltH E);go_wp2_with fail
    clear L C Y S H U O N F f;refine (l1Copy_rep A u.2.2.2.2.1 X _ (s.out _ BE) p.out).mono ?_;rintro e c ⟨vn, rfl, B⟩;obtain ⟨j, l, rfl⟩ := slown_val B.1;have D := owned_made (R := intsR) B;have B5 := below_step BE B.2;have oA : u4w.heap.size ≤ c.heap.size := B.2.size;replace E := row_keep B.2 E;clear B BE s p;obtain ⟨L, C, Y, S, H, U, O, N, F⟩ := cells_event E;have f := (ltH E);obtain ⟨f0, f1, f2, f3, f4, f5, f6, f7, f8⟩ := froz_event E;go_upto_region 8 with fail
    clear L C Y S H U O N F f f0 f1 f2 f3 f4 f5 f6 f7 f8;rw [show (c.setCell ⟨wr.heap.size, 7, none⟩ (sL j u.2.2.2.2.1.length l)) = (setCs c (wr.heap.size) 7 [sL j u.2.2.2.2.1.length l]) from rfl];replace D := owned_setCs (g := wr.heap.size) (o := 7) (vs := [sL j u.2.2.2.2.1.length l]) D (by omega);replace B5 := below_setCs0 (g := wr.heap.size) (o := 7) (vs := [sL j u.2.2.2.2.1.length l]) B5 (by omega);replace E : (setCs c (wr.heap.size) 7 [sL j u.2.2.2.2.1.length l]).heap[wr.heap.size]? = some (.cells #[nI u.1, nI u.2.1.1, nI u.2.1.2.1, nI u.2.1.2.2.1, nI u.2.1.2.2.2, nI u.2.2.1, nI u.2.2.2.1, sL j u.2.2.2.2.1.length l, nI u.2.2.2.2.2] 71 (0, 0)) := row_setCs _ _ E;have T := lE (setCs_size (g := wr.heap.size) [sL j u.2.2.2.2.1.length l] 7 c);have I := lE (setCs_size (g := wr.heap.size) [sL j u.2.2.2.2.1.length l] 7 c).symm;generalize (setCs c (wr.heap.size) 7 [sL j u.2.2.2.2.1.length l]) = u6w at B5 E D T I ⊢;obtain ⟨L, C, Y, S, H, U, O, N, F⟩ := cells_event E;have f := (ltH E);go_wp2_with (at_builtin; refine wpList_pm (w0 := w) (wr := wr) (w1 := u6w) rfl _ _ 47 rfl eventR 71 ti (.agg #[nI 0, nI 0, nI 0, nI 0, nI 0, nI 0, nI 0, sL none 0 0, nI 0]) 88 Tryz.underlying47 hi mA eA iA rfl (by decide) (by decide) J (byA ag (xs.take k)) [nI u.1, nI u.2.1.1, nI u.2.1.2.1, nI u.2.1.2.2.1, nI u.2.1.2.2.2, nI u.2.2.1, nI u.2.2.2.1, sL j u.2.2.2.2.1.length l, nI u.2.2.2.2.2] u 1 rfl _ rfl rfl z.out B5 (own_ev HI.out (intsR.own_mono D.1 (rng_sub (by omega) D.2))) ?c1 ?c2 ?c3 ?_)
    case c1 => intro q hq; simp at hq; rcases hq with rfl | rfl | rfl | rfl | rfl | rfl | rfl | rfl | rfl <;> rfl
    case c2 => unfold maxLen; omega
    case c3 => omega
    intro g' pA w2 NM NC;rw [dA.out] at NM;have n : Hid _ := NM;clear NM NC D E B5 z L C Y S H U O N F f;go_wp2;go_roundw
    case rel => exact ⟨k + 1, by omega, by go_num, _, rfl, n.out⟩
    case measure => simp [intOf]; omega
   ·have G : (u.1 == ag) = false := by simp [y]
    have n : Hid (MadeR eventsR w wr [J] (byA ag (xs.take (k + 1)))) := by
     unfold Hid;rw [HN.out y];exact z.out
    clear y HY HN z s p HI;go_wp2;go_roundw
    case rel => exact ⟨k + 1, by omega, by go_num, _, rfl, n.out⟩
    case measure => simp [intOf]; omega
  ·have kA : k = xs.length := by omega
   subst kA;rw [List.take_length] at M;have z : Hid _ := M;clear M;go_wp2;go_ret
   exact ⟨_, rfl, z.out⟩
theorem linesOk_any (k : Int) (w : World) : Calls Tryz.prog 129 #[nI k] w fun e a => e = .returned (.bool (betw k 1 16)) ∧ a = w := by
 go_enter Tryz.func129, Tryz.ntmps129;go_wp2_with (go_at_call 127; refine (between_any _ _ _ _).mono ?_; rintro e a ⟨rfl, rfl⟩)
 go_ret
 exact ⟨rfl, rfl⟩
def codeI (c s y l : Int) : Int := if betw c 1 4 then (if powB s then (if powB y then (if betw l 1 16 then 0 else 4) else 3) else 2) else 1
theorem specCode_any (c s y l : Int) (w : World) :
    Calls Tryz.prog 37 #[.agg #[nI c, nI s, nI y, nI l]] w fun e a => e = .returned (nI (codeI c s y l)) ∧ Bl w a := by
 have B := (Below.refl w.heap.size w).alloc (Nat.le_refl _);unfold codeI;cases h1 : betw c 1 4 <;> cases h2 : powB s <;> cases h3 : powB y <;> cases h4 : betw l 1 16
 all_goals
  go_enter Tryz.func37, Tryz.ntmps37
  go_wp2_with (first
   | (go_at_call 74; refine (l1In_any _ _ _ _).mono ?_; rintro e a ⟨rfl, rfl⟩)
   | (go_at_call 75; refine (l2Pow_any _ _).mono ?_; rintro e a ⟨rfl, rfl⟩))
  go_ret
  exact ⟨rfl, B _⟩
theorem firstWrong_any (c s y l : Int) (w : World) :
    Calls Tryz.prog 94 #[.agg #[nI c, nI s, nI y, nI l], nI 1] w fun e a => e = .returned (nI (codeI c s y l)) ∧ Bl w a := by
 have B := (Below.refl w.heap.size w).alloc (Nat.le_refl _);unfold codeI;cases h1 : betw c 1 4 <;> cases h2 : powB s <;> cases h3 : powB y <;> cases h4 : betw l 1 16
 all_goals
  go_enter Tryz.func94, Tryz.ntmps94
  go_wp2_with (first
   | (go_at_call 127; refine (between_any _ _ _ _).mono ?_; rintro e a ⟨rfl, rfl⟩)
   | (go_at_call 129; refine (linesOk_any _ _).mono ?_; rintro e a ⟨rfl, rfl⟩)
   | (go_at_call 128; refine (sizeOk_any _ _).mono ?_; rintro e a ⟨rfl, rfl⟩))
  go_ret
  exact ⟨rfl, B _⟩
theorem implCode_any (c s y l : Int) (w : World) :
    Calls Tryz.prog 53 #[.agg #[nI c, nI s, nI y, nI l]] w fun e a => e = .returned (nI (codeI c s y l)) ∧ Bl w a := by
 have B := (Below.refl w.heap.size w).alloc (Nat.le_refl _);go_enter Tryz.func53, Tryz.ntmps53;go_wp2_with (go_at_call 94; refine (firstWrong_any _ _ _ _ _).mono ?_; rintro e a ⟨rfl, b⟩)
 go_ret
 exact ⟨rfl, below_step (B _) b⟩
theorem code_zero {c s y l : Int} (h : codeI c s y l = 0) : (1 ≤ l ∧ l ≤ 16) ∧ (s = 1 ∨ s = 2 ∨ s = 4) := by
 unfold codeI at h;cases f : betw c 1 4 <;> cases b : powB s <;> cases d : powB y <;> cases a : betw l 1 16 <;> simp [f, b, d, a] at h
 simp [betw] at a
 simp [powB] at b
 exact ⟨a, b⟩
def lineB (c s y l k : Int) : Bool := decide (codeI c s y l = 0 ∧ 0 ≤ k ∧ k < l)
def addrB (c s y l k : Int) : Bool := decide (codeI c s y l = 0 ∧ 0 ≤ k ∧ k < 2 * l)
theorem box_cell {w w1 : World} {cs : Array Value} {t : TypeId} (h : Below (w.alloc (.cells cs t)).heap.size (w.alloc (.cells cs t)) w1) (j : Nat) : w1.cell? ⟨w.heap.size, j, none⟩ = cs[j]? := by
 rw [h.cell (by simp), cell_of_row (w.alloc (.cells cs t)) w.heap.size j cs t (0, 0) (heap_alloc_new w _)]
theorem hasLine_any (c s y l k : Int) (w : World) :
    Calls Tryz.prog 158 #[.agg #[nI c, nI s, nI y, nI l], nI k] w fun e g => e = .returned (.bool (lineB c s y l k)) ∧ Bl w g := by
 have B := (Below.refl w.heap.size w).alloc (Nat.le_refl _);by_cases a : codeI c s y l = 0
 ·obtain ⟨hl, j⟩ := code_zero a;have f : (codeI c s y l == 0) = true := by simp [a]
  have d : Hid (lineB c s y l k = betw k 0 (l - 1)) := by
   unfold Hid lineB betw;simp only [a, true_and];rw [Bool.eq_iff_iff];simp
   omega
  clear a j;go_enter Tryz.func158, Tryz.ntmps158;go_wp2_with fail
  refine (implCode_any _ _ _ _ _).mono ?_;rintro e m ⟨rfl, b⟩;have i := (box_cell b 3);simp only [List.getElem?_toArray, List.getElem?_cons_succ, List.getElem?_cons_zero] at i;go_wp2_with (go_at_call 127; refine (between_any _ _ _ _).mono ?_; rintro e g ⟨rfl, rfl⟩)
  go_ret
  exact ⟨ret_bool d.out.symm, below_step (B _) b⟩
 ·have f : (codeI c s y l == 0) = false := by simp [a]
  have d : Hid (lineB c s y l k = false) := by
   unfold Hid lineB;simp [a]
  clear a;go_enter Tryz.func158, Tryz.ntmps158;go_wp2_with (go_at_call 53; refine (implCode_any _ _ _ _ _).mono ?_; rintro e m ⟨rfl, b⟩)
  go_ret
  exact ⟨ret_bool d.out.symm, below_step (B _) b⟩
theorem lineB_eq {c s y l a : Int} (h : codeI c s y l = 0) : lineB c s y l a = betw a 0 (l - 1) := by
 unfold lineB betw;simp only [h, true_and];rw [Bool.eq_iff_iff];simp
 omega
theorem l2Addr_any (c s y l a : Int) (w : World) (hl : 1 ≤ l ∧ l ≤ 16) :
    Calls Tryz.prog 86 #[.agg #[nI c, nI s, nI y, nI l], nI a] w fun e w' => e = .returned (.bool (betw a 0 (2 * l - 1))) ∧ Bl w w' := by
 have B := (Below.refl w.heap.size w).alloc (Nat.le_refl _);by_cases h1 : 0 ≤ a
 ·by_cases h2 : a < 2 * l
  all_goals
   go_enter Tryz.func86, Tryz.ntmps86;go_wp2;go_ret
   exact ⟨ret_bool (by unfold betw; rw [Bool.eq_iff_iff]; simp; omega), B _⟩
 ·go_enter Tryz.func86, Tryz.ntmps86;go_wp2;go_ret
  exact ⟨ret_bool (by unfold betw; rw [Bool.eq_iff_iff]; simp; omega), B _⟩
theorem addrB_half (c s y l a : Int) (h : 0 ≤ a) : lineB c s y l (a / 2) = addrB c s y l a := by
 unfold addrB lineB;rw [Bool.eq_iff_iff];simp
 intro _;omega
theorem addrB_neg (c s y l a : Int) (h : ¬ 0 ≤ a) : addrB c s y l a = false := by
 unfold addrB;simp
 omega
theorem hasAddr_any (c s y l a : Int) (w : World) (hw : 0 ≤ a → wrap64 (a.tdiv 2) = a / 2) :
    Calls Tryz.prog 220 #[.agg #[nI c, nI s, nI y, nI l], nI a] w fun e w' => e = .returned (.bool (addrB c s y l a)) ∧ Bl w w' := by
 have B := (Below.refl w.heap.size w).alloc (Nat.le_refl _);by_cases b : 0 ≤ a
 ·have H := addrB_half c s y l a b;have d : Hid _ := H;have f := hw b;clear H hw;go_enter Tryz.func220, Tryz.ntmps220;go_wp2_with (go_at_call 158; refine (hasLine_any _ _ _ _ _ _).mono ?_; rintro e w1 ⟨rfl, g⟩)
  go_ret
  exact ⟨ret_bool d.out, below_step (B _) g⟩
 ·have d : Hid _ := addrB_neg c s y l a b;clear hw;go_enter Tryz.func220, Tryz.ntmps220;go_wp2;go_ret
  exact ⟨ret_bool d.out.symm, B _⟩
end Go.Proofs.YtglejdilghcbaaaGreatDoor
