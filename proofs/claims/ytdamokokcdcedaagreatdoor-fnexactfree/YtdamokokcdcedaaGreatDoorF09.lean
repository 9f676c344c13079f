import Derived.Test.YtdamokokcdcedaaGreatDoorF00Box
import Derived.Test.YtdamokokcdcedaaGreatDoorF08
namespace Go.Proofs.YtdamokokcdcedaaGreatDoor
set_option maxHeartbeats 2000000
open Go.ChangeShapes Go.WideShapes Go.ChangeAt Go.RowKit
set_option linter.unusedVariables false
theorem msg_shape {w : World} {cs : List Value} {x : MsgD} (h : msgR.rd w cs x) : ∃ (ga : Option Addr) (gc : Nat), cs = [nI x.1, nI x.2.1, nI x.2.2.1, nI x.2.2.2.1, nI x.2.2.2.2.1, sL ga x.2.2.2.2.2.1.length gc, nI x.2.2.2.2.2.2] := by
 obtain ⟨a, b, e, -⟩ := msg_rd h;exact ⟨a, b, e⟩
open Go.RowKit
abbrev WayD := Int × Int × List Int
abbrev CacheD := List (List WayD) × List Int
def emptyW : WayD := (-1, 0, [])
def clearB (u : WayD) : Bool := decide (u.1 = -1 ∧ u.2.1 = 0 ∧ u.2.2 = [])
def pow3 (n : Nat) : Prop := n = 1 ∨ n = 2 ∨ n = 4
section
variable (ln : List Int → Bool) (tok : Int → Int → Bool) (tou : Int → Int → Int → Int) (vic : Int → Int → Int)
def fullB (u : WayD) : Bool := decide ((0 ≤ u.1 ∧ u.1 ≤ 15) ∧ (1 ≤ u.2.1 ∧ u.2.1 ≤ 3) ∧ ln u.2.2 = true)
def RowOk (n s : Nat) (row : List WayD) : Prop :=
 (∀ (i : Nat) (u : WayD), row[i]? = some u → clearB u = true ∨ (fullB ln u = true ∧ u.1 % (n : Int) = s)) ∧
 ∀ (i k : Nat) (u x : WayD), row[i]? = some u → row[k]? = some x → 0 ≤ u.1 → u.1 = x.1 → i = k
def OkC (c : CacheD) : Prop :=
 pow3 c.1.length ∧ c.2.length = c.1.length ∧ ∃ m, pow3 m ∧ ∀ (s : Nat) (row : List WayD), c.1[s]? = some row → row.length = m ∧ (∃ t, c.2[s]? = some t ∧ tok t m = true) ∧ RowOk ln c.1.length s row
def setNo (c : CacheD) (line : Int) : Nat := (line % (c.1.length : Int)).toNat
def rowFor (c : CacheD) (line : Int) : List WayD := c.1.getD (setNo c line) []
def atC (c : CacheD) (line : Int) : Option Nat := if line < 0 then none else (rowFor c line).findIdx? fun u => u.1 == line
open Classical in
noncomputable def okB (c : CacheD) : Bool := decide (OkC ln tok c)
end
section
variable {ln : List Int → Bool} {tok : Int → Int → Bool} {tou : Int → Int → Int → Int} {vic : Int → Int → Int}
theorem okB_iff {c : CacheD} : okB ln tok c = true ↔ OkC ln tok c := by simp [okB]
theorem clear_eq {u : WayD} (h : clearB u = true) : u = emptyW := by
 simp [clearB] at h
 obtain ⟨a, b, d⟩ := u;simp at h
 simp [emptyW, h]
theorem full_line {u : WayD} (h : fullB ln u = true) : 0 ≤ u.1 ∧ u.1 ≤ 15 := by
 simp [fullB] at h
 exact h.1
theorem pow3_pos {n : Nat} (h : pow3 n) : 0 < n := by rcases h with h | h | h <;> omega
theorem setNo_lt {c : CacheD} {line : Int} (h : pow3 c.1.length) : setNo c line < c.1.length := by
 have := pow3_pos h;have h1 := Int.emod_nonneg line (show (c.1.length : Int) ≠ 0 by omega);have h2 := Int.emod_lt_of_pos line (show (0 : Int) < c.1.length by omega);unfold setNo;omega
theorem setNo_cast {c : CacheD} {line : Int} (h : pow3 c.1.length) : ((setNo c line : Nat) : Int) = line % (c.1.length : Int) := by
 have := pow3_pos h;have h1 := Int.emod_nonneg line (show (c.1.length : Int) ≠ 0 by omega);unfold setNo;omega
theorem rowFor_get {c : CacheD} {line : Int} (h : pow3 c.1.length) : c.1[setNo c line]? = some (rowFor c line) := by
 have := setNo_lt (line := line) h;unfold rowFor;rw [List.getD_eq_getElem?_getD, List.getElem?_eq_getElem this];rfl
theorem idx_some {p : WayD → Bool} {row : List WayD} {i : Nat} (h : row.findIdx? p = some i) : ∃ u, row[i]? = some u ∧ p u = true := by
 rw [List.findIdx?_eq_some_iff_getElem] at h;obtain ⟨a, b, _⟩ := h;exact ⟨row[i], List.getElem?_eq_getElem a, b⟩
theorem at_some {c : CacheD} {line : Int} {i : Nat} (h : atC c line = some i) : 0 ≤ line ∧ ∃ u, (rowFor c line)[i]? = some u ∧ u.1 = line := by
 unfold atC at h;split at h
 ·cases h
 ·obtain ⟨u, b, d⟩ := idx_some h;exact ⟨by omega, u, b, by simpa using d⟩
end
abbrev DescD := Bool × Int × Int × List Int
abbrev descR : Rep DescD := prodR boolR (prodR intR (prodR intR intsR))
abbrev descM : Mk DescD := prodM boolM (prodM intM (prodM intM intsM))
abbrev descsR : Rep (List DescD) := slR 187 descR
abbrev descsM : Mk (List DescD) := slM descM
theorem opens_desc : Opens Tryz.prog 184 descR :=
 opens_struct Tryz.underlying184 (by kernel_rfl) (opensF_cons rfl (by kernel_rfl) (opens_bool Tryz.underlying4) (opensF_cons rfl (by kernel_rfl) opens_i64 (opensF_cons rfl (by kernel_rfl) opens_i64 (opensF_one rfl (by kernel_rfl) opens_ints))))
theorem opens_descs : Opens Tryz.prog 29 descsR := opens_slice Tryz.underlying29 (by kernel_rfl) (by decide) opens_desc
theorem desc_rd {w : World} {cs : List Value} {u : DescD} (h : descR.rd w cs u) :
    ∃ a b, cs = [.bool u.1, nI u.2.1, nI u.2.2.1, sL a u.2.2.2.length b] ∧ In64 u.2.1 ∧ In64 u.2.2.1 ∧ u.2.2.2.length ≤ b ∧ b ≤ maxLen ∧ SlRd intR w a u.2.2.2 := by
 obtain ⟨c0, e0, rfl, rfl, c1, e1, rfl, ⟨rfl, g⟩, c2, e2, rfl, ⟨rfl, d⟩, ⟨a, b, rfl, i, f, c⟩⟩ := h;exact ⟨a, b, rfl, g, d, i, f, c⟩
theorem own_desc {w : World} {S : Foot} {f1 f2 : Int} {f0 : Bool} {d : List Int} {v : Value} (i1 : In64 f1) (i2 : In64 f2) (h : intsR.own w S [v] d) : descR.own w S [.bool f0, nI f1, nI f2, v] (f0, f1, f2, d) :=
 ⟨[_], [_, _, _], fun _ => False, S, rfl, rfl, ⟨[_], [_, _], fun _ => False, S, rfl, ⟨rfl, i1⟩, ⟨[_], [_], fun _ => False, S, rfl, ⟨rfl, i2⟩, h, fun _ h => h.elim, Sub.refl _, fun _ h _ => h⟩, fun _ h => h.elim, Sub.refl _, fun _ h _ => h⟩, fun _ h => h.elim, Sub.refl _, fun _ h _ => h⟩
theorem bk_desc (u : DescD) : descM.bk u = intsM.bk u.2.2.2 := by
 show 0 + (0 + (0 + (intsM.bk u.2.2.2))) = _
 omega
theorem cells_4 {w : World} {g : Nat} {x0 x1 x2 x3 : Value} {t : TypeId} (h : w.heap[g]? = some (.cells #[x0, x1, x2, x3] t (0, 0))) :
    w.cell? ⟨g, 0, none⟩ = some x0 ∧ w.cell? ⟨g, 1, none⟩ = some x1 ∧ w.cell? ⟨g, 2, none⟩ = some x2 ∧ w.cell? ⟨g, 3, none⟩ = some x3 :=
 ⟨by rw [cell_of_row w g 0 _ t (0, 0) h]; rfl, by rw [cell_of_row w g 1 _ t (0, 0) h]; rfl, by rw [cell_of_row w g 2 _ t (0, 0) h]; rfl, by rw [cell_of_row w g 3 _ t (0, 0) h]; rfl⟩
theorem froz_4 {w : World} {g : Nat} {cs : Array Value} {t : TypeId} (h : w.heap[g]? = some (.cells cs t (0, 0))) : w.frozen? ⟨g, 0, none⟩ = false ∧ w.frozen? ⟨g, 1, none⟩ = false ∧ w.frozen? ⟨g, 2, none⟩ = false ∧ w.frozen? ⟨g, 3, none⟩ = false :=
 ⟨frozen_of_row w g 0 _ t h, frozen_of_row w g 1 _ t h, frozen_of_row w g 2 _ t h, frozen_of_row w g 3 _ t h⟩
theorem put_4 {w : World} {g : Nat} {x0 y0 x1 y1 x2 y2 x3 y3 : Value} {t : TypeId} (h : w.heap[g]? = some (.cells #[x0, x1, x2, x3] t (0, 0))) :
    ((((w.setCell ⟨g, 0, none⟩ y0).setCell ⟨g, 1, none⟩ y1).setCell ⟨g, 2, none⟩ y2).setCell ⟨g, 3, none⟩ y3).heap[g]? = some (.cells #[y0, y1, y2, y3] t (0, 0)) := by
 have d : (w.setCell ⟨g, 0, none⟩ y0).heap[g]? = some (.cells #[y0, x1, x2, x3] t (0, 0)) := heap_setCell_same _ g 0 _ t y0 h;have a : ((w.setCell ⟨g, 0, none⟩ y0).setCell ⟨g, 1, none⟩ y1).heap[g]? = some (.cells #[y0, y1, x2, x3] t (0, 0)) := heap_setCell_same _ g 1 _ t y1 d;have b : (((w.setCell ⟨g, 0, none⟩ y0).setCell ⟨g, 1, none⟩ y1).setCell ⟨g, 2, none⟩ y2).heap[g]? = some (.cells #[y0, y1, y2, x3] t (0, 0)) := heap_setCell_same _ g 2 _ t y2 a;have c : ((((w.setCell ⟨g, 0, none⟩ y0).setCell ⟨g, 1, none⟩ y1).setCell ⟨g, 2, none⟩ y2).setCell ⟨g, 3, none⟩ y3).heap[g]? = some (.cells #[y0, y1, y2, y3] t (0, 0)) := heap_setCell_same _ g 3 _ t y3 b;exact c
theorem szDesc_rep (f1 f2 : Int) (f0 : Bool) (d : List Int) (a : Option Addr) (cap : Nat) (left : Int) (w : World) (h0 : 0 ≤ left) (h1 : left ≤ 1048576) (hm : d.length ≤ maxLen) :
    Calls Tryz.prog 125 #[.agg #[.bool f0, nI f1, nI f2, sL a d.length cap], nI left] w fun e c => e = .returned (nI (szI (descM.bk (f0, f1, f2, d)) left)) ∧ Bl w c := by
 rw [bk_desc];show Calls Tryz.prog 125 _ w fun e c => e = .returned (nI (szI (intsM.bk d) left)) ∧ Bl w c
 by_cases f : (intsM.bk d : Int) ≤ left
 ·have b : Hid (szI (intsM.bk d) left = _) := szI_yes f;have g : ¬ (left - (intsM.bk d : Int) < 0) := by omega
  go_enter Tryz.func125, Tryz.ntmps125;go_wp2_with (go_at_call 120; refine (szInt64S_rep _ d _ _ _ h0 h1 hm).mono ?_; rintro e c ⟨rfl, rfl⟩; rw [b.out])
  go_ret
  exact ⟨ret_int b.out.symm, box_below w _⟩
 ·have b : Hid (szI (intsM.bk d) left = _) := szI_no f;go_enter Tryz.func125, Tryz.ntmps125;go_wp2_with (go_at_call 120; refine (szInt64S_rep _ d _ _ _ h0 h1 hm).mono ?_; rintro e c ⟨rfl, rfl⟩; rw [b.out])
  go_ret
  exact ⟨ret_int b.out.symm, box_below w _⟩
theorem szDescS_rep (a : Option Addr) (xs : List DescD) (cap : Nat) (left : Int) (w : World) (h : SlRd descR w a xs) (h0 : 0 ≤ left) (h1 : left ≤ 1048576) (hm : xs.length ≤ maxLen) :
    Calls Tryz.prog 63 #[sL a xs.length cap, nI left] w fun e s => e = .returned (nI (szI ((slM descM).bk xs) left)) ∧ Bl w s := by
 have K : xs.length ≤ 9223372036854775807 := hm;have j : (slM descM).bk xs = xs.length + sumbk descM xs := rfl;clear hm;by_cases hl : (xs.length : Int) ≤ left
 ·have y : ¬ (left - (xs.length : Int) < 0) := by omega
  have D : Hid _ := j;have L : Hid (SlRd descR w a xs) := h;clear j h;go_enter Tryz.func63, Tryz.ntmps63;go_wp2;go_loopw [1, 5] (fun q i wr => ∃ k : Nat, k ≤ xs.length ∧ i = nI k ∧ (sumbk descM (xs.take k) : Int) + xs.length ≤ left ∧ q = nI (left - (xs.length : Int) - sumbk descM (xs.take k)) ∧ Bl w wr) (fun _ i _ => xs.length - (intOf i).toNat)
  case atStart => exact ⟨0, Nat.zero_le _, rfl, by simp [sumbk]; omega, by simp [sumbk], Below.refl _ _⟩
  case round =>
   obtain ⟨k, H, rfl, I, rfl, g⟩ := hrel;by_cases C : k < xs.length
   ·have J : (k : Int) < (xs.length : Int) := by omega
    obtain ⟨x, o⟩ : ∃ x, xs[k]? = some x := ⟨_, List.getElem?_eq_getElem C⟩;have E := slrd_keep L.out fun k H => g.block k H;obtain ⟨b, d, cs, rfl, f, c⟩ := slrd_at E o;obtain ⟨ad, V, rfl, -, -, n, l, A⟩ := desc_rd f;have O := c 0 _ rfl;have U := c 1 _ rfl;have N := c 2 _ rfl;have R := c 3 _ rfl;rw [show d + (k * descR.size + 0) = d + k * 4 from rfl] at O;rw [show d + (k * descR.size + 1) = d + k * 4 + 1 from rfl] at U;rw [show d + (k * descR.size + 2) = d + k * 4 + 2 from rfl] at N;rw [show d + (k * descR.size + 3) = d + k * 4 + 3 from rfl] at R;have F : Hid (x.2.2.2.length ≤ maxLen) := Nat.le_trans n l;clear c f n l A;have p : Hid _ := sumbk_step (M := descM) o;have r := sumbk_get (M := descM) o;clear o E;generalize sumbk descM (xs.take k) = T at I p r ⊢;by_cases G : (((descM).bk x : Nat) : Int) ≤ left - (xs.length : Int) - (T : Int)
    ·have S : ¬ (left - (xs.length : Int) - (T : Int) - (((descM).bk x : Nat) : Int) < 0) := by omega
     have v : Hid (szI ((descM).bk x) (left - (xs.length : Int) - (T : Int)) = _) := szI_yes G;go_wp2_with (go_at_call 125; refine (szDesc_rep x.2.1 x.2.2.1 x.1 x.2.2.2 _ _ _ _ (by omega) (by omega) F.out).mono ?_; rintro e s ⟨rfl, m⟩; replace g := below_step g m; clear m; rw [v.out])
     go_roundw
     case rel => exact ⟨k + 1, by omega, by go_num, by have := p.out; omega, by rw [p.out]; go_num, g⟩
     case measure => simp [intOf]; omega
    ·have v : Hid (szI ((descM).bk x) (left - (xs.length : Int) - (T : Int)) = _) := szI_no G;have z : Hid (szI ((slM descM).bk xs) left = -1) := by unfold Hid; rw [D.out]; exact szI_no (by omega)
     go_wp2_with (go_at_call 125; refine (szDesc_rep x.2.1 x.2.2.1 x.1 x.2.2.2 _ _ _ _ (by omega) (by omega) F.out).mono ?_; rintro e s ⟨rfl, m⟩; replace g := below_step g m; clear m; rw [v.out])
     go_ret
     exact ⟨ret_int z.out.symm, g⟩
   ·have B : k = xs.length := by omega
    subst B;rw [List.take_length] at I ⊢;have z : Hid (szI ((slM descM).bk xs) left = left - (xs.length : Int) - (sumbk descM xs : Int)) := by unfold Hid; rw [D.out, szI_yes (by omega)]; omega
    go_wp2;go_ret
    exact ⟨ret_int z.out.symm, g⟩
 ·have y : left - (xs.length : Int) < 0 := by omega
  rw [szI_no (by omega)];clear j h;go_enter Tryz.func63, Tryz.ntmps63;go_wp2;go_ret
  exact ⟨rfl, Below.refl _ _⟩
theorem toDesc_rep (f1 f2 : Int) (f0 : Bool) (d : List Int) (a : Option Addr) (cap : Nat) (w : World) (i1 : In64 f1) (i2 : In64 f2) (h : SlRd intR w a d) (hm : intsM.bk d ≤ 1048576) :
    Calls Tryz.prog 143 #[.agg #[.bool f0, nI f1, nI f2, sL a d.length cap]] w fun e w' => ∃ j l, e = .returned (.agg #[.bool f0, nI f1, nI f2, sL j d.length l]) ∧ MadeR descR w w' [.bool f0, nI f1, nI f2, sL j d.length l] (f0, f1, f2, d) := by
 have H : Hid (∀ W, Bl w W → SlRd intR W a d) := fun W hb => slrd_keep h fun k hk => hb.block k hk;clear h;go_enter Tryz.func143, Tryz.ntmps143;go_wp2_with fail
 have p : Bl w (((w.alloc (.cells #[.bool f0, nI f1, nI f2, sL a d.length cap] 184)).alloc (.cells #[.bool false, nI 0, nI 0, sL none 0 0] 187)).alloc (.cells #[.bool f0, nI f1, nI f2, sL none 0 0] 187)) := (((Below.refl _ w).alloc (Nat.le_refl _) _).alloc (by simp) _).alloc (by simp; omega) _;have b := heap_on (.cells #[.bool f0, nI f1, nI f2, sL none 0 0] 187) (heap_at (w.alloc (.cells #[.bool f0, nI f1, nI f2, sL a d.length cap] 184)) (.cells #[.bool false, nI 0, nI 0, sL none 0 0] 187));have c := heap_at ((w.alloc (.cells #[.bool f0, nI f1, nI f2, sL a d.length cap] 184)).alloc (.cells #[.bool false, nI 0, nI 0, sL none 0 0] 187)) (.cells #[.bool f0, nI f1, nI f2, sL none 0 0] 187);have r : (((w.alloc (.cells #[.bool f0, nI f1, nI f2, sL a d.length cap] 184)).alloc (.cells #[.bool false, nI 0, nI 0, sL none 0 0] 187)).alloc (.cells #[.bool f0, nI f1, nI f2, sL none 0 0] 187)).heap.size = w.heap.size + 1 + 1 + 1 := by simp
 have m := heap_on (.cells #[.bool f0, nI f1, nI f2, sL none 0 0] 187) (heap_on (.cells #[.bool false, nI 0, nI 0, sL none 0 0] 187) (heap_at w (.cells #[.bool f0, nI f1, nI f2, sL a d.length cap] 184)));rw [alloc_len] at b;rw [alloc_len, alloc_len] at c;generalize ((w.alloc (.cells #[.bool f0, nI f1, nI f2, sL a d.length cap] 184)).alloc (.cells #[.bool false, nI 0, nI 0, sL none 0 0] 187)).alloc (.cells #[.bool f0, nI f1, nI f2, sL none 0 0] 187) = W0 at p m b c r ⊢;refine (toInt64S_rep _ d _ _ (H.out _ p) hm).mono ?_;rintro e w1 ⟨v, rfl, n⟩;obtain ⟨j, l, rfl⟩ := slown_val n.1;have f := n.2;have i := n.1;have z := below_step p f;replace m := row_keep f m;replace b := row_keep f b;replace c := row_keep f c;obtain ⟨q0, q1, q2, q3⟩ := cells_4 m;obtain ⟨y0, y1, y2, y3⟩ := cells_4 c;obtain ⟨D, F, G, B⟩ := froz_4 c;obtain ⟨z0, z1, z2, z3⟩ := cells_4 b;obtain ⟨g0, g1, g2, g3⟩ := froz_4 b;have E : Hid _ := aI b c;have q : Hid _ := i;clear m b c i n H;go_wp2;obtain ⟨b, c⟩ := E.out;have I := put_4 (y0 := .bool f0) (y1 := nI f1) (y2 := nI f2) (y3 := sL j d.length l) (heap_setC (g := w.heap.size + 1 + 1) (o := 3) (v := sL j d.length l) b (by omega));obtain ⟨s, A, C, y⟩ := cells_4 I;refine bodyPost_ret (v := .agg #[.bool f0, nI f1, nI f2, sL j d.length l]) (by simp [results, Tryz.results143, go_sem, s, A, C, y]) rfl ⟨j, l, rfl, own_desc i1 i2 ?_, ?_⟩
 ·refine intsR.own_mono (own_setC (own_setC (own_setC (own_setC (own_setC (q.out) (fun h => by have := h.1; omega)) (fun h => by have := h.1; omega)) (fun h => by have := h.1; omega)) (fun h => by have := h.1; omega)) (fun h => by have := h.1; omega)) ?_;exact rng_sub (by omega) (by simp)
 ·exact below_setC (below_setC (below_setC (below_setC (below_setC (z) (by omega)) (by omega)) (by omega)) (by omega)) (by omega)
theorem Tryz.infoDesc : (Tryz.prog.info? 187).map (fun i => (i.zero, i.size, i.bytes)) = some (some (.agg #[.bool false, nI 0, nI 0, sL none 0 0]), 4, 48) := by kernel_rfl
theorem toDescS_rep (a : Option Addr) (xs : List DescD) (cap : Nat) (w : World) (h : SlRd descR w a xs) (hm : descsM.bk xs ≤ 1048576) :
    Calls Tryz.prog 80 #[sL a xs.length cap] w fun e w' => ∃ v, e = .returned v ∧ MadeR descsR w w' [v] xs := by
 have y : descsM.bk xs = xs.length + sumbk descM xs := rfl;have U : xs.length ≤ 1048576 := by omega
 have T : Hid (sumbk descM xs ≤ 1048576) := by unfold Hid; omega
 have V : Hid (SlRd descR w a xs) := h;clear y hm h;have D := run_make_wide (P := Tryz.prog) 43 187 (.agg #[.bool false, nI 0, nI 0, sL none 0 0]) 4 48 Tryz.underlying43 Tryz.infoDesc xs.length (by omega) (by omega);go_enter Tryz.func80, Tryz.ntmps80;go_wp2;go_loopw [4] (fun i wr => ∃ k : Nat, k ≤ xs.length ∧ i = nI k ∧ Fill 187 descR w wr xs.length (xs.take k)) (fun i _ => xs.length - (intOf i).toNat)
 case atStart => exact ⟨0, Nat.zero_le _, rfl, by simpa using fillR_start (e := 187) (R := descR) (w0 := w) (n := xs.length) (cs := madeCells #[.bool false, nI 0, nI 0, sL none 0 0] (xs.length * 4)) (by unfold maxLen; omega) (by rw [size_madeCells]; rfl)⟩
 case round =>
  obtain ⟨k, hk, rfl, j⟩ := hrel;by_cases p : k < xs.length
  ·have O : (k : Int) < (xs.length : Int) := by omega
   obtain ⟨x, q⟩ : ∃ x, xs[k]? = some x := ⟨_, List.getElem?_eq_getElem p⟩;obtain ⟨b, f, cs, rfl, g, d⟩ := slrd_at (slrd_next V.out (fill_below j)) q;obtain ⟨Y, bA, rfl, S, H, A, z, o⟩ := desc_rd g;have J := d 0 _ rfl;have L := d 1 _ rfl;have I := d 2 _ rfl;have K := d 3 _ rfl;rw [show f + (k * descR.size + 0) = f + k * 4 from rfl] at J;rw [show f + (k * descR.size + 1) = f + k * 4 + 1 from rfl] at L;rw [show f + (k * descR.size + 2) = f + k * 4 + 2 from rfl] at I;rw [show f + (k * descR.size + 3) = f + k * 4 + 3 from rfl] at K;have Z : Hid (intsM.bk x.2.2.2 ≤ 1048576) := by unfold Hid; have := sumbk_ge descM xs q; rw [bk_desc] at this; have := T.out; omega
   have HR : Hid (SlRd intR wr Y x.2.2.2) := o;have M : Hid _ := aI S H;have G : Hid (∀ w1 c, MadeR descR wr w1 c x → _) := fun w1 c hm => fillR_step (w1 := w1) (c := c) j (by simp; omega) p hm;have X : Hid (xs.take k ++ [x] = xs.take (k + 1)) := by unfold Hid; rw [List.take_add_one, q]; rfl
   clear q g d D j A z o S H;go_wp2_with fail
   refine (toDesc_rep x.2.1 x.2.2.1 x.1 x.2.2.2 _ _ _ M.out.1 M.out.2 HR.out Z.out).mono ?_;rintro e w1 ⟨av, cv, rfl, N⟩;obtain ⟨l, m, F⟩ := G.out _ _ N;obtain ⟨v0, s⟩ := l 0 (by decide);obtain ⟨v1, C⟩ := l 1 (by decide);obtain ⟨v2, B⟩ := l 2 (by decide);obtain ⟨v3, r⟩ := l 3 (by decide);have z0 := m (k * 4);have z1 := m (k * 4 + 1);have z2 := m (k * 4 + 2);have z3 := m (k * 4 + 3);rw [show k * descR.size + 0 = k * 4 from rfl] at s;rw [show k * descR.size + 1 = k * 4 + 1 from rfl] at C;rw [show k * descR.size + 2 = k * 4 + 2 from rfl] at B;rw [show k * descR.size + 3 = k * 4 + 3 from rfl] at r;rw [X.out] at F;have HF : Hid _ := F;clear F N l m G J L I K;go_wp2;go_roundw
   case rel => exact ⟨k + 1, by omega, by go_num, HF.out⟩
   case measure => simp [intOf]; omega
  ·have E : k = xs.length := by omega
   subst E;rw [List.take_length] at j;have FE := fillR_end j rfl;clear j;go_wp2;go_ret
   exact ⟨_, rfl, FE⟩
theorem eqDesc_rep (f1 f2 : Int) (f0 : Bool) (d : List Int) (a1 a2 : Option Addr) (c1 c2 : Nat) (w : World) (h1 : SlRd intR w a1 d) (h2 : SlRd intR w a2 d) (hm : intsM.bk d ≤ 1152921504606846976) :
    Calls Tryz.prog 167 #[.agg #[.bool f0, nI f1, nI f2, sL a1 d.length c1], .agg #[.bool f0, nI f1, nI f2, sL a2 d.length c2]] w fun e b => e = .returned (.bool true) ∧ Bl w b := by
 have a : Hid (∀ o o', Bl w ((w.alloc o).alloc o')) := fun o o' => below_step (box_below w o) (box_below _ o');have f : Hid (∀ W, Bl w W → SlRd intR W a1 d) := fun W hb => slrd_keep h1 fun k hk => hb.block k hk;have c : Hid (∀ W, Bl w W → SlRd intR W a2 d) := fun W hb => slrd_keep h2 fun k hk => hb.block k hk;clear h1 h2;go_enter Tryz.func167, Tryz.ntmps167;go_wp2_with fail
 refine (eqInt64S_rep a1 a2 d c1 c2 _ (f.out _ (a.out _ _)) (c.out _ (a.out _ _)) hm).mono ?_;rintro e b ⟨rfl, n, rfl⟩;go_wp2;go_ret
 exact ⟨rfl, be_drewN (a.out _ _) n⟩
theorem eqDescS_rep (a1 a2 : Option Addr) (xs : List DescD) (c1 c2 : Nat) (w : World) (h1 : SlRd descR w a1 xs) (h2 : SlRd descR w a2 xs) (hm : (slM descM).bk xs ≤ 1152921504606846976) :
    Calls Tryz.prog 101 #[sL a1 xs.length c1, sL a2 xs.length c2] w fun e w' => e = .returned (.bool true) ∧ Bl w w' := by
 have T : (slM descM).bk xs = xs.length + sumbk descM xs := rfl;have bA : xs.length ≤ 1152921504606846976 := by omega
 have HB : Hid (sumbk descM xs ≤ 1152921504606846976) := by unfold Hid; omega
 have H1 : Hid (∀ W, Bl w W → SlRd descR W a1 xs) := fun W hb => slrd_keep h1 fun k R => hb.block k R;have H2 : Hid (∀ W, Bl w W → SlRd descR W a2 xs) := fun W hb => slrd_keep h2 fun k R => hb.block k R;clear T hm h1 h2;go_enter Tryz.func101, Tryz.ntmps101;go_wp2;go_loopw [5] (fun i wr => ∃ k : Nat, k ≤ xs.length ∧ i = nI k ∧ Bl w wr) (fun i _ => xs.length - (intOf i).toNat)
 case atStart => exact ⟨0, Nat.zero_le _, rfl, Below.refl _ _⟩
 case round =>
  obtain ⟨k, R, rfl, y⟩ := hrel;by_cases V : k < xs.length
  ·have Y : (k : Int) < (xs.length : Int) := by omega
   obtain ⟨x, O⟩ : ∃ x, xs[k]? = some x := ⟨_, List.getElem?_eq_getElem V⟩;have HX : Hid ((descM).bk x ≤ 1152921504606846976) := by unfold Hid; have := sumbk_ge descM xs O; have := HB.out; omega
   obtain ⟨N, b, Z, rfl, s, c⟩ := slrd_at (H1.out _ y) O;obtain ⟨A, M, rfl, -, -, -, -, K⟩ := desc_rd s;have o := c 0 _ rfl;have j := c 1 _ rfl;have l := c 2 _ rfl;have m := c 3 _ rfl;rw [show b + (k * descR.size + 0) = b + k * 4 from rfl] at o;rw [show b + (k * descR.size + 1) = b + k * 4 + 1 from rfl] at j;rw [show b + (k * descR.size + 2) = b + k * 4 + 2 from rfl] at l;rw [show b + (k * descR.size + 3) = b + k * 4 + 3 from rfl] at m;have X : Hid (∀ n : Cls (fun wx => Bl wr wx), SlRd intR n.w A x.2.2.2) := fun n => slrd_next K n.h;clear c s K;obtain ⟨v, a, fA, rfl, r, d⟩ := slrd_at (H2.out _ y) O;obtain ⟨z, G, rfl, -, -, -, -, H⟩ := desc_rd r;have p := d 0 _ rfl;have g := d 1 _ rfl;have q := d 2 _ rfl;have f := d 3 _ rfl;rw [show a + (k * descR.size + 0) = a + k * 4 from rfl] at p;rw [show a + (k * descR.size + 1) = a + k * 4 + 1 from rfl] at g;rw [show a + (k * descR.size + 2) = a + k * 4 + 2 from rfl] at q;rw [show a + (k * descR.size + 3) = a + k * 4 + 3 from rfl] at f;have S : Hid (∀ n : Cls (fun wx => Bl wr wx), SlRd intR n.w z x.2.2.2) := fun n => slrd_next H n.h;clear d r H;have C : ∀ n : Cls (fun wx => Bl wr wx), n.w.cell? ⟨N, b + k * 4, none⟩ = some (.bool x.1) := fun n => cell_keep n.h o (cell_lt o);have J : ∀ n : Cls (fun wx => Bl wr wx), n.w.cell? ⟨N, b + k * 4 + 1, none⟩ = some (nI x.2.1) := fun n => cell_keep n.h j (cell_lt j);have F : ∀ n : Cls (fun wx => Bl wr wx), n.w.cell? ⟨N, b + k * 4 + 2, none⟩ = some (nI x.2.2.1) := fun n => cell_keep n.h l (cell_lt l);have I : ∀ n : Cls (fun wx => Bl wr wx), n.w.cell? ⟨N, b + k * 4 + 3, none⟩ = some (sL A x.2.2.2.length M) := fun n => cell_keep n.h m (cell_lt m);have L : ∀ n : Cls (fun wx => Bl wr wx), n.w.cell? ⟨v, a + k * 4, none⟩ = some (.bool x.1) := fun n => cell_keep n.h p (cell_lt p);have D : ∀ n : Cls (fun wx => Bl wr wx), n.w.cell? ⟨v, a + k * 4 + 1, none⟩ = some (nI x.2.1) := fun n => cell_keep n.h g (cell_lt g);have B : ∀ n : Cls (fun wx => Bl wr wx), n.w.cell? ⟨v, a + k * 4 + 2, none⟩ = some (nI x.2.2.1) := fun n => cell_keep n.h q (cell_lt q);have E : ∀ n : Cls (fun wx => Bl wr wx), n.w.cell? ⟨v, a + k * 4 + 3, none⟩ = some (sL z x.2.2.2.length G) := fun n => cell_keep n.h f (cell_lt f);clear O o j l m p g q f;go_wp2_with fail
   refine region_class (fun wx => Bl wr wx) (by kernel_rfl) (by kernel_rfl) ((Below.refl _ wr).drew) ?_;intro U;repeat (quiet_step ((go_at_call 167; exact calls_class (eqDesc_rep x.2.1 x.2.2.1 x.1 x.2.2.2 _ _ _ _ _ (X.out _) (S.out _) (by have := HX.out; rw [bk_desc] at this; exact this)) (fun w' hc bb => below_step hc bb))))
   refine wpQuiet_nil ?_;intro wx v;replace y := below_step y v;clear v U C J F I L D B E;go_wp2;go_roundw
   case rel => exact ⟨k + 1, by omega, by go_num, y⟩
   case measure => simp [intOf]; omega
  ·go_wp2;go_ret
   exact ⟨rfl, y⟩
end Go.Proofs.YtdamokokcdcedaaGreatDoor
