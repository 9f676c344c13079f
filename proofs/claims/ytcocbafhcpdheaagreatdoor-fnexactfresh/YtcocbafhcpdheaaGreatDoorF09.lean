import Derived.Test.YtcocbafhcpdheaaGreatDoorF00Box
import Derived.Test.YtcocbafhcpdheaaGreatDoorF08
import Derived.RangeFuncNested
import Derived.RangeFuncBound
import Derived.RangeFuncLeaves
import Derived.Shelf.Abstract
namespace Go.Proofs.YtcocbafhcpdheaaGreatDoor
set_option maxHeartbeats 2000000
open Go.ChangeShapes Go.WideShapes Go.ChangeAt Go.RowKit
set_option linter.unusedVariables false
theorem msg_shape {w : World} {cs : List Value} {x : MsgD} (h : msgR.rd w cs x) : ∃ (ga : Option Addr) (gc : Nat), cs = [.int .i64 x.1, .int .i64 x.2.1, .int .i64 x.2.2.1, .int .i64 x.2.2.2.1, .int .i64 x.2.2.2.2.1, .slice ga x.2.2.2.2.2.1.length gc, .int .i64 x.2.2.2.2.2.2] := by
 obtain ⟨a, cap, e, -⟩ := msg_rd h;exact ⟨a, cap, e⟩
open Go.RowKit
abbrev WayD := Int × Int × List Int
abbrev CacheD := List (List WayD) × List Int
def emptyW : WayD := (-1, 0, [])
def clearB (u : WayD) : Bool := decide (u.1 = -1 ∧ u.2.1 = 0 ∧ u.2.2 = [])
def pow3 (n : Nat) : Prop := n = 1 ∨ n = 2 ∨ n = 4
section
variable (ln : List Int → Bool) (tok : Int → Int → Bool) (tou : Int → Int → Int → Int) (vic : Int → Int → Int)
def fullB (u : WayD) : Bool := decide ((0 ≤ u.1 ∧ u.1 ≤ 15) ∧ (1 ≤ u.2.1 ∧ u.2.1 ≤ 3) ∧ ln u.2.2 = true)
def RowOk (n s : Nat) (row : List WayD) : Prop :=
 (∀ (i : Nat) (u : WayD), row[i]? = some u → clearB u = true ∨ (fullB ln u = true ∧ u.1 % (n : Int) = s)) ∧
 ∀ (i k : Nat) (u x : WayD), row[i]? = some u → row[k]? = some x → 0 ≤ u.1 → u.1 = x.1 → i = k
def OkC (c : CacheD) : Prop :=
 pow3 c.1.length ∧ c.2.length = c.1.length ∧ ∃ m, pow3 m ∧ ∀ (s : Nat) (row : List WayD), c.1[s]? = some row → row.length = m ∧ (∃ t, c.2[s]? = some t ∧ tok t m = true) ∧ RowOk ln c.1.length s row
def setNo (c : CacheD) (line : Int) : Nat := (line % (c.1.length : Int)).toNat
def rowFor (c : CacheD) (line : Int) : List WayD := c.1.getD (setNo c line) []
def atC (c : CacheD) (line : Int) : Option Nat := if line < 0 then none else (rowFor c line).findIdx? fun u => u.1 == line
def roomC (c : CacheD) (line : Int) : Option Nat := (rowFor c line).findIdx? clearB
def putNo (c : CacheD) (line : Int) : Option Nat := match atC c line with
 | some i => some i
 | none => roomC c line
open Classical in
noncomputable def okB (c : CacheD) : Bool := decide (OkC ln tok c)
noncomputable def findC (c : CacheD) (line : Int) : WayD × Int := if okB ln tok c then (match atC c line with
 | some i => ((rowFor c line).getD i emptyW, (i : Int))
 | none => (emptyW, -1)) else (emptyW, -1)
end
section
variable {ln : List Int → Bool} {tok : Int → Int → Bool} {tou : Int → Int → Int → Int} {vic : Int → Int → Int}
theorem okB_iff {c : CacheD} : okB ln tok c = true ↔ OkC ln tok c := by simp [okB]
theorem clear_eq {u : WayD} (h : clearB u = true) : u = emptyW := by
 simp [clearB] at h
 obtain ⟨a, b, d⟩ := u;simp at h
 simp [emptyW, h]
theorem full_line {u : WayD} (h : fullB ln u = true) : 0 ≤ u.1 ∧ u.1 ≤ 15 := by
 simp [fullB] at h
 exact h.1
theorem pow3_pos {n : Nat} (h : pow3 n) : 0 < n := by rcases h with h | h | h <;> omega
theorem setNo_lt {c : CacheD} {line : Int} (h : pow3 c.1.length) : setNo c line < c.1.length := by
 have := pow3_pos h;have h1 := Int.emod_nonneg line (show (c.1.length : Int) ≠ 0 by omega);have h2 := Int.emod_lt_of_pos line (show (0 : Int) < c.1.length by omega);unfold setNo;omega
theorem setNo_cast {c : CacheD} {line : Int} (h : pow3 c.1.length) : ((setNo c line : Nat) : Int) = line % (c.1.length : Int) := by
 have := pow3_pos h;have h1 := Int.emod_nonneg line (show (c.1.length : Int) ≠ 0 by omega);unfold setNo;omega
theorem rowFor_get {c : CacheD} {line : Int} (h : pow3 c.1.length) : c.1[setNo c line]? = some (rowFor c line) := by
 have := setNo_lt (line := line) h;unfold rowFor;rw [List.getD_eq_getElem?_getD, List.getElem?_eq_getElem this];rfl
theorem idx_some {p : WayD → Bool} {row : List WayD} {i : Nat} (h : row.findIdx? p = some i) : ∃ u, row[i]? = some u ∧ p u = true := by
 rw [List.findIdx?_eq_some_iff_getElem] at h;obtain ⟨hi, hp, _⟩ := h;exact ⟨row[i], List.getElem?_eq_getElem hi, hp⟩
theorem at_some {c : CacheD} {line : Int} {i : Nat} (h : atC c line = some i) : 0 ≤ line ∧ ∃ u, (rowFor c line)[i]? = some u ∧ u.1 = line := by
 unfold atC at h;split at h
 ·cases h
 ·obtain ⟨u, hu, hp⟩ := idx_some h;exact ⟨by omega, u, hu, by simpa using hp⟩
theorem getD_of {row : List WayD} {i : Nat} {u : WayD} (h : row[i]? = some u) : row.getD i emptyW = u := by
 rw [List.getD_eq_getElem?_getD, h];rfl
theorem find_none {c : CacheD} {l : Int} (h : atC c l = none) : findC ln tok c l = (emptyW, -1) := by
 unfold findC;rw [h];split <;> rfl
theorem find_some {c : CacheD} {l : Int} {i : Nat} {u : WayD} (h : OkC ln tok c) (ha : atC c l = some i) (hu : (rowFor c l)[i]? = some u) : findC ln tok c l = (u, (i : Int)) := by
 unfold findC;rw [if_pos (okB_iff.2 h), ha];simp only [getD_of hu]
end
abbrev DescD := Bool × Int × Int × List Int
abbrev descR : Rep DescD := prodR boolR (prodR intR (prodR intR intsR))
abbrev descM : Mk DescD := prodM boolM (prodM intM (prodM intM intsM))
abbrev descsR : Rep (List DescD) := slR 165 descR
abbrev descsM : Mk (List DescD) := slM descM
theorem opens_desc : Opens Tryz.prog 160 descR :=
 opens_struct Tryz.underlying160 (by kernel_rfl) (opensF_cons rfl (by kernel_rfl) (opens_bool Tryz.underlying4) (opensF_cons rfl (by kernel_rfl) opens_i64 (opensF_cons rfl (by kernel_rfl) opens_i64 (opensF_one rfl (by kernel_rfl) opens_ints))))
theorem opens_descs : Opens Tryz.prog 29 descsR := opens_slice Tryz.underlying29 (by kernel_rfl) (by decide) opens_desc
theorem desc_rd {w : World} {cs : List Value} {u : DescD} (h : descR.rd w cs u) :
    ∃ a cap, cs = [.bool u.1, .int .i64 u.2.1, .int .i64 u.2.2.1, .slice a u.2.2.2.length cap] ∧ In64 u.2.1 ∧ In64 u.2.2.1 ∧ u.2.2.2.length ≤ cap ∧ cap ≤ maxLen ∧ SlRd intR w a u.2.2.2 := by
 obtain ⟨c0, e0, rfl, rfl, c1, e1, rfl, ⟨rfl, i1⟩, c2, e2, rfl, ⟨rfl, i2⟩, ⟨a, cap, rfl, h1, h2, h3⟩⟩ := h;exact ⟨a, cap, rfl, i1, i2, h1, h2, h3⟩
theorem own_desc {w : World} {S : Foot} {f1 f2 : Int} {f0 : Bool} {d : List Int} {v : Value} (i1 : In64 f1) (i2 : In64 f2) (h : intsR.own w S [v] d) : descR.own w S [.bool f0, .int .i64 f1, .int .i64 f2, v] (f0, f1, f2, d) :=
 ⟨[_], [_, _, _], fun _ => False, S, rfl, rfl, ⟨[_], [_, _], fun _ => False, S, rfl, ⟨rfl, i1⟩, ⟨[_], [_], fun _ => False, S, rfl, ⟨rfl, i2⟩, h, fun _ h => h.elim, Sub.refl _, fun _ h _ => h⟩, fun _ h => h.elim, Sub.refl _, fun _ h _ => h⟩, fun _ h => h.elim, Sub.refl _, fun _ h _ => h⟩
theorem bk_desc (u : DescD) : descM.bk u = intsM.bk u.2.2.2 := by
 show 0 + (0 + (0 + (intsM.bk u.2.2.2))) = _
 omega
theorem cells_4 {w : World} {g : Nat} {x0 x1 x2 x3 : Value} {t : TypeId} (h : w.heap[g]? = some (.cells #[x0, x1, x2, x3] t (0, 0))) :
    w.cell? ⟨g, 0, none⟩ = some x0 ∧ w.cell? ⟨g, 1, none⟩ = some x1 ∧ w.cell? ⟨g, 2, none⟩ = some x2 ∧ w.cell? ⟨g, 3, none⟩ = some x3 :=
 ⟨by rw [cell_of_row w g 0 _ t (0, 0) h]; rfl, by rw [cell_of_row w g 1 _ t (0, 0) h]; rfl, by rw [cell_of_row w g 2 _ t (0, 0) h]; rfl, by rw [cell_of_row w g 3 _ t (0, 0) h]; rfl⟩
theorem froz_4 {w : World} {g : Nat} {cs : Array Value} {t : TypeId} (h : w.heap[g]? = some (.cells cs t (0, 0))) : w.frozen? ⟨g, 0, none⟩ = false ∧ w.frozen? ⟨g, 1, none⟩ = false ∧ w.frozen? ⟨g, 2, none⟩ = false ∧ w.frozen? ⟨g, 3, none⟩ = false :=
 ⟨frozen_of_row w g 0 _ t h, frozen_of_row w g 1 _ t h, frozen_of_row w g 2 _ t h, frozen_of_row w g 3 _ t h⟩
theorem put_4 {w : World} {g : Nat} {x0 y0 x1 y1 x2 y2 x3 y3 : Value} {t : TypeId} (h : w.heap[g]? = some (.cells #[x0, x1, x2, x3] t (0, 0))) :
    ((((w.setCell ⟨g, 0, none⟩ y0).setCell ⟨g, 1, none⟩ y1).setCell ⟨g, 2, none⟩ y2).setCell ⟨g, 3, none⟩ y3).heap[g]? = some (.cells #[y0, y1, y2, y3] t (0, 0)) := by
 have h0 : (w.setCell ⟨g, 0, none⟩ y0).heap[g]? = some (.cells #[y0, x1, x2, x3] t (0, 0)) := heap_setCell_same _ g 0 _ t y0 h;have h1 : ((w.setCell ⟨g, 0, none⟩ y0).setCell ⟨g, 1, none⟩ y1).heap[g]? = some (.cells #[y0, y1, x2, x3] t (0, 0)) := heap_setCell_same _ g 1 _ t y1 h0;have h2 : (((w.setCell ⟨g, 0, none⟩ y0).setCell ⟨g, 1, none⟩ y1).setCell ⟨g, 2, none⟩ y2).heap[g]? = some (.cells #[y0, y1, y2, x3] t (0, 0)) := heap_setCell_same _ g 2 _ t y2 h1;have h3 : ((((w.setCell ⟨g, 0, none⟩ y0).setCell ⟨g, 1, none⟩ y1).setCell ⟨g, 2, none⟩ y2).setCell ⟨g, 3, none⟩ y3).heap[g]? = some (.cells #[y0, y1, y2, y3] t (0, 0)) := heap_setCell_same _ g 3 _ t y3 h2;exact h3
theorem szDesc_rep (f1 f2 : Int) (f0 : Bool) (d : List Int) (a : Option Addr) (cap : Nat) (left : Int) (w : World) (h0 : 0 ≤ left) (h1 : left ≤ 1048576) (hm : d.length ≤ maxLen) :
    Calls Tryz.prog 111 #[.agg #[.bool f0, .int .i64 f1, .int .i64 f2, .slice a d.length cap], .int .i64 left] w fun e w' => e = .returned (.int .i64 (szI (descM.bk (f0, f1, f2, d)) left)) ∧ Below w.heap.size w w' := by
 rw [bk_desc];show Calls Tryz.prog 111 _ w fun e w' => e = .returned (.int .i64 (szI (intsM.bk d) left)) ∧ Below w.heap.size w w'
 by_cases hl : (intsM.bk d : Int) ≤ left
 ·have HS : Hid (szI (intsM.bk d) left = _) := szI_yes hl;have hl' : ¬ (left - (intsM.bk d : Int) < 0) := by omega
  go_enter Tryz.func111, Tryz.ntmps111;go_wp2_with (go_at_call 106; refine (szInt64S_rep _ d _ _ _ h0 h1 hm).mono ?_; rintro e w' ⟨rfl, rfl⟩; rw [HS.out])
  go_ret
  exact ⟨ret_int HS.out.symm, box_below w _⟩
 ·have HS : Hid (szI (intsM.bk d) left = _) := szI_no hl;go_enter Tryz.func111, Tryz.ntmps111;go_wp2_with (go_at_call 106; refine (szInt64S_rep _ d _ _ _ h0 h1 hm).mono ?_; rintro e w' ⟨rfl, rfl⟩; rw [HS.out])
  go_ret
  exact ⟨ret_int HS.out.symm, box_below w _⟩
theorem szDescS_rep (a : Option Addr) (xs : List DescD) (cap : Nat) (left : Int) (w : World) (h : SlRd descR w a xs) (h0 : 0 ≤ left) (h1 : left ≤ 1048576) (hm : xs.length ≤ maxLen) :
    Calls Tryz.prog 61 #[.slice a xs.length cap, .int .i64 left] w fun e w' => e = .returned (.int .i64 (szI ((slM descM).bk xs) left)) ∧ Below w.heap.size w w' := by
 have hm' : xs.length ≤ 9223372036854775807 := hm;have hbk : (slM descM).bk xs = xs.length + sumbk descM xs := rfl;clear hm;by_cases hl : (xs.length : Int) ≤ left
 ·have hl' : ¬ (left - (xs.length : Int) < 0) := by omega
  have HB : Hid _ := hbk;have H0 : Hid (SlRd descR w a xs) := h;clear hbk h;go_enter Tryz.func61, Tryz.ntmps61;go_wp2;go_loopw [1, 5] (fun q i wr => ∃ k : Nat, k ≤ xs.length ∧ i = .int .i64 k ∧ (sumbk descM (xs.take k) : Int) + xs.length ≤ left ∧ q = .int .i64 (left - (xs.length : Int) - sumbk descM (xs.take k)) ∧ Below w.heap.size w wr) (fun _ i _ => xs.length - (intOf i).toNat)
  case atStart => exact ⟨0, Nat.zero_le _, rfl, by simp [sumbk]; omega, by simp [sumbk], Below.refl _ _⟩
  case round =>
   obtain ⟨k, hk, rfl, ht, rfl, BB⟩ := hrel;by_cases hlt : k < xs.length
   ·have hlt' : (k : Int) < (xs.length : Int) := by omega
    obtain ⟨x, hx⟩ : ∃ x, xs[k]? = some x := ⟨_, List.getElem?_eq_getElem hlt⟩;have H2 := slrd_keep H0.out fun k hk => BB.block k hk;obtain ⟨b, off, cs, rfl, hrdx, hcell⟩ := slrd_at H2 hx;obtain ⟨ad, cpw, rfl, -, -, hd1, hd2, hd3⟩ := desc_rd hrdx;have x0 := hcell 0 _ rfl;have x1 := hcell 1 _ rfl;have x2 := hcell 2 _ rfl;have x3 := hcell 3 _ rfl;rw [show off + (k * descR.size + 0) = off + k * 4 from rfl] at x0;rw [show off + (k * descR.size + 1) = off + k * 4 + 1 from rfl] at x1;rw [show off + (k * descR.size + 2) = off + k * 4 + 2 from rfl] at x2;rw [show off + (k * descR.size + 3) = off + k * 4 + 3 from rfl] at x3;have HX : Hid (x.2.2.2.length ≤ maxLen) := Nat.le_trans hd1 hd2;clear hcell hrdx hd1 hd2 hd3;have HT : Hid _ := sumbk_step (M := descM) hx;have hxs := sumbk_get (M := descM) hx;clear hx H2;generalize sumbk descM (xs.take k) = T at ht HT hxs ⊢;by_cases hf : (((descM).bk x : Nat) : Int) ≤ left - (xs.length : Int) - (T : Int)
    ·have hf' : ¬ (left - (xs.length : Int) - (T : Int) - (((descM).bk x : Nat) : Int) < 0) := by omega
     have HS : Hid (szI ((descM).bk x) (left - (xs.length : Int) - (T : Int)) = _) := szI_yes hf;go_wp2_with (go_at_call 111; refine (szDesc_rep x.2.1 x.2.2.1 x.1 x.2.2.2 _ _ _ _ (by omega) (by omega) HX.out).mono ?_; rintro e w' ⟨rfl, bb⟩; replace BB := below_step BB bb; clear bb; rw [HS.out])
     go_roundw
     case rel => exact ⟨k + 1, by omega, by go_num, by have := HT.out; omega, by rw [HT.out]; go_num, BB⟩
     case measure => simp [intOf]; omega
    ·have HS : Hid (szI ((descM).bk x) (left - (xs.length : Int) - (T : Int)) = _) := szI_no hf;have HN : Hid (szI ((slM descM).bk xs) left = -1) := by unfold Hid; rw [HB.out]; exact szI_no (by omega)
     go_wp2_with (go_at_call 111; refine (szDesc_rep x.2.1 x.2.2.1 x.1 x.2.2.2 _ _ _ _ (by omega) (by omega) HX.out).mono ?_; rintro e w' ⟨rfl, bb⟩; replace BB := below_step BB bb; clear bb; rw [HS.out])
     go_ret
     exact ⟨ret_int HN.out.symm, BB⟩
   ·have hkl : k = xs.length := by omega
    subst hkl;rw [List.take_length] at ht ⊢;have HN : Hid (szI ((slM descM).bk xs) left = left - (xs.length : Int) - (sumbk descM xs : Int)) := by unfold Hid; rw [HB.out, szI_yes (by omega)]; omega
    go_wp2;go_ret
    exact ⟨ret_int HN.out.symm, BB⟩
 ·have hl' : left - (xs.length : Int) < 0 := by omega
  rw [szI_no (by omega)];clear hbk h;go_enter Tryz.func61, Tryz.ntmps61;go_wp2;go_ret
  exact ⟨rfl, Below.refl _ _⟩
theorem toDesc_rep (f1 f2 : Int) (f0 : Bool) (d : List Int) (a : Option Addr) (cap : Nat) (w : World) (i1 : In64 f1) (i2 : In64 f2) (h : SlRd intR w a d) (hm : intsM.bk d ≤ 1048576) :
    Calls Tryz.prog 117 #[.agg #[.bool f0, .int .i64 f1, .int .i64 f2, .slice a d.length cap]] w fun e w' => ∃ av cv, e = .returned (.agg #[.bool f0, .int .i64 f1, .int .i64 f2, .slice av d.length cv]) ∧ MadeR descR w w' [.bool f0, .int .i64 f1, .int .i64 f2, .slice av d.length cv] (f0, f1, f2, d) := by
 have H : Hid (∀ W, Below w.heap.size w W → SlRd intR W a d) := fun W hb => slrd_keep h fun k hk => hb.block k hk;clear h;go_enter Tryz.func117, Tryz.ntmps117;go_wp2_with fail
 have B0 : Below w.heap.size w (((w.alloc (.cells #[.bool f0, .int .i64 f1, .int .i64 f2, .slice a d.length cap] 160)).alloc (.cells #[.bool false, .int .i64 0, .int .i64 0, .slice none 0 0] 165)).alloc (.cells #[.bool f0, .int .i64 f1, .int .i64 f2, .slice none 0 0] 165)) := (((Below.refl _ w).alloc (Nat.le_refl _) _).alloc (by simp) _).alloc (by simp; omega) _;have X1 := heap_on (.cells #[.bool f0, .int .i64 f1, .int .i64 f2, .slice none 0 0] 165) (heap_at (w.alloc (.cells #[.bool f0, .int .i64 f1, .int .i64 f2, .slice a d.length cap] 160)) (.cells #[.bool false, .int .i64 0, .int .i64 0, .slice none 0 0] 165));have X2 := heap_at ((w.alloc (.cells #[.bool f0, .int .i64 f1, .int .i64 f2, .slice a d.length cap] 160)).alloc (.cells #[.bool false, .int .i64 0, .int .i64 0, .slice none 0 0] 165)) (.cells #[.bool f0, .int .i64 f1, .int .i64 f2, .slice none 0 0] 165);have e3 : (((w.alloc (.cells #[.bool f0, .int .i64 f1, .int .i64 f2, .slice a d.length cap] 160)).alloc (.cells #[.bool false, .int .i64 0, .int .i64 0, .slice none 0 0] 165)).alloc (.cells #[.bool f0, .int .i64 f1, .int .i64 f2, .slice none 0 0] 165)).heap.size = w.heap.size + 1 + 1 + 1 := by simp
 have X0 := heap_on (.cells #[.bool f0, .int .i64 f1, .int .i64 f2, .slice none 0 0] 165) (heap_on (.cells #[.bool false, .int .i64 0, .int .i64 0, .slice none 0 0] 165) (heap_at w (.cells #[.bool f0, .int .i64 f1, .int .i64 f2, .slice a d.length cap] 160)));rw [alloc_len] at X1;rw [alloc_len, alloc_len] at X2;generalize ((w.alloc (.cells #[.bool f0, .int .i64 f1, .int .i64 f2, .slice a d.length cap] 160)).alloc (.cells #[.bool false, .int .i64 0, .int .i64 0, .slice none 0 0] 165)).alloc (.cells #[.bool f0, .int .i64 f1, .int .i64 f2, .slice none 0 0] 165) = W0 at B0 X0 X1 X2 e3 ⊢;refine (toInt64S_rep _ d _ _ (H.out _ B0) hm).mono ?_;rintro e w1 ⟨v, rfl, mm⟩;obtain ⟨av, cv, rfl⟩ := slown_val mm.1;have hm2 := mm.2;have hown := mm.1;have B1 := below_step B0 hm2;replace X0 := row_keep hm2 X0;replace X1 := row_keep hm2 X1;replace X2 := row_keep hm2 X2;obtain ⟨q0, q1, q2, q3⟩ := cells_4 X0;obtain ⟨y0, y1, y2, y3⟩ := cells_4 X2;obtain ⟨f0y, f1y, f2y, f3y⟩ := froz_4 X2;obtain ⟨z0, z1, z2, z3⟩ := cells_4 X1;obtain ⟨g0, g1, g2, g3⟩ := froz_4 X1;have HX : Hid _ := And.intro X1 X2;have HO : Hid _ := hown;clear X0 X1 X2 hown mm H;go_wp2;obtain ⟨X1, X2⟩ := HX.out;have Y1 := put_4 (y0 := .bool f0) (y1 := .int .i64 f1) (y2 := .int .i64 f2) (y3 := .slice av d.length cv) (heap_setC (g := w.heap.size + 1 + 1) (o := 3) (v := .slice av d.length cv) X1 (by omega));obtain ⟨r0, r1, r2, r3⟩ := cells_4 Y1;refine bodyPost_ret (v := .agg #[.bool f0, .int .i64 f1, .int .i64 f2, .slice av d.length cv]) (by simp [results, Tryz.results117, go_sem, r0, r1, r2, r3]) rfl ⟨av, cv, rfl, own_desc i1 i2 ?_, ?_⟩
 ·refine intsR.own_mono (own_setC (own_setC (own_setC (own_setC (own_setC (HO.out) (fun h => by have := h.1; omega)) (fun h => by have := h.1; omega)) (fun h => by have := h.1; omega)) (fun h => by have := h.1; omega)) (fun h => by have := h.1; omega)) ?_;exact rng_sub (by omega) (by simp)
 ·exact below_setC (below_setC (below_setC (below_setC (below_setC (B1) (by omega)) (by omega)) (by omega)) (by omega)) (by omega)
theorem Tryz.infoDesc : (Tryz.prog.info? 165).map (fun i => (i.zero, i.size, i.bytes)) = some (some (.agg #[.bool false, .int .i64 0, .int .i64 0, .slice none 0 0]), 4, 48) := by kernel_rfl
theorem toDescS_rep (a : Option Addr) (xs : List DescD) (cap : Nat) (w : World) (h : SlRd descR w a xs) (hm : descsM.bk xs ≤ 1048576) :
    Calls Tryz.prog 67 #[.slice a xs.length cap] w fun e w' => ∃ v, e = .returned v ∧ MadeR descsR w w' [v] xs := by
 have hbk : descsM.bk xs = xs.length + sumbk descM xs := rfl;have hln : xs.length ≤ 1048576 := by omega
 have HB : Hid (sumbk descM xs ≤ 1048576) := by unfold Hid; omega
 have H0 : Hid (SlRd descR w a xs) := h;clear hbk hm h;have hmk := run_make_wide (P := Tryz.prog) 44 165 (.agg #[.bool false, .int .i64 0, .int .i64 0, .slice none 0 0]) 4 48 Tryz.underlying44 Tryz.infoDesc xs.length (by omega) (by omega);go_enter Tryz.func67, Tryz.ntmps67;go_wp2;go_loopw [4] (fun i wr => ∃ k : Nat, k ≤ xs.length ∧ i = .int .i64 k ∧ Fill 165 descR w wr xs.length (xs.take k)) (fun i _ => xs.length - (intOf i).toNat)
 case atStart => exact ⟨0, Nat.zero_le _, rfl, by simpa using fillR_start (e := 165) (R := descR) (w0 := w) (n := xs.length) (cs := madeCells #[.bool false, .int .i64 0, .int .i64 0, .slice none 0 0] (xs.length * 4)) (by unfold maxLen; omega) (by rw [size_madeCells]; rfl)⟩
 case round =>
  obtain ⟨k, hk, rfl, hF⟩ := hrel;by_cases hlt : k < xs.length
  ·have hlt' : (k : Int) < (xs.length : Int) := by omega
   obtain ⟨x, hx⟩ : ∃ x, xs[k]? = some x := ⟨_, List.getElem?_eq_getElem hlt⟩;obtain ⟨b, off, cs, rfl, hrdx, hcell⟩ := slrd_at (slrd_next H0.out (fill_below hF)) hx;obtain ⟨ad, cpw, rfl, i1, i2, hd1, hd2, hd3⟩ := desc_rd hrdx;have x0 := hcell 0 _ rfl;have x1 := hcell 1 _ rfl;have x2 := hcell 2 _ rfl;have x3 := hcell 3 _ rfl;rw [show off + (k * descR.size + 0) = off + k * 4 from rfl] at x0;rw [show off + (k * descR.size + 1) = off + k * 4 + 1 from rfl] at x1;rw [show off + (k * descR.size + 2) = off + k * 4 + 2 from rfl] at x2;rw [show off + (k * descR.size + 3) = off + k * 4 + 3 from rfl] at x3;have HX : Hid (intsM.bk x.2.2.2 ≤ 1048576) := by unfold Hid; have := sumbk_ge descM xs hx; rw [bk_desc] at this; have := HB.out; omega
   have HR : Hid (SlRd intR wr ad x.2.2.2) := hd3;have HI : Hid _ := And.intro i1 i2;have FS : Hid (∀ w1 c, MadeR descR wr w1 c x → _) := fun w1 c hm => fillR_step (w1 := w1) (c := c) hF (by simp; omega) hlt hm;have HP : Hid (xs.take k ++ [x] = xs.take (k + 1)) := by unfold Hid; rw [List.take_add_one, hx]; rfl
   clear hx hrdx hcell hmk hF hd1 hd2 hd3 i1 i2;go_wp2_with fail
   refine (toDesc_rep x.2.1 x.2.2.1 x.1 x.2.2.2 _ _ _ HI.out.1 HI.out.2 HR.out HX.out).mono ?_;rintro e w1 ⟨av, cv, rfl, mm⟩;obtain ⟨q1, q2, F1⟩ := FS.out _ _ mm;obtain ⟨v0, hv0⟩ := q1 0 (by decide);obtain ⟨v1, hv1⟩ := q1 1 (by decide);obtain ⟨v2, hv2⟩ := q1 2 (by decide);obtain ⟨v3, hv3⟩ := q1 3 (by decide);have z0 := q2 (k * 4);have z1 := q2 (k * 4 + 1);have z2 := q2 (k * 4 + 2);have z3 := q2 (k * 4 + 3);rw [show k * descR.size + 0 = k * 4 from rfl] at hv0;rw [show k * descR.size + 1 = k * 4 + 1 from rfl] at hv1;rw [show k * descR.size + 2 = k * 4 + 2 from rfl] at hv2;rw [show k * descR.size + 3 = k * 4 + 3 from rfl] at hv3;rw [HP.out] at F1;have HF : Hid _ := F1;clear F1 mm q1 q2 FS x0 x1 x2 x3;go_wp2;go_roundw
   case rel => exact ⟨k + 1, by omega, by go_num, HF.out⟩
   case measure => simp [intOf]; omega
  ·have hkl : k = xs.length := by omega
   subst hkl;rw [List.take_length] at hF;have FE := fillR_end hF rfl;clear hF;go_wp2;go_ret
   exact ⟨_, rfl, FE⟩
theorem eqDesc_rep (f1 f2 : Int) (f0 : Bool) (d : List Int) (a1 a2 : Option Addr) (c1 c2 : Nat) (w : World) (h1 : SlRd intR w a1 d) (h2 : SlRd intR w a2 d) (hm : intsM.bk d ≤ 1152921504606846976) :
    Calls Tryz.prog 137 #[.agg #[.bool f0, .int .i64 f1, .int .i64 f2, .slice a1 d.length c1], .agg #[.bool f0, .int .i64 f1, .int .i64 f2, .slice a2 d.length c2]] w fun e w' => e = .returned (.bool true) ∧ Below w.heap.size w w' := by
 have HB : Hid (∀ o o', Below w.heap.size w ((w.alloc o).alloc o')) := fun o o' => below_step (box_below w o) (box_below _ o');have H1 : Hid (∀ W, Below w.heap.size w W → SlRd intR W a1 d) := fun W hb => slrd_keep h1 fun k hk => hb.block k hk;have H2 : Hid (∀ W, Below w.heap.size w W → SlRd intR W a2 d) := fun W hb => slrd_keep h2 fun k hk => hb.block k hk;clear h1 h2;go_enter Tryz.func137, Tryz.ntmps137;go_wp2_with fail
 refine (eqInt64S_rep a1 a2 d c1 c2 _ (H1.out _ (HB.out _ _)) (H2.out _ (HB.out _ _)) hm).mono ?_;rintro e w' ⟨rfl, n, rfl⟩;go_wp2;go_ret
 exact ⟨rfl, be_drewN (HB.out _ _) n⟩
theorem eqDescS_rep (a1 a2 : Option Addr) (xs : List DescD) (c1 c2 : Nat) (w : World) (h1 : SlRd descR w a1 xs) (h2 : SlRd descR w a2 xs) (hm : (slM descM).bk xs ≤ 1152921504606846976) :
    Calls Tryz.prog 81 #[.slice a1 xs.length c1, .slice a2 xs.length c2] w fun e w' => e = .returned (.bool true) ∧ Below w.heap.size w w' := by
 have hbk : (slM descM).bk xs = xs.length + sumbk descM xs := rfl;have hln : xs.length ≤ 1152921504606846976 := by omega
 have HB : Hid (sumbk descM xs ≤ 1152921504606846976) := by unfold Hid; omega
 have H1 : Hid (∀ W, Below w.heap.size w W → SlRd descR W a1 xs) := fun W hb => slrd_keep h1 fun k hk => hb.block k hk;have H2 : Hid (∀ W, Below w.heap.size w W → SlRd descR W a2 xs) := fun W hb => slrd_keep h2 fun k hk => hb.block k hk;clear hbk hm h1 h2;go_enter Tryz.func81, Tryz.ntmps81;go_wp2;go_loopw [5] (fun i wr => ∃ k : Nat, k ≤ xs.length ∧ i = .int .i64 k ∧ Below w.heap.size w wr) (fun i _ => xs.length - (intOf i).toNat)
 case atStart => exact ⟨0, Nat.zero_le _, rfl, Below.refl _ _⟩
 case round =>
  obtain ⟨k, hk, rfl, BB⟩ := hrel;by_cases hlt : k < xs.length
  ·have hlt' : (k : Int) < (xs.length : Int) := by omega
   obtain ⟨x, hx⟩ : ∃ x, xs[k]? = some x := ⟨_, List.getElem?_eq_getElem hlt⟩;have HX : Hid ((descM).bk x ≤ 1152921504606846976) := by unfold Hid; have := sumbk_ge descM xs hx; have := HB.out; omega
   obtain ⟨b1, off1, cs1, rfl, hrd1, hcell1⟩ := slrd_at (H1.out _ BB) hx;obtain ⟨ad1, cpw1, rfl, -, -, -, -, hd1⟩ := desc_rd hrd1;have x10 := hcell1 0 _ rfl;have x11 := hcell1 1 _ rfl;have x12 := hcell1 2 _ rfl;have x13 := hcell1 3 _ rfl;rw [show off1 + (k * descR.size + 0) = off1 + k * 4 from rfl] at x10;rw [show off1 + (k * descR.size + 1) = off1 + k * 4 + 1 from rfl] at x11;rw [show off1 + (k * descR.size + 2) = off1 + k * 4 + 2 from rfl] at x12;rw [show off1 + (k * descR.size + 3) = off1 + k * 4 + 3 from rfl] at x13;have HR1 : Hid (∀ n : Cls (fun wx => Below wr.heap.size wr wx), SlRd intR n.w ad1 x.2.2.2) := fun n => slrd_next hd1 n.h;clear hcell1 hrd1 hd1;obtain ⟨b2, off2, cs2, rfl, hrd2, hcell2⟩ := slrd_at (H2.out _ BB) hx;obtain ⟨ad2, cpw2, rfl, -, -, -, -, hd2⟩ := desc_rd hrd2;have x20 := hcell2 0 _ rfl;have x21 := hcell2 1 _ rfl;have x22 := hcell2 2 _ rfl;have x23 := hcell2 3 _ rfl;rw [show off2 + (k * descR.size + 0) = off2 + k * 4 from rfl] at x20;rw [show off2 + (k * descR.size + 1) = off2 + k * 4 + 1 from rfl] at x21;rw [show off2 + (k * descR.size + 2) = off2 + k * 4 + 2 from rfl] at x22;rw [show off2 + (k * descR.size + 3) = off2 + k * 4 + 3 from rfl] at x23;have HR2 : Hid (∀ n : Cls (fun wx => Below wr.heap.size wr wx), SlRd intR n.w ad2 x.2.2.2) := fun n => slrd_next hd2 n.h;clear hcell2 hrd2 hd2;have x10c : ∀ n : Cls (fun wx => Below wr.heap.size wr wx), n.w.cell? ⟨b1, off1 + k * 4, none⟩ = some (.bool x.1) := fun n => cell_keep n.h x10 (cell_lt x10);have x11c : ∀ n : Cls (fun wx => Below wr.heap.size wr wx), n.w.cell? ⟨b1, off1 + k * 4 + 1, none⟩ = some (.int .i64 x.2.1) := fun n => cell_keep n.h x11 (cell_lt x11);have x12c : ∀ n : Cls (fun wx => Below wr.heap.size wr wx), n.w.cell? ⟨b1, off1 + k * 4 + 2, none⟩ = some (.int .i64 x.2.2.1) := fun n => cell_keep n.h x12 (cell_lt x12);have x13c : ∀ n : Cls (fun wx => Below wr.heap.size wr wx), n.w.cell? ⟨b1, off1 + k * 4 + 3, none⟩ = some (.slice ad1 x.2.2.2.length cpw1) := fun n => cell_keep n.h x13 (cell_lt x13);have x20c : ∀ n : Cls (fun wx => Below wr.heap.size wr wx), n.w.cell? ⟨b2, off2 + k * 4, none⟩ = some (.bool x.1) := fun n => cell_keep n.h x20 (cell_lt x20);have x21c : ∀ n : Cls (fun wx => Below wr.heap.size wr wx), n.w.cell? ⟨b2, off2 + k * 4 + 1, none⟩ = some (.int .i64 x.2.1) := fun n => cell_keep n.h x21 (cell_lt x21);have x22c : ∀ n : Cls (fun wx => Below wr.heap.size wr wx), n.w.cell? ⟨b2, off2 + k * 4 + 2, none⟩ = some (.int .i64 x.2.2.1) := fun n => cell_keep n.h x22 (cell_lt x22);have x23c : ∀ n : Cls (fun wx => Below wr.heap.size wr wx), n.w.cell? ⟨b2, off2 + k * 4 + 3, none⟩ = some (.slice ad2 x.2.2.2.length cpw2) := fun n => cell_keep n.h x23 (cell_lt x23);clear hx x10 x11 x12 x13 x20 x21 x22 x23;go_wp2_with fail
   refine region_class (fun wx => Below wr.heap.size wr wx) (by kernel_rfl) (by kernel_rfl) ((Below.refl _ wr).drew) ?_;intro hne;repeat (quiet_step ((go_at_call 137; exact calls_class (eqDesc_rep x.2.1 x.2.2.1 x.1 x.2.2.2 _ _ _ _ _ (HR1.out _) (HR2.out _) (by have := HX.out; rw [bk_desc] at this; exact this)) (fun w' hc bb => below_step hc bb))))
   refine wpQuiet_nil ?_;intro wx b2;replace BB := below_step BB b2;clear b2 hne x10c x11c x12c x13c x20c x21c x22c x23c;go_wp2;go_roundw
   case rel => exact ⟨k + 1, by omega, by go_num, BB⟩
   case measure => simp [intOf]; omega
  ·go_wp2;go_ret
   exact ⟨rfl, BB⟩
abbrev wayR : Rep (Int × Int × List Int) := prodR intR (prodR intR intsR)
abbrev wayM : Mk (Int × Int × List Int) := prodM intM (prodM intM intsM)
abbrev waysR : Rep (List (Int × Int × List Int)) := slR 88 wayR
abbrev waysM : Mk (List (Int × Int × List Int)) := slM wayM
abbrev setsR : Rep (List (List (Int × Int × List Int))) := slR 143 waysR
abbrev setsM : Mk (List (List (Int × Int × List Int))) := slM waysM
abbrev cacheR : Rep (List (List (Int × Int × List Int)) × List Int) := prodR setsR intsR
abbrev cacheM : Mk (List (List (Int × Int × List Int)) × List Int) := prodM setsM intsM
theorem opens_way : Opens Tryz.prog 103 wayR :=
 opens_struct Tryz.underlying103 (by kernel_rfl) (opensF_cons rfl (by kernel_rfl) opens_i64 (opensF_cons rfl (by kernel_rfl) opens_i64 (opensF_one rfl (by kernel_rfl) opens_ints)))
theorem opens_ways : Opens Tryz.prog 223 waysR := opens_slice Tryz.underlying223 (by kernel_rfl) (by decide) opens_way
theorem opens_sets : Opens Tryz.prog 99 setsR := opens_slice Tryz.underlying99 (by kernel_rfl) (by decide) opens_ways
theorem opens_cache : Opens Tryz.prog 101 cacheR :=
 opens_struct Tryz.underlying101 (by kernel_rfl) (opensF_cons rfl (by kernel_rfl) opens_sets (opensF_one rfl (by kernel_rfl) opens_ints))
theorem way_rd {w : World} {cs : List Value} {u : Int × Int × List Int} (h : wayR.rd w cs u) :
    ∃ a cap, cs = [.int .i64 u.1, .int .i64 u.2.1, .slice a u.2.2.length cap] ∧ In64 u.1 ∧ In64 u.2.1 ∧ u.2.2.length ≤ cap ∧ cap ≤ maxLen ∧ SlRd intR w a u.2.2 := by
 obtain ⟨c1, c2, rfl, ⟨rfl, i1⟩, c3, c4, rfl, ⟨rfl, i2⟩, a, cap, rfl, h1, h2, h3⟩ := h;exact ⟨a, cap, rfl, i1, i2, h1, h2, h3⟩
theorem cache_rd {w : World} {cs : List Value} {c : List (List (Int × Int × List Int)) × List Int} (h : cacheR.rd w cs c) :
    ∃ a cap b cp, cs = [.slice a c.1.length cap, .slice b c.2.length cp] ∧ c.1.length ≤ cap ∧ cap ≤ maxLen ∧ c.2.length ≤ cp ∧ cp ≤ maxLen ∧ SlRd waysR w a c.1 ∧ SlRd intR w b c.2 := by
 obtain ⟨c1, c2, rfl, ⟨a, cap, rfl, h1, h2, h3⟩, b, cp, rfl, k1, k2, k3⟩ := h;exact ⟨a, cap, b, cp, rfl, h1, h2, k1, k2, h3, k3⟩
theorem own_way {w : World} {S : Foot} {l s : Int} {d : List Int} {v : Value} (i1 : In64 l) (i2 : In64 s) (h : intsR.own w S [v] d) : wayR.own w S [.int .i64 l, .int .i64 s, v] (l, s, d) :=
 ⟨[_], [_, _], fun _ => False, S, rfl, ⟨rfl, i1⟩, ⟨[_], [_], fun _ => False, S, rfl, ⟨rfl, i2⟩, h, fun _ h => h.elim, Sub.refl _, fun _ h _ => h⟩, fun _ h => h.elim, Sub.refl _, fun _ h _ => h⟩
theorem szWay_rep (l s : Int) (d : List Int) (a : Option Addr) (cap : Nat) (left : Int) (w : World) (h0 : 0 ≤ left) (h1 : left ≤ 1048576) (hm : d.length ≤ maxLen) :
    Calls Tryz.prog 110 #[.agg #[.int .i64 l, .int .i64 s, .slice a d.length cap], .int .i64 left] w fun e w' => e = .returned (.int .i64 (szI (wayM.bk (l, s, d)) left)) ∧ Below w.heap.size w w' := by
 have hb : wayM.bk (l, s, d) = intsM.bk d := by show 0 + (0 + intsM.bk d) = _; omega
 rw [hb];by_cases hl : (intsM.bk d : Int) ≤ left
 ·have HS : Hid (szI (intsM.bk d) left = _) := szI_yes hl;have hl' : ¬ (left - (intsM.bk d : Int) < 0) := by omega
  go_enter Tryz.func110, Tryz.ntmps110;go_wp2_with (go_at_call 106; refine (szInt64S_rep _ d _ _ _ h0 h1 hm).mono ?_; rintro e w' ⟨rfl, rfl⟩; rw [HS.out])
  go_ret
  exact ⟨ret_int HS.out.symm, box_below w _⟩
 ·have HS : Hid (szI (intsM.bk d) left = _) := szI_no hl;go_enter Tryz.func110, Tryz.ntmps110;go_wp2_with (go_at_call 106; refine (szInt64S_rep _ d _ _ _ h0 h1 hm).mono ?_; rintro e w' ⟨rfl, rfl⟩; rw [HS.out])
  go_ret
  exact ⟨ret_int HS.out.symm, box_below w _⟩
open Go.ChangeShapes Go.WideShapes Go.ChangeAt Go.RowKit Go.Shelf
section
variable {P : Program}
def Kept (B : Nat) (W W' : World) : Prop := W.heap.size ≤ W'.heap.size ∧ ∀ k, B ≤ k → k < W.heap.size → W'.heap[k]? = W.heap[k]?
theorem Kept.refl (B : Nat) (W : World) : Kept B W W := ⟨Nat.le_refl _, fun _ _ _ => rfl⟩
theorem Kept.trans {B : Nat} {U V W : World} (h : Kept B U V) (k : Kept B V W) : Kept B U W := ⟨Nat.le_trans h.1 k.1, fun i hi hl => (k.2 i hi (Nat.lt_of_lt_of_le hl h.1)).trans (h.2 i hi hl)⟩
theorem Kept.mono {B B' : Nat} {W W' : World} (h : Kept B W W') (hb : B ≤ B') : Kept B' W W' := ⟨h.1, fun i hi hl => h.2 i (Nat.le_trans hb hi) hl⟩
theorem Kept.below {B : Nat} {W W' : World} (h : Below W.heap.size W W') : Kept B W W' := ⟨h.size, fun i _ hl => h.block i hl⟩
theorem Kept.chg {B : Nat} {S : Foot} {W W' : World} (h : Chg S W W') (hS : ∀ k, S k → k < B) : Kept B W W' := ⟨h.size, fun i hi hl => h.block i hl fun x => by have := hS i x; omega⟩
theorem Kept.alloc (B : Nat) (W : World) (o : Obj) : Kept B W (W.alloc o) := ⟨by simp, fun i _ hl => Below.heap_alloc W o i hl⟩
theorem Kept.put {B l : Nat} (W : World) (o : Obj) (h : l < B) : Kept B W (W.putObj l o) := ⟨by simp, fun i hi _ => World.putObj_heap_other (by omega)⟩
theorem own_later {β : Type} {B B' : Nat} {I : β → World → Prop} (h : OwnFrom B I) (hb : B ≤ B') : OwnFrom B' I := fun s W W' row hs hg hr => h s W W' row hs hg (fun r e => ⟨Nat.le_trans hb (hr r e).1, (hr r e).2⟩)
theorem own_heap {β : Type} (B k : Nat) (cs : Array Value) (t : TypeId) : OwnFrom B (fun (_ : β) W => W.heap[k]? = some (.cells cs t (0, 0))) := fun s X Y row hs hg hr => by
 refine (hg.block k (ltH hs) fun e => ?_).trans hs;obtain ⟨o, ho, hc⟩ := (hr k e.symm).2;rw [hs] at ho;cases ho;cases hc
def Iter (P : Program) (g : Nat) (lb : Array Value) (args : Nat → Array Value) (N : Nat) (R : World → Prop) : Prop :=
 ∀ (l : Nat) (J Jx : Nat → World → Prop) (W : World), OwnFrom W.heap.size J → OwnFrom W.heap.size Jx → (∀ k W1, J k W1 → R W1) →
  (∀ k W1, k < N → J k W1 → YieldAt Fence.wide 0 P l (args k) W1 fun e W' => Kept W.heap.size W1 W' ∧ ((e = .returned (.bool true) ∧ J (k + 1) W') ∨ (e = .returned (.bool false) ∧ Jx k W'))) →
  J 0 W → CallsIn Fence.wide 0 P g (#[.func (.yield l) #[] #[]] ++ lb) W fun e W' => (∃ v, e = .returned v) ∧ (J N W' ∨ ∃ k, k < N ∧ Jx k W')
def roundsOn (B : Nat) (I : Nat → World → Prop) (Ix : Code → Nat → World → Prop) (k : Nat) (W : World) : Exit → Act → World → Prop
 | .normal, _, W' => Kept B W W' ∧ I (k + 1) W'
 | .ret, _, W' => Kept B W W' ∧ Ix .ret k W'
 | .exit id, _, W' => Kept B W W' ∧ Ix (.exit id) k W'
 | .goto t, _, W' => Kept B W W' ∧ Ix (.goto t) k W'
 | .panic _, _, _ => False
 | .outgrown, _, _ => False
theorem range_iter {g : Operand} {ps : Array Tmp} {assign body : Code} {Q : Exit → Act → World → Prop} {a : Act} {w : World} {gf : Nat} {lb : Array Value}
    (hg : a.eval g = .func (.func gf) #[] lb) (eg : Enters P gf)
    {args : Nat → Array Value} {N : Nat} {R : World → Prop} (it : Iter P gf lb args N R) (hps : ∀ k, (args k).size = ps.size)
    (I : Nat → World → Prop) (Ix : Code → Nat → World → Prop) (hI : OwnFrom w.heap.size I) (hIx : ∀ c, OwnFrom w.heap.size (Ix c)) (hR : ∀ k W, I k W → R W) (h0 : I 0 w) (A : Nat → Act → World → Prop) (hA : ∀ k a', OwnFrom w.heap.size (fun (_ : Unit) W => A k a' W))
    (hassign : ∀ (k : Nat) (W : World) (K : Act → World → Prop), k < N → I k W → w.heap.size + 1 < W.heap.size → (∀ a' W', Kept w.heap.size W W' → A k a' W' → K a' W') → assign.wpIn (Fence.wide.inRound (w.heap.size + 1)) 0 P (Exit.then K (fun _ _ _ => False)) { tmps := (ps.zip (args k)).foldl (fun t (p, v) => t.setIfInBounds p v) a.tmps, defers := [] } W)
    (hbody : ∀ (k : Nat) (a' : Act) (W : World), k < N → A k a' W → w.heap.size + 1 < W.heap.size → W.heap[w.heap.size]? = some (.deferred (some [])) → (∃ r, W.heap[w.heap.size + 1]? = some (.loop r)) → body.wpIn (Fence.wide.inRound (w.heap.size + 1)) 0 P (roundsOn w.heap.size I Ix k W) a' W)
    (hdone : ∀ W, I N W → W.heap[w.heap.size]? = some (.deferred (some [])) → Q .normal { a with defers := { target := .collected w.heap.size, args := #[] } :: a.defers } W)
    (hstop : ∀ c k W, k < N → Ix c k W → W.heap[w.heap.size]? = some (.deferred (some [])) → c.wpIn Fence.wide 0 P Q { a with defers := { target := .collected w.heap.size, args := #[] } :: a.defers } W) :
    (Code.rangeFunc g ps assign body).wpIn Fence.wide 0 P Q a w := by
 refine wpIn_rangeFunc fun fn hfn => ?_;let lp : LoopState → Option Code → Obj := fun st pe => .loop { state := st, pending := pe, fn, tmps := a.tmps, params := ps, assign, body, defers := w.heap.size }
 have keep : ∀ {A B : World} {row : Option Nat} {st : LoopState} {pe : Option Code}, A.grownBy B row → (∀ r, row = some r → w.heap.size + 2 ≤ r ∧ ∃ o : Obj, A.heap[r]? = some o ∧ o.isCells = false) → A.heap[w.heap.size + 1]? = some (lp st pe) → A.heap[w.heap.size]? = some (.deferred (some [])) →
     B.heap[w.heap.size + 1]? = some (lp st pe) ∧ B.heap[w.heap.size]? = some (.deferred (some [])) := by
  intro A B row st pe hgr hr h1 h2;have l1 := (ltH h1);refine ⟨(hgr.block _ l1 fun e => ?_).trans h1, (hgr.block _ (by omega) fun e => ?_).trans h2⟩
  ·have := (hr _ e.symm).1;omega
  ·have := (hr _ e.symm).1;omega
 have more : ∀ {A B : World} {row : Option Nat}, (∀ r, row = some r → w.heap.size + 2 ≤ r ∧ ∃ o : Obj, A.heap[r]? = some o ∧ o.isCells = false) → ∀ r, row = some r → w.heap.size ≤ r ∧ ∃ o : Obj, A.heap[r]? = some o ∧ o.isCells = false :=
  fun hr r e => ⟨by have := (hr r e).1; omega, (hr r e).2⟩
 have sz : ((w.alloc (.deferred (some []))).alloc (lp .ready none)).heap.size = w.heap.size + 2 := by simp
 refine ⟨w.heap.size + 1, [{ target := .collected w.heap.size, args := #[] }], (w.alloc (.deferred (some []))).alloc (lp .ready none), { target := .fn (.func gf) lb, args := #[.func (.yield (w.heap.size + 1)) #[] #[]] }, (w.alloc (.deferred (some []))).alloc (lp .ready none), gf,
  #[.func (.yield (w.heap.size + 1)) #[] #[]] ++ lb, (w.alloc (.deferred (some []))).alloc (lp .ready none), run_enterLoop_outer _ _ _ _ _, ?_, fun _ _ => trivial, ?_, (fun h => by cases h), ?_⟩
 ·simp only [resolve, hg];simp [go_sem]
 ·have eg' : ∀ args w, (callFunc gf args).run P w = .ok (.enter gf args) w := eg;simp [invoke, go_sem, eg']
 refine (it (w.heap.size + 1) (fun k W => I k W ∧ W.heap[w.heap.size + 1]? = some (lp .ready none) ∧ W.heap[w.heap.size]? = some (.deferred (some [])))
  (fun k W => ∃ c, Ix c k W ∧ W.heap[w.heap.size + 1]? = some (lp .done (some c)) ∧ W.heap[w.heap.size]? = some (.deferred (some []))) _ ?_ ?_ (fun k W h => hR k W h.1) ?_ ⟨?_, ?_, ?_⟩).mono ?_
 ·rintro k A B row ⟨h1, h2, h3⟩ hgr hr;rw [sz] at hr;exact ⟨hI k A B row h1 hgr (more (B := B) hr), keep hgr hr h2 h3⟩
 ·rintro k A B row ⟨c, h1, h2, h3⟩ hgr hr;rw [sz] at hr;exact ⟨c, hIx c k A B row h1 hgr (more (B := B) hr), keep hgr hr h2 h3⟩
 ·rintro k W hk ⟨hi, hl, hd⟩;have hlt := (ltH hl);refine ⟨fn, _, assign, body, run_yield hl (hps k), roundIn_of_wpIn hfn (hassign k W _ hk hi hlt ?_)⟩;clear hi;intro a' Wa hka hax;replace hl := (hka.2 _ (by omega) hlt).trans hl;replace hd := (hka.2 _ (Nat.le_refl _) (by omega)).trans hd;clear hlt;replace hka : Kept ((w.alloc (.deferred (some []))).alloc (lp .ready none)).heap.size W Wa := hka.mono (by rw [sz]; omega);have hks : ∀ V o, Kept ((w.alloc (.deferred (some []))).alloc (lp .ready none)).heap.size V (V.putObj (w.heap.size + 1) o) := fun V o => Kept.put V o (by rw [sz]; omega);revert hka
  generalize W = Wb;intro hka;obtain ⟨W, rfl⟩ : ∃ W, W = Wa := ⟨_, rfl⟩;have hlt := (ltH hl);refine ⟨_, run_beginRound hl rfl, ?_⟩;have hl2 : (W.putObj (w.heap.size + 1) (lp .busy none)).heap[w.heap.size + 1]? = some (lp .busy none) := World.putObj_heap_same hlt;have hd2 : (W.putObj (w.heap.size + 1) (lp .busy none)).heap[w.heap.size]? = some (.deferred (some [])) := (World.putObj_heap_other (by omega)).trans hd;refine wpIn_mono (hbody k a' _ hk ((hA k a').putObj (s := ()) _ hax (by omega) hl rfl) (by simpa using hlt) hd2 ⟨_, hl2⟩) ?_;have fin : ∀ (jump : Option Code) (W3 : World), Kept w.heap.size (W.putObj (w.heap.size + 1) (lp .busy none)) W3 →
      Kept ((w.alloc (.deferred (some []))).alloc (lp .ready none)).heap.size Wb (W3.putObj (w.heap.size + 1) (lp (if jump.isNone then .ready else .done) jump)) ∧
      (Instr.endRound (w.heap.size + 1) jump).run P W3 = .ok (.bool jump.isNone) (W3.putObj (w.heap.size + 1) (lp (if jump.isNone then .ready else .done) jump)) ∧ W3.heap[w.heap.size + 1]? = some (lp .busy none) ∧
      (W3.putObj (w.heap.size + 1) (lp (if jump.isNone then .ready else .done) jump)).heap[w.heap.size + 1]? = some (lp (if jump.isNone then .ready else .done) jump) ∧
      (W3.putObj (w.heap.size + 1) (lp (if jump.isNone then .ready else .done) jump)).heap[w.heap.size]? = some (.deferred (some [])) := by
   intro jump W3 e0;have e2 := (e0.2 _ (by omega) (by simpa using hlt)).trans hl2;have e1 := (e0.2 _ (Nat.le_refl _) (by simp; omega)).trans hd2;exact ⟨((hka.trans (hks _ _)).trans (e0.mono (by rw [sz]; omega))).trans (hks _ _), run_endRound jump e2, e2, World.putObj_heap_same (ltH e2), (World.putObj_heap_other (by omega)).trans e1⟩
  intro e a3 W3 hp;cases e with
  | normal =>
   obtain ⟨e0, hi3⟩ := hp;obtain ⟨hkk, hr, hl3, hl4, hk4⟩ := fin none W3 e0;exact ⟨_, _, hr, hkk, .inl ⟨rfl, hI.putObj _ hi3 (by omega) hl3 rfl, hl4, hk4⟩⟩
  | ret =>
   obtain ⟨e0, hi3⟩ := hp;obtain ⟨hkk, hr, hl3, hl4, hk4⟩ := fin (some .ret) W3 e0;exact ⟨_, _, hr, hkk, .inr ⟨rfl, .ret, (hIx _).putObj _ hi3 (by omega) hl3 rfl, hl4, hk4⟩⟩
  | exit id =>
   obtain ⟨e0, hi3⟩ := hp;obtain ⟨hkk, hr, hl3, hl4, hk4⟩ := fin (some (.exit id)) W3 e0;exact ⟨_, _, hr, hkk, .inr ⟨rfl, .exit id, (hIx _).putObj _ hi3 (by omega) hl3 rfl, hl4, hk4⟩⟩
  | goto t =>
   obtain ⟨e0, hi3⟩ := hp;obtain ⟨hkk, hr, hl3, hl4, hk4⟩ := fin (some (.goto t)) W3 e0;exact ⟨_, _, hr, hkk, .inr ⟨rfl, .goto t, (hIx _).putObj _ hi3 (by omega) hl3 rfl, hl4, hk4⟩⟩
  | panic ch => exact hp.elim
  | outgrown => exact hp.elim
 ·exact hI.alloc _ (hI.alloc _ h0)
 ·have := World.alloc_heap_new (w.alloc (.deferred (some []))) (lp .ready none);rwa [World.size_alloc] at this
 ·exact (Below.heap_alloc _ _ _ (by simp)).trans (World.alloc_heap_new w _)
 ·rintro e W ⟨⟨v, rfl⟩, ⟨hi, hl, hd⟩ | ⟨k, hk, c, hi, hl, hd⟩⟩
  ·exact ⟨none, _, run_endLoop hl (by simp), hdone _ (hI.putObj _ hi (by omega) hl rfl) ((World.putObj_heap_other (by omega)).trans hd)⟩
  ·exact ⟨some c, _, run_endLoop hl (by simp), hstop c k _ hk ((hIx c).putObj _ hi (by omega) hl rfl) ((World.putObj_heap_other (by omega)).trans hd)⟩
end
end Go.Proofs.YtcocbafhcpdheaaGreatDoor
