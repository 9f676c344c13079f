import Derived.Test.YtcocbafhcpdheaaGreatDoorP00Box
import Derived.Test.YtcocbafhcpdheaaGreatDoorP08Msgs
namespace Go.Proofs.YtcocbafhcpdheaaGreatDoor
set_option maxHeartbeats 2000000
open Go.ChangeShapes Go.WideShapes Go.ChangeAt Go.RowKit
set_option linter.unusedVariables false
theorem msg_shape {w : World} {cs : List Value} {x : MsgD} (h : msgR.rd w cs x) : ∃ (ga : Option Addr) (gc : Nat), cs = [.int .i64 x.1, .int .i64 x.2.1, .int .i64 x.2.2.1, .int .i64 x.2.2.2.1, .int .i64 x.2.2.2.2.1, .slice ga x.2.2.2.2.2.1.length gc, .int .i64 x.2.2.2.2.2.2] := by
 obtain ⟨a, b, e, -⟩ := msg_rd h;exact ⟨a, b, e⟩
open Go.RowKit
abbrev WayD := Int × Int × List Int
abbrev CacheD := List (List WayD) × List Int
def emptyW : WayD := (-1, 0, [])
def clearB (u : WayD) : Bool := decide (u.1 = -1 ∧ u.2.1 = 0 ∧ u.2.2 = [])
def pow3 (n : Nat) : Prop := n = 1 ∨ n = 2 ∨ n = 4
section
variable (ln : List Int → Bool) (tok : Int → Int → Bool) (tou : Int → Int → Int → Int) (vic : Int → Int → Int)
def fullB (u : WayD) : Bool := decide ((0 ≤ u.1 ∧ u.1 ≤ 15) ∧ (1 ≤ u.2.1 ∧ u.2.1 ≤ 3) ∧ ln u.2.2 = true)
def RowOk (n s : Nat) (row : List WayD) : Prop :=
 (∀ (i : Nat) (u : WayD), row[i]? = some u → clearB u = true ∨ (fullB ln u = true ∧ u.1 % (n : Int) = s)) ∧
 ∀ (i k : Nat) (u x : WayD), row[i]? = some u → row[k]? = some x → 0 ≤ u.1 → u.1 = x.1 → i = k
def OkC (c : CacheD) : Prop :=
 pow3 c.1.length ∧ c.2.length = c.1.length ∧ ∃ m, pow3 m ∧ ∀ (s : Nat) (row : List WayD), c.1[s]? = some row → row.length = m ∧ (∃ t, c.2[s]? = some t ∧ tok t m = true) ∧ RowOk ln c.1.length s row
def setNo (c : CacheD) (line : Int) : Nat := (line % (c.1.length : Int)).toNat
def rowFor (c : CacheD) (line : Int) : List WayD := c.1.getD (setNo c line) []
def atC (c : CacheD) (line : Int) : Option Nat := if line < 0 then none else (rowFor c line).findIdx? fun u => u.1 == line
def roomC (c : CacheD) (line : Int) : Option Nat := (rowFor c line).findIdx? clearB
def putNo (c : CacheD) (line : Int) : Option Nat := match atC c line with
 | some i => some i
 | none => roomC c line
open Classical in
noncomputable def okB (c : CacheD) : Bool := decide (OkC ln tok c)
noncomputable def findC (c : CacheD) (line : Int) : WayD × Int := if okB ln tok c then (match atC c line with
 | some i => ((rowFor c line).getD i emptyW, (i : Int))
 | none => (emptyW, -1)) else (emptyW, -1)
end
section
variable {ln : List Int → Bool} {tok : Int → Int → Bool} {tou : Int → Int → Int → Int} {vic : Int → Int → Int}
theorem okB_iff {c : CacheD} : okB ln tok c = true ↔ OkC ln tok c := by simp [okB]
theorem clear_eq {u : WayD} (h : clearB u = true) : u = emptyW := by
 simp [clearB] at h
 obtain ⟨a, b, d⟩ := u;simp at h
 simp [emptyW, h]
theorem full_line {u : WayD} (h : fullB ln u = true) : 0 ≤ u.1 ∧ u.1 ≤ 15 := by
 simp [fullB] at h
 exact h.1
theorem pow3_pos {n : Nat} (h : pow3 n) : 0 < n := by rcases h with h | h | h <;> omega
theorem setNo_lt {c : CacheD} {line : Int} (h : pow3 c.1.length) : setNo c line < c.1.length := by
 have := pow3_pos h;have h1 := Int.emod_nonneg line (show (c.1.length : Int) ≠ 0 by omega);have h2 := Int.emod_lt_of_pos line (show (0 : Int) < c.1.length by omega);unfold setNo;omega
theorem setNo_cast {c : CacheD} {line : Int} (h : pow3 c.1.length) : ((setNo c line : Nat) : Int) = line % (c.1.length : Int) := by
 have := pow3_pos h;have h1 := Int.emod_nonneg line (show (c.1.length : Int) ≠ 0 by omega);unfold setNo;omega
theorem rowFor_get {c : CacheD} {line : Int} (h : pow3 c.1.length) : c.1[setNo c line]? = some (rowFor c line) := by
 have := setNo_lt (line := line) h;unfold rowFor;rw [List.getD_eq_getElem?_getD, List.getElem?_eq_getElem this];rfl
theorem idx_some {p : WayD → Bool} {row : List WayD} {i : Nat} (h : row.findIdx? p = some i) : ∃ u, row[i]? = some u ∧ p u = true := by
 rw [List.findIdx?_eq_some_iff_getElem] at h;obtain ⟨a, b, _⟩ := h;exact ⟨row[i], List.getElem?_eq_getElem a, b⟩
theorem at_some {c : CacheD} {line : Int} {i : Nat} (h : atC c line = some i) : 0 ≤ line ∧ ∃ u, (rowFor c line)[i]? = some u ∧ u.1 = line := by
 unfold atC at h;split at h
 ·cases h
 ·obtain ⟨u, b, d⟩ := idx_some h;exact ⟨by omega, u, b, by simpa using d⟩
theorem getD_of {row : List WayD} {i : Nat} {u : WayD} (h : row[i]? = some u) : row.getD i emptyW = u := by
 rw [List.getD_eq_getElem?_getD, h];rfl
theorem find_none {c : CacheD} {l : Int} (h : atC c l = none) : findC ln tok c l = (emptyW, -1) := by
 unfold findC;rw [h];split <;> rfl
theorem find_some {c : CacheD} {l : Int} {i : Nat} {u : WayD} (h : OkC ln tok c) (ha : atC c l = some i) (hu : (rowFor c l)[i]? = some u) : findC ln tok c l = (u, (i : Int)) := by
 unfold findC;rw [if_pos (okB_iff.2 h), ha];simp only [getD_of hu]
end
abbrev DescD := Bool × Int × Int × List Int
abbrev descR : Rep DescD := prodR boolR (prodR intR (prodR intR intsR))
abbrev descM : Mk DescD := prodM boolM (prodM intM (prodM intM intsM))
abbrev descsR : Rep (List DescD) := slR 165 descR
abbrev descsM : Mk (List DescD) := slM descM
theorem opens_desc : Opens Tryz.prog 160 descR :=
 opens_struct Tryz.underlying160 (by kernel_rfl) (opensF_cons rfl (by kernel_rfl) (opens_bool Tryz.underlying4) (opensF_cons rfl (by kernel_rfl) opens_i64 (opensF_cons rfl (by kernel_rfl) opens_i64 (opensF_one rfl (by kernel_rfl) opens_ints))))
theorem opens_descs : Opens Tryz.prog 29 descsR := opens_slice Tryz.underlying29 (by kernel_rfl) (by decide) opens_desc
theorem desc_rd {w : World} {cs : List Value} {u : DescD} (h : descR.rd w cs u) :
    ∃ a b, cs = [.bool u.1, .int .i64 u.2.1, .int .i64 u.2.2.1, .slice a u.2.2.2.length b] ∧ In64 u.2.1 ∧ In64 u.2.2.1 ∧ u.2.2.2.length ≤ b ∧ b ≤ maxLen ∧ SlRd intR w a u.2.2.2 := by
 obtain ⟨c0, e0, rfl, rfl, c1, e1, rfl, ⟨rfl, d⟩, c2, e2, rfl, ⟨rfl, f⟩, ⟨a, b, rfl, g, c, i⟩⟩ := h;exact ⟨a, b, rfl, d, f, g, c, i⟩
theorem own_desc {w : World} {S : Foot} {f1 f2 : Int} {f0 : Bool} {d : List Int} {v : Value} (i1 : In64 f1) (i2 : In64 f2) (h : intsR.own w S [v] d) : descR.own w S [.bool f0, .int .i64 f1, .int .i64 f2, v] (f0, f1, f2, d) :=
 ⟨[_], [_, _, _], fun _ => False, S, rfl, rfl, ⟨[_], [_, _], fun _ => False, S, rfl, ⟨rfl, i1⟩, ⟨[_], [_], fun _ => False, S, rfl, ⟨rfl, i2⟩, h, fun _ h => h.elim, Sub.refl _, fun _ h _ => h⟩, fun _ h => h.elim, Sub.refl _, fun _ h _ => h⟩, fun _ h => h.elim, Sub.refl _, fun _ h _ => h⟩
theorem bk_desc (u : DescD) : descM.bk u = intsM.bk u.2.2.2 := by
 show 0 + (0 + (0 + (intsM.bk u.2.2.2))) = _
 omega
theorem cells_4 {w : World} {g : Nat} {x0 x1 x2 x3 : Value} {t : TypeId} (h : w.heap[g]? = some (.cells #[x0, x1, x2, x3] t (0, 0))) :
    w.cell? ⟨g, 0, none⟩ = some x0 ∧ w.cell? ⟨g, 1, none⟩ = some x1 ∧ w.cell? ⟨g, 2, none⟩ = some x2 ∧ w.cell? ⟨g, 3, none⟩ = some x3 :=
 ⟨by rw [cell_of_row w g 0 _ t (0, 0) h]; rfl, by rw [cell_of_row w g 1 _ t (0, 0) h]; rfl, by rw [cell_of_row w g 2 _ t (0, 0) h]; rfl, by rw [cell_of_row w g 3 _ t (0, 0) h]; rfl⟩
theorem froz_4 {w : World} {g : Nat} {cs : Array Value} {t : TypeId} (h : w.heap[g]? = some (.cells cs t (0, 0))) : w.frozen? ⟨g, 0, none⟩ = false ∧ w.frozen? ⟨g, 1, none⟩ = false ∧ w.frozen? ⟨g, 2, none⟩ = false ∧ w.frozen? ⟨g, 3, none⟩ = false :=
 ⟨frozen_of_row w g 0 _ t h, frozen_of_row w g 1 _ t h, frozen_of_row w g 2 _ t h, frozen_of_row w g 3 _ t h⟩
theorem put_4 {w : World} {g : Nat} {x0 y0 x1 y1 x2 y2 x3 y3 : Value} {t : TypeId} (h : w.heap[g]? = some (.cells #[x0, x1, x2, x3] t (0, 0))) :
    ((((w.setCell ⟨g, 0, none⟩ y0).setCell ⟨g, 1, none⟩ y1).setCell ⟨g, 2, none⟩ y2).setCell ⟨g, 3, none⟩ y3).heap[g]? = some (.cells #[y0, y1, y2, y3] t (0, 0)) := by
 have d : (w.setCell ⟨g, 0, none⟩ y0).heap[g]? = some (.cells #[y0, x1, x2, x3] t (0, 0)) := heap_setCell_same _ g 0 _ t y0 h;have b : ((w.setCell ⟨g, 0, none⟩ y0).setCell ⟨g, 1, none⟩ y1).heap[g]? = some (.cells #[y0, y1, x2, x3] t (0, 0)) := heap_setCell_same _ g 1 _ t y1 d;have a : (((w.setCell ⟨g, 0, none⟩ y0).setCell ⟨g, 1, none⟩ y1).setCell ⟨g, 2, none⟩ y2).heap[g]? = some (.cells #[y0, y1, y2, x3] t (0, 0)) := heap_setCell_same _ g 2 _ t y2 b;have c : ((((w.setCell ⟨g, 0, none⟩ y0).setCell ⟨g, 1, none⟩ y1).setCell ⟨g, 2, none⟩ y2).setCell ⟨g, 3, none⟩ y3).heap[g]? = some (.cells #[y0, y1, y2, y3] t (0, 0)) := heap_setCell_same _ g 3 _ t y3 a;exact c
theorem szDesc_rep (f1 f2 : Int) (f0 : Bool) (d : List Int) (a : Option Addr) (cap : Nat) (left : Int) (w : World) (h0 : 0 ≤ left) (h1 : left ≤ 1048576) (hm : d.length ≤ maxLen) :
    Calls Tryz.prog 111 #[.agg #[.bool f0, .int .i64 f1, .int .i64 f2, .slice a d.length cap], .int .i64 left] w fun e b => e = .returned (.int .i64 (szI (descM.bk (f0, f1, f2, d)) left)) ∧ Below w.heap.size w b := by
 rw [bk_desc];show Calls Tryz.prog 111 _ w fun e b => e = .returned (.int .i64 (szI (intsM.bk d) left)) ∧ Below w.heap.size w b
 by_cases f : (intsM.bk d : Int) ≤ left
 ·have c : Hid (szI (intsM.bk d) left = _) := szI_yes f;have g : ¬ (left - (intsM.bk d : Int) < 0) := by omega
  go_enter Tryz.func111, Tryz.ntmps111;go_wp2_with (go_at_call 106; refine (szInt64S_rep _ d _ _ _ h0 h1 hm).mono ?_; rintro e b ⟨rfl, rfl⟩; rw [c.out])
  go_ret
  exact ⟨ret_int c.out.symm, box_below w _⟩
 ·have c : Hid (szI (intsM.bk d) left = _) := szI_no f;go_enter Tryz.func111, Tryz.ntmps111;go_wp2_with (go_at_call 106; refine (szInt64S_rep _ d _ _ _ h0 h1 hm).mono ?_; rintro e b ⟨rfl, rfl⟩; rw [c.out])
  go_ret
  exact ⟨ret_int c.out.symm, box_below w _⟩
theorem szDescS_rep (a : Option Addr) (xs : List DescD) (cap : Nat) (left : Int) (w : World) (h : SlRd descR w a xs) (h0 : 0 ≤ left) (h1 : left ≤ 1048576) (hm : xs.length ≤ maxLen) :
    Calls Tryz.prog 61 #[.slice a xs.length cap, .int .i64 left] w fun e r => e = .returned (.int .i64 (szI ((slM descM).bk xs) left)) ∧ Below w.heap.size w r := by
 have R : xs.length ≤ 9223372036854775807 := hm;have j : (slM descM).bk xs = xs.length + sumbk descM xs := rfl;clear hm;by_cases hl : (xs.length : Int) ≤ left
 ·have z : ¬ (left - (xs.length : Int) < 0) := by omega
  have H : Hid _ := j;have K : Hid (SlRd descR w a xs) := h;clear j h;go_enter Tryz.func61, Tryz.ntmps61;go_wp2;go_loopw [1, 5] (fun q i wr => ∃ k : Nat, k ≤ xs.length ∧ i = .int .i64 k ∧ (sumbk descM (xs.take k) : Int) + xs.length ≤ left ∧ q = .int .i64 (left - (xs.length : Int) - sumbk descM (xs.take k)) ∧ Below w.heap.size w wr) (fun _ i _ => xs.length - (intOf i).toNat)
  case atStart => exact ⟨0, Nat.zero_le _, rfl, by simp [sumbk]; omega, by simp [sumbk], Below.refl _ _⟩
  case round =>
   obtain ⟨k, J, rfl, G, rfl, g⟩ := hrel;by_cases v : k < xs.length
   ·have E : (k : Int) < (xs.length : Int) := by omega
    obtain ⟨x, o⟩ : ∃ x, xs[k]? = some x := ⟨_, List.getElem?_eq_getElem v⟩;have I := slrd_keep K.out fun k J => g.block k J;obtain ⟨b, d, cs, rfl, f, c⟩ := slrd_at I o;obtain ⟨ad, U, rfl, -, -, n, m, C⟩ := desc_rd f;have O := c 0 _ rfl;have L := c 1 _ rfl;have V := c 2 _ rfl;have S := c 3 _ rfl;rw [show d + (k * descR.size + 0) = d + k * 4 from rfl] at O;rw [show d + (k * descR.size + 1) = d + k * 4 + 1 from rfl] at L;rw [show d + (k * descR.size + 2) = d + k * 4 + 2 from rfl] at V;rw [show d + (k * descR.size + 3) = d + k * 4 + 3 from rfl] at S;have F : Hid (x.2.2.2.length ≤ maxLen) := Nat.le_trans n m;clear c f n m C;have A : Hid _ := sumbk_step (M := descM) o;have y := sumbk_get (M := descM) o;clear o I;generalize sumbk descM (xs.take k) = T at G A y ⊢;by_cases D : (((descM).bk x : Nat) : Int) ≤ left - (xs.length : Int) - (T : Int)
    ·have N : ¬ (left - (xs.length : Int) - (T : Int) - (((descM).bk x : Nat) : Int) < 0) := by omega
     have s : Hid (szI ((descM).bk x) (left - (xs.length : Int) - (T : Int)) = _) := szI_yes D;go_wp2_with (go_at_call 111; refine (szDesc_rep x.2.1 x.2.2.1 x.1 x.2.2.2 _ _ _ _ (by omega) (by omega) F.out).mono ?_; rintro e r ⟨rfl, l⟩; replace g := below_step g l; clear l; rw [s.out])
     go_roundw
     case rel => exact ⟨k + 1, by omega, by go_num, by have := A.out; omega, by rw [A.out]; go_num, g⟩
     case measure => simp [intOf]; omega
    ·have s : Hid (szI ((descM).bk x) (left - (xs.length : Int) - (T : Int)) = _) := szI_no D;have p : Hid (szI ((slM descM).bk xs) left = -1) := by unfold Hid; rw [H.out]; exact szI_no (by omega)
     go_wp2_with (go_at_call 111; refine (szDesc_rep x.2.1 x.2.2.1 x.1 x.2.2.2 _ _ _ _ (by omega) (by omega) F.out).mono ?_; rintro e r ⟨rfl, l⟩; replace g := below_step g l; clear l; rw [s.out])
     go_ret
     exact ⟨ret_int p.out.symm, g⟩
   ·have B : k = xs.length := by omega
    subst B;rw [List.take_length] at G ⊢;have p : Hid (szI ((slM descM).bk xs) left = left - (xs.length : Int) - (sumbk descM xs : Int)) := by unfold Hid; rw [H.out, szI_yes (by omega)]; omega
    go_wp2;go_ret
    exact ⟨ret_int p.out.symm, g⟩
 ·have z : left - (xs.length : Int) < 0 := by omega
  rw [szI_no (by omega)];clear j h;go_enter Tryz.func61, Tryz.ntmps61;go_wp2;go_ret
  exact ⟨rfl, Below.refl _ _⟩
theorem toDesc_rep (f1 f2 : Int) (f0 : Bool) (d : List Int) (a : Option Addr) (cap : Nat) (w : World) (i1 : In64 f1) (i2 : In64 f2) (h : SlRd intR w a d) (hm : intsM.bk d ≤ 1048576) :
    Calls Tryz.prog 117 #[.agg #[.bool f0, .int .i64 f1, .int .i64 f2, .slice a d.length cap]] w fun e w' => ∃ j l, e = .returned (.agg #[.bool f0, .int .i64 f1, .int .i64 f2, .slice j d.length l]) ∧ MadeR descR w w' [.bool f0, .int .i64 f1, .int .i64 f2, .slice j d.length l] (f0, f1, f2, d) := by
 have H : Hid (∀ W, Below w.heap.size w W → SlRd intR W a d) := fun W hb => slrd_keep h fun k hk => hb.block k hk;clear h;go_enter Tryz.func117, Tryz.ntmps117;go_wp2_with fail
 have p : Below w.heap.size w (((w.alloc (.cells #[.bool f0, .int .i64 f1, .int .i64 f2, .slice a d.length cap] 160)).alloc (.cells #[.bool false, .int .i64 0, .int .i64 0, .slice none 0 0] 165)).alloc (.cells #[.bool f0, .int .i64 f1, .int .i64 f2, .slice none 0 0] 165)) := (((Below.refl _ w).alloc (Nat.le_refl _) _).alloc (by simp) _).alloc (by simp; omega) _;have b := heap_on (.cells #[.bool f0, .int .i64 f1, .int .i64 f2, .slice none 0 0] 165) (heap_at (w.alloc (.cells #[.bool f0, .int .i64 f1, .int .i64 f2, .slice a d.length cap] 160)) (.cells #[.bool false, .int .i64 0, .int .i64 0, .slice none 0 0] 165));have c := heap_at ((w.alloc (.cells #[.bool f0, .int .i64 f1, .int .i64 f2, .slice a d.length cap] 160)).alloc (.cells #[.bool false, .int .i64 0, .int .i64 0, .slice none 0 0] 165)) (.cells #[.bool f0, .int .i64 f1, .int .i64 f2, .slice none 0 0] 165);have I : (((w.alloc (.cells #[.bool f0, .int .i64 f1, .int .i64 f2, .slice a d.length cap] 160)).alloc (.cells #[.bool false, .int .i64 0, .int .i64 0, .slice none 0 0] 165)).alloc (.cells #[.bool f0, .int .i64 f1, .int .i64 f2, .slice none 0 0] 165)).heap.size = w.heap.size + 1 + 1 + 1 := by simp
 have m := heap_on (.cells #[.bool f0, .int .i64 f1, .int .i64 f2, .slice none 0 0] 165) (heap_on (.cells #[.bool false, .int .i64 0, .int .i64 0, .slice none 0 0] 165) (heap_at w (.cells #[.bool f0, .int .i64 f1, .int .i64 f2, .slice a d.length cap] 160)));rw [alloc_len] at b;rw [alloc_len, alloc_len] at c;generalize ((w.alloc (.cells #[.bool f0, .int .i64 f1, .int .i64 f2, .slice a d.length cap] 160)).alloc (.cells #[.bool false, .int .i64 0, .int .i64 0, .slice none 0 0] 165)).alloc (.cells #[.bool f0, .int .i64 f1, .int .i64 f2, .slice none 0 0] 165) = W0 at p m b c I ⊢;refine (toInt64S_rep _ d _ _ (H.out _ p) hm).mono ?_;rintro e w1 ⟨v, rfl, n⟩;obtain ⟨j, l, rfl⟩ := slown_val n.1;have f := n.2;have i := n.1;have F := below_step p f;replace m := row_keep f m;replace b := row_keep f b;replace c := row_keep f c;obtain ⟨q0, q1, q2, q3⟩ := cells_4 m;obtain ⟨y0, y1, y2, y3⟩ := cells_4 c;obtain ⟨r, z, s, A⟩ := froz_4 c;obtain ⟨z0, z1, z2, z3⟩ := cells_4 b;obtain ⟨g0, g1, g2, g3⟩ := froz_4 b;have D : Hid _ := And.intro b c;have B : Hid _ := i;clear m b c i n H;go_wp2;obtain ⟨b, c⟩ := D.out;have q := put_4 (y0 := .bool f0) (y1 := .int .i64 f1) (y2 := .int .i64 f2) (y3 := .slice j d.length l) (heap_setC (g := w.heap.size + 1 + 1) (o := 3) (v := .slice j d.length l) b (by omega));obtain ⟨E, y, C, G⟩ := cells_4 q;refine bodyPost_ret (v := .agg #[.bool f0, .int .i64 f1, .int .i64 f2, .slice j d.length l]) (by simp [results, Tryz.results117, go_sem, E, y, C, G]) rfl ⟨j, l, rfl, own_desc i1 i2 ?_, ?_⟩
 ·refine intsR.own_mono (own_setC (own_setC (own_setC (own_setC (own_setC (B.out) (fun h => by have := h.1; omega)) (fun h => by have := h.1; omega)) (fun h => by have := h.1; omega)) (fun h => by have := h.1; omega)) (fun h => by have := h.1; omega)) ?_;exact rng_sub (by omega) (by simp)
 ·exact below_setC (below_setC (below_setC (below_setC (below_setC (F) (by omega)) (by omega)) (by omega)) (by omega)) (by omega)
theorem Tryz.infoDesc : (Tryz.prog.info? 165).map (fun i => (i.zero, i.size, i.bytes)) = some (some (.agg #[.bool false, .int .i64 0, .int .i64 0, .slice none 0 0]), 4, 48) := by kernel_rfl
theorem toDescS_rep (a : Option Addr) (xs : List DescD) (cap : Nat) (w : World) (h : SlRd descR w a xs) (hm : descsM.bk xs ≤ 1048576) :
    Calls Tryz.prog 67 #[.slice a xs.length cap] w fun e w' => ∃ v, e = .returned v ∧ MadeR descsR w w' [v] xs := by
 have s : descsM.bk xs = xs.length + sumbk descM xs := rfl;have cA : xs.length ≤ 1048576 := by omega
 have HB : Hid (sumbk descM xs ≤ 1048576) := by unfold Hid; omega
 have T : Hid (SlRd descR w a xs) := h;clear s hm h;have r := run_make_wide (P := Tryz.prog) 44 165 (.agg #[.bool false, .int .i64 0, .int .i64 0, .slice none 0 0]) 4 48 Tryz.underlying44 Tryz.infoDesc xs.length (by omega) (by omega);go_enter Tryz.func67, Tryz.ntmps67;go_wp2;go_loopw [4] (fun i wr => ∃ k : Nat, k ≤ xs.length ∧ i = .int .i64 k ∧ Fill 165 descR w wr xs.length (xs.take k)) (fun i _ => xs.length - (intOf i).toNat)
 case atStart => exact ⟨0, Nat.zero_le _, rfl, by simpa using fillR_start (e := 165) (R := descR) (w0 := w) (n := xs.length) (cs := madeCells #[.bool false, .int .i64 0, .int .i64 0, .slice none 0 0] (xs.length * 4)) (by unfold maxLen; omega) (by rw [size_madeCells]; rfl)⟩
 case round =>
  obtain ⟨k, hk, rfl, j⟩ := hrel;by_cases l : k < xs.length
  ·have J : (k : Int) < (xs.length : Int) := by omega
   obtain ⟨x, q⟩ : ∃ x, xs[k]? = some x := ⟨_, List.getElem?_eq_getElem l⟩;obtain ⟨b, f, cs, rfl, g, d⟩ := slrd_at (slrd_next T.out (fill_below j)) q;obtain ⟨V, bA, rfl, M, N, D, z, o⟩ := desc_rd g;have L := d 0 _ rfl;have I := d 1 _ rfl;have S := d 2 _ rfl;have O := d 3 _ rfl;rw [show f + (k * descR.size + 0) = f + k * 4 from rfl] at L;rw [show f + (k * descR.size + 1) = f + k * 4 + 1 from rfl] at I;rw [show f + (k * descR.size + 2) = f + k * 4 + 2 from rfl] at S;rw [show f + (k * descR.size + 3) = f + k * 4 + 3 from rfl] at O;have Z : Hid (intsM.bk x.2.2.2 ≤ 1048576) := by unfold Hid; have := sumbk_ge descM xs q; rw [bk_desc] at this; have := HB.out; omega
   have U : Hid (SlRd intR wr V x.2.2.2) := o;have G : Hid _ := And.intro M N;have K : Hid (∀ w1 c, MadeR descR wr w1 c x → _) := fun w1 c hm => fillR_step (w1 := w1) (c := c) j (by simp; omega) l hm;have HP : Hid (xs.take k ++ [x] = xs.take (k + 1)) := by unfold Hid; rw [List.take_add_one, q]; rfl
   clear q g d r j D z o M N;go_wp2_with fail
   refine (toDesc_rep x.2.1 x.2.2.1 x.1 x.2.2.2 _ _ _ G.out.1 G.out.2 U.out Z.out).mono ?_;rintro e w1 ⟨av, cv, rfl, H⟩;obtain ⟨p, m, E⟩ := K.out _ _ H;obtain ⟨v0, y⟩ := p 0 (by decide);obtain ⟨v1, F⟩ := p 1 (by decide);obtain ⟨v2, A⟩ := p 2 (by decide);obtain ⟨v3, B⟩ := p 3 (by decide);have z0 := m (k * 4);have z1 := m (k * 4 + 1);have z2 := m (k * 4 + 2);have z3 := m (k * 4 + 3);rw [show k * descR.size + 0 = k * 4 from rfl] at y;rw [show k * descR.size + 1 = k * 4 + 1 from rfl] at F;rw [show k * descR.size + 2 = k * 4 + 2 from rfl] at A;rw [show k * descR.size + 3 = k * 4 + 3 from rfl] at B;rw [HP.out] at E;have Y : Hid _ := E;clear E H p m K L I S O;go_wp2;go_roundw
   case rel => exact ⟨k + 1, by omega, by go_num, Y.out⟩
   case measure => simp [intOf]; omega
  ·have C : k = xs.length := by omega
   subst C;rw [List.take_length] at j;have X := fillR_end j rfl;clear j;go_wp2;go_ret
   exact ⟨_, rfl, X⟩
theorem eqDesc_rep (f1 f2 : Int) (f0 : Bool) (d : List Int) (a1 a2 : Option Addr) (c1 c2 : Nat) (w : World) (h1 : SlRd intR w a1 d) (h2 : SlRd intR w a2 d) (hm : intsM.bk d ≤ 1152921504606846976) :
    Calls Tryz.prog 137 #[.agg #[.bool f0, .int .i64 f1, .int .i64 f2, .slice a1 d.length c1], .agg #[.bool f0, .int .i64 f1, .int .i64 f2, .slice a2 d.length c2]] w fun e b => e = .returned (.bool true) ∧ Below w.heap.size w b := by
 have a : Hid (∀ o o', Below w.heap.size w ((w.alloc o).alloc o')) := fun o o' => below_step (box_below w o) (box_below _ o');have c : Hid (∀ W, Below w.heap.size w W → SlRd intR W a1 d) := fun W hb => slrd_keep h1 fun k hk => hb.block k hk;have f : Hid (∀ W, Below w.heap.size w W → SlRd intR W a2 d) := fun W hb => slrd_keep h2 fun k hk => hb.block k hk;clear h1 h2;go_enter Tryz.func137, Tryz.ntmps137;go_wp2_with fail
 refine (eqInt64S_rep a1 a2 d c1 c2 _ (c.out _ (a.out _ _)) (f.out _ (a.out _ _)) hm).mono ?_;rintro e b ⟨rfl, n, rfl⟩;go_wp2;go_ret
 exact ⟨rfl, be_drewN (a.out _ _) n⟩
theorem eqDescS_rep (a1 a2 : Option Addr) (xs : List DescD) (c1 c2 : Nat) (w : World) (h1 : SlRd descR w a1 xs) (h2 : SlRd descR w a2 xs) (hm : (slM descM).bk xs ≤ 1152921504606846976) :
    Calls Tryz.prog 81 #[.slice a1 xs.length c1, .slice a2 xs.length c2] w fun e w' => e = .returned (.bool true) ∧ Below w.heap.size w w' := by
 have X : (slM descM).bk xs = xs.length + sumbk descM xs := rfl;have eA : xs.length ≤ 1152921504606846976 := by omega
 have HB : Hid (sumbk descM xs ≤ 1152921504606846976) := by unfold Hid; omega
 have Z : Hid (∀ W, Below w.heap.size w W → SlRd descR W a1 xs) := fun W hb => slrd_keep h1 fun k R => hb.block k R;have H2 : Hid (∀ W, Below w.heap.size w W → SlRd descR W a2 xs) := fun W hb => slrd_keep h2 fun k R => hb.block k R;clear X hm h1 h2;go_enter Tryz.func81, Tryz.ntmps81;go_wp2;go_loopw [5] (fun i wr => ∃ k : Nat, k ≤ xs.length ∧ i = .int .i64 k ∧ Below w.heap.size w wr) (fun i _ => xs.length - (intOf i).toNat)
 case atStart => exact ⟨0, Nat.zero_le _, rfl, Below.refl _ _⟩
 case round =>
  obtain ⟨k, R, rfl, y⟩ := hrel;by_cases U : k < xs.length
  ·have Y : (k : Int) < (xs.length : Int) := by omega
   obtain ⟨x, O⟩ : ∃ x, xs[k]? = some x := ⟨_, List.getElem?_eq_getElem U⟩;have HX : Hid ((descM).bk x ≤ 1152921504606846976) := by unfold Hid; have := sumbk_ge descM xs O; have := HB.out; omega
   obtain ⟨N, a, bA, rfl, r, d⟩ := slrd_at (Z.out _ y) O;obtain ⟨F, G, rfl, -, -, -, -, M⟩ := desc_rd r;have f := d 0 _ rfl;have m := d 1 _ rfl;have l := d 2 _ rfl;have q := d 3 _ rfl;rw [show a + (k * descR.size + 0) = a + k * 4 from rfl] at f;rw [show a + (k * descR.size + 1) = a + k * 4 + 1 from rfl] at m;rw [show a + (k * descR.size + 2) = a + k * 4 + 2 from rfl] at l;rw [show a + (k * descR.size + 3) = a + k * 4 + 3 from rfl] at q;have V : Hid (∀ n : Cls (fun wx => Below wr.heap.size wr wx), SlRd intR n.w F x.2.2.2) := fun n => slrd_next M n.h;clear d r M;obtain ⟨v, b, fA, rfl, s, c⟩ := slrd_at (H2.out _ y) O;obtain ⟨K, L, rfl, -, -, -, -, J⟩ := desc_rd s;have j := c 0 _ rfl;have p := c 1 _ rfl;have g := c 2 _ rfl;have o := c 3 _ rfl;rw [show b + (k * descR.size + 0) = b + k * 4 from rfl] at j;rw [show b + (k * descR.size + 1) = b + k * 4 + 1 from rfl] at p;rw [show b + (k * descR.size + 2) = b + k * 4 + 2 from rfl] at g;rw [show b + (k * descR.size + 3) = b + k * 4 + 3 from rfl] at o;have T : Hid (∀ n : Cls (fun wx => Below wr.heap.size wr wx), SlRd intR n.w K x.2.2.2) := fun n => slrd_next J n.h;clear c s J;have E : ∀ n : Cls (fun wx => Below wr.heap.size wr wx), n.w.cell? ⟨N, a + k * 4, none⟩ = some (.bool x.1) := fun n => cell_keep n.h f (cell_lt f);have z : ∀ n : Cls (fun wx => Below wr.heap.size wr wx), n.w.cell? ⟨N, a + k * 4 + 1, none⟩ = some (.int .i64 x.2.1) := fun n => cell_keep n.h m (cell_lt m);have H : ∀ n : Cls (fun wx => Below wr.heap.size wr wx), n.w.cell? ⟨N, a + k * 4 + 2, none⟩ = some (.int .i64 x.2.2.1) := fun n => cell_keep n.h l (cell_lt l);have D : ∀ n : Cls (fun wx => Below wr.heap.size wr wx), n.w.cell? ⟨N, a + k * 4 + 3, none⟩ = some (.slice F x.2.2.2.length G) := fun n => cell_keep n.h q (cell_lt q);have C : ∀ n : Cls (fun wx => Below wr.heap.size wr wx), n.w.cell? ⟨v, b + k * 4, none⟩ = some (.bool x.1) := fun n => cell_keep n.h j (cell_lt j);have A : ∀ n : Cls (fun wx => Below wr.heap.size wr wx), n.w.cell? ⟨v, b + k * 4 + 1, none⟩ = some (.int .i64 x.2.1) := fun n => cell_keep n.h p (cell_lt p);have I : ∀ n : Cls (fun wx => Below wr.heap.size wr wx), n.w.cell? ⟨v, b + k * 4 + 2, none⟩ = some (.int .i64 x.2.2.1) := fun n => cell_keep n.h g (cell_lt g);have B : ∀ n : Cls (fun wx => Below wr.heap.size wr wx), n.w.cell? ⟨v, b + k * 4 + 3, none⟩ = some (.slice K x.2.2.2.length L) := fun n => cell_keep n.h o (cell_lt o);clear O f m l q j p g o;go_wp2_with fail
   refine region_class (fun wx => Below wr.heap.size wr wx) (by kernel_rfl) (by kernel_rfl) ((Below.refl _ wr).drew) ?_;intro S;repeat (quiet_step ((go_at_call 137; exact calls_class (eqDesc_rep x.2.1 x.2.2.1 x.1 x.2.2.2 _ _ _ _ _ (V.out _) (T.out _) (by have := HX.out; rw [bk_desc] at this; exact this)) (fun w' hc bb => below_step hc bb))))
   refine wpQuiet_nil ?_;intro wx v;replace y := below_step y v;clear v S E z H D C A I B;go_wp2;go_roundw
   case rel => exact ⟨k + 1, by omega, by go_num, y⟩
   case measure => simp [intOf]; omega
  ·go_wp2;go_ret
   exact ⟨rfl, y⟩
end Go.Proofs.YtcocbafhcpdheaaGreatDoor
