import Derived.Test.YtmaopldahnejdaaGreatDoorH00Box
import Derived.RangeFuncNested
import Derived.RangeFuncBound
import Derived.RangeFuncLeaves
import Derived.Shelf.Abstract
import Derived.RangeFuncCalls
import Derived.Shelf.RegionOpen
import Derived.OwnWalkIn
import Derived.TacticsInMore
import Derived.LoopNIn
import Derived.LoopIn
import Derived.Lib.SliceRun
import Derived.Test.YtmaopldahnejdaaGreatDoorH23
import Derived.Deep.RegionLaw
namespace Go.Proofs.YtmaopldahnejdaaGreatDoor
set_option maxHeartbeats 4000000
set_option maxRecDepth 100000
open Go.ChangeShapes Go.WideShapes Go.ChangeAt Go.RowKit
set_option linter.unusedVariables false
open Go.ChangeShapes Go.WideShapes Go.ChangeAt Go.RowKit Go.Shelf
section
variable {P : Program}
def Kept (B : Nat) (W W' : World) : Prop := W.heap.size ≤ W'.heap.size ∧ ∀ k, B ≤ k → k < W.heap.size → W'.heap[k]? = W.heap[k]?
theorem Kept.refl (B : Nat) (W : World) : Kept B W W := ⟨Nat.le_refl _, fun _ _ _ => rfl⟩
theorem Kept.trans {B : Nat} {U V W : World} (h : Kept B U V) (k : Kept B V W) : Kept B U W := ⟨Nat.le_trans h.1 k.1, fun i hi hl => (k.2 i hi (Nat.lt_of_lt_of_le hl h.1)).trans (h.2 i hi hl)⟩
theorem Kept.mono {B B' : Nat} {W W' : World} (h : Kept B W W') (hb : B ≤ B') : Kept B' W W' := ⟨h.1, fun i hi hl => h.2 i (Nat.le_trans hb hi) hl⟩
theorem Kept.below {B : Nat} {W W' : World} (h : Bl W W') : Kept B W W' := ⟨h.size, fun i _ hl => h.block i hl⟩
theorem Kept.alloc (B : Nat) (W : World) (o : Obj) : Kept B W (W.alloc o) := ⟨by simp, fun i _ hl => Below.heap_alloc W o i hl⟩
theorem Kept.put {B l : Nat} (W : World) (o : Obj) (h : l < B) : Kept B W (W.putObj l o) := ⟨by simp, fun i hi _ => World.putObj_heap_other (by omega)⟩
end
open Go.RowKit
section
variable (ln : List Int → Bool) (tok : Int → Int → Bool) (tou : Int → Int → Int → Int) (vic : Int → Int → Int)
open Classical in
end
section
variable {ln : List Int → Bool} {tok : Int → Int → Bool} {tou : Int → Int → Int → Int} {vic : Int → Int → Int}
end
attribute [local go_sem] Oper.semAt_some
structure WCells where
 line : Int
 state : Int
 addr : Option Addr
 len : Nat
 cap : Nat
abbrev WCells.agg (c : WCells) : Value := .agg #[.int .i64 c.line, .int .i64 c.state, .slice c.addr c.len c.cap]
attribute [local go_sem] Oper.semAt_some
attribute [local go_sem] Oper.semAt_some
theorem put2 {w : World} {g : Nat} {x y a b : Value} {t : TypeId} (h : w.heap[g]? = some (.cells #[x, y] t (0, 0))) :
    ((w.setCell ⟨g, 0, none⟩ a).setCell ⟨g, 1, none⟩ b).heap[g]? = some (.cells #[a, b] t (0, 0)) := by
 have c := heap_setCell_same w g 0 _ t a h;exact heap_setCell_same _ g 1 _ t b c
theorem clone_rep (a : Option Addr) (d : List Int) (cap : Nat) (w : World) (h : SlRd intR w a d) (hm : d.length ≤ 1048576) :
    Calls Tryz.prog 162 #[sL a d.length cap] w fun e w' => ∃ s p, e = .returned (sL s d.length p) ∧ MadeR intsR w w' [sL s d.length p] d := by
 cases a with
 | some ad =>
  obtain ⟨G, I, r, v, q⟩ := info_parts Tryz.infoI;have n : (w.alloc (.cells #[] 2)).ownsRow w.heap.size 2 1 (sL (some ⟨w.heap.size, 0, none⟩) 0 0) 0 [] := World.ownsRow_lit _ #[] 0 (Nat.le_refl _) (Nat.zero_le _) rfl;have D : Hid (Reads w (some ad) d ∧ ∀ x ∈ d, In64 x) := ⟨reads_of h, in64_of h⟩;have L := fun W => Go.Lib.run_eql_slice_nil (P := Tryz.prog) W 28 2 (some ad) d.length cap 0 0 Tryz.underlying28;clear h;go_enter Tryz.func162, Tryz.ntmps162;go_wp2_with (at_builtin; refine wpList_append_own _ rfl _ _ 28 rfl w.heap.size 2 G (nI 0) 1 8 Tryz.underlying28 I r v q rfl (by decide) _ _ _ rfl n ad d.length cap (d.map (Value.int .i64)) rfl (by simp) ?c1 ?c2 ?c3 ?c4 ?c5 ?_)
  case c1 =>
   intro j u M;obtain ⟨k, rfl⟩ := List.getElem?_eq_some_iff.1 M;simp at k
   rcases D.out.1 with rfl | ⟨b, l, o, H⟩
   ·simp at k
   simp only [Option.some.injEq] at o;subst o;have A := H j k;have K := (World.cell?_of_block (w := w) (a := ⟨b, l + j, none⟩) (Below.heap_alloc w (.cells #[] 2) b (World.block_lt_of_cell? w _ A))).trans A;rw [show (⟨b, l, none⟩ : Addr).add j = ⟨b, l + j, none⟩ from by simp [Addr.add], K];simp [List.getD_eq_getElem?_getD, k]
  case c2 => intro u z; simp at z; obtain ⟨x, _, rfl⟩ := z; rfl
  case c3 => unfold maxLen; omega
  case c4 => omega
  case c5 => simp
  ·intro B F i f m;have E : B ≠ sL none 0 0 := m;have c : F.ownsRow w.heap.size 2 1 B d.length (d.map (Value.int .i64)) := by simpa using i
   have y := madeR_ints (made_app (w := w) c f E) D.out.2;obtain ⟨s, p, rfl⟩ := slown_val y.1;have J : Hid _ := y;clear y i f m n c E;go_wp2;go_ret
   exact ⟨_, _, rfl, J.out⟩
 | none =>
  obtain rfl : d = [] := by
   rcases h with h | ⟨b, l, C, o, _⟩
   ·exact h
   ·cases o
  rw [show ([] : List Int).length = 0 from rfl];have L := fun W => Go.Lib.run_eql_slice_nil (P := Tryz.prog) W 28 2 none 0 cap 0 0 Tryz.underlying28;go_enter Tryz.func162, Tryz.ntmps162;go_wp2;go_ret
  exact ⟨none, 0, rfl, ⟨_, [], fun _ => False, rfl, World.ownsRow_nil _ _ _ _, fun g hg => by simp [Value.ownBlock] at hg, fun _ h => h.elim, rfl⟩, Below.refl _ w⟩
set_option linter.unusedSimpArgs false
theorem told_any (k : Int) (a : AccD) (ds : List Value) (S : Foot) (w : World) (h : accR.own w S ds a) (hS : ∀ j, S j → j < w.heap.size) (d : List Int) (pa : Option Addr) (pc : Nat) (hd : SlRd intR w pa d) (hm : d.length ≤ 1048576) :
    Calls Tryz.prog 146 #[aggV (nI k :: ds), sL pa d.length pc] w fun e w' => AccM w S k (toldW a.1 d, a.2) e w' := by
 obtain ⟨r, wc, f, i, S1, M, rfl, hi, h1, Y, s1, V, U⟩ := acc_open h;have HI : Hid _ := hi;have H1 : Hid (∀ W, Bl w W → intsR.own W S1 [sL r a.1.length wc] a.1) := fun W hb => intsR.own_keep h1 (keeps_below hb);have H2 : Hid (∀ W, Bl w W → intsR.own W M [sL f a.2.2.2.2.2.2.2.2.length i] a.2.2.2.2.2.2.2.2) := fun W hb => intsR.own_keep Y (keeps_below hb);have J : Hid (∀ j, S j → j < w.heap.size) := hS;have D : Hid (Sub S1 S ∧ Sub M S ∧ Dis S1 M) := ⟨s1, V, U⟩;clear h hS hi h1 Y s1 V U;have HD : Hid (∀ W, Bl w W → SlRd intR W pa d) := fun W hb => slrd_next hd hb;have HM : Hid _ := hm;clear hd hm;change Calls Tryz.prog 146 #[.agg #[nI k, sL r a.1.length wc, nI a.2.1, nI a.2.2.1, .bool a.2.2.2.1, nI a.2.2.2.2.1, nI a.2.2.2.2.2.1, nI a.2.2.2.2.2.2.1, nI a.2.2.2.2.2.2.2.1, sL f a.2.2.2.2.2.2.2.2.length i], sL pa d.length pc] w _
 by_cases F : d.length = 0
 ·have z1 : ((d.length : Int) != 0) = false := by simp [F]
  have O : Hid (toldW a.1 d = a.1) := by unfold Hid toldW; rw [if_pos F]
  rw [O.out];clear F;have B := Below.refl w.heap.size w;go_enter Tryz.func146, Tryz.ntmps146;go_upto_region 1 with fail
  generalize b : w.alloc _ = u1w;have X := boxH b;have p := boxB b;have z := boxL b;clear b;rw [show w.heap.size = w.heap.size from by omega] at X;replace B := below_step B p;clear p;have I := lE z;have K := lE z.symm;clear z;generalize c : u1w.alloc _ = u2w;have Z := boxH c;have p := boxB c;have A := boxL c;clear c;rw [show u1w.heap.size = w.heap.size + 1 from by omega] at Z;replace B := below_step B p;replace X := row_keep p X;clear p;have T := lE A;have L := lE A.symm;clear A;obtain ⟨Xc0, Xc1, Xc2, Xc3, Xc4, Xc5, Xc6, Xc7, Xc8, Xc9⟩ := cells_acc X;have Xlt := (ltH X);obtain ⟨Zc0, Zc1, Zc2, Zc3, Zc4, Zc5, Zc6, Zc7, Zc8, Zc9⟩ := cells_acc Z;have Zlt := (ltH Z);obtain ⟨Zf0, Zf1, Zf2, Zf3, Zf4, Zf5, Zf6, Zf7, Zf8, Zf9⟩ := froz_acc Z;have G : Hid _ := aI B (aI X (Z));clear B X Z;go_wp2;clear Xc0 Xc1 Xc2 Xc3 Xc4 Xc5 Xc6 Xc7 Xc8 Xc9 Xlt Zc0 Zc1 Zc2 Zc3 Zc4 Zc5 Zc6 Zc7 Zc8 Zc9 Zlt Zf0 Zf1 Zf2 Zf3 Zf4 Zf5 Zf6 Zf7 Zf8 Zf9;obtain ⟨B, X, Z⟩ := G.out;clear G;rw [show ((((((((((u2w.setCell ⟨w.heap.size + 1, 0, none⟩ (nI k)).setCell ⟨w.heap.size + 1, 1, none⟩ (sL r a.1.length wc)).setCell ⟨w.heap.size + 1, 2, none⟩ (nI a.2.1)).setCell ⟨w.heap.size + 1, 3, none⟩ (nI a.2.2.1)).setCell ⟨w.heap.size + 1, 4, none⟩ (.bool a.2.2.2.1)).setCell ⟨w.heap.size + 1, 5, none⟩ (nI a.2.2.2.2.1)).setCell ⟨w.heap.size + 1, 6, none⟩ (nI a.2.2.2.2.2.1)).setCell ⟨w.heap.size + 1, 7, none⟩ (nI a.2.2.2.2.2.2.1)).setCell ⟨w.heap.size + 1, 8, none⟩ (nI a.2.2.2.2.2.2.2.1)).setCell ⟨w.heap.size + 1, 9, none⟩ (sL f a.2.2.2.2.2.2.2.2.length i)) = (setCs u2w (w.heap.size + 1) 0 [nI k, sL r a.1.length wc, nI a.2.1, nI a.2.2.1, .bool a.2.2.2.1, nI a.2.2.2.2.1, nI a.2.2.2.2.2.1, nI a.2.2.2.2.2.2.1, nI a.2.2.2.2.2.2.2.1, sL f a.2.2.2.2.2.2.2.2.length i]) from rfl];replace X := row_otherCs (g := w.heap.size + 1) (o := 0) (vs := [nI k, sL r a.1.length wc, nI a.2.1, nI a.2.2.1, .bool a.2.2.2.1, nI a.2.2.2.2.1, nI a.2.2.2.2.2.1, nI a.2.2.2.2.2.2.1, nI a.2.2.2.2.2.2.2.1, sL f a.2.2.2.2.2.2.2.2.length i]) X (by omega);replace B := below_setCs0 (g := w.heap.size + 1) (o := 0) (vs := [nI k, sL r a.1.length wc, nI a.2.1, nI a.2.2.1, .bool a.2.2.2.1, nI a.2.2.2.2.1, nI a.2.2.2.2.2.1, nI a.2.2.2.2.2.2.1, nI a.2.2.2.2.2.2.2.1, sL f a.2.2.2.2.2.2.2.2.length i]) B (by omega);replace Z : (setCs u2w (w.heap.size + 1) 0 [nI k, sL r a.1.length wc, nI a.2.1, nI a.2.2.1, .bool a.2.2.2.1, nI a.2.2.2.2.1, nI a.2.2.2.2.2.1, nI a.2.2.2.2.2.2.1, nI a.2.2.2.2.2.2.2.1, sL f a.2.2.2.2.2.2.2.2.length i]).heap[w.heap.size + 1]? = some (.cells #[nI k, sL r a.1.length wc, nI a.2.1, nI a.2.2.1, .bool a.2.2.2.1, nI a.2.2.2.2.1, nI a.2.2.2.2.2.1, nI a.2.2.2.2.2.2.1, nI a.2.2.2.2.2.2.2.1, sL f a.2.2.2.2.2.2.2.2.length i] 107 (0, 0)) := put10S Z;have s := lE (setCs_size (g := w.heap.size + 1) [nI k, sL r a.1.length wc, nI a.2.1, nI a.2.2.1, .bool a.2.2.2.1, nI a.2.2.2.2.1, nI a.2.2.2.2.2.1, nI a.2.2.2.2.2.2.1, nI a.2.2.2.2.2.2.2.1, sL f a.2.2.2.2.2.2.2.2.length i] 0 u2w);have y := lE (setCs_size (g := w.heap.size + 1) [nI k, sL r a.1.length wc, nI a.2.1, nI a.2.2.1, .bool a.2.2.2.1, nI a.2.2.2.2.1, nI a.2.2.2.2.2.1, nI a.2.2.2.2.2.2.1, nI a.2.2.2.2.2.2.2.1, sL f a.2.2.2.2.2.2.2.2.length i] 0 u2w).symm;generalize (setCs u2w (w.heap.size + 1) 0 [nI k, sL r a.1.length wc, nI a.2.1, nI a.2.2.1, .bool a.2.2.2.1, nI a.2.2.2.2.1, nI a.2.2.2.2.2.1, nI a.2.2.2.2.2.2.1, nI a.2.2.2.2.2.2.2.1, sL f a.2.2.2.2.2.2.2.2.length i]) = u3w at B X Z s y ⊢;obtain ⟨Xc0, Xc1, Xc2, Xc3, Xc4, Xc5, Xc6, Xc7, Xc8, Xc9⟩ := cells_acc X;have Xlt := (ltH X);obtain ⟨Zc0, Zc1, Zc2, Zc3, Zc4, Zc5, Zc6, Zc7, Zc8, Zc9⟩ := cells_acc Z;have Zlt := (ltH Z);exact bodyPost_ret (v := .agg #[nI k, sL r a.1.length wc, nI a.2.1, nI a.2.2.1, .bool a.2.2.2.1, nI a.2.2.2.2.1, nI a.2.2.2.2.2.1, nI a.2.2.2.2.2.2.1, nI a.2.2.2.2.2.2.2.1, sL f a.2.2.2.2.2.2.2.2.length i]) (by simp [results, Tryz.results146, go_sem, Zc0, Zc1, Zc2, Zc3, Zc4, Zc5, Zc6, Zc7, Zc8, Zc9]) rfl ⟨_, rfl, accR.own_mono (acc_own HI.out (H1.out _ B) (H2.out _ B) D.out.1 D.out.2.1 D.out.2.2) more_in, B⟩
 ·have z1 : ((d.length : Int) != 0) = true := by rw [bne_iff_ne]; omega
  have O : Hid (toldW a.1 d = d) := by unfold Hid toldW; rw [if_neg F]
  rw [O.out];clear F;have B := Below.refl w.heap.size w;go_enter Tryz.func146, Tryz.ntmps146;go_upto_region 1 with fail
  generalize b : w.alloc _ = u1w;have X := boxH b;have p := boxB b;have z := boxL b;clear b;rw [show w.heap.size = w.heap.size from by omega] at X;replace B := below_step B p;clear p;have I := lE z;have K := lE z.symm;clear z;generalize c : u1w.alloc _ = u2w;have Z := boxH c;have p := boxB c;have A := boxL c;clear c;rw [show u1w.heap.size = w.heap.size + 1 from by omega] at Z;replace B := below_step B p;replace X := row_keep p X;clear p;have T := lE A;have L := lE A.symm;clear A;obtain ⟨Xc0, Xc1, Xc2, Xc3, Xc4, Xc5, Xc6, Xc7, Xc8, Xc9⟩ := cells_acc X;have Xlt := (ltH X);obtain ⟨Zc0, Zc1, Zc2, Zc3, Zc4, Zc5, Zc6, Zc7, Zc8, Zc9⟩ := cells_acc Z;have Zlt := (ltH Z);go_wp2_with fail
  clear Xc0 Xc1 Xc2 Xc3 Xc4 Xc5 Xc6 Xc7 Xc8 Xc9 Xlt Zc0 Zc1 Zc2 Zc3 Zc4 Zc5 Zc6 Zc7 Zc8 Zc9 Zlt;refine (clone_rep pa d pc _ (HD.out _ B) HM.out).mono ?_;rintro e n ⟨m, l, rfl, C⟩;have N := owned_made (R := intsR) C;have aA : u2w.heap.size ≤ n.heap.size := C.2.size;replace B := below_step B C.2;replace X := row_keep C.2 X;replace Z := row_keep C.2 Z;clear C;obtain ⟨Xc0, Xc1, Xc2, Xc3, Xc4, Xc5, Xc6, Xc7, Xc8, Xc9⟩ := cells_acc X;have Xlt := (ltH X);obtain ⟨Xf0, Xf1, Xf2, Xf3, Xf4, Xf5, Xf6, Xf7, Xf8, Xf9⟩ := froz_acc X;obtain ⟨Zc0, Zc1, Zc2, Zc3, Zc4, Zc5, Zc6, Zc7, Zc8, Zc9⟩ := cells_acc Z;have Zlt := (ltH Z);go_upto_region 3 with fail
  clear Xc0 Xc1 Xc2 Xc3 Xc4 Xc5 Xc6 Xc7 Xc8 Xc9 Xlt Xf0 Xf1 Xf2 Xf3 Xf4 Xf5 Xf6 Xf7 Xf8 Xf9 Zc0 Zc1 Zc2 Zc3 Zc4 Zc5 Zc6 Zc7 Zc8 Zc9 Zlt;rw [show (n.setCell ⟨w.heap.size, 1, none⟩ (sL m d.length l)) = (setCs n (w.heap.size) 1 [sL m d.length l]) from rfl];replace Z := row_otherCs (g := w.heap.size) (o := 1) (vs := [sL m d.length l]) Z (by omega);replace N := owned_setCs (g := w.heap.size) (o := 1) (vs := [sL m d.length l]) N (by omega);replace B := below_setCs0 (g := w.heap.size) (o := 1) (vs := [sL m d.length l]) B (by omega);replace X : (setCs n (w.heap.size) 1 [sL m d.length l]).heap[w.heap.size]? = some (.cells #[nI k, sL m d.length l, nI a.2.1, nI a.2.2.1, .bool a.2.2.2.1, nI a.2.2.2.2.1, nI a.2.2.2.2.2.1, nI a.2.2.2.2.2.2.1, nI a.2.2.2.2.2.2.2.1, sL f a.2.2.2.2.2.2.2.2.length i] 107 (0, 0)) := row_setCs _ _ X;have s := lE (setCs_size (g := w.heap.size) [sL m d.length l] 1 n);have y := lE (setCs_size (g := w.heap.size) [sL m d.length l] 1 n).symm;generalize (setCs n (w.heap.size) 1 [sL m d.length l]) = u3w at B X Z N s y ⊢;obtain ⟨Xc0, Xc1, Xc2, Xc3, Xc4, Xc5, Xc6, Xc7, Xc8, Xc9⟩ := cells_acc X;have Xlt := (ltH X);obtain ⟨Zc0, Zc1, Zc2, Zc3, Zc4, Zc5, Zc6, Zc7, Zc8, Zc9⟩ := cells_acc Z;have Zlt := (ltH Z);obtain ⟨Zf0, Zf1, Zf2, Zf3, Zf4, Zf5, Zf6, Zf7, Zf8, Zf9⟩ := froz_acc Z;have G : Hid _ := aI B (aI X (aI Z (N)));clear B X Z N;go_wp2;clear Xc0 Xc1 Xc2 Xc3 Xc4 Xc5 Xc6 Xc7 Xc8 Xc9 Xlt Zc0 Zc1 Zc2 Zc3 Zc4 Zc5 Zc6 Zc7 Zc8 Zc9 Zlt Zf0 Zf1 Zf2 Zf3 Zf4 Zf5 Zf6 Zf7 Zf8 Zf9;obtain ⟨B, X, Z, N⟩ := G.out;clear G;rw [show ((((((((((u3w.setCell ⟨w.heap.size + 1, 0, none⟩ (nI k)).setCell ⟨w.heap.size + 1, 1, none⟩ (sL m d.length l)).setCell ⟨w.heap.size + 1, 2, none⟩ (nI a.2.1)).setCell ⟨w.heap.size + 1, 3, none⟩ (nI a.2.2.1)).setCell ⟨w.heap.size + 1, 4, none⟩ (.bool a.2.2.2.1)).setCell ⟨w.heap.size + 1, 5, none⟩ (nI a.2.2.2.2.1)).setCell ⟨w.heap.size + 1, 6, none⟩ (nI a.2.2.2.2.2.1)).setCell ⟨w.heap.size + 1, 7, none⟩ (nI a.2.2.2.2.2.2.1)).setCell ⟨w.heap.size + 1, 8, none⟩ (nI a.2.2.2.2.2.2.2.1)).setCell ⟨w.heap.size + 1, 9, none⟩ (sL f a.2.2.2.2.2.2.2.2.length i)) = (setCs u3w (w.heap.size + 1) 0 [nI k, sL m d.length l, nI a.2.1, nI a.2.2.1, .bool a.2.2.2.1, nI a.2.2.2.2.1, nI a.2.2.2.2.2.1, nI a.2.2.2.2.2.2.1, nI a.2.2.2.2.2.2.2.1, sL f a.2.2.2.2.2.2.2.2.length i]) from rfl];replace X := row_otherCs (g := w.heap.size + 1) (o := 0) (vs := [nI k, sL m d.length l, nI a.2.1, nI a.2.2.1, .bool a.2.2.2.1, nI a.2.2.2.2.1, nI a.2.2.2.2.2.1, nI a.2.2.2.2.2.2.1, nI a.2.2.2.2.2.2.2.1, sL f a.2.2.2.2.2.2.2.2.length i]) X (by omega);replace N := owned_setCs (g := w.heap.size + 1) (o := 0) (vs := [nI k, sL m d.length l, nI a.2.1, nI a.2.2.1, .bool a.2.2.2.1, nI a.2.2.2.2.1, nI a.2.2.2.2.2.1, nI a.2.2.2.2.2.2.1, nI a.2.2.2.2.2.2.2.1, sL f a.2.2.2.2.2.2.2.2.length i]) N (by omega);replace B := below_setCs0 (g := w.heap.size + 1) (o := 0) (vs := [nI k, sL m d.length l, nI a.2.1, nI a.2.2.1, .bool a.2.2.2.1, nI a.2.2.2.2.1, nI a.2.2.2.2.2.1, nI a.2.2.2.2.2.2.1, nI a.2.2.2.2.2.2.2.1, sL f a.2.2.2.2.2.2.2.2.length i]) B (by omega);replace Z : (setCs u3w (w.heap.size + 1) 0 [nI k, sL m d.length l, nI a.2.1, nI a.2.2.1, .bool a.2.2.2.1, nI a.2.2.2.2.1, nI a.2.2.2.2.2.1, nI a.2.2.2.2.2.2.1, nI a.2.2.2.2.2.2.2.1, sL f a.2.2.2.2.2.2.2.2.length i]).heap[w.heap.size + 1]? = some (.cells #[nI k, sL m d.length l, nI a.2.1, nI a.2.2.1, .bool a.2.2.2.1, nI a.2.2.2.2.1, nI a.2.2.2.2.2.1, nI a.2.2.2.2.2.2.1, nI a.2.2.2.2.2.2.2.1, sL f a.2.2.2.2.2.2.2.2.length i] 107 (0, 0)) := put10S Z;have E := lE (setCs_size (g := w.heap.size + 1) [nI k, sL m d.length l, nI a.2.1, nI a.2.2.1, .bool a.2.2.2.1, nI a.2.2.2.2.1, nI a.2.2.2.2.2.1, nI a.2.2.2.2.2.2.1, nI a.2.2.2.2.2.2.2.1, sL f a.2.2.2.2.2.2.2.2.length i] 0 u3w);have H := lE (setCs_size (g := w.heap.size + 1) [nI k, sL m d.length l, nI a.2.1, nI a.2.2.1, .bool a.2.2.2.1, nI a.2.2.2.2.1, nI a.2.2.2.2.2.1, nI a.2.2.2.2.2.2.1, nI a.2.2.2.2.2.2.2.1, sL f a.2.2.2.2.2.2.2.2.length i] 0 u3w).symm;generalize (setCs u3w (w.heap.size + 1) 0 [nI k, sL m d.length l, nI a.2.1, nI a.2.2.1, .bool a.2.2.2.1, nI a.2.2.2.2.1, nI a.2.2.2.2.2.1, nI a.2.2.2.2.2.2.1, nI a.2.2.2.2.2.2.2.1, sL f a.2.2.2.2.2.2.2.2.length i]) = u4w at B X Z N E H ⊢;obtain ⟨Xc0, Xc1, Xc2, Xc3, Xc4, Xc5, Xc6, Xc7, Xc8, Xc9⟩ := cells_acc X;have Xlt := (ltH X);obtain ⟨Zc0, Zc1, Zc2, Zc3, Zc4, Zc5, Zc6, Zc7, Zc8, Zc9⟩ := cells_acc Z;have Zlt := (ltH Z);exact bodyPost_ret (v := .agg #[nI k, sL m d.length l, nI a.2.1, nI a.2.2.1, .bool a.2.2.2.1, nI a.2.2.2.2.1, nI a.2.2.2.2.2.1, nI a.2.2.2.2.2.2.1, nI a.2.2.2.2.2.2.2.1, sL f a.2.2.2.2.2.2.2.2.length i]) (by simp [results, Tryz.results146, go_sem, Zc0, Zc1, Zc2, Zc3, Zc4, Zc5, Zc6, Zc7, Zc8, Zc9]) rfl ⟨_, rfl, acc_own (S1 := rng u2w.heap.size n.heap.size) (e := a.2) HI.out N.1 (H2.out _ B) (fun j q => .inr ⟨by have := q.1; omega, by have := q.2; have := N.2; omega⟩) (fun j q => .inl (D.out.2.1 j q)) (fun j q1 q2 => by have := J.out j (D.out.2.1 j q2); have := q1.1; omega), B⟩
theorem putES {w : World} {g : Nat} {x0 x1 x2 x3 x4 x5 x6 x7 x8 x9 y0 y1 y2 y3 y4 y5 y6 y7 : Value} {t : TypeId} (h : w.heap[g]? = some (.cells #[x0, x1, x2, x3, x4, x5, x6, x7, x8, x9] t (0, 0))) : (setCs w g 2 [y0, y1, y2, y3, y4, y5, y6, y7]).heap[g]? = some (.cells #[x0, x1, y0, y1, y2, y3, y4, y5, y6, y7] t (0, 0)) := by
 have c : (w.setCell ⟨g, 2, none⟩ y0).heap[g]? = some (.cells #[x0, x1, y0, x3, x4, x5, x6, x7, x8, x9] t (0, 0)) := heap_setCell_same _ g 2 _ t y0 h;have b : ((w.setCell ⟨g, 2, none⟩ y0).setCell ⟨g, 3, none⟩ y1).heap[g]? = some (.cells #[x0, x1, y0, y1, x4, x5, x6, x7, x8, x9] t (0, 0)) := heap_setCell_same _ g 3 _ t y1 c;have d : (((w.setCell ⟨g, 2, none⟩ y0).setCell ⟨g, 3, none⟩ y1).setCell ⟨g, 4, none⟩ y2).heap[g]? = some (.cells #[x0, x1, y0, y1, y2, x5, x6, x7, x8, x9] t (0, 0)) := heap_setCell_same _ g 4 _ t y2 b;have i : ((((w.setCell ⟨g, 2, none⟩ y0).setCell ⟨g, 3, none⟩ y1).setCell ⟨g, 4, none⟩ y2).setCell ⟨g, 5, none⟩ y3).heap[g]? = some (.cells #[x0, x1, y0, y1, y2, y3, x6, x7, x8, x9] t (0, 0)) := heap_setCell_same _ g 5 _ t y3 d;have f : (((((w.setCell ⟨g, 2, none⟩ y0).setCell ⟨g, 3, none⟩ y1).setCell ⟨g, 4, none⟩ y2).setCell ⟨g, 5, none⟩ y3).setCell ⟨g, 6, none⟩ y4).heap[g]? = some (.cells #[x0, x1, y0, y1, y2, y3, y4, x7, x8, x9] t (0, 0)) := heap_setCell_same _ g 6 _ t y4 i;have j : ((((((w.setCell ⟨g, 2, none⟩ y0).setCell ⟨g, 3, none⟩ y1).setCell ⟨g, 4, none⟩ y2).setCell ⟨g, 5, none⟩ y3).setCell ⟨g, 6, none⟩ y4).setCell ⟨g, 7, none⟩ y5).heap[g]? = some (.cells #[x0, x1, y0, y1, y2, y3, y4, y5, x8, x9] t (0, 0)) := heap_setCell_same _ g 7 _ t y5 f;have k : (((((((w.setCell ⟨g, 2, none⟩ y0).setCell ⟨g, 3, none⟩ y1).setCell ⟨g, 4, none⟩ y2).setCell ⟨g, 5, none⟩ y3).setCell ⟨g, 6, none⟩ y4).setCell ⟨g, 7, none⟩ y5).setCell ⟨g, 8, none⟩ y6).heap[g]? = some (.cells #[x0, x1, y0, y1, y2, y3, y4, y5, y6, x9] t (0, 0)) := heap_setCell_same _ g 8 _ t y6 j;have a : ((((((((w.setCell ⟨g, 2, none⟩ y0).setCell ⟨g, 3, none⟩ y1).setCell ⟨g, 4, none⟩ y2).setCell ⟨g, 5, none⟩ y3).setCell ⟨g, 6, none⟩ y4).setCell ⟨g, 7, none⟩ y5).setCell ⟨g, 8, none⟩ y6).setCell ⟨g, 9, none⟩ y7).heap[g]? = some (.cells #[x0, x1, y0, y1, y2, y3, y4, y5, y6, y7] t (0, 0)) := heap_setCell_same _ g 9 _ t y7 k;simp only [sC_cons, sC_nil, Nat.reduceAdd];exact a
theorem own_drewB {α : Type} {R : Rep α} {W : World} {S : Foot} {cs : List Value} {x : α} (h : R.own W S cs x) : R.own W.drew S cs x := R.own_keep h fun _ _ _ => rfl
theorem row_drewB {W : World} {k : Nat} {o : Obj} (h : W.heap[k]? = some o) : W.drew.heap[k]? = some o := h
theorem accQ_drew {w W : World} {S : Foot} {k : Int} {y : AccD} {l : List MsgD} {e : Ending} (h : AccQ w S k y l e W) : AccQ w S k y l e W.drew := by
 obtain ⟨b, f, a, c, d⟩ := h;exact ⟨b, f, a, own_drewB c, d.drew⟩
theorem accQ_one {S T U : Foot} {w W : World} {y : AccD} {m : MsgD} {ds cm vs : List Value} {k : Int} {r : Nat} (B : Bl w W) (ho : accR.own W T ds y) (hm : msgR.own W U cm m) (hTU : Dis T U) (hT : ∀ j, T j → (S j ∨ w.heap.size ≤ j) ∧ j < W.heap.size) (hU : ∀ j, U j → (S j ∨ w.heap.size ≤ j) ∧ j < W.heap.size) (hr : w.heap.size ≤ r) (hTr : ¬ T r) (hUr : ¬ U r) :
    AccQ w S k y [m] (.returned (.tuple #[aggV (nI k :: ds), sL (some ⟨W.heap.size, 0, none⟩) 1 1])) ((setCs W r 0 vs).alloc (.cells cm.toArray 30)) := by
 have f : (setCs W r 0 vs).heap.size = W.heap.size := setCs_size _ _ _;have i := accR.own_keep (own_setCs (g := r) (o := 0) (vs := vs) ho hTr) (keeps_below (box_below (setCs W r 0 vs) (.cells cm.toArray 30)));have d := own_one (e := 30) (R := msgR) (by decide) (own_setCs (g := r) (o := 0) (vs := vs) hm hUr) (fun j q => by rw [f]; exact (hU j q).2);rw [f] at d;have hw := B.size;have al := alloc_len (setCs W r 0 vs) (.cells cm.toArray 30);refine ⟨ds, _, rfl, pair_own i d ?_ ?_ ?_, below_step (below_setCs0 (g := r) (o := 0) (vs := vs) B hr) (box_below _ _)⟩
 ·intro j q;obtain ⟨c, l⟩ := hT j q;rcases c with c | c
  ·exact .inl c
  ·exact .inr ⟨c, by omega⟩
 ·intro j q;rcases q with q | q
  ·obtain ⟨c, l⟩ := hU j q;rcases c with c | c
   ·exact .inl c
   ·exact .inr ⟨c, by omega⟩
  ·exact .inr ⟨by omega, by omega⟩
 ·intro j a b;rcases b with b | b
  ·exact hTU j a b
  ·have := (hT j a).2;omega
theorem accQ_none {S T : Foot} {w W : World} {y : AccD} {ds vs : List Value} {k : Int} {r : Nat} (B : Bl w W) (ho : accR.own W T ds y) (hT : ∀ j, T j → (S j ∨ w.heap.size ≤ j) ∧ j < W.heap.size) (hr : w.heap.size ≤ r) (hTr : ¬ T r) :
    AccQ w S k y [] (.returned (.tuple #[aggV (nI k :: ds), sL (some ⟨W.heap.size, 0, none⟩) 0 0])) ((setCs W r 0 vs).alloc (.cells #[] 30)) := by
 have i : (setCs W r 0 vs).heap.size = W.heap.size := setCs_size _ _ _;have f := accR.own_keep (own_setCs (g := r) (o := 0) (vs := vs) ho hTr) (keeps_below (box_below (setCs W r 0 vs) (.cells #[] 30)));have d := own_nil (e := 30) (R := msgR) (setCs W r 0 vs);rw [i] at d;have hw := B.size;have al := alloc_len (setCs W r 0 vs) (.cells #[] 30);refine ⟨ds, _, rfl, pair_own f d ?_ ?_ ?_, below_step (below_setCs0 (g := r) (o := 0) (vs := vs) B hr) (box_below _ _)⟩
 ·intro j q;obtain ⟨c, q2⟩ := hT j q;rcases c with c | c
  ·exact .inl c
  ·exact .inr ⟨c, by omega⟩
 ·intro j q;exact .inr ⟨by omega, by omega⟩
 ·intro j a b;have := (hT j a).2;omega
theorem accQ_tail {S S' : Foot} {w W wd : World} {y : AccD} {l : List MsgD} {ds vs : List Value} {ms : Value} {k : Int} {r : Nat} (B : Bl w W) (hS' : ∀ j, S' j → (S j ∨ w.heap.size ≤ j) ∧ j < W.heap.size) (DO : (prodR accR msgsR).own wd (moreF S' W wd) (ds ++ [ms]) (y, l)) (DB : Bl W wd) (hr : w.heap.size ≤ r) (hr2 : r < W.heap.size) (hn : ¬ S' r) :
    AccQ w S k y l (.returned (.tuple #[aggV (nI k :: ds), ms])) (setCs wd r 0 vs) := by
 have b : (setCs wd r 0 vs).heap.size = wd.heap.size := setCs_size _ _ _;have hw := B.size;have c := DB.size;refine ⟨ds, ms, rfl, (prodR accR msgsR).own_mono (own_setCs (g := r) (o := 0) (vs := vs) DO (fun q => by rcases q with q | q; exact hn q; omega)) ?_, below_setCs0 (g := r) (o := 0) (vs := vs) (below_step B DB) hr⟩;intro j q;rcases q with q | q
 ·obtain ⟨a, q2⟩ := hS' j q;rcases a with a | a
  ·exact .inl a
  ·exact .inr ⟨a, by rw [b]; omega⟩
 ·exact .inr ⟨by omega, by rw [b]; exact q.2⟩
theorem accQ_open {S : Foot} {w : World} {k : Int} {y : AccD} {l : List MsgD} {e : Ending} {w' : World} (h : AccQ w S k y l e w') : ∃ (f : Option Addr) (a : Nat) (g : Option Addr) (d : Nat) (c : Option Addr) (b : Nat), e = .returned (.tuple #[.agg #[nI k, sL f y.1.length a, nI y.2.1, nI y.2.2.1, .bool y.2.2.2.1, nI y.2.2.2.2.1, nI y.2.2.2.2.2.1, nI y.2.2.2.2.2.2.1, nI y.2.2.2.2.2.2.2.1, sL g y.2.2.2.2.2.2.2.2.length d], sL c l.length b]) ∧ (prodR accR msgsR).own w' (moreF S w w') ([sL f y.1.length a, nI y.2.1, nI y.2.2.1, .bool y.2.2.2.1, nI y.2.2.2.2.1, nI y.2.2.2.2.2.1, nI y.2.2.2.2.2.2.1, nI y.2.2.2.2.2.2.2.1, sL g y.2.2.2.2.2.2.2.2.length d] ++ [sL c l.length b]) (y, l) ∧ Bl w w' := by
 obtain ⟨p, ms, rfl, j, m⟩ := h;have q : p.length = accR.size := by
  obtain ⟨c1, e1, v, A, i, o, z, -⟩ := j;have l1 := accR.rd_len (accR.own_rd o);have n := msgsR.rd_len (msgsR.own_rd z);have := congrArg List.length i;simp only [List.length_append, List.length_cons, List.length_nil] at this;rw [n] at this;have : msgsR.size = 1 := rfl;omega
 obtain ⟨T1, T2, r, s, -⟩ := pair_open j q;obtain ⟨f, a, g, d, v, A, rfl, -⟩ := acc_open r;obtain ⟨c, b, rfl⟩ := slown_val s;exact ⟨f, a, g, d, c, b, rfl, j, m⟩
theorem bd_ent : Bd entM 8 := bd_prod bd_int (bd_prod bd_int (bd_prod bd_bool (bd_prod bd_int (bd_prod bd_int (bd_prod bd_int (bd_prod bd_int (bd_sl bd_int)))))))
theorem bv_house : Bv houseM 9 := bv_prod (bv_sl (bd_sl bd_int)) (bv_sl bd_ent)
theorem copy_push {xss : List (List Int)} {rs : List Rw} {k g c : Nat} {xs : List Int} (h : rs.map Rw.xs = xss.take k) (hx : xss[k]? = some xs) : (rs ++ [(⟨g, c, xs⟩ : Rw)]).map Rw.xs = xss.take (k + 1) := take_push h hx
theorem l4Copy_any (a : Option Addr) (xss : List (List Int)) (n : Nat) (w : World) (h : ReadsM w a xss) (hk : memOk xss = true) :
    Calls Tryz.prog 94 #[sL a xss.length n] w fun e w' => ∃ v, e = .returned v ∧ MadeM w w' v xss := by
 obtain ⟨i0, R, L, S, K⟩ := info_parts Tryz.infoS;have hl := memOk_len hk;go_enter Tryz.func94, Tryz.ntmps94;go_wp2;go_loopw [3, 4] (fun v i wr => ∃ k : Nat, k ≤ xss.length ∧ i = nI k ∧ v ≠ sL none 0 0 ∧ ∃ rs : List Rw, rs.map Rw.xs = xss.take k ∧ wr.ownsRow w.heap.size 28 1 v k (rs.map Rw.v) ∧ Inn w.heap.size wr.heap.size wr rs ∧ Bl w wr)
  (fun _ i _ => xss.length - (intOf i).toNat)
 case atStart => exact ⟨0, by omega, rfl, by simp, [], rfl, World.ownsRow_lit _ #[] 0 (Nat.le_refl _) (Nat.zero_le _) rfl, inn_nil _ _ _, (Below.refl _ _).alloc (Nat.le_refl _) _⟩
 case round =>
  obtain ⟨k, pA, rfl, hv, rs, o, d, p, r⟩ := hrel;have A := r.size;by_cases N : k < xss.length
  ·have gA : (k : Int) < (xss.length : Int) := by omega
   obtain ⟨xs, E⟩ := get_of_lt N;obtain ⟨b, rA, aj, cj, rfl, g1, F⟩ := readsM_at (readsM_below h r) E;rcases isL_cases xs with hn | ⟨x, y, rfl, oA, yA⟩
   ·rw [memOk_get hk E] at hn; cases hn
   obtain ⟨b', z, rfl, _, _⟩ := reads_two F;have Z : Hid (Reads wr (some ⟨b', z, none⟩) [x, y]) := F;have HP : Hid (∀ g c, _) := fun g c => copy_push (g := g) (c := c) o E;have Y : Hid _ := p;have HB : Hid _ := r;clear h E F o p r;go_wp2_with fail
   refine (l1Copy_any _ [x, y] _ _ Z.out (by simp)).mono ?_;rintro e w1 ⟨v1, rfl, g, c, rfl, l1, I, o1, C⟩;have V := shape_of d hv;obtain ⟨G, cG, rfl, jA, J⟩ := V;have l := own_below d C J;have O : Hid _ := inn_push (inn_below Y.out C (Nat.le_refl _)) (owni_less o1 A) l1 I;have M : Hid _ := below_step HB.out C;have D : w.heap.size ≤ w1.heap.size := Nat.le_trans A C.size;clear Y HB C o1 d Z g1;go_wp2_with (at_builtin; refine wpList_append_own _ rfl _ _ 24 rfl w.heap.size 28 i0 (sL none 0 0) 1 24 Tryz.underlying24 R L S K rfl (by decide) _ _ _ rfl (World.ownsRow.alloc l _) ⟨_, 0, none⟩ 1 1 [sL (some ⟨g, 0, none⟩) 2 c] rfl rfl ?c1 ?c2 ?c3 ?c4 ?c5 ?_)
   case c1 =>
    intro j u s;match j, s with
    | 0, s => simp at s; subst s; simp [Addr.add]
   case c2 => intro u X; simp at X; subst X; rfl
   case c3 => unfold maxLen; omega
   case c4 => omega
   case c5 => simp; omega
   ·intro v' w2 m f q;have T : v' ≠ sL none 0 0 := q;have AO := app_own (rs := rs) (g := g) (c := c) (xs := [x, y]) (World.ownsRow.alloc l _) (inn_mono (inn_below O.out ((Below.refl _ _).alloc (Nat.le_refl _) _) (by simp)) (by simp)) m f;have HA : Hid _ := AO;have BB := (M.out.alloc D _).grown f (by simp; omega) (fun j s => (l.lt j s).1);clear m f l q AO;go_wp2;go_roundw
    case rel => exact ⟨k + 1, by omega, by go_num, T, _, HP.out g c, HA.out.1, HA.out.2, BB⟩
    case measure => simp [intOf]; omega
  ·have H : k = xss.length := by omega
   subst H;rw [List.take_length] at o;obtain ⟨g, n, rfl, U, B⟩ := shape_of d hv;have MM : MadeM w wr (sL (some ⟨g, 0, none⟩) xss.length n) xss := ⟨g, n, rfl, U, B, ⟨rs, o, d, B, p⟩, r⟩;clear d p r;go_wp2;go_ret
   exact ⟨_, rfl, MM⟩
theorem readL_at {xss : List (List Int)} {j : Nat} {xs : List Int} (hk : memOk xss = true) (hb : betw (j : Int) 0 ((xss.length : Int) - 1) = true) (hx : xss[j]? = some xs) : readL xss j = xs := by
 unfold readL;rw [hk, hb];simp [List.getD_eq_getElem?_getD, hx]
theorem lown_rows {lo hi : Nat} {w : World} : ∀ (rs : List Rw), Inn lo hi w rs → (∀ r ∈ rs, ∀ x ∈ r.xs, In64 x) → lown intsR w (fun k => ∃ (i : Nat) (r : Rw), rs[i]? = some r ∧ r.g = k) (rs.map Rw.v) (rs.map Rw.xs)
 | [], _, _ => rfl
 | r :: rs, h, h64 => by
  have b : Inn lo hi w rs := ⟨fun i s a => h.1 (i + 1) s (by simpa using a), fun i j s t a ht e => by have := h.2 (i + 1) (j + 1) s t (by simpa using a) (by simpa using ht) e; omega⟩;have c := h.1 0 r rfl;refine ⟨[r.v], rs.map Rw.v, fun k => k = r.g, fun k => ∃ (i : Nat) (s : Rw), rs[i]? = some s ∧ s.g = k, rfl, ?_, lown_rows rs b (fun s a => h64 s (List.mem_cons_of_mem _ a)), ?_, ?_, ?_⟩
  ·exact own_of (S := fun k => k = r.g) c.1 rfl (h64 r (List.mem_cons_self ..))
  ·rintro k rfl;exact ⟨0, r, rfl, rfl⟩
  ·rintro k ⟨i, s, a, e⟩;exact ⟨i + 1, s, by simpa using a, e⟩
  ·rintro k rfl ⟨i, s, a, e⟩;have := h.2 (i + 1) 0 s r (by simpa using a) rfl e;omega
theorem madeM_rep {w w' : World} {v : Value} {xss : List (List Int)} (h : MadeM w w' v xss) (h64 : ∀ xs ∈ xss, ∀ x ∈ xs, In64 x) : MadeR rowsR w w' [v] xss := by
 obtain ⟨G, m, rfl, l, f, ⟨c, rfl, d, g3, a⟩, j⟩ := h;refine ⟨⟨_, c.map Rw.v, fun k => ∃ (i : Nat) (r : Rw), c[i]? = some r ∧ r.g = k, rfl, row_base d (fun _ _ => Nat.zero_le _), fun g hg => ?_, ?_, lown_rows c a fun r b => h64 r.xs (List.mem_map_of_mem b)⟩, j⟩
 ·simp [Value.ownBlock] at hg
  subst hg;refine ⟨⟨l, f⟩, ?_⟩;rintro ⟨i, r, b, e⟩;exact out_ne d (a.1 i r b).1 e
 ·rintro k ⟨i, r, b, rfl⟩;have := a.1 i r b;exact ⟨(own_lt this.1).1, this.2⟩
theorem own_noneH {α : Type} {e : TypeId} {R : Rep α} (w : World) (S : Foot) : (slR e R).own w S [sL none 0 0] [] := ⟨_, [], fun _ => False, rfl, World.ownsRow_nil _ _ _ _, fun g hg => by simp [Value.ownBlock] at hg, fun _ h => h.elim, rfl⟩
end Go.Proofs.YtmaopldahnejdaaGreatDoor
