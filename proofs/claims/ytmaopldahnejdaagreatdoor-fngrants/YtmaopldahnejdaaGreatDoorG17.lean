import Derived.Test.YtmaopldahnejdaaGreatDoorG00Box
import Derived.RangeFuncNested
import Derived.RangeFuncBound
import Derived.RangeFuncLeaves
import Derived.Shelf.Abstract
import Derived.RangeFuncCalls
import Derived.Shelf.RegionOpen
import Derived.OwnWalkIn
import Derived.TacticsInMore
import Derived.LoopNIn
import Derived.LoopIn
import Derived.Lib.SliceRun
import Derived.Test.YtmaopldahnejdaaGreatDoorG16
namespace Go.Proofs.YtmaopldahnejdaaGreatDoor
set_option maxHeartbeats 4000000
set_option maxRecDepth 100000
open Go.ChangeShapes Go.WideShapes Go.ChangeAt Go.RowKit
set_option linter.unusedVariables false
open Go.ChangeShapes Go.WideShapes Go.ChangeAt Go.RowKit Go.Shelf
section
variable {P : Program}
def Kept (B : Nat) (W W' : World) : Prop := W.heap.size ≤ W'.heap.size ∧ ∀ k, B ≤ k → k < W.heap.size → W'.heap[k]? = W.heap[k]?
theorem Kept.refl (B : Nat) (W : World) : Kept B W W := ⟨Nat.le_refl _, fun _ _ _ => rfl⟩
theorem Kept.trans {B : Nat} {U V W : World} (h : Kept B U V) (k : Kept B V W) : Kept B U W := ⟨Nat.le_trans h.1 k.1, fun i hi hl => (k.2 i hi (Nat.lt_of_lt_of_le hl h.1)).trans (h.2 i hi hl)⟩
theorem Kept.mono {B B' : Nat} {W W' : World} (h : Kept B W W') (hb : B ≤ B') : Kept B' W W' := ⟨h.1, fun i hi hl => h.2 i (Nat.le_trans hb hi) hl⟩
theorem Kept.below {B : Nat} {W W' : World} (h : Bl W W') : Kept B W W' := ⟨h.size, fun i _ hl => h.block i hl⟩
theorem Kept.chg {B : Nat} {S : zAN} {W W' : World} (h : Chg S W W') (hS : ∀ k, S k → k < B) : Kept B W W' := ⟨h.size, fun i hi hl => h.block i hl fun x => by have := hS i x; omega⟩
theorem Kept.alloc (B : Nat) (W : World) (o : Obj) : Kept B W (W.alloc o) := ⟨by simp, fun i _ hl => Below.heap_alloc W o i hl⟩
theorem Kept.put {B l : Nat} (W : World) (o : Obj) (h : l < B) : Kept B W (W.putObj l o) := ⟨by simp, fun i hi _ => World.putObj_heap_other (by omega)⟩
end
open Go.RowKit
section
variable (ln : List Int → Bool) (tok : Int → Int → Bool) (tou : Int → Int → Int → Int) (vic : Int → Int → Int)
open Classical in
end
section
variable {ln : List Int → Bool} {tok : Int → Int → Bool} {tou : Int → Int → Int → Int} {vic : Int → Int → Int}
end
attribute [local go_sem] Oper.semAt_some
structure WCells where
 line : Int
 state : Int
 addr : Option Addr
 len : Nat
 cap : Nat
abbrev WCells.agg (c : WCells) : Value := .agg #[.int .i64 c.line, .int .i64 c.state, .slice c.addr c.len c.cap]
attribute [local go_sem] Oper.semAt_some
attribute [local go_sem] Oper.semAt_some
theorem zKm {w : World} {g : Nat} {x y a b : Value} {t : TypeId} (h : w.heap[g]? = some (.cells #[x, y] t (0, 0))) :
    ((w.setCell ⟨g, 0, none⟩ a).setCell ⟨g, 1, none⟩ b).heap[g]? = some (.cells #[a, b] t (0, 0)) := by
 have c := heap_setCell_same w g 0 _ t a h;exact heap_setCell_same _ g 1 _ t b c
theorem zET (a : Option Addr) (d : List Int) (cap : Nat) (w : World) (h : zBv zBf w a d) (hm : d.length ≤ 1048576) :
    Calls Tryz.prog 162 #[sL a d.length cap] w fun e w' => ∃ y p, e = .returned (sL y d.length p) ∧ zAD zAm w w' [sL y d.length p] d := by
 cases a with
 | some ad =>
  obtain ⟨I, F, s, r, q⟩ := info_parts Tryz.infoI;have m : (w.alloc (.cells #[] 2)).ownsRow w.heap.size 2 1 (sL (some ⟨w.heap.size, 0, none⟩) 0 0) 0 [] := World.ownsRow_lit _ #[] 0 (Nat.le_refl _) (Nat.zero_le _) rfl;have A : Hid (zBr w (some ad) d ∧ ∀ x ∈ d, zA4 x) := ⟨zAM h, zDn h⟩;have J := fun W => Go.Lib.run_eql_slice_nil (P := Tryz.prog) W 28 2 (some ad) d.length cap 0 0 Tryz.underlying28;clear h;go_enter Tryz.func162, Tryz.ntmps162;go_wp2_with (at_builtin; refine wpList_append_own _ rfl _ _ 28 rfl w.heap.size 2 I (nI 0) 1 8 Tryz.underlying28 F s r q rfl (by decide) _ _ _ rfl m ad d.length cap (d.map (Value.int .i64)) rfl (by simp) ?c1 ?c2 ?c3 ?c4 ?c5 ?_)
  case c1 =>
   intro j u L;obtain ⟨l, rfl⟩ := List.getElem?_eq_some_iff.1 L;simp at l
   rcases A.out.1 with rfl | ⟨b, k, o, K⟩
   ·simp at l
   simp only [Option.some.injEq] at o;subst o;have B := K j l;have M := (World.cell?_of_block (w := w) (a := ⟨b, k + j, none⟩) (Below.heap_alloc w (.cells #[] 2) b (World.block_lt_of_cell? w _ B))).trans B;rw [show (⟨b, k, none⟩ : Addr).add j = ⟨b, k + j, none⟩ from by simp [Addr.add], M];simp [List.getD_eq_getElem?_getD, l]
  case c2 => intro u D; simp at D; obtain ⟨x, _, rfl⟩ := D; rfl
  case c3 => unfold maxLen; omega
  case c4 => omega
  case c5 => simp
  ·intro z H f i n;have E : z ≠ sL none 0 0 := n;have c : H.ownsRow w.heap.size 2 1 z d.length (d.map (Value.int .i64)) := by simpa using f
   have v := zB8 (zCq (w := w) c i E) A.out.2;obtain ⟨y, p, rfl⟩ := zAB v.1;have G : Hid _ := v;clear v f i n m c E;go_wp2;go_ret
   exact ⟨_, _, rfl, G.out⟩
 | none =>
  obtain rfl : d = [] := by
   rcases h with h | ⟨b, k, C, o, _⟩
   ·exact h
   ·cases o
  rw [show ([] : List Int).length = 0 from rfl];have J := fun W => Go.Lib.run_eql_slice_nil (P := Tryz.prog) W 28 2 none 0 cap 0 0 Tryz.underlying28;go_enter Tryz.func162, Tryz.ntmps162;go_wp2;go_ret
  exact ⟨none, 0, rfl, ⟨_, [], fun _ => False, rfl, World.ownsRow_nil _ _ _ _, fun g hg => by simp [Value.ownBlock] at hg, fun _ h => h.elim, rfl⟩, Below.refl _ w⟩
set_option linter.unusedSimpArgs false
theorem zJH (k : Int) (a : zB0) (ds : List Value) (S : zAN) (w : World) (h : zBM.own w S ds a) (hS : ∀ j, S j → j < w.heap.size) (d : List Int) (pa : Option Addr) (pc : Nat) (hd : zBv zBf w pa d) (hm : d.length ≤ 1048576) :
    Calls Tryz.prog 146 #[zBw (nI k :: ds), sL pa d.length pc] w fun e w' => AccM w S k (zBA a.1 d, a.2) e w' := by
 obtain ⟨r, wc, f, i, S1, O, rfl, hi, U, h2, s1, V, dd⟩ := zA9 h;have Y : Hid _ := hi;have H1 : Hid (∀ W, Bl w W → zAm.own W S1 [sL r a.1.length wc] a.1) := fun W hb => zAm.own_keep U (zAj hb);have H2 : Hid (∀ W, Bl w W → zAm.own W O [sL f a.2.2.2.2.2.2.2.2.length i] a.2.2.2.2.2.2.2.2) := fun W hb => zAm.own_keep h2 (zAj hb);have J : Hid (∀ j, S j → j < w.heap.size) := hS;have F : Hid (Sub S1 S ∧ Sub O S ∧ Dis S1 O) := ⟨s1, V, dd⟩;clear h hS hi U h2 s1 V dd;have HD : Hid (∀ W, Bl w W → zBv zBf W pa d) := fun W hb => zAt hd hb;have HM : Hid _ := hm;clear hd hm;change Calls Tryz.prog 146 #[.agg #[nI k, sL r a.1.length wc, nI a.2.1, nI a.2.2.1, .bool a.2.2.2.1, nI a.2.2.2.2.1, nI a.2.2.2.2.2.1, nI a.2.2.2.2.2.2.1, nI a.2.2.2.2.2.2.2.1, sL f a.2.2.2.2.2.2.2.2.length i], sL pa d.length pc] w _
 by_cases E : d.length = 0
 ·have z1 : ((d.length : Int) != 0) = false := by simp [E]
  have T : Hid (zBA a.1 d = a.1) := by unfold Hid zBA; rw [if_pos E]
  rw [T.out];clear E;have B := Below.refl w.heap.size w;go_enter Tryz.func146, Tryz.ntmps146;go_upto_region 1 with fail
  generalize b : w.alloc _ = u1w;have X := boxH b;have p := boxB b;have z := boxL b;clear b;rw [show w.heap.size = w.heap.size from by omega] at X;replace B := zAa B p;clear p;have K := lE z;have I := lE z.symm;clear z;generalize c : u1w.alloc _ = u2w;have Z := boxH c;have p := boxB c;have A := boxL c;clear c;rw [show u1w.heap.size = w.heap.size + 1 from by omega] at Z;replace B := zAa B p;replace X := zAb p X;clear p;have L := lE A;have M := lE A.symm;clear A;obtain ⟨Xc0, Xc1, Xc2, Xc3, Xc4, Xc5, Xc6, Xc7, Xc8, Xc9⟩ := zAc X;have Xlt := (ltH X);obtain ⟨Zc0, Zc1, Zc2, Zc3, Zc4, Zc5, Zc6, Zc7, Zc8, Zc9⟩ := zAc Z;have Zlt := (ltH Z);obtain ⟨Zf0, Zf1, Zf2, Zf3, Zf4, Zf5, Zf6, Zf7, Zf8, Zf9⟩ := zA0 Z;have G : Hid _ := aI B (aI X (Z));clear B X Z;go_wp2;clear Xc0 Xc1 Xc2 Xc3 Xc4 Xc5 Xc6 Xc7 Xc8 Xc9 Xlt Zc0 Zc1 Zc2 Zc3 Zc4 Zc5 Zc6 Zc7 Zc8 Zc9 Zlt Zf0 Zf1 Zf2 Zf3 Zf4 Zf5 Zf6 Zf7 Zf8 Zf9;obtain ⟨B, X, Z⟩ := G.out;clear G;rw [show ((((((((((u2w.setCell ⟨w.heap.size + 1, 0, none⟩ (nI k)).setCell ⟨w.heap.size + 1, 1, none⟩ (sL r a.1.length wc)).setCell ⟨w.heap.size + 1, 2, none⟩ (nI a.2.1)).setCell ⟨w.heap.size + 1, 3, none⟩ (nI a.2.2.1)).setCell ⟨w.heap.size + 1, 4, none⟩ (.bool a.2.2.2.1)).setCell ⟨w.heap.size + 1, 5, none⟩ (nI a.2.2.2.2.1)).setCell ⟨w.heap.size + 1, 6, none⟩ (nI a.2.2.2.2.2.1)).setCell ⟨w.heap.size + 1, 7, none⟩ (nI a.2.2.2.2.2.2.1)).setCell ⟨w.heap.size + 1, 8, none⟩ (nI a.2.2.2.2.2.2.2.1)).setCell ⟨w.heap.size + 1, 9, none⟩ (sL f a.2.2.2.2.2.2.2.2.length i)) = (zAy u2w (w.heap.size + 1) 0 [nI k, sL r a.1.length wc, nI a.2.1, nI a.2.2.1, .bool a.2.2.2.1, nI a.2.2.2.2.1, nI a.2.2.2.2.2.1, nI a.2.2.2.2.2.2.1, nI a.2.2.2.2.2.2.2.1, sL f a.2.2.2.2.2.2.2.2.length i]) from rfl];replace X := zAs (g := w.heap.size + 1) (o := 0) (vs := [nI k, sL r a.1.length wc, nI a.2.1, nI a.2.2.1, .bool a.2.2.2.1, nI a.2.2.2.2.1, nI a.2.2.2.2.2.1, nI a.2.2.2.2.2.2.1, nI a.2.2.2.2.2.2.2.1, sL f a.2.2.2.2.2.2.2.2.length i]) X (by omega);replace B := zAv (g := w.heap.size + 1) (o := 0) (vs := [nI k, sL r a.1.length wc, nI a.2.1, nI a.2.2.1, .bool a.2.2.2.1, nI a.2.2.2.2.1, nI a.2.2.2.2.2.1, nI a.2.2.2.2.2.2.1, nI a.2.2.2.2.2.2.2.1, sL f a.2.2.2.2.2.2.2.2.length i]) B (by omega);replace Z : (zAy u2w (w.heap.size + 1) 0 [nI k, sL r a.1.length wc, nI a.2.1, nI a.2.2.1, .bool a.2.2.2.1, nI a.2.2.2.2.1, nI a.2.2.2.2.2.1, nI a.2.2.2.2.2.2.1, nI a.2.2.2.2.2.2.2.1, sL f a.2.2.2.2.2.2.2.2.length i]).heap[w.heap.size + 1]? = some (.cells #[nI k, sL r a.1.length wc, nI a.2.1, nI a.2.2.1, .bool a.2.2.2.1, nI a.2.2.2.2.1, nI a.2.2.2.2.2.1, nI a.2.2.2.2.2.2.1, nI a.2.2.2.2.2.2.2.1, sL f a.2.2.2.2.2.2.2.2.length i] 107 (0, 0)) := zBx Z;have y := lE (zAq (g := w.heap.size + 1) [nI k, sL r a.1.length wc, nI a.2.1, nI a.2.2.1, .bool a.2.2.2.1, nI a.2.2.2.2.1, nI a.2.2.2.2.2.1, nI a.2.2.2.2.2.2.1, nI a.2.2.2.2.2.2.2.1, sL f a.2.2.2.2.2.2.2.2.length i] 0 u2w);have s := lE (zAq (g := w.heap.size + 1) [nI k, sL r a.1.length wc, nI a.2.1, nI a.2.2.1, .bool a.2.2.2.1, nI a.2.2.2.2.1, nI a.2.2.2.2.2.1, nI a.2.2.2.2.2.2.1, nI a.2.2.2.2.2.2.2.1, sL f a.2.2.2.2.2.2.2.2.length i] 0 u2w).symm;generalize (zAy u2w (w.heap.size + 1) 0 [nI k, sL r a.1.length wc, nI a.2.1, nI a.2.2.1, .bool a.2.2.2.1, nI a.2.2.2.2.1, nI a.2.2.2.2.2.1, nI a.2.2.2.2.2.2.1, nI a.2.2.2.2.2.2.2.1, sL f a.2.2.2.2.2.2.2.2.length i]) = u3w at B X Z y s ⊢;obtain ⟨Xc0, Xc1, Xc2, Xc3, Xc4, Xc5, Xc6, Xc7, Xc8, Xc9⟩ := zAc X;have Xlt := (ltH X);obtain ⟨Zc0, Zc1, Zc2, Zc3, Zc4, Zc5, Zc6, Zc7, Zc8, Zc9⟩ := zAc Z;have Zlt := (ltH Z);exact bodyPost_ret (v := .agg #[nI k, sL r a.1.length wc, nI a.2.1, nI a.2.2.1, .bool a.2.2.2.1, nI a.2.2.2.2.1, nI a.2.2.2.2.2.1, nI a.2.2.2.2.2.2.1, nI a.2.2.2.2.2.2.2.1, sL f a.2.2.2.2.2.2.2.2.length i]) (by simp [results, Tryz.results146, go_sem, Zc0, Zc1, Zc2, Zc3, Zc4, Zc5, Zc6, Zc7, Zc8, Zc9]) rfl ⟨_, rfl, zBM.own_mono (zCb Y.out (H1.out _ B) (H2.out _ B) F.out.1 F.out.2.1 F.out.2.2) more_in, B⟩
 ·have z1 : ((d.length : Int) != 0) = true := by rw [bne_iff_ne]; omega
  have T : Hid (zBA a.1 d = d) := by unfold Hid zBA; rw [if_neg E]
  rw [T.out];clear E;have B := Below.refl w.heap.size w;go_enter Tryz.func146, Tryz.ntmps146;go_upto_region 1 with fail
  generalize b : w.alloc _ = u1w;have X := boxH b;have p := boxB b;have z := boxL b;clear b;rw [show w.heap.size = w.heap.size from by omega] at X;replace B := zAa B p;clear p;have K := lE z;have I := lE z.symm;clear z;generalize c : u1w.alloc _ = u2w;have Z := boxH c;have p := boxB c;have A := boxL c;clear c;rw [show u1w.heap.size = w.heap.size + 1 from by omega] at Z;replace B := zAa B p;replace X := zAb p X;clear p;have L := lE A;have M := lE A.symm;clear A;obtain ⟨Xc0, Xc1, Xc2, Xc3, Xc4, Xc5, Xc6, Xc7, Xc8, Xc9⟩ := zAc X;have Xlt := (ltH X);obtain ⟨Zc0, Zc1, Zc2, Zc3, Zc4, Zc5, Zc6, Zc7, Zc8, Zc9⟩ := zAc Z;have Zlt := (ltH Z);go_wp2_with fail
  clear Xc0 Xc1 Xc2 Xc3 Xc4 Xc5 Xc6 Xc7 Xc8 Xc9 Xlt Zc0 Zc1 Zc2 Zc3 Zc4 Zc5 Zc6 Zc7 Zc8 Zc9 Zlt;refine (zET pa d pc _ (HD.out _ B) HM.out).mono ?_;rintro e n ⟨l, m, rfl, C⟩;have N := zBs (R := zAm) C;have cA : u2w.heap.size ≤ n.heap.size := C.2.size;replace B := zAa B C.2;replace X := zAb C.2 X;replace Z := zAb C.2 Z;clear C;obtain ⟨Xc0, Xc1, Xc2, Xc3, Xc4, Xc5, Xc6, Xc7, Xc8, Xc9⟩ := zAc X;have Xlt := (ltH X);obtain ⟨Xf0, Xf1, Xf2, Xf3, Xf4, Xf5, Xf6, Xf7, Xf8, Xf9⟩ := zA0 X;obtain ⟨Zc0, Zc1, Zc2, Zc3, Zc4, Zc5, Zc6, Zc7, Zc8, Zc9⟩ := zAc Z;have Zlt := (ltH Z);go_upto_region 3 with fail
  clear Xc0 Xc1 Xc2 Xc3 Xc4 Xc5 Xc6 Xc7 Xc8 Xc9 Xlt Xf0 Xf1 Xf2 Xf3 Xf4 Xf5 Xf6 Xf7 Xf8 Xf9 Zc0 Zc1 Zc2 Zc3 Zc4 Zc5 Zc6 Zc7 Zc8 Zc9 Zlt;rw [show (n.setCell ⟨w.heap.size, 1, none⟩ (sL l d.length m)) = (zAy n (w.heap.size) 1 [sL l d.length m]) from rfl];replace Z := zAs (g := w.heap.size) (o := 1) (vs := [sL l d.length m]) Z (by omega);replace N := zBg (g := w.heap.size) (o := 1) (vs := [sL l d.length m]) N (by omega);replace B := zAv (g := w.heap.size) (o := 1) (vs := [sL l d.length m]) B (by omega);replace X : (zAy n (w.heap.size) 1 [sL l d.length m]).heap[w.heap.size]? = some (.cells #[nI k, sL l d.length m, nI a.2.1, nI a.2.2.1, .bool a.2.2.2.1, nI a.2.2.2.2.1, nI a.2.2.2.2.2.1, nI a.2.2.2.2.2.2.1, nI a.2.2.2.2.2.2.2.1, sL f a.2.2.2.2.2.2.2.2.length i] 107 (0, 0)) := zBK _ _ X;have y := lE (zAq (g := w.heap.size) [sL l d.length m] 1 n);have s := lE (zAq (g := w.heap.size) [sL l d.length m] 1 n).symm;generalize (zAy n (w.heap.size) 1 [sL l d.length m]) = u3w at B X Z N y s ⊢;obtain ⟨Xc0, Xc1, Xc2, Xc3, Xc4, Xc5, Xc6, Xc7, Xc8, Xc9⟩ := zAc X;have Xlt := (ltH X);obtain ⟨Zc0, Zc1, Zc2, Zc3, Zc4, Zc5, Zc6, Zc7, Zc8, Zc9⟩ := zAc Z;have Zlt := (ltH Z);obtain ⟨Zf0, Zf1, Zf2, Zf3, Zf4, Zf5, Zf6, Zf7, Zf8, Zf9⟩ := zA0 Z;have G : Hid _ := aI B (aI X (aI Z (N)));clear B X Z N;go_wp2;clear Xc0 Xc1 Xc2 Xc3 Xc4 Xc5 Xc6 Xc7 Xc8 Xc9 Xlt Zc0 Zc1 Zc2 Zc3 Zc4 Zc5 Zc6 Zc7 Zc8 Zc9 Zlt Zf0 Zf1 Zf2 Zf3 Zf4 Zf5 Zf6 Zf7 Zf8 Zf9;obtain ⟨B, X, Z, N⟩ := G.out;clear G;rw [show ((((((((((u3w.setCell ⟨w.heap.size + 1, 0, none⟩ (nI k)).setCell ⟨w.heap.size + 1, 1, none⟩ (sL l d.length m)).setCell ⟨w.heap.size + 1, 2, none⟩ (nI a.2.1)).setCell ⟨w.heap.size + 1, 3, none⟩ (nI a.2.2.1)).setCell ⟨w.heap.size + 1, 4, none⟩ (.bool a.2.2.2.1)).setCell ⟨w.heap.size + 1, 5, none⟩ (nI a.2.2.2.2.1)).setCell ⟨w.heap.size + 1, 6, none⟩ (nI a.2.2.2.2.2.1)).setCell ⟨w.heap.size + 1, 7, none⟩ (nI a.2.2.2.2.2.2.1)).setCell ⟨w.heap.size + 1, 8, none⟩ (nI a.2.2.2.2.2.2.2.1)).setCell ⟨w.heap.size + 1, 9, none⟩ (sL f a.2.2.2.2.2.2.2.2.length i)) = (zAy u3w (w.heap.size + 1) 0 [nI k, sL l d.length m, nI a.2.1, nI a.2.2.1, .bool a.2.2.2.1, nI a.2.2.2.2.1, nI a.2.2.2.2.2.1, nI a.2.2.2.2.2.2.1, nI a.2.2.2.2.2.2.2.1, sL f a.2.2.2.2.2.2.2.2.length i]) from rfl];replace X := zAs (g := w.heap.size + 1) (o := 0) (vs := [nI k, sL l d.length m, nI a.2.1, nI a.2.2.1, .bool a.2.2.2.1, nI a.2.2.2.2.1, nI a.2.2.2.2.2.1, nI a.2.2.2.2.2.2.1, nI a.2.2.2.2.2.2.2.1, sL f a.2.2.2.2.2.2.2.2.length i]) X (by omega);replace N := zBg (g := w.heap.size + 1) (o := 0) (vs := [nI k, sL l d.length m, nI a.2.1, nI a.2.2.1, .bool a.2.2.2.1, nI a.2.2.2.2.1, nI a.2.2.2.2.2.1, nI a.2.2.2.2.2.2.1, nI a.2.2.2.2.2.2.2.1, sL f a.2.2.2.2.2.2.2.2.length i]) N (by omega);replace B := zAv (g := w.heap.size + 1) (o := 0) (vs := [nI k, sL l d.length m, nI a.2.1, nI a.2.2.1, .bool a.2.2.2.1, nI a.2.2.2.2.1, nI a.2.2.2.2.2.1, nI a.2.2.2.2.2.2.1, nI a.2.2.2.2.2.2.2.1, sL f a.2.2.2.2.2.2.2.2.length i]) B (by omega);replace Z : (zAy u3w (w.heap.size + 1) 0 [nI k, sL l d.length m, nI a.2.1, nI a.2.2.1, .bool a.2.2.2.1, nI a.2.2.2.2.1, nI a.2.2.2.2.2.1, nI a.2.2.2.2.2.2.1, nI a.2.2.2.2.2.2.2.1, sL f a.2.2.2.2.2.2.2.2.length i]).heap[w.heap.size + 1]? = some (.cells #[nI k, sL l d.length m, nI a.2.1, nI a.2.2.1, .bool a.2.2.2.1, nI a.2.2.2.2.1, nI a.2.2.2.2.2.1, nI a.2.2.2.2.2.2.1, nI a.2.2.2.2.2.2.2.1, sL f a.2.2.2.2.2.2.2.2.length i] 107 (0, 0)) := zBx Z;have D := lE (zAq (g := w.heap.size + 1) [nI k, sL l d.length m, nI a.2.1, nI a.2.2.1, .bool a.2.2.2.1, nI a.2.2.2.2.1, nI a.2.2.2.2.2.1, nI a.2.2.2.2.2.2.1, nI a.2.2.2.2.2.2.2.1, sL f a.2.2.2.2.2.2.2.2.length i] 0 u3w);have H := lE (zAq (g := w.heap.size + 1) [nI k, sL l d.length m, nI a.2.1, nI a.2.2.1, .bool a.2.2.2.1, nI a.2.2.2.2.1, nI a.2.2.2.2.2.1, nI a.2.2.2.2.2.2.1, nI a.2.2.2.2.2.2.2.1, sL f a.2.2.2.2.2.2.2.2.length i] 0 u3w).symm;generalize (zAy u3w (w.heap.size + 1) 0 [nI k, sL l d.length m, nI a.2.1, nI a.2.2.1, .bool a.2.2.2.1, nI a.2.2.2.2.1, nI a.2.2.2.2.2.1, nI a.2.2.2.2.2.2.1, nI a.2.2.2.2.2.2.2.1, sL f a.2.2.2.2.2.2.2.2.length i]) = u4w at B X Z N D H ⊢;obtain ⟨Xc0, Xc1, Xc2, Xc3, Xc4, Xc5, Xc6, Xc7, Xc8, Xc9⟩ := zAc X;have Xlt := (ltH X);obtain ⟨Zc0, Zc1, Zc2, Zc3, Zc4, Zc5, Zc6, Zc7, Zc8, Zc9⟩ := zAc Z;have Zlt := (ltH Z);exact bodyPost_ret (v := .agg #[nI k, sL l d.length m, nI a.2.1, nI a.2.2.1, .bool a.2.2.2.1, nI a.2.2.2.2.1, nI a.2.2.2.2.2.1, nI a.2.2.2.2.2.2.1, nI a.2.2.2.2.2.2.2.1, sL f a.2.2.2.2.2.2.2.2.length i]) (by simp [results, Tryz.results146, go_sem, Zc0, Zc1, Zc2, Zc3, Zc4, Zc5, Zc6, Zc7, Zc8, Zc9]) rfl ⟨_, rfl, zCb (S1 := rng u2w.heap.size n.heap.size) (e := a.2) Y.out N.1 (H2.out _ B) (fun j q => .inr ⟨by have := q.1; omega, by have := q.2; have := N.2; omega⟩) (fun j q => .inl (F.out.2.1 j q)) (fun j q1 q2 => by have := J.out j (F.out.2.1 j q2); have := q1.1; omega), B⟩
end Go.Proofs.YtmaopldahnejdaaGreatDoor
