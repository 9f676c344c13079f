import Derived.Test.YtmaopldahnejdaaGreatDoorH00Box
import Derived.Test.YtmaopldahnejdaaGreatDoorH14
import Derived.Test.YtmaopldahnejdaaGreatDoorH15
import Derived.Deep.RegionHeld3
namespace Go.Proofs.YtmaopldahnejdaaGreatDoor
set_option maxHeartbeats 4000000
open Go.ChangeShapes Go.WideShapes Go.ChangeAt Go.RowKit
set_option linter.unusedVariables false
theorem l10Holders_any (o s k f l m : Int) (b : Bool) (d : List Int) (a : Option Addr) (cap : Nat) (w : World) (hw : whoB o s = true) :
    Calls Tryz.prog 41 #[.agg #[nI o, nI s, .bool b, nI k, nI f, nI l, nI m, sL a d.length cap]] w fun e w' => ∃ v, e = .returned v ∧ Made w w' v (hoI o s) := by
 have X := heap_at w (.cells #[nI o, nI s, .bool b, nI k, nI f, nI l, nI m, sL a d.length cap] 48);have B := box_below w (.cells #[nI o, nI s, .bool b, nI k, nI f, nI l, nI m, sL a d.length cap] 48);by_cases C : 0 ≤ o
 ·have O := who_alone hw C;subst O;have D : Hid (hoI o 0 = [o]) := if_pos C;go_enter Tryz.func41, Tryz.ntmps41;go_wp2_with fail
  generalize w.alloc (.cells #[nI o, nI 0, .bool b, nI k, nI f, nI l, nI m, sL a d.length cap] 48) = W0 at X B ⊢;refine (specMembers_any _ _).mono ?_;rintro e p ⟨g, c, rfl, y, z, n, i⟩;rw [mems_zero] at n ⊢;replace X := row_keep i X;replace B := below_step B i;obtain ⟨S, N, L, F, I, E, G, J⟩ := cells_8 X;obtain ⟨g', c', H, _, _, A, r⟩ := own_shape n (by simp);simp only [Value.slice.injEq, Option.some.injEq, Addr.mk.injEq, and_true, true_and] at H;obtain ⟨rfl, rfl⟩ := H;have U : Hid (Calls Tryz.prog 83 #[sL (some ⟨g, 0, none⟩) ([] : List Int).length c, nI o] p fun e w' => ∃ v, e = .returned v ∧ Made p w' v [o]) := (l1Put_any g 0 [] c o p (fun j hj => by simp at hj) (by simp) (by simp) r).mono fun e w' h => by
   rcases h with ⟨_, _, q⟩ | h
   ·cases q
   ·exact h
  clear y z n i A r X N L F I E G J;go_wp2_with (go_at_call 83; refine U.out.mono ?_; rintro e R ⟨v, rfl, K⟩; have T : Hid (Made w R v (hoI o 0)) := (D.out ▸ made_step B K); clear K)
  go_ret
  exact ⟨_, rfl, T.out⟩
 ·have D : Hid (hoI o s = mems s 8) := if_neg C;go_enter Tryz.func41, Tryz.ntmps41;go_wp2_with fail
  generalize w.alloc (.cells #[nI o, nI s, .bool b, nI k, nI f, nI l, nI m, sL a d.length cap] 48) = W0 at X B ⊢;refine (specMembers_any _ _).mono ?_;rintro e p ⟨g, c, rfl, y, z, n, i⟩;have M : Hid (Made w p (sL (some ⟨g, 0, none⟩) (mems s 8).length c) (hoI o s)) := by
   unfold Hid;rw [D.out];exact made_step B ⟨g, c, rfl, y, z, n, i⟩
  replace X := row_keep i X;obtain ⟨S, N, L, F, I, E, G, J⟩ := cells_8 X;clear y z n i X B;go_wp2;go_ret
  exact ⟨_, rfl, M.out⟩
theorem in_item {s c : Int} (h : inB s c = true) : 0 ≤ c ∧ c ≤ 7 := by
 unfold inB at h;simp only [Bool.and_eq_true] at h;first | exact itemB_bd h.1.2 | exact itemB_bd h.2.1
theorem page_any (o s k f l m : Int) (b : Bool) (v : Value) (w : World) :
    Calls Tryz.prog 105 #[.agg #[nI o, nI s, .bool b, nI k, nI f, nI l, nI m, v]] w fun e w' => e = .returned (.agg #[nI s, nI o]) ∧ Bl w w' := by
 have a : Hid (∀ x y, Bl w ((w.alloc x).alloc y)) := fun x y => below_step (box_below w x) (box_below _ y);go_enter Tryz.func105, Tryz.ntmps105;go_wp2;refine bodyPost_ret (v := .agg #[nI s, nI o]) (by simp [results, Tryz.results105, go_sem]) rfl ⟨rfl, a.out _ _⟩
theorem froz_2p {w : World} {g : Nat} {cs : Array Value} {t : TypeId} (h : w.heap[g]? = some (.cells cs t (0, 0))) : w.frozen? ⟨g, 0, none⟩ = false ∧ w.frozen? ⟨g, 1, none⟩ = false :=
 ⟨frozen_of_row w g 0 _ t h, frozen_of_row w g 1 _ t h⟩
theorem put_2p {w : World} {g : Nat} {x0 y0 x1 y1 : Value} {t : TypeId} (h : w.heap[g]? = some (.cells #[x0, x1] t (0, 0))) :
    ((w.setCell ⟨g, 0, none⟩ y0).setCell ⟨g, 1, none⟩ y1).heap[g]? = some (.cells #[y0, y1] t (0, 0)) := by
 have a : (w.setCell ⟨g, 0, none⟩ y0).heap[g]? = some (.cells #[y0, x1] t (0, 0)) := heap_setCell_same _ g 0 _ t y0 h;exact heap_setCell_same _ g 1 _ t y1 a
theorem forget_any (o s c : Int) (w : World) :
    Calls Tryz.prog 160 #[.agg #[nI s, nI o], nI c] w fun e f => e = .returned (.agg #[nI (fgS s c), nI (fgO o c)]) ∧ Bl w f := by
 have X := heap_on (.cells #[nI 0, nI 0] 125) (heap_at w (.cells #[nI s, nI o] 125));have Y := heap_at (w.alloc (.cells #[nI s, nI o] 125)) (.cells #[nI 0, nI 0] 125);have B := below_step (box_below w (.cells #[nI s, nI o] 125)) (box_below _ (.cells #[nI 0, nI 0] 125));rw [alloc_len] at Y;have d : Hid (∀ W, Calls Tryz.prog 134 #[.agg #[nI s, nI o], nI c] W fun e f => e = .returned (.bool (ownB o c)) ∧ Bl W f) := fun W => owns_any o s c W;cases n : ownB o c
 ·rw [n] at d;cases b : inB s c
  ·skip
   have l : Hid (fgS s c = s) := by unfold Hid fgS; rw [b]; rfl
   have i : Hid (fgO o c = o) := by unfold Hid fgO; rw [n]; rfl
   rw [i.out, l.out];go_enter Tryz.func160, Tryz.ntmps160;go_wp2_with fail
   generalize (w.alloc (.cells #[nI s, nI o] 125)).alloc (.cells #[nI 0, nI 0] 125) = W0 at X Y B ⊢;refine (d.out _).mono ?_;rintro e q ⟨rfl, a⟩;replace X := row_keep a X;replace Y := row_keep a Y;replace B := below_step B a;obtain ⟨A, C⟩ := cells_2p X;obtain ⟨r, z⟩ := froz_2p X;obtain ⟨y0, y1⟩ := cells_2p Y;obtain ⟨y, D⟩ := froz_2p Y;have k : Hid _ := aI X Y;clear X Y a d;go_wp2_with ((go_at_call 135; refine (has_any _ _ _).mono ?_; rintro e f ⟨rfl, rfl⟩; rw [b]))
   obtain ⟨X, Y⟩ := k.out;obtain ⟨m, j⟩ := cells_2p (put_2p (y0 := nI s) (y1 := nI o) Y);refine bodyPost_ret (v := .agg #[nI s, nI o]) (by simp [results, Tryz.results160, go_sem, m, j]) rfl ⟨rfl, (below_setC (below_setC B (by omega)) (by omega))⟩
  ·have p : 0 ≤ c ∧ c ≤ 7 := in_item b;have l : Hid (fgS s c = andNotI s c) := by unfold Hid fgS; rw [b]; rfl
   have i : Hid (fgO o c = o) := by unfold Hid fgO; rw [n]; rfl
   rw [i.out, l.out];go_enter Tryz.func160, Tryz.ntmps160;go_wp2_with fail
   generalize (w.alloc (.cells #[nI s, nI o] 125)).alloc (.cells #[nI 0, nI 0] 125) = W0 at X Y B ⊢;refine (d.out _).mono ?_;rintro e q ⟨rfl, a⟩;replace X := row_keep a X;replace Y := row_keep a Y;replace B := below_step B a;obtain ⟨A, C⟩ := cells_2p X;obtain ⟨r, z⟩ := froz_2p X;obtain ⟨y0, y1⟩ := cells_2p Y;obtain ⟨y, D⟩ := froz_2p Y;have k : Hid _ := aI X Y;clear X Y a d;go_wp2_with (first | (go_at_call 135; refine (has_any _ _ _).mono ?_; rintro e f ⟨rfl, rfl⟩; rw [b]) | (go_at_call 174; refine (without_in _ _ _ p.1 p.2).mono ?_; rintro e f ⟨rfl, rfl⟩))
   obtain ⟨X, Y⟩ := k.out;obtain ⟨m, j⟩ := cells_2p (put_2p (y0 := nI (andNotI s c)) (y1 := nI o) (heap_setC (g := w.heap.size) (o := 0) (v := nI (andNotI s c)) Y (by omega)));refine bodyPost_ret (v := .agg #[nI (andNotI s c), nI o]) (by simp [results, Tryz.results160, go_sem, m, j]) rfl ⟨rfl, (below_setC (below_setC (below_setC B (by omega)) (by omega)) (by omega))⟩
 ·rw [n] at d;cases b : inB s c
  ·skip
   have l : Hid (fgS s c = s) := by unfold Hid fgS; rw [b]; rfl
   have i : Hid (fgO o c = -1) := by unfold Hid fgO; rw [n]; rfl
   rw [i.out, l.out];go_enter Tryz.func160, Tryz.ntmps160;go_wp2_with fail
   generalize (w.alloc (.cells #[nI s, nI o] 125)).alloc (.cells #[nI 0, nI 0] 125) = W0 at X Y B ⊢;refine (d.out _).mono ?_;rintro e q ⟨rfl, a⟩;replace X := row_keep a X;replace Y := row_keep a Y;replace B := below_step B a;obtain ⟨A, C⟩ := cells_2p X;obtain ⟨r, z⟩ := froz_2p X;obtain ⟨y0, y1⟩ := cells_2p Y;obtain ⟨y, D⟩ := froz_2p Y;have k : Hid _ := aI X Y;clear X Y a d;go_wp2_with ((go_at_call 135; refine (has_any _ _ _).mono ?_; rintro e f ⟨rfl, rfl⟩; rw [b]))
   obtain ⟨X, Y⟩ := k.out;obtain ⟨m, j⟩ := cells_2p (put_2p (y0 := nI s) (y1 := nI (-1)) (heap_setC (g := w.heap.size) (o := 1) (v := nI (-1)) Y (by omega)));refine bodyPost_ret (v := .agg #[nI s, nI (-1)]) (by simp [results, Tryz.results160, go_sem, m, j]) rfl ⟨rfl, (below_setC (below_setC (below_setC B (by omega)) (by omega)) (by omega))⟩
  ·have p : 0 ≤ c ∧ c ≤ 7 := in_item b;have l : Hid (fgS s c = andNotI s c) := by unfold Hid fgS; rw [b]; rfl
   have i : Hid (fgO o c = -1) := by unfold Hid fgO; rw [n]; rfl
   rw [i.out, l.out];go_enter Tryz.func160, Tryz.ntmps160;go_wp2_with fail
   generalize (w.alloc (.cells #[nI s, nI o] 125)).alloc (.cells #[nI 0, nI 0] 125) = W0 at X Y B ⊢;refine (d.out _).mono ?_;rintro e q ⟨rfl, a⟩;replace X := row_keep a X;replace Y := row_keep a Y;replace B := below_step B a;obtain ⟨A, C⟩ := cells_2p X;obtain ⟨r, z⟩ := froz_2p X;obtain ⟨y0, y1⟩ := cells_2p Y;obtain ⟨y, D⟩ := froz_2p Y;have k : Hid _ := aI X Y;clear X Y a d;go_wp2_with (first | (go_at_call 135; refine (has_any _ _ _).mono ?_; rintro e f ⟨rfl, rfl⟩; rw [b]) | (go_at_call 174; refine (without_in _ _ _ p.1 p.2).mono ?_; rintro e f ⟨rfl, rfl⟩))
   obtain ⟨X, Y⟩ := k.out;obtain ⟨m, j⟩ := cells_2p (put_2p (y0 := nI (andNotI s c)) (y1 := nI (-1)) (heap_setC (g := w.heap.size) (o := 0) (v := nI (andNotI s c)) (heap_setC (g := w.heap.size) (o := 1) (v := nI (-1)) Y (by omega)) (by omega)));refine bodyPost_ret (v := .agg #[nI (andNotI s c), nI (-1)]) (by simp [results, Tryz.results160, go_sem, m, j]) rfl ⟨rfl, (below_setC (below_setC (below_setC (below_setC B (by omega)) (by omega)) (by omega)) (by omega))⟩
theorem run_append_zero {P : Program} {w : World} (base : Nat) (t ty e : TypeId) (i : TypeInfo) (size : Nat) (ht : P.underlying t = some (.slice e)) (hi : P.info? e = some i) (c : Nat)
    (v : Value) (n : Nat) (xs : List Value) (hown : w.ownsRow base e size v n xs) : (Builtin.append_ #[t, t] ty #[v, sL none 0 c]).run P w = .ok v w := by
 rcases hown.2 with ⟨rfl, rfl⟩ | ⟨g, d, b, rfl, _, _, a, _⟩
 ·simp [Builtin.append_, run_underlying ht, sizeOf, typeInfo, hi, Builtin.lenOf, Builtin.firstCells]
 ·simp [Builtin.append_, run_underlying ht, sizeOf, typeInfo, hi, Builtin.lenOf, Builtin.firstCells, a, storeCells]
theorem wpList_append_zero {P : Program} {w : World} {ops : Array Oper} {rest : List Oper} {o : Oper} {a : Act} {Q : Exit → Act → World → Prop} (hgd : o.guard = none) (s x : Operand) (t : TypeId)
    (ho : o.op = .call { callee := .builtin .append, args := #[s, x], argTypes := #[t, t] })
    (base : Nat) (e : TypeId) (i : TypeInfo) (size : Nat) (ht : P.underlying t = some (.slice e)) (hi : P.info? e = some i) (c : Nat)
    (v : Value) (n : Nat) (xs : List Value) (hs : a.eval s = v) (hown : w.ownsRow base e size v n xs) (hx : a.eval x = sL none 0 c)
    (h : wpList P ops Q rest (a.put o.dst v) w) : wpList P ops Q (o :: rest) a w := by
 refine wpList_plain hgd fun K hK => ?_;have b := run_append_zero (P := P) (w := w) base t o.type e i size ht hi c v n xs hown;unfold Oper.wp;simp [execOp, ho, resolve, invoke, builtin, hs, hx, b, Result.andThen]
 exact hK _ _ h
theorem cell_kp3 (w : World) (o o' o'' : Obj) {b k : Nat} {u : Value} (h : w.cell? ⟨b, k, none⟩ = some u) : (((w.alloc o).alloc o').alloc o'').cell? ⟨b, k, none⟩ = some u := by
 have a := World.block_lt_of_cell? w _ h;simp only at a
 rw [World.cell?_alloc_past _ _ _ (by simp; omega), World.cell?_alloc_past _ _ _ (by simp; omega), World.cell?_alloc_past _ _ _ a, h]
theorem made_nothing (w : World) : MadeR intsR w (w.alloc (.cells #[] 2)) [sL (some ⟨w.heap.size, 0, none⟩) 0 0] [] := by
 refine ⟨⟨_, [], fun _ => False, rfl, World.ownsRow_lit (base := 0) (e := 2) (size := 1) w #[] 0 (Nat.zero_le _) (Nat.zero_le _) rfl, fun g hg => ?_, fun _ h => h.elim, rfl⟩, box_below w _⟩;simp [Value.ownBlock] at hg
 subst hg;exact ⟨⟨Nat.le_refl _, by simp⟩, fun h => h⟩
theorem l1Copy_nil (cap : Nat) (w : World) : Calls Tryz.prog 95 #[sL none 0 cap] w fun e w' => ∃ v, e = .returned v ∧ MadeR intsR w w' [v] [] := by
 obtain ⟨f, b, d, g, c⟩ := info_parts Tryz.infoI;have a : (w.alloc (.cells #[] 2)).ownsRow w.heap.size 2 1 (sL (some ⟨w.heap.size, 0, none⟩) 0 0) 0 [] := World.ownsRow_lit _ #[] 0 (Nat.le_refl _) (Nat.zero_le _) rfl;go_enter Tryz.func95, Tryz.ntmps95;go_wp2_with (at_builtin; refine wpList_append_zero rfl _ _ 28 rfl w.heap.size 2 f 1 Tryz.underlying28 b cap _ _ _ rfl a rfl ?_)
 go_ret
 exact ⟨_, rfl, made_nothing w⟩
theorem l1Copy_rep (a : Option Addr) (xs : List Int) (cap : Nat) (w : World) (h : SlRd intR w a xs) (hm : xs.length ≤ 1048576) :
    Calls Tryz.prog 95 #[sL a xs.length cap] w fun e w' => ∃ v, e = .returned v ∧ MadeR intsR w w' [v] xs := by
 cases a with
 | some ad => exact (l1Copy_any ad xs cap w (reads_of h) hm).mono fun e w' ⟨v, h1, h2⟩ => ⟨v, h1, madeR_ints h2 (in64_of h)⟩
 | none =>
  rcases h with rfl | ⟨b, d, c, f, _⟩
  ·exact l1Copy_nil cap w
  ·cases f
theorem entCopied_any (f0 f1 f3 f4 f5 f6 : Int) (f2 : Bool) (d : List Int) (a : Option Addr) (cap : Nat) (w : World) (j0 : In64 f0) (j1 : In64 f1) (j3 : In64 f3) (j4 : In64 f4) (j5 : In64 f5) (j6 : In64 f6) (h : SlRd intR w a d) (hm : d.length ≤ 1048576) :
    Calls Tryz.prog 112 #[.agg #[nI f0, nI f1, .bool f2, nI f3, nI f4, nI f5, nI f6, sL a d.length cap]] w fun e w' => ∃ r s, e = .returned (.agg #[nI f0, nI f1, .bool f2, nI f3, nI f4, nI f5, nI f6, sL r d.length s]) ∧ MadeR entR w w' [nI f0, nI f1, .bool f2, nI f3, nI f4, nI f5, nI f6, sL r d.length s] (f0, f1, f2, f3, f4, f5, f6, d) := by
 cases a with
 | some ad =>
  obtain ⟨I, L, C, D, E⟩ := info_parts Tryz.infoI;have U := below_step (box_below w (.cells #[nI f0, nI f1, .bool f2, nI f3, nI f4, nI f5, nI f6, sL (some ad) d.length cap] 48)) (box_below _ (.cells #[nI 0, nI 0, .bool false, nI 0, nI 0, nI 0, nI 0, sL none 0 0] 48));have l := heap_on (.cells #[nI 0, nI 0, .bool false, nI 0, nI 0, nI 0, nI 0, sL none 0 0] 48) (heap_at w (.cells #[nI f0, nI f1, .bool f2, nI f3, nI f4, nI f5, nI f6, sL (some ad) d.length cap] 48));have f := heap_at (w.alloc (.cells #[nI f0, nI f1, .bool f2, nI f3, nI f4, nI f5, nI f6, sL (some ad) d.length cap] 48)) (.cells #[nI 0, nI 0, .bool false, nI 0, nI 0, nI 0, nI 0, sL none 0 0] 48);rw [alloc_len] at f;have A : ((w.alloc (.cells #[nI f0, nI f1, .bool f2, nI f3, nI f4, nI f5, nI f6, sL (some ad) d.length cap] 48)).alloc (.cells #[nI 0, nI 0, .bool false, nI 0, nI 0, nI 0, nI 0, sL none 0 0] 48)).heap.size = w.heap.size + 1 + 1 := by simp
  have c : (((w.alloc (.cells #[nI f0, nI f1, .bool f2, nI f3, nI f4, nI f5, nI f6, sL (some ad) d.length cap] 48)).alloc (.cells #[nI 0, nI 0, .bool false, nI 0, nI 0, nI 0, nI 0, sL none 0 0] 48)).alloc (.cells #[] 2)).ownsRow ((w.alloc (.cells #[nI f0, nI f1, .bool f2, nI f3, nI f4, nI f5, nI f6, sL (some ad) d.length cap] 48)).alloc (.cells #[nI 0, nI 0, .bool false, nI 0, nI 0, nI 0, nI 0, sL none 0 0] 48)).heap.size 2 1 (.slice (some ⟨((w.alloc (.cells #[nI f0, nI f1, .bool f2, nI f3, nI f4, nI f5, nI f6, sL (some ad) d.length cap] 48)).alloc (.cells #[nI 0, nI 0, .bool false, nI 0, nI 0, nI 0, nI 0, sL none 0 0] 48)).heap.size, 0, none⟩) 0 0) 0 [] := World.ownsRow_lit _ #[] 0 (Nat.le_refl _) (Nat.zero_le _) rfl;rw [A] at c;have k : Hid (In64 f0 ∧ In64 f1 ∧ In64 f3 ∧ In64 f4 ∧ In64 f5 ∧ In64 f6) := ⟨j0, j1, j3, j4, j5, j6⟩;have T : Hid (Reads w (some ad) d ∧ ∀ x ∈ d, In64 x) := ⟨reads_of h, in64_of h⟩;have K : Hid _ := aI l f;clear j0 j1 j3 j4 j5 j6 l f h;go_enter Tryz.func112, Tryz.ntmps112;go_wp2_with (at_builtin; refine wpList_append_own _ rfl _ _ 28 rfl (w.heap.size + 1 + 1) 2 I (nI 0) 1 8 Tryz.underlying28 L C D E rfl (by decide) _ _ _ rfl c ad d.length cap (d.map (Value.int .i64)) rfl (by simp) ?c1 ?c2 ?c3 ?c4 ?c5 ?_)
  case c1 =>
   intro j u hj;obtain ⟨p, rfl⟩ := List.getElem?_eq_some_iff.1 hj;simp at p
   rcases T.out.1 with rfl | ⟨b, q, F, hc⟩
   ·simp at p
   simp only [Option.some.injEq] at F;subst F;have R := hc j p;have V := cell_kp3 w (.cells #[nI f0, nI f1, .bool f2, nI f3, nI f4, nI f5, nI f6, sL (some ⟨b, q, none⟩) d.length cap] 48) (.cells #[nI 0, nI 0, .bool false, nI 0, nI 0, nI 0, nI 0, sL none 0 0] 48) (.cells #[] 2) R;rw [show (⟨b, q, none⟩ : Addr).add j = ⟨b, q + j, none⟩ from by simp [Addr.add], V];simp [List.getD_eq_getElem?_getD, p]
  case c2 => intro u O; simp at O; obtain ⟨x, _, rfl⟩ := O; rfl
  case c3 => unfold maxLen; omega
  case c4 => omega
  case c5 => simp
  ·intro S H n m y;have Y : S ≠ sL none 0 0 := y;have i : H.ownsRow ((w.alloc (.cells #[nI f0, nI f1, .bool f2, nI f3, nI f4, nI f5, nI f6, sL (some ad) d.length cap] 48)).alloc (.cells #[nI 0, nI 0, .bool false, nI 0, nI 0, nI 0, nI 0, sL none 0 0] 48)).heap.size 2 1 S d.length (d.map (Value.int .i64)) := by rw [A]; simpa using n
   have z := madeR_ints (made_app (w := (w.alloc (.cells #[nI f0, nI f1, .bool f2, nI f3, nI f4, nI f5, nI f6, sL (some ad) d.length cap] 48)).alloc (.cells #[nI 0, nI 0, .bool false, nI 0, nI 0, nI 0, nI 0, sL none 0 0] 48)) i (by rw [A]; exact m) Y) T.out.2;obtain ⟨r, s, rfl⟩ := slown_val z.1;obtain ⟨l, f⟩ := K.out;have B1 := below_step U z.2;replace l := row_keep z.2 l;replace f := row_keep z.2 f;obtain ⟨y0, y1, y2, y3, y4, y5, y6, y7⟩ := cells_8 l;obtain ⟨u0, u1, u2, u3, u4, u5, u6, u7⟩ := froz_8 l;obtain ⟨z0, z1, z2, z3, z4, z5, z6, z7⟩ := cells_8 f;obtain ⟨R, V, g2, g3, g4, g5, g6, g7⟩ := froz_8 f;have J : Hid (intsR.own H (rng ((w.alloc (.cells #[nI f0, nI f1, .bool f2, nI f3, nI f4, nI f5, nI f6, sL (some ad) d.length cap] 48)).alloc (.cells #[nI 0, nI 0, .bool false, nI 0, nI 0, nI 0, nI 0, sL none 0 0] 48)).heap.size H.heap.size) [sL r d.length s] d) := z.1;have G : Hid _ := aI l f;clear n m y c i z l f K Y;go_wp2;obtain ⟨l, f⟩ := G.out;have Y1 := put_8 (y0 := nI f0) (y1 := nI f1) (y2 := .bool f2) (y3 := nI f3) (y4 := nI f4) (y5 := nI f5) (y6 := nI f6) (y7 := sL r d.length s) (heap_setC (g := w.heap.size) (o := 7) (v := sL r d.length s) f (by omega));obtain ⟨r0, r1, r2, r3, r4, Z, r6, r7⟩ := cells_8 Y1;refine bodyPost_ret (v := .agg #[nI f0, nI f1, .bool f2, nI f3, nI f4, nI f5, nI f6, sL r d.length s]) (by simp [results, Tryz.results112, go_sem, r0, r1, r2, r3, r4, Z, r6, r7]) rfl ⟨r, s, rfl, own_ent k.out.1 k.out.2.1 k.out.2.2.1 k.out.2.2.2.1 k.out.2.2.2.2.1 k.out.2.2.2.2.2 ?_, ?_⟩
   ·refine intsR.own_mono (own_setC (own_setC (own_setC (own_setC (own_setC (own_setC (own_setC (own_setC (own_setC (J.out) (fun h => by have := h.1; omega)) (fun h => by have := h.1; omega)) (fun h => by have := h.1; omega)) (fun h => by have := h.1; omega)) (fun h => by have := h.1; omega)) (fun h => by have := h.1; omega)) (fun h => by have := h.1; omega)) (fun h => by have := h.1; omega)) (fun h => by have := h.1; omega)) ?_;exact rng_sub (by omega) (by simp)
   ·exact below_setC (below_setC (below_setC (below_setC (below_setC (below_setC (below_setC (below_setC (below_setC (B1) (by omega)) (by omega)) (by omega)) (by omega)) (by omega)) (by omega)) (by omega)) (by omega)) (by omega)
 | none =>
  obtain rfl : d = [] := by
   rcases h with h | ⟨b, q, X, F, _⟩
   ·exact h
   ·cases F
  rw [show ([] : List Int).length = 0 from rfl];obtain ⟨I, L, C, D, E⟩ := info_parts Tryz.infoI;have U := below_step (box_below w (.cells #[nI f0, nI f1, .bool f2, nI f3, nI f4, nI f5, nI f6, sL none 0 cap] 48)) (box_below _ (.cells #[nI 0, nI 0, .bool false, nI 0, nI 0, nI 0, nI 0, sL none 0 0] 48));have l := heap_on (.cells #[nI 0, nI 0, .bool false, nI 0, nI 0, nI 0, nI 0, sL none 0 0] 48) (heap_at w (.cells #[nI f0, nI f1, .bool f2, nI f3, nI f4, nI f5, nI f6, sL none 0 cap] 48));have f := heap_at (w.alloc (.cells #[nI f0, nI f1, .bool f2, nI f3, nI f4, nI f5, nI f6, sL none 0 cap] 48)) (.cells #[nI 0, nI 0, .bool false, nI 0, nI 0, nI 0, nI 0, sL none 0 0] 48);rw [alloc_len] at f;have A : ((w.alloc (.cells #[nI f0, nI f1, .bool f2, nI f3, nI f4, nI f5, nI f6, sL none 0 cap] 48)).alloc (.cells #[nI 0, nI 0, .bool false, nI 0, nI 0, nI 0, nI 0, sL none 0 0] 48)).heap.size = w.heap.size + 1 + 1 := by simp
  have c : (((w.alloc (.cells #[nI f0, nI f1, .bool f2, nI f3, nI f4, nI f5, nI f6, sL none 0 cap] 48)).alloc (.cells #[nI 0, nI 0, .bool false, nI 0, nI 0, nI 0, nI 0, sL none 0 0] 48)).alloc (.cells #[] 2)).ownsRow ((w.alloc (.cells #[nI f0, nI f1, .bool f2, nI f3, nI f4, nI f5, nI f6, sL none 0 cap] 48)).alloc (.cells #[nI 0, nI 0, .bool false, nI 0, nI 0, nI 0, nI 0, sL none 0 0] 48)).heap.size 2 1 (.slice (some ⟨((w.alloc (.cells #[nI f0, nI f1, .bool f2, nI f3, nI f4, nI f5, nI f6, sL none 0 cap] 48)).alloc (.cells #[nI 0, nI 0, .bool false, nI 0, nI 0, nI 0, nI 0, sL none 0 0] 48)).heap.size, 0, none⟩) 0 0) 0 [] := World.ownsRow_lit _ #[] 0 (Nat.le_refl _) (Nat.zero_le _) rfl;rw [A] at c;have k : Hid (In64 f0 ∧ In64 f1 ∧ In64 f3 ∧ In64 f4 ∧ In64 f5 ∧ In64 f6) := ⟨j0, j1, j3, j4, j5, j6⟩;have M := made_nothing ((w.alloc (.cells #[nI f0, nI f1, .bool f2, nI f3, nI f4, nI f5, nI f6, sL none 0 cap] 48)).alloc (.cells #[nI 0, nI 0, .bool false, nI 0, nI 0, nI 0, nI 0, sL none 0 0] 48));rw [A] at M;have HM : Hid _ := M;have K : Hid _ := aI l f;clear j0 j1 j3 j4 j5 j6 M l f;go_enter Tryz.func112, Tryz.ntmps112;go_wp2_with (at_builtin; refine wpList_append_zero rfl _ _ 28 rfl (w.heap.size + 1 + 1) 2 I 1 Tryz.underlying28 L cap _ _ _ rfl c rfl ?_)
  have N := made_nothing ((w.alloc (.cells #[nI f0, nI f1, .bool f2, nI f3, nI f4, nI f5, nI f6, sL (some ⟨w.heap.size + 1 + 1, 0, none⟩) 0 0] 48)).alloc (.cells #[nI f0, nI f1, .bool f2, nI f3, nI f4, nI f5, nI f6, sL (some ⟨w.heap.size + 1 + 1, 0, none⟩) 0 0] 48));have B : ((w.alloc (.cells #[nI f0, nI f1, .bool f2, nI f3, nI f4, nI f5, nI f6, sL (some ⟨w.heap.size + 1 + 1, 0, none⟩) 0 0] 48)).alloc (.cells #[nI f0, nI f1, .bool f2, nI f3, nI f4, nI f5, nI f6, sL (some ⟨w.heap.size + 1 + 1, 0, none⟩) 0 0] 48)).heap.size = w.heap.size + 1 + 1 := by simp
  rw [B] at N;refine bodyPost_ret (v := .agg #[nI f0, nI f1, .bool f2, nI f3, nI f4, nI f5, nI f6, sL (some ⟨w.heap.size + 1 + 1, 0, none⟩) 0 0]) (by simp [results, Tryz.results112, go_sem]) rfl ⟨_, _, rfl, own_ent k.out.1 k.out.2.1 k.out.2.2.1 k.out.2.2.2.1 k.out.2.2.2.2.1 k.out.2.2.2.2.2 (intsR.own_mono N.1 (rng_sub (by rw [B]; omega) (Nat.le_refl _))), below_step (below_step (box_below w _) (box_below _ _)) N.2⟩
def zeroE : EntryD := (0, 0, false, 0, 0, 0, 0, [])
def forD (u : EntryD) (c : Int) : EntryD := if entB u then (fgO u.1 c, fgS u.2.1 c, u.2.2.1, u.2.2.2.1, u.2.2.2.2.1, u.2.2.2.2.2.1, u.2.2.2.2.2.2.1, u.2.2.2.2.2.2.2) else zeroE
theorem who_bd {o s : Int} (h : whoB o s = true) : -1 ≤ o ∧ o ≤ 3 ∧ 0 ≤ s ∧ s ≤ 15 := by
 simp [whoB, betw] at h
 omega
theorem fgS_in : ∀ s : Fin 16, ∀ c : Fin 8, 0 ≤ fgS (s.val : Int) (c.val : Int) ∧ fgS (s.val : Int) (c.val : Int) ≤ s.val := by decide +kernel
theorem fgS_out {s c : Int} (h : itemB c = false) : fgS s c = s := by
 unfold fgS inB;rw [h];simp
theorem fgS_le {s c : Int} (h0 : 0 ≤ s) (h1 : s ≤ 15) : 0 ≤ fgS s c ∧ fgS s c ≤ s := by
 cases a : itemB c
 ·rw [fgS_out a]; omega
 ·obtain ⟨b, h3⟩ := itemB_bd a;have := fgS_in ⟨s.toNat, by omega⟩ ⟨c.toNat, by omega⟩;simpa [Int.toNat_of_nonneg h0, Int.toNat_of_nonneg b] using this
theorem fg_who {o s : Int} (c : Int) (h : whoB o s = true) : whoB (fgO o c) (fgS s c) = true := by
 have a := who_bd h;have hs := fgS_le (c := c) a.2.2.1 a.2.2.2;have d := who_alone h;have ho : fgO o c = -1 ∨ fgO o c = o := by unfold fgO; split <;> simp
 simp only [whoB, betw, Bool.and_eq_true, decide_eq_true_eq, Bool.not_eq_true', Bool.and_eq_false_iff, decide_eq_false_iff_not, Bool.not_eq_false'];by_cases b : 0 ≤ o
 ·have := d b;omega
 ·omega
theorem fg_small {o s : Int} (c : Int) (h : whoB o s = true) : In64 (fgO o c) ∧ In64 (fgS s c) := by
 have hb := who_bd (fg_who c h);exact ⟨⟨by omega, by omega⟩, ⟨by omega, by omega⟩⟩
theorem fgS_without : ∀ s : Fin 16, ∀ c : Fin 4, withoutI (s.val : Int) (c.val : Int) = fgS (s.val : Int) (c.val : Int) := by decide +kernel
theorem fg_in {o s c : Int} (h : whoB o s = true) (hc : betw c 0 3 = true) : (fgO o c = if o = c then -1 else o) ∧ withoutI s c = fgS s c := by
 have b := who_bd h;simp [betw] at hc
 constructor
 ·unfold fgO ownB;by_cases e : o = c
  ·rw [if_pos e, if_pos (by simp [betw, e]; omega)]
  ·rw [if_neg e, if_neg (by simp; intro _ a; exact e a.symm)]
 ·have := fgS_without ⟨s.toNat, by omega⟩ ⟨c.toNat, by omega⟩;simpa [Int.toNat_of_nonneg b.2.2.1, Int.toNat_of_nonneg hc.1] using this
theorem own_zero (w : World) (S : Foot) : intsR.own w S [sL none 0 0] [] := ⟨_, [], fun _ => False, rfl, World.ownsRow_nil _ _ _ _, fun g hg => by simp [Value.ownBlock] at hg, fun _ h => h.elim, rfl⟩
theorem ret_ent {w w4 : World} {S : Foot} {g : Nat} {f0 f1 f3 f4 f5 f6 : Int} {f2 : Bool} {v : Value} {d : List Int} (i0 : In64 f0) (i1 : In64 f1) (i3 : In64 f3) (i4 : In64 f4) (i5 : In64 f5) (i6 : In64 f6) (N : intsR.own w4 S [v] d) (a1 : ∀ k, S k → w.heap.size ≤ k ∧ k < w4.heap.size ∧ k ≠ g) (hg : w.heap.size ≤ g) (B : Bl w w4) :
    MadeR entR w ((((((((w4.setCell ⟨g, 0, none⟩ (nI f0)).setCell ⟨g, 1, none⟩ (nI f1)).setCell ⟨g, 2, none⟩ (.bool f2)).setCell ⟨g, 3, none⟩ (nI f3)).setCell ⟨g, 4, none⟩ (nI f4)).setCell ⟨g, 5, none⟩ (nI f5)).setCell ⟨g, 6, none⟩ (nI f6)).setCell ⟨g, 7, none⟩ v) [nI f0, nI f1, .bool f2, nI f3, nI f4, nI f5, nI f6, v] (f0, f1, f2, f3, f4, f5, f6, d) :=
 ⟨own_ent i0 i1 i3 i4 i5 i6 (intsR.own_mono (own_setC (own_setC (own_setC (own_setC (own_setC (own_setC (own_setC (own_setC (N) (fun h => (a1 _ h).2.2 rfl)) (fun h => (a1 _ h).2.2 rfl)) (fun h => (a1 _ h).2.2 rfl)) (fun h => (a1 _ h).2.2 rfl)) (fun h => (a1 _ h).2.2 rfl)) (fun h => (a1 _ h).2.2 rfl)) (fun h => (a1 _ h).2.2 rfl)) (fun h => (a1 _ h).2.2 rfl)) (fun k hk => ⟨(a1 k hk).1, by have := (a1 k hk).2.1; simp; omega⟩)), below_setC (below_setC (below_setC (below_setC (below_setC (below_setC (below_setC (below_setC (B) hg) hg) hg) hg) hg) hg) hg) hg⟩
theorem i64_0 : In64 0 := by constructor <;> decide
theorem made_zero {w w4 : World} {g : Nat} (hg : w.heap.size ≤ g) (B : Bl w w4) :
    MadeR entR w ((((((((w4.setCell ⟨g, 0, none⟩ (nI 0)).setCell ⟨g, 1, none⟩ (nI 0)).setCell ⟨g, 2, none⟩ (.bool false)).setCell ⟨g, 3, none⟩ (nI 0)).setCell ⟨g, 4, none⟩ (nI 0)).setCell ⟨g, 5, none⟩ (nI 0)).setCell ⟨g, 6, none⟩ (nI 0)).setCell ⟨g, 7, none⟩ (sL none 0 0)) [nI 0, nI 0, .bool false, nI 0, nI 0, nI 0, nI 0, sL none 0 0] zeroE :=
 ret_ent (S := fun _ => False) i64_0 i64_0 i64_0 i64_0 i64_0 i64_0 (own_zero _ _) (fun _ h => h.elim) hg B
theorem heldAs_any (o s k f l m o2 s2 : Int) (b : Bool) (a : Option Addr) (n cap : Nat) (w : World) :
    Calls Tryz.prog 168 #[.agg #[nI o, nI s, .bool b, nI k, nI f, nI l, nI m, sL a n cap], .agg #[nI s2, nI o2]] w fun e w' => e = .returned (.agg #[nI o2, nI s2, .bool b, nI k, nI f, nI l, nI m, sL a n cap]) ∧ Bl w w' := by
 have c : Hid (∀ x y z, Bl w (((w.alloc x).alloc y).alloc z)) := fun x y z => below_step (below_step (box_below w x) (box_below _ y)) (box_below _ z);go_enter Tryz.func168, Tryz.ntmps168;go_wp2;go_region
 all_goals
  go_wp2;refine bodyPost_ret (v := .agg #[nI o2, nI s2, .bool b, nI k, nI f, nI l, nI m, sL a n cap]) (by simp [results, Tryz.results168, go_sem]) rfl ⟨rfl, ?_⟩;exact (c.out _ _ _).drew
end Go.Proofs.YtmaopldahnejdaaGreatDoor
