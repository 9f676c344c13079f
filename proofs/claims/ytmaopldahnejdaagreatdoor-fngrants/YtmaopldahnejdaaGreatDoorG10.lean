import Derived.Test.YtmaopldahnejdaaGreatDoorG00Box
import Derived.Test.YtmaopldahnejdaaGreatDoorG08
import Derived.Test.YtmaopldahnejdaaGreatDoorG09
import Derived.Deep.RegionHeld3
namespace Go.Proofs.YtmaopldahnejdaaGreatDoor
set_option maxHeartbeats 4000000
open Go.ChangeShapes Go.WideShapes Go.ChangeAt Go.RowKit
set_option linter.unusedVariables false
theorem zCh (o s k f l m : Int) (b : Bool) (d : List Int) (a : Option Addr) (cap : Nat) (w : World) (hw : zAI o s = true) :
    Calls Tryz.prog 41 #[.agg #[nI o, nI s, .bool b, nI k, nI f, nI l, nI m, sL a d.length cap]] w fun e w' => ∃ v, e = .returned v ∧ zCH w w' v (hoI o s) := by
 have X := zAw w (.cells #[nI o, nI s, .bool b, nI k, nI f, nI l, nI m, sL a d.length cap] 48);have B := zAg w (.cells #[nI o, nI s, .bool b, nI k, nI f, nI l, nI m, sL a d.length cap] 48);by_cases D : 0 ≤ o
 ·have S := zGa hw D;subst S;have A : Hid (hoI o 0 = [o]) := if_pos D;go_enter Tryz.func41, Tryz.ntmps41;go_wp2_with fail
  generalize w.alloc (.cells #[nI o, nI 0, .bool b, nI k, nI f, nI l, nI m, sL a d.length cap] 48) = W0 at X B ⊢;refine (zCw _ _).mono ?_;rintro e p ⟨g, c, rfl, z, y, n, i⟩;rw [zLe] at n ⊢;replace X := zAb i X;replace B := zAa B i;obtain ⟨U, J, F, N, L, E, I, H⟩ := zAk X;obtain ⟨g', c', K, _, _, C, r⟩ := zDs n (by simp);simp only [Value.slice.injEq, Option.some.injEq, Addr.mk.injEq, and_true, true_and] at K;obtain ⟨rfl, rfl⟩ := K;have T : Hid (Calls Tryz.prog 83 #[sL (some ⟨g, 0, none⟩) ([] : List Int).length c, nI o] p fun e w' => ∃ v, e = .returned v ∧ zCH p w' v [o]) := (zIg g 0 [] c o p (fun j hj => by simp at hj) (by simp) (by simp) r).mono fun e w' h => by
   rcases h with ⟨_, _, q⟩ | h
   ·cases q
   ·exact h
  clear z y n i C r X J F N L E I H;go_wp2_with (go_at_call 83; refine T.out.mono ?_; rintro e O ⟨v, rfl, G⟩; have R : Hid (zCH w O v (hoI o 0)) := (A.out ▸ zBn B G); clear G)
  go_ret
  exact ⟨_, rfl, R.out⟩
 ·have A : Hid (hoI o s = zD9 s 8) := if_neg D;go_enter Tryz.func41, Tryz.ntmps41;go_wp2_with fail
  generalize w.alloc (.cells #[nI o, nI s, .bool b, nI k, nI f, nI l, nI m, sL a d.length cap] 48) = W0 at X B ⊢;refine (zCw _ _).mono ?_;rintro e p ⟨g, c, rfl, z, y, n, i⟩;have M : Hid (zCH w p (sL (some ⟨g, 0, none⟩) (zD9 s 8).length c) (hoI o s)) := by
   unfold Hid;rw [A.out];exact zBn B ⟨g, c, rfl, z, y, n, i⟩
  replace X := zAb i X;obtain ⟨U, J, F, N, L, E, I, H⟩ := zAk X;clear z y n i X B;go_wp2;go_ret
  exact ⟨_, rfl, M.out⟩
theorem zIQ {s c : Int} (h : inB s c = true) : 0 ≤ c ∧ c ≤ 7 := by
 unfold inB at h;simp only [Bool.and_eq_true] at h;first | exact zDP h.1.2 | exact zDP h.2.1
theorem zCx (o s k f l m : Int) (b : Bool) (v : Value) (w : World) :
    Calls Tryz.prog 105 #[.agg #[nI o, nI s, .bool b, nI k, nI f, nI l, nI m, v]] w fun e w' => e = .returned (.agg #[nI s, nI o]) ∧ Bl w w' := by
 have a : Hid (∀ x y, Bl w ((w.alloc x).alloc y)) := fun x y => zAa (zAg w x) (zAg _ y);go_enter Tryz.func105, Tryz.ntmps105;go_wp2;refine bodyPost_ret (v := .agg #[nI s, nI o]) (by simp [results, Tryz.results105, go_sem]) rfl ⟨rfl, a.out _ _⟩
theorem zDt {w : World} {g : Nat} {cs : Array Value} {t : TypeId} (h : w.heap[g]? = some (.cells cs t (0, 0))) : w.frozen? ⟨g, 0, none⟩ = false ∧ w.frozen? ⟨g, 1, none⟩ = false :=
 ⟨frozen_of_row w g 0 _ t h, frozen_of_row w g 1 _ t h⟩
theorem zJA {w : World} {g : Nat} {x0 y0 x1 y1 : Value} {t : TypeId} (h : w.heap[g]? = some (.cells #[x0, x1] t (0, 0))) :
    ((w.setCell ⟨g, 0, none⟩ y0).setCell ⟨g, 1, none⟩ y1).heap[g]? = some (.cells #[y0, y1] t (0, 0)) := by
 have a : (w.setCell ⟨g, 0, none⟩ y0).heap[g]? = some (.cells #[y0, x1] t (0, 0)) := heap_setCell_same _ g 0 _ t y0 h;exact heap_setCell_same _ g 1 _ t y1 a
theorem zEu (o s c : Int) (w : World) :
    Calls Tryz.prog 160 #[.agg #[nI s, nI o], nI c] w fun e f => e = .returned (.agg #[nI (fgS s c), nI (fgO o c)]) ∧ Bl w f := by
 have X := zAW (.cells #[nI 0, nI 0] 125) (zAw w (.cells #[nI s, nI o] 125));have Y := zAw (w.alloc (.cells #[nI s, nI o] 125)) (.cells #[nI 0, nI 0] 125);have B := zAa (zAg w (.cells #[nI s, nI o] 125)) (zAg _ (.cells #[nI 0, nI 0] 125));rw [zAu] at Y;have d : Hid (∀ W, Calls Tryz.prog 134 #[.agg #[nI s, nI o], nI c] W fun e f => e = .returned (.bool (zEt o c)) ∧ Bl W f) := fun W => zEQ o s c W;cases n : zEt o c
 ·rw [n] at d;cases b : inB s c
  ·skip
   have j : Hid (fgS s c = s) := by unfold Hid fgS; rw [b]; rfl
   have l : Hid (fgO o c = o) := by unfold Hid fgO; rw [n]; rfl
   rw [l.out, j.out];go_enter Tryz.func160, Tryz.ntmps160;go_wp2_with fail
   generalize (w.alloc (.cells #[nI s, nI o] 125)).alloc (.cells #[nI 0, nI 0] 125) = W0 at X Y B ⊢;refine (d.out _).mono ?_;rintro e r ⟨rfl, a⟩;replace X := zAb a X;replace Y := zAb a Y;replace B := zAa B a;obtain ⟨D, z⟩ := zAC X;obtain ⟨C, q⟩ := zDt X;obtain ⟨y0, y1⟩ := zAC Y;obtain ⟨y, A⟩ := zDt Y;have i : Hid _ := aI X Y;clear X Y a d;go_wp2_with ((go_at_call 135; refine (zFi _ _ _).mono ?_; rintro e f ⟨rfl, rfl⟩; rw [b]))
   obtain ⟨X, Y⟩ := i.out;obtain ⟨m, k⟩ := zAC (zJA (y0 := nI s) (y1 := nI o) Y);refine bodyPost_ret (v := .agg #[nI s, nI o]) (by simp [results, Tryz.results160, go_sem, m, k]) rfl ⟨rfl, (zAh (zAh B (by omega)) (by omega))⟩
  ·have p : 0 ≤ c ∧ c ≤ 7 := zIQ b;have j : Hid (fgS s c = zCZ s c) := by unfold Hid fgS; rw [b]; rfl
   have l : Hid (fgO o c = o) := by unfold Hid fgO; rw [n]; rfl
   rw [l.out, j.out];go_enter Tryz.func160, Tryz.ntmps160;go_wp2_with fail
   generalize (w.alloc (.cells #[nI s, nI o] 125)).alloc (.cells #[nI 0, nI 0] 125) = W0 at X Y B ⊢;refine (d.out _).mono ?_;rintro e r ⟨rfl, a⟩;replace X := zAb a X;replace Y := zAb a Y;replace B := zAa B a;obtain ⟨D, z⟩ := zAC X;obtain ⟨C, q⟩ := zDt X;obtain ⟨y0, y1⟩ := zAC Y;obtain ⟨y, A⟩ := zDt Y;have i : Hid _ := aI X Y;clear X Y a d;go_wp2_with (first | (go_at_call 135; refine (zFi _ _ _).mono ?_; rintro e f ⟨rfl, rfl⟩; rw [b]) | (go_at_call 174; refine (zGQ _ _ _ p.1 p.2).mono ?_; rintro e f ⟨rfl, rfl⟩))
   obtain ⟨X, Y⟩ := i.out;obtain ⟨m, k⟩ := zAC (zJA (y0 := nI (zCZ s c)) (y1 := nI o) (zAl (g := w.heap.size) (o := 0) (v := nI (zCZ s c)) Y (by omega)));refine bodyPost_ret (v := .agg #[nI (zCZ s c), nI o]) (by simp [results, Tryz.results160, go_sem, m, k]) rfl ⟨rfl, (zAh (zAh (zAh B (by omega)) (by omega)) (by omega))⟩
 ·rw [n] at d;cases b : inB s c
  ·skip
   have j : Hid (fgS s c = s) := by unfold Hid fgS; rw [b]; rfl
   have l : Hid (fgO o c = -1) := by unfold Hid fgO; rw [n]; rfl
   rw [l.out, j.out];go_enter Tryz.func160, Tryz.ntmps160;go_wp2_with fail
   generalize (w.alloc (.cells #[nI s, nI o] 125)).alloc (.cells #[nI 0, nI 0] 125) = W0 at X Y B ⊢;refine (d.out _).mono ?_;rintro e r ⟨rfl, a⟩;replace X := zAb a X;replace Y := zAb a Y;replace B := zAa B a;obtain ⟨D, z⟩ := zAC X;obtain ⟨C, q⟩ := zDt X;obtain ⟨y0, y1⟩ := zAC Y;obtain ⟨y, A⟩ := zDt Y;have i : Hid _ := aI X Y;clear X Y a d;go_wp2_with ((go_at_call 135; refine (zFi _ _ _).mono ?_; rintro e f ⟨rfl, rfl⟩; rw [b]))
   obtain ⟨X, Y⟩ := i.out;obtain ⟨m, k⟩ := zAC (zJA (y0 := nI s) (y1 := nI (-1)) (zAl (g := w.heap.size) (o := 1) (v := nI (-1)) Y (by omega)));refine bodyPost_ret (v := .agg #[nI s, nI (-1)]) (by simp [results, Tryz.results160, go_sem, m, k]) rfl ⟨rfl, (zAh (zAh (zAh B (by omega)) (by omega)) (by omega))⟩
  ·have p : 0 ≤ c ∧ c ≤ 7 := zIQ b;have j : Hid (fgS s c = zCZ s c) := by unfold Hid fgS; rw [b]; rfl
   have l : Hid (fgO o c = -1) := by unfold Hid fgO; rw [n]; rfl
   rw [l.out, j.out];go_enter Tryz.func160, Tryz.ntmps160;go_wp2_with fail
   generalize (w.alloc (.cells #[nI s, nI o] 125)).alloc (.cells #[nI 0, nI 0] 125) = W0 at X Y B ⊢;refine (d.out _).mono ?_;rintro e r ⟨rfl, a⟩;replace X := zAb a X;replace Y := zAb a Y;replace B := zAa B a;obtain ⟨D, z⟩ := zAC X;obtain ⟨C, q⟩ := zDt X;obtain ⟨y0, y1⟩ := zAC Y;obtain ⟨y, A⟩ := zDt Y;have i : Hid _ := aI X Y;clear X Y a d;go_wp2_with (first | (go_at_call 135; refine (zFi _ _ _).mono ?_; rintro e f ⟨rfl, rfl⟩; rw [b]) | (go_at_call 174; refine (zGQ _ _ _ p.1 p.2).mono ?_; rintro e f ⟨rfl, rfl⟩))
   obtain ⟨X, Y⟩ := i.out;obtain ⟨m, k⟩ := zAC (zJA (y0 := nI (zCZ s c)) (y1 := nI (-1)) (zAl (g := w.heap.size) (o := 0) (v := nI (zCZ s c)) (zAl (g := w.heap.size) (o := 1) (v := nI (-1)) Y (by omega)) (by omega)));refine bodyPost_ret (v := .agg #[nI (zCZ s c), nI (-1)]) (by simp [results, Tryz.results160, go_sem, m, k]) rfl ⟨rfl, (zAh (zAh (zAh (zAh B (by omega)) (by omega)) (by omega)) (by omega))⟩
theorem zGd {P : Program} {w : World} (base : Nat) (t ty e : TypeId) (i : TypeInfo) (size : Nat) (ht : P.underlying t = some (.slice e)) (hi : P.info? e = some i) (c : Nat)
    (v : Value) (n : Nat) (xs : List Value) (hown : w.ownsRow base e size v n xs) : (Builtin.append_ #[t, t] ty #[v, sL none 0 c]).run P w = .ok v w := by
 rcases hown.2 with ⟨rfl, rfl⟩ | ⟨g, b, d, rfl, _, _, a, _⟩
 ·simp [Builtin.append_, run_underlying ht, sizeOf, typeInfo, hi, Builtin.lenOf, Builtin.firstCells]
 ·simp [Builtin.append_, run_underlying ht, sizeOf, typeInfo, hi, Builtin.lenOf, Builtin.firstCells, a, storeCells]
theorem zD2 {P : Program} {w : World} {ops : Array Oper} {rest : List Oper} {o : Oper} {a : Act} {Q : Exit → Act → World → Prop} (hgd : o.guard = none) (s x : Operand) (t : TypeId)
    (ho : o.op = .call { callee := .builtin .append, args := #[s, x], argTypes := #[t, t] })
    (base : Nat) (e : TypeId) (i : TypeInfo) (size : Nat) (ht : P.underlying t = some (.slice e)) (hi : P.info? e = some i) (c : Nat)
    (v : Value) (n : Nat) (xs : List Value) (hs : a.eval s = v) (hown : w.ownsRow base e size v n xs) (hx : a.eval x = sL none 0 c)
    (h : wpList P ops Q rest (a.put o.dst v) w) : wpList P ops Q (o :: rest) a w := by
 refine wpList_plain hgd fun K hK => ?_;have b := zGd (P := P) (w := w) base t o.type e i size ht hi c v n xs hown;unfold Oper.wp;simp [execOp, ho, resolve, invoke, builtin, hs, hx, b, Result.andThen]
 exact hK _ _ h
theorem cell_kp3 (w : World) (o o' o'' : Obj) {b k : Nat} {u : Value} (h : w.cell? ⟨b, k, none⟩ = some u) : (((w.alloc o).alloc o').alloc o'').cell? ⟨b, k, none⟩ = some u := by
 have a := World.block_lt_of_cell? w _ h;simp only at a
 rw [World.cell?_alloc_past _ _ _ (by simp; omega), World.cell?_alloc_past _ _ _ (by simp; omega), World.cell?_alloc_past _ _ _ a, h]
theorem zEh (w : World) : zAD zAm w (w.alloc (.cells #[] 2)) [sL (some ⟨w.heap.size, 0, none⟩) 0 0] [] := by
 refine ⟨⟨_, [], fun _ => False, rfl, World.ownsRow_lit (base := 0) (e := 2) (size := 1) w #[] 0 (Nat.zero_le _) (Nat.zero_le _) rfl, fun g hg => ?_, fun _ h => h.elim, rfl⟩, zAg w _⟩;simp [Value.ownBlock] at hg
 subst hg;exact ⟨⟨Nat.le_refl _, by simp⟩, fun h => h⟩
theorem zKh (cap : Nat) (w : World) : Calls Tryz.prog 95 #[sL none 0 cap] w fun e w' => ∃ v, e = .returned v ∧ zAD zAm w w' [v] [] := by
 obtain ⟨d, c, b, f, g⟩ := info_parts Tryz.infoI;have a : (w.alloc (.cells #[] 2)).ownsRow w.heap.size 2 1 (sL (some ⟨w.heap.size, 0, none⟩) 0 0) 0 [] := World.ownsRow_lit _ #[] 0 (Nat.le_refl _) (Nat.zero_le _) rfl;go_enter Tryz.func95, Tryz.ntmps95;go_wp2_with (at_builtin; refine zD2 rfl _ _ 28 rfl w.heap.size 2 d 1 Tryz.underlying28 c cap _ _ _ rfl a rfl ?_)
 go_ret
 exact ⟨_, rfl, zEh w⟩
theorem zCB (a : Option Addr) (xs : List Int) (cap : Nat) (w : World) (h : zBv zBf w a xs) (hm : xs.length ≤ 1048576) :
    Calls Tryz.prog 95 #[sL a xs.length cap] w fun e w' => ∃ v, e = .returned v ∧ zAD zAm w w' [v] xs := by
 cases a with
 | some ad => exact (zFh ad xs cap w (zAM h) hm).mono fun e w' ⟨v, h1, h2⟩ => ⟨v, h1, zB8 h2 (zDn h)⟩
 | none =>
  rcases h with rfl | ⟨b, d, c, f, _⟩
  ·exact zKh cap w
  ·cases f
theorem zDR (f0 f1 f3 f4 f5 f6 : Int) (f2 : Bool) (d : List Int) (a : Option Addr) (cap : Nat) (w : World) (j0 : zA4 f0) (j1 : zA4 f1) (j3 : zA4 f3) (j4 : zA4 f4) (j5 : zA4 f5) (j6 : zA4 f6) (h : zBv zBf w a d) (hm : d.length ≤ 1048576) :
    Calls Tryz.prog 112 #[.agg #[nI f0, nI f1, .bool f2, nI f3, nI f4, nI f5, nI f6, sL a d.length cap]] w fun e w' => ∃ y r, e = .returned (.agg #[nI f0, nI f1, .bool f2, nI f3, nI f4, nI f5, nI f6, sL y d.length r]) ∧ zAD zB6 w w' [nI f0, nI f1, .bool f2, nI f3, nI f4, nI f5, nI f6, sL y d.length r] (f0, f1, f2, f3, f4, f5, f6, d) := by
 cases a with
 | some ad =>
  obtain ⟨K, H, D, B, C⟩ := info_parts Tryz.infoI;have O := zAa (zAg w (.cells #[nI f0, nI f1, .bool f2, nI f3, nI f4, nI f5, nI f6, sL (some ad) d.length cap] 48)) (zAg _ (.cells #[nI 0, nI 0, .bool false, nI 0, nI 0, nI 0, nI 0, sL none 0 0] 48));have k := zAW (.cells #[nI 0, nI 0, .bool false, nI 0, nI 0, nI 0, nI 0, sL none 0 0] 48) (zAw w (.cells #[nI f0, nI f1, .bool f2, nI f3, nI f4, nI f5, nI f6, sL (some ad) d.length cap] 48));have f := zAw (w.alloc (.cells #[nI f0, nI f1, .bool f2, nI f3, nI f4, nI f5, nI f6, sL (some ad) d.length cap] 48)) (.cells #[nI 0, nI 0, .bool false, nI 0, nI 0, nI 0, nI 0, sL none 0 0] 48);rw [zAu] at f;have A : ((w.alloc (.cells #[nI f0, nI f1, .bool f2, nI f3, nI f4, nI f5, nI f6, sL (some ad) d.length cap] 48)).alloc (.cells #[nI 0, nI 0, .bool false, nI 0, nI 0, nI 0, nI 0, sL none 0 0] 48)).heap.size = w.heap.size + 1 + 1 := by simp
  have c : (((w.alloc (.cells #[nI f0, nI f1, .bool f2, nI f3, nI f4, nI f5, nI f6, sL (some ad) d.length cap] 48)).alloc (.cells #[nI 0, nI 0, .bool false, nI 0, nI 0, nI 0, nI 0, sL none 0 0] 48)).alloc (.cells #[] 2)).ownsRow ((w.alloc (.cells #[nI f0, nI f1, .bool f2, nI f3, nI f4, nI f5, nI f6, sL (some ad) d.length cap] 48)).alloc (.cells #[nI 0, nI 0, .bool false, nI 0, nI 0, nI 0, nI 0, sL none 0 0] 48)).heap.size 2 1 (.slice (some ⟨((w.alloc (.cells #[nI f0, nI f1, .bool f2, nI f3, nI f4, nI f5, nI f6, sL (some ad) d.length cap] 48)).alloc (.cells #[nI 0, nI 0, .bool false, nI 0, nI 0, nI 0, nI 0, sL none 0 0] 48)).heap.size, 0, none⟩) 0 0) 0 [] := World.ownsRow_lit _ #[] 0 (Nat.le_refl _) (Nat.zero_le _) rfl;rw [A] at c;have l : Hid (zA4 f0 ∧ zA4 f1 ∧ zA4 f3 ∧ zA4 f4 ∧ zA4 f5 ∧ zA4 f6) := ⟨j0, j1, j3, j4, j5, j6⟩;have V : Hid (zBr w (some ad) d ∧ ∀ x ∈ d, zA4 x) := ⟨zAM h, zDn h⟩;have G : Hid _ := aI k f;clear j0 j1 j3 j4 j5 j6 k f h;go_enter Tryz.func112, Tryz.ntmps112;go_wp2_with (at_builtin; refine wpList_append_own _ rfl _ _ 28 rfl (w.heap.size + 1 + 1) 2 K (nI 0) 1 8 Tryz.underlying28 H D B C rfl (by decide) _ _ _ rfl c ad d.length cap (d.map (Value.int .i64)) rfl (by simp) ?c1 ?c2 ?c3 ?c4 ?c5 ?_)
  case c1 =>
   intro j u hj;obtain ⟨q, rfl⟩ := List.getElem?_eq_some_iff.1 hj;simp at q
   rcases V.out.1 with rfl | ⟨b, p, F, hc⟩
   ·simp at q
   simp only [Option.some.injEq] at F;subst F;have Y := hc j q;have S := cell_kp3 w (.cells #[nI f0, nI f1, .bool f2, nI f3, nI f4, nI f5, nI f6, sL (some ⟨b, p, none⟩) d.length cap] 48) (.cells #[nI 0, nI 0, .bool false, nI 0, nI 0, nI 0, nI 0, sL none 0 0] 48) (.cells #[] 2) Y;rw [show (⟨b, p, none⟩ : Addr).add j = ⟨b, p + j, none⟩ from by simp [Addr.add], S];simp [List.getD_eq_getElem?_getD, q]
  case c2 => intro u R; simp at R; obtain ⟨x, _, rfl⟩ := R; rfl
  case c3 => unfold maxLen; omega
  case c4 => omega
  case c5 => simp
  ·intro X J n m s;have U : X ≠ sL none 0 0 := s;have i : J.ownsRow ((w.alloc (.cells #[nI f0, nI f1, .bool f2, nI f3, nI f4, nI f5, nI f6, sL (some ad) d.length cap] 48)).alloc (.cells #[nI 0, nI 0, .bool false, nI 0, nI 0, nI 0, nI 0, sL none 0 0] 48)).heap.size 2 1 X d.length (d.map (Value.int .i64)) := by rw [A]; simpa using n
   have z := zB8 (zCq (w := (w.alloc (.cells #[nI f0, nI f1, .bool f2, nI f3, nI f4, nI f5, nI f6, sL (some ad) d.length cap] 48)).alloc (.cells #[nI 0, nI 0, .bool false, nI 0, nI 0, nI 0, nI 0, sL none 0 0] 48)) i (by rw [A]; exact m) U) V.out.2;obtain ⟨y, r, rfl⟩ := zAB z.1;obtain ⟨k, f⟩ := G.out;have Z := zAa O z.2;replace k := zAb z.2 k;replace f := zAb z.2 f;obtain ⟨y0, y1, y2, y3, y4, y5, y6, y7⟩ := zAk k;obtain ⟨u0, u1, u2, u3, u4, u5, u6, u7⟩ := zA3 k;obtain ⟨z0, z1, z2, z3, z4, z5, z6, z7⟩ := zAk f;obtain ⟨Y, S, g2, g3, g4, g5, g6, g7⟩ := zA3 f;have I : Hid (zAm.own J (rng ((w.alloc (.cells #[nI f0, nI f1, .bool f2, nI f3, nI f4, nI f5, nI f6, sL (some ad) d.length cap] 48)).alloc (.cells #[nI 0, nI 0, .bool false, nI 0, nI 0, nI 0, nI 0, sL none 0 0] 48)).heap.size J.heap.size) [sL y d.length r] d) := z.1;have L : Hid _ := aI k f;clear n m s c i z k f G U;go_wp2;obtain ⟨k, f⟩ := L.out;have Y1 := zKN (y0 := nI f0) (y1 := nI f1) (y2 := .bool f2) (y3 := nI f3) (y4 := nI f4) (y5 := nI f5) (y6 := nI f6) (y7 := sL y d.length r) (zAl (g := w.heap.size) (o := 7) (v := sL y d.length r) f (by omega));obtain ⟨r0, r1, r2, r3, r4, r5, r6, r7⟩ := zAk Y1;refine bodyPost_ret (v := .agg #[nI f0, nI f1, .bool f2, nI f3, nI f4, nI f5, nI f6, sL y d.length r]) (by simp [results, Tryz.results112, go_sem, r0, r1, r2, r3, r4, r5, r6, r7]) rfl ⟨y, r, rfl, zB3 l.out.1 l.out.2.1 l.out.2.2.1 l.out.2.2.2.1 l.out.2.2.2.2.1 l.out.2.2.2.2.2 ?_, ?_⟩
   ·refine zAm.own_mono (zAn (zAn (zAn (zAn (zAn (zAn (zAn (zAn (zAn (I.out) (fun h => by have := h.1; omega)) (fun h => by have := h.1; omega)) (fun h => by have := h.1; omega)) (fun h => by have := h.1; omega)) (fun h => by have := h.1; omega)) (fun h => by have := h.1; omega)) (fun h => by have := h.1; omega)) (fun h => by have := h.1; omega)) (fun h => by have := h.1; omega)) ?_;exact zAL (by omega) (by simp)
   ·exact zAh (zAh (zAh (zAh (zAh (zAh (zAh (zAh (zAh (Z) (by omega)) (by omega)) (by omega)) (by omega)) (by omega)) (by omega)) (by omega)) (by omega)) (by omega)
 | none =>
  obtain rfl : d = [] := by
   rcases h with h | ⟨b, p, T, F, _⟩
   ·exact h
   ·cases F
  rw [show ([] : List Int).length = 0 from rfl];obtain ⟨K, H, D, B, C⟩ := info_parts Tryz.infoI;have O := zAa (zAg w (.cells #[nI f0, nI f1, .bool f2, nI f3, nI f4, nI f5, nI f6, sL none 0 cap] 48)) (zAg _ (.cells #[nI 0, nI 0, .bool false, nI 0, nI 0, nI 0, nI 0, sL none 0 0] 48));have k := zAW (.cells #[nI 0, nI 0, .bool false, nI 0, nI 0, nI 0, nI 0, sL none 0 0] 48) (zAw w (.cells #[nI f0, nI f1, .bool f2, nI f3, nI f4, nI f5, nI f6, sL none 0 cap] 48));have f := zAw (w.alloc (.cells #[nI f0, nI f1, .bool f2, nI f3, nI f4, nI f5, nI f6, sL none 0 cap] 48)) (.cells #[nI 0, nI 0, .bool false, nI 0, nI 0, nI 0, nI 0, sL none 0 0] 48);rw [zAu] at f;have A : ((w.alloc (.cells #[nI f0, nI f1, .bool f2, nI f3, nI f4, nI f5, nI f6, sL none 0 cap] 48)).alloc (.cells #[nI 0, nI 0, .bool false, nI 0, nI 0, nI 0, nI 0, sL none 0 0] 48)).heap.size = w.heap.size + 1 + 1 := by simp
  have c : (((w.alloc (.cells #[nI f0, nI f1, .bool f2, nI f3, nI f4, nI f5, nI f6, sL none 0 cap] 48)).alloc (.cells #[nI 0, nI 0, .bool false, nI 0, nI 0, nI 0, nI 0, sL none 0 0] 48)).alloc (.cells #[] 2)).ownsRow ((w.alloc (.cells #[nI f0, nI f1, .bool f2, nI f3, nI f4, nI f5, nI f6, sL none 0 cap] 48)).alloc (.cells #[nI 0, nI 0, .bool false, nI 0, nI 0, nI 0, nI 0, sL none 0 0] 48)).heap.size 2 1 (.slice (some ⟨((w.alloc (.cells #[nI f0, nI f1, .bool f2, nI f3, nI f4, nI f5, nI f6, sL none 0 cap] 48)).alloc (.cells #[nI 0, nI 0, .bool false, nI 0, nI 0, nI 0, nI 0, sL none 0 0] 48)).heap.size, 0, none⟩) 0 0) 0 [] := World.ownsRow_lit _ #[] 0 (Nat.le_refl _) (Nat.zero_le _) rfl;rw [A] at c;have l : Hid (zA4 f0 ∧ zA4 f1 ∧ zA4 f3 ∧ zA4 f4 ∧ zA4 f5 ∧ zA4 f6) := ⟨j0, j1, j3, j4, j5, j6⟩;have M := zEh ((w.alloc (.cells #[nI f0, nI f1, .bool f2, nI f3, nI f4, nI f5, nI f6, sL none 0 cap] 48)).alloc (.cells #[nI 0, nI 0, .bool false, nI 0, nI 0, nI 0, nI 0, sL none 0 0] 48));rw [A] at M;have HM : Hid _ := M;have G : Hid _ := aI k f;clear j0 j1 j3 j4 j5 j6 M k f;go_enter Tryz.func112, Tryz.ntmps112;go_wp2_with (at_builtin; refine zD2 rfl _ _ 28 rfl (w.heap.size + 1 + 1) 2 K 1 Tryz.underlying28 H cap _ _ _ rfl c rfl ?_)
  have N := zEh ((w.alloc (.cells #[nI f0, nI f1, .bool f2, nI f3, nI f4, nI f5, nI f6, sL (some ⟨w.heap.size + 1 + 1, 0, none⟩) 0 0] 48)).alloc (.cells #[nI f0, nI f1, .bool f2, nI f3, nI f4, nI f5, nI f6, sL (some ⟨w.heap.size + 1 + 1, 0, none⟩) 0 0] 48));have E : ((w.alloc (.cells #[nI f0, nI f1, .bool f2, nI f3, nI f4, nI f5, nI f6, sL (some ⟨w.heap.size + 1 + 1, 0, none⟩) 0 0] 48)).alloc (.cells #[nI f0, nI f1, .bool f2, nI f3, nI f4, nI f5, nI f6, sL (some ⟨w.heap.size + 1 + 1, 0, none⟩) 0 0] 48)).heap.size = w.heap.size + 1 + 1 := by simp
  rw [E] at N;refine bodyPost_ret (v := .agg #[nI f0, nI f1, .bool f2, nI f3, nI f4, nI f5, nI f6, sL (some ⟨w.heap.size + 1 + 1, 0, none⟩) 0 0]) (by simp [results, Tryz.results112, go_sem]) rfl ⟨_, _, rfl, zB3 l.out.1 l.out.2.1 l.out.2.2.1 l.out.2.2.2.1 l.out.2.2.2.2.1 l.out.2.2.2.2.2 (zAm.own_mono N.1 (zAL (by rw [E]; omega) (Nat.le_refl _))), zAa (zAa (zAg w _) (zAg _ _)) N.2⟩
def zIh : zA7 := (0, 0, false, 0, 0, 0, 0, [])
def newE : zA7 := (-1, 0, false, 0, 0, 0, 0, [])
def zER (u : zA7) (c : Int) : zA7 := if zBR u then (fgO u.1 c, fgS u.2.1 c, u.2.2.1, u.2.2.2.1, u.2.2.2.2.1, u.2.2.2.2.2.1, u.2.2.2.2.2.2.1, u.2.2.2.2.2.2.2) else zIh
theorem zCy {o s : Int} (h : zAI o s = true) : -1 ≤ o ∧ o ≤ 3 ∧ 0 ≤ s ∧ s ≤ 15 := by
 simp [zAI, zA6] at h
 omega
theorem fgS_in : ∀ s : Fin 16, ∀ c : Fin 8, 0 ≤ fgS (s.val : Int) (c.val : Int) ∧ fgS (s.val : Int) (c.val : Int) ≤ s.val := by decide +kernel
theorem fgS_out {s c : Int} (h : zE5 c = false) : fgS s c = s := by
 unfold fgS inB;rw [h];simp
theorem fgS_le {s c : Int} (h0 : 0 ≤ s) (h1 : s ≤ 15) : 0 ≤ fgS s c ∧ fgS s c ≤ s := by
 cases a : zE5 c
 ·rw [fgS_out a]; omega
 ·obtain ⟨b, h3⟩ := zDP a;have := fgS_in ⟨s.toNat, by omega⟩ ⟨c.toNat, by omega⟩;simpa [Int.toNat_of_nonneg h0, Int.toNat_of_nonneg b] using this
theorem zE1 {o s : Int} (c : Int) (h : zAI o s = true) : zAI (fgO o c) (fgS s c) = true := by
 have a := zCy h;have hs := fgS_le (c := c) a.2.2.1 a.2.2.2;have b := zGa h;have ho : fgO o c = -1 ∨ fgO o c = o := by unfold fgO; split <;> simp
 simp only [zAI, zA6, Bool.and_eq_true, decide_eq_true_eq, Bool.not_eq_true', Bool.and_eq_false_iff, decide_eq_false_iff_not, Bool.not_eq_false'];by_cases d : 0 ≤ o
 ·have := b d;omega
 ·omega
theorem zEv {o s : Int} (c : Int) (h : zAI o s = true) : zA4 (fgO o c) ∧ zA4 (fgS s c) := by
 have hb := zCy (zE1 c h);exact ⟨⟨by omega, by omega⟩, ⟨by omega, by omega⟩⟩
theorem zIR : ∀ s : Fin 16, ∀ c : Fin 4, zCj (s.val : Int) (c.val : Int) = fgS (s.val : Int) (c.val : Int) := by decide +kernel
theorem fg_in {o s c : Int} (h : zAI o s = true) (hc : zA6 c 0 3 = true) : (fgO o c = if o = c then -1 else o) ∧ zCj s c = fgS s c := by
 have b := zCy h;simp [zA6] at hc
 constructor
 ·unfold fgO zEt;by_cases e : o = c
  ·rw [if_pos e, if_pos (by simp [zA6, e]; omega)]
  ·rw [if_neg e, if_neg (by simp; intro _ a; exact e a.symm)]
 ·have := zIR ⟨s.toNat, by omega⟩ ⟨c.toNat, by omega⟩;simpa [Int.toNat_of_nonneg b.2.2.1, Int.toNat_of_nonneg hc.1] using this
theorem zD3 (w : World) (S : zAN) : zAm.own w S [sL none 0 0] [] := ⟨_, [], fun _ => False, rfl, World.ownsRow_nil _ _ _ _, fun g hg => by simp [Value.ownBlock] at hg, fun _ h => h.elim, rfl⟩
theorem zLg {w w4 : World} {S : zAN} {g : Nat} {f0 f1 f3 f4 f5 f6 : Int} {f2 : Bool} {v : Value} {d : List Int} (i0 : zA4 f0) (i1 : zA4 f1) (i3 : zA4 f3) (i4 : zA4 f4) (i5 : zA4 f5) (i6 : zA4 f6) (N : zAm.own w4 S [v] d) (a1 : ∀ k, S k → w.heap.size ≤ k ∧ k < w4.heap.size ∧ k ≠ g) (hg : w.heap.size ≤ g) (B : Bl w w4) :
    zAD zB6 w ((((((((w4.setCell ⟨g, 0, none⟩ (nI f0)).setCell ⟨g, 1, none⟩ (nI f1)).setCell ⟨g, 2, none⟩ (.bool f2)).setCell ⟨g, 3, none⟩ (nI f3)).setCell ⟨g, 4, none⟩ (nI f4)).setCell ⟨g, 5, none⟩ (nI f5)).setCell ⟨g, 6, none⟩ (nI f6)).setCell ⟨g, 7, none⟩ v) [nI f0, nI f1, .bool f2, nI f3, nI f4, nI f5, nI f6, v] (f0, f1, f2, f3, f4, f5, f6, d) :=
 ⟨zB3 i0 i1 i3 i4 i5 i6 (zAm.own_mono (zAn (zAn (zAn (zAn (zAn (zAn (zAn (zAn (N) (fun h => (a1 _ h).2.2 rfl)) (fun h => (a1 _ h).2.2 rfl)) (fun h => (a1 _ h).2.2 rfl)) (fun h => (a1 _ h).2.2 rfl)) (fun h => (a1 _ h).2.2 rfl)) (fun h => (a1 _ h).2.2 rfl)) (fun h => (a1 _ h).2.2 rfl)) (fun h => (a1 _ h).2.2 rfl)) (fun k hk => ⟨(a1 k hk).1, by have := (a1 k hk).2.1; simp; omega⟩)), zAh (zAh (zAh (zAh (zAh (zAh (zAh (zAh (B) hg) hg) hg) hg) hg) hg) hg) hg⟩
theorem zBN : zA4 0 := by constructor <;> decide
theorem i64_m : zA4 (-1) := by constructor <;> decide
theorem zLh {w w4 : World} {g : Nat} (hg : w.heap.size ≤ g) (B : Bl w w4) :
    zAD zB6 w ((((((((w4.setCell ⟨g, 0, none⟩ (nI 0)).setCell ⟨g, 1, none⟩ (nI 0)).setCell ⟨g, 2, none⟩ (.bool false)).setCell ⟨g, 3, none⟩ (nI 0)).setCell ⟨g, 4, none⟩ (nI 0)).setCell ⟨g, 5, none⟩ (nI 0)).setCell ⟨g, 6, none⟩ (nI 0)).setCell ⟨g, 7, none⟩ (sL none 0 0)) [nI 0, nI 0, .bool false, nI 0, nI 0, nI 0, nI 0, sL none 0 0] zIh :=
 zLg (S := fun _ => False) zBN zBN zBN zBN zBN zBN (zD3 _ _) (fun _ h => h.elim) hg B
theorem zEw (o s k f l m o2 s2 : Int) (b : Bool) (a : Option Addr) (n cap : Nat) (w : World) :
    Calls Tryz.prog 168 #[.agg #[nI o, nI s, .bool b, nI k, nI f, nI l, nI m, sL a n cap], .agg #[nI s2, nI o2]] w fun e w' => e = .returned (.agg #[nI o2, nI s2, .bool b, nI k, nI f, nI l, nI m, sL a n cap]) ∧ Bl w w' := by
 have c : Hid (∀ x y z, Bl w (((w.alloc x).alloc y).alloc z)) := fun x y z => zAa (zAa (zAg w x) (zAg _ y)) (zAg _ z);go_enter Tryz.func168, Tryz.ntmps168;go_wp2;go_region
 all_goals
  go_wp2;refine bodyPost_ret (v := .agg #[nI o2, nI s2, .bool b, nI k, nI f, nI l, nI m, sL a n cap]) (by simp [results, Tryz.results168, go_sem]) rfl ⟨rfl, ?_⟩;exact (c.out _ _ _).drew
theorem zFA (w : World) : Calls Tryz.prog 46 #[] w fun e w' => e = .returned (.agg #[nI (-1), nI 0, .bool false, nI 0, nI 0, nI 0, nI 0, sL none 0 0]) ∧ Bl w w' := by
 have a : Hid _ := zAg w;go_enter Tryz.func46, Tryz.ntmps46;go_wp2;refine bodyPost_ret (v := .agg #[nI (-1), nI 0, .bool false, nI 0, nI 0, nI 0, nI 0, sL none 0 0]) (by simp [results, Tryz.results46, go_sem]) rfl ⟨rfl, a.out _⟩
theorem zDV (w : World) : Calls Tryz.prog 60 #[] w fun e w' => e = .returned (.agg #[nI (-1), nI 0, .bool false, nI 0, nI 0, nI 0, nI 0, sL none 0 0]) ∧ Bl w w' := by
 have a : Hid _ := zAg w;go_enter Tryz.func60, Tryz.ntmps60;go_wp2;refine bodyPost_ret (v := .agg #[nI (-1), nI 0, .bool false, nI 0, nI 0, nI 0, nI 0, sL none 0 0]) (by simp [results, Tryz.results60, go_sem]) rfl ⟨rfl, a.out _⟩
end Go.Proofs.YtmaopldahnejdaaGreatDoor
