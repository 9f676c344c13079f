import Derived.Test.YtmdhblhdfcocjaaGreatDoorP00Box
import Derived.Test.YtmdhblhdfcocjaaGreatDoorP16
namespace Go.Proofs.YtmdhblhdfcocjaaGreatDoor
open Go.ChangeShapes Go.WideShapes Go.ChangeAt Go.RowKit Go.Shelf
set_option linter.unusedVariables false
attribute [local go_sem] Oper.semAt_some
section
variable {W0 wx : World} {b0 o0 o1 : Nat} {u v : Value}
theorem sc_alloc (hD : b0 < W0.heap.size) (h : wx.cell? ⟨b0, o0, none⟩ = some u ∧ wx.cell? ⟨b0, o1, none⟩ = some v ∧ Bl W0 wx) (o : Obj) : (wx.alloc o).cell? ⟨b0, o0, none⟩ = some u ∧ (wx.alloc o).cell? ⟨b0, o1, none⟩ = some v ∧ Bl W0 (wx.alloc o) :=
 ⟨zAd (zAf wx o) h.1 (zAi h.1), zAd (zAf wx o) h.2.1 (zAi h.2.1), zAb h.2.2 (zAf wx o)⟩
theorem sc_drew (h : wx.cell? ⟨b0, o0, none⟩ = some u ∧ wx.cell? ⟨b0, o1, none⟩ = some v ∧ Bl W0 wx) : wx.drew.cell? ⟨b0, o0, none⟩ = some u ∧ wx.drew.cell? ⟨b0, o1, none⟩ = some v ∧ Bl W0 wx.drew := ⟨h.1, h.2.1, h.2.2.drew⟩
theorem sc_set {g o : Nat} {z : Value} (hD : b0 < W0.heap.size) (hg : W0.heap.size ≤ g) (h : wx.cell? ⟨b0, o0, none⟩ = some u ∧ wx.cell? ⟨b0, o1, none⟩ = some v ∧ Bl W0 wx) : (wx.setCell ⟨g, o, none⟩ z).cell? ⟨b0, o0, none⟩ = some u ∧ (wx.setCell ⟨g, o, none⟩ z).cell? ⟨b0, o1, none⟩ = some v ∧ Bl W0 (wx.setCell ⟨g, o, none⟩ z) :=
 ⟨cs1 (by omega) h.1, cs1 (by omega) h.2.1, zAq h.2.2 hg⟩
theorem sc_made {w9 : World} (h : wx.cell? ⟨b0, o0, none⟩ = some u ∧ wx.cell? ⟨b0, o1, none⟩ = some v ∧ Bl W0 wx) (hb : Bl wx w9) : w9.cell? ⟨b0, o0, none⟩ = some u ∧ w9.cell? ⟨b0, o1, none⟩ = some v ∧ Bl W0 w9 := ⟨zAd hb h.1 (zAi h.1), zAd hb h.2.1 (zAi h.2.1), zAb h.2.2 hb⟩
end
theorem zIt {W w9 : World} {b o : Nat} {u : Value} (hb : Bl W w9) (h : W.cell? ⟨b, o, none⟩ = some u) (hf : W.frozen? ⟨b, o, none⟩ = false) : w9.cell? ⟨b, o, none⟩ = some u ∧ w9.frozen? ⟨b, o, none⟩ = false ∧ b < w9.heap.size :=
 ⟨zAd hb h (zAi h), (World.frozen?_of_block (w := W) (a := ⟨b, o, none⟩) (hb.block b (zAi h))).trans hf, Nat.lt_of_lt_of_le (zAi h) hb.size⟩
def zDC (k : Nat) (cs : List (List zAT)) : List (List zAT) := cs.mapIdx fun i row => if i < k then List.replicate row.length zGd else []
theorem madeAt_0 (cs : List (List zAT)) : zDC 0 cs = List.replicate cs.length [] := by
 apply List.ext_getElem?
 intro i;rw [zDC, List.getElem?_mapIdx, List.getElem?_replicate];by_cases h : i < cs.length
 ·simp [h]
 ·simp [h]
theorem zLQ {k : Nat} {cs : List (List zAT)} (h : k < cs.length) : (zDC k cs)[k]? = some [] := by
 rw [zDC, List.getElem?_mapIdx, List.getElem?_eq_getElem h];simp
theorem zLR {k : Nat} {cs : List (List zAT)} {row : List zAT} (h : cs[k]? = some row) : (zDC k cs).set k (List.replicate row.length zGd) = zDC (k + 1) cs := by
 have c := (List.getElem?_eq_some_iff.1 h).1;apply List.ext_getElem?
 intro i;by_cases a : k = i
 ·subst a;rw [List.getElem?_set_self (by simpa [zDC] using c), zDC, List.getElem?_mapIdx, h];simp
 ·rw [List.getElem?_set_ne a, zDC, zDC, List.getElem?_mapIdx, List.getElem?_mapIdx];cases cs[i]? with
  | none => rfl
  | some r =>
   simp only [Option.map_some, Option.some.injEq];by_cases b : i < k
   ·rw [if_pos b, if_pos (by omega)]
   ·rw [if_neg b, if_neg (by omega)]
theorem zLS (m : Nat) (cs : List (List zAT)) : zDC cs.length cs = zCI m 0 cs := by
 rw [zGH];apply List.ext_getElem?
 intro i;rw [zDC, List.getElem?_mapIdx, List.getElem?_map];cases h : cs[i]? with
 | none => rfl
 | some row => simp [(List.getElem?_eq_some_iff.1 h).1]
theorem zFr {W : World} {o : Obj} {k : Nat} (e : W.heap.size = k) : (W.alloc o).heap[k]? = some o := e ▸ zAx W o
theorem zDe {w W0 W' : World} {pa cb n : Nat} {Tf : zAW} {box : Obj} {v : Value} {ts : List Int} (hm : n ≤ maxLen) (hB : Bl w W0) (hX : W0.heap[w.heap.size]? = some box) (hY : W0.heap[w.heap.size + 1]? = some (.cells #[sL none 0 0, sL none 0 0] 37 (0, 0))) (B : Bl W0 W')
    (h1 : W'.heap[pa]? = some (.cells (madeCells #[sL none 0 0] n) 115 (0, 0))) (h2 : zA5.own W' Tf [v] ts) (h3 : W'.heap[cb]? = some (.cells #[sL (some ⟨pa, 0, none⟩) n n, v] 37 (0, 0))) : zEX w W'.heap.size pa cb n Tf box v ts (List.replicate n []) W' :=
 ⟨nils_at h1 ⟨.inl rfl, (ltH h1)⟩ hm, h3, zAa B hY, zAa B hX, h2, zAb hB B, Nat.le_refl _⟩
theorem zEA {α : Type} {R : Rep α} {X Y : World} {row : Option Nat} {S : zAW} {cs : List Value} {x : α} (h : R.own X S cs x) (hg : X.grownBy Y row) (hr : ∀ r, row = some r → ∃ o : Obj, X.heap[r]? = some o ∧ o.isCells = false) : R.own Y S cs x :=
 R.own_mono (R.own_keep (R.own_tight h) (fun k hk hl => hg.block k hl (fun e => by
  obtain ⟨_, b, t, _, d⟩ := hk;obtain ⟨o, a, c⟩ := hr k e.symm;rw [d] at a;cases a
  cases c))) (fun k hk => hk.1)
def zIu (w : World) (t pa cb n G : Nat) (Tf : zAW) (bc pc : Array Value) (v : Value) (ts : List Int) (xss : List (List zAT)) (W : World) : Prop :=
 zEX w t pa cb n Tf (.cells bc 37 (0, 0)) v ts xss W ∧ W.heap[pa]? = some (.cells pc 115 (0, 0)) ∧ W.heap[G]? = some (.cells bc 37 (0, 0))
theorem zJo {w : World} {t pa cb n G B : Nat} {Tf : zAW} {bc pc : Array Value} {v : Value} {ts : List Int} {f : Nat → List (List zAT)} (hB : w.heap.size ≤ B) : OwnFrom B (fun k W => zIu w t pa cb n G Tf bc pc v ts (f k) W) := by
 rintro k X Y a ⟨⟨l, q, g, i, s, j, h7⟩, p, m⟩ b c;have d : ∀ r, a = some r → ∃ o : Obj, X.heap[r]? = some o ∧ o.isCells = false := fun r e => (c r e).2;have hs := b.size;exact ⟨⟨zBu.own_mono (zEA l b d) (fun k hk => ⟨hk.1, by have := hk.2; omega⟩), zBo (β := Unit) _ _ _ _ () X Y a q b c, zBo (β := Unit) _ _ _ _ () X Y a g b c, zBo (β := Unit) _ _ _ _ () X Y a i b c, zEA s b d, ownFrom_below (β := Unit) (Nat.le_refl _) hB () X Y a j b c, by omega⟩, zBo (β := Unit) _ _ _ _ () X Y a p b c, zBo (β := Unit) _ _ _ _ () X Y a m b c⟩
theorem zGJ {w W W' : World} {t pa cb n G : Nat} {Tf : zAW} {bc pc : Array Value} {v : Value} {ts : List Int} {xss : List (List zAT)} (h : zIu w t pa cb n G Tf bc pc v ts xss W) (hb : Bl W W') : zIu w t pa cb n G Tf bc pc v ts xss W' :=
 ⟨zGI h.1 hb, zAa hb h.2.1, zAa hb h.2.2⟩
theorem zKt {w wr W0 : World} {t pa cb n : Nat} {Tf : zAW} {bc : Array Value} {v : Value} {ts : List Int} {xss : List (List zAT)} (h : zEX w t pa cb n Tf (.cells bc 37 (0, 0)) v ts xss wr) (hn : n = xss.length) (hne : ∀ row ∈ xss, row ≠ []) (h0 : 0 < n) (hb : Bl wr W0) (hG : W0.heap[wr.heap.size]? = some (.cells bc 37 (0, 0))) :
    ∃ pc, zIu w t pa cb n wr.heap.size Tf bc pc v ts xss W0 ∧ ∀ (s g2 k cp : Nat), s < n → pc[s]? = some (sL (some ⟨g2, 0, none⟩) k cp) → g2 < wr.heap.size := by
 obtain ⟨g, q, d, Sj, T, c', j, m, f, -⟩ := zBH h.1 (List.getElem?_eq_getElem (show 0 < xss.length by omega));simp only [Value.slice.injEq, Option.some.injEq, Addr.mk.injEq, and_true] at j;obtain ⟨rfl, -⟩ := j;refine ⟨d, ⟨zGI h hb, zAa hb f, hG⟩, fun s g2 k cp hs hc => ?_⟩;have b : s < xss.length := by omega
 have p : 0 < (xss[s]).length := List.length_pos_iff.2 (hne _ (List.getElem_mem b));obtain ⟨g', i, r, c, l, a, -, -, -, -, o, -⟩ := zCN h.1 (List.getElem?_eq_getElem b) (List.getElem?_eq_getElem p);simp only [Value.slice.injEq, Option.some.injEq, Addr.mk.injEq, and_true] at l;obtain ⟨rfl, -⟩ := l;rw [cell_of_row wr pa s _ _ (0, 0) f, hc] at a;simp only [Option.some.injEq, Value.slice.injEq, Addr.mk.injEq, and_true] at a;rw [a.1];exact o
theorem zLT {w W W' : World} {t pa cb n G s r : Nat} {Tf : zAW} {bc pc : Array Value} {v : Value} {ts : List Int} {xss yss : List (List zAT)} (L : Lies w.heap.size t pa cb Tf) (h : zIu w t pa cb n G Tf bc pc v ts xss W) (hrow : ∀ (s a k cp : Nat), s < n → pc[s]? = some (sL (some ⟨a, 0, none⟩) k cp) → a < G) (hs : s < n)
    (ho : zBu.own W' (fun k => Old W (zIr t pa W) k ∨ (W.heap.size ≤ k ∧ k < W'.heap.size)) [sL (some ⟨pa, 0, none⟩) n n] yss)
    (hx : ∃ g d a c, (sL (some ⟨pa, 0, none⟩) n n : Value) = sL (some ⟨g, 0, none⟩) xss.length d ∧ W.cell? ⟨g, s, none⟩ = some (sL (some ⟨a, 0, none⟩) r c) ∧ g ≠ a ∧ Old W (zIr t pa W) a ∧ Chg (fun k => k = a) W W') :
    zIu w t pa cb n G Tf bc pc v ts yss W' ∧ ∃ a, a < G ∧ Chg (fun k => k = a) W W' := by
 obtain ⟨q, i, m⟩ := h;obtain ⟨g, d, a, c, l, b, j, o, f⟩ := hx;simp only [Value.slice.injEq, Option.some.injEq, Addr.mk.injEq, and_true] at l;obtain ⟨rfl, -⟩ := l;rw [cell_of_row W pa s _ _ (0, 0) i] at b;have p := hrow s a r c hs b;exact ⟨⟨copy_put L q ho (f.mono fun k hk => by have e : k = a := hk; rw [e]; exact o), (f.block pa (ltH i) (fun e => j e)).trans i, (f.block G (ltH m) (fun e => by have e' : G = a := e; omega)).trans m⟩, a, p, f⟩
set_option maxRecDepth 8000 in
set_option maxHeartbeats 8000000 in
theorem zEN (a b : Option Addr) (c : zAu) (cap cp m : Nat) (w : World) (h1 : zBg zBl w a c.1) (h2 : zBg zBC w b c.2) (hp : c.1.length = 1 ∨ c.1.length = 2 ∨ c.1.length = 4) (hm : m = 1 ∨ m = 2 ∨ m = 4) (hrow : ∀ g ∈ c.1, g.length = m) (hl : c.2.length ≤ 1048576) (hd : ∀ g ∈ c.1, ∀ u ∈ g, u.2.2.length ≤ 1048576) :
    Calls Tryz.prog 69 #[.agg #[sL a c.1.length cap, sL b c.2.length cp]] w fun e w' => ∃ av cv y v, e = .returned (.agg #[sL av c.1.length cv, sL y c.2.length v]) ∧ zAX zAA w w' [sL av c.1.length cv, sL y c.2.length v] c := by
 have bA : 0 < m := by omega
 have DC : c.1.length ≤ 4 := by omega
 have H1 : Hid (∀ W, Bl w W → zBg zBl W a c.1) := fun W hb => zA7 h1 fun k d => hb.block k d;have H2 : Hid (∀ W, Bl w W → zBg zBC W b c.2) := fun W hb => zA7 h2 fun k d => hb.block k d;have J : Hid _ := aI hp (aI hm (aI hrow hd));clear h1 h2 hp hm hrow hd;refine (callsIn_wide (n := 0)).1 ?_;refine callsIn_of_wp_marks Tryz.func69 rfl trivial ?_ rfl;refine wpIn_wide.2 ?_;simp only [Tryz.ntmps69, List.size_toArray, List.length_cons, List.length_nil, Nat.reduceAdd, Nat.reduceSub, Array.replicate_succ, Array.replicate_zero, List.push_toArray, List.append_toArray, List.nil_append, List.cons_append];go_wp2_with fail
 have B0 := zAb (zAf w (.cells #[sL a c.1.length cap, sL b c.2.length cp] 37)) (zAf _ (.cells #[sL none 0 0, sL none 0 0] 37));have X0 := zAK (.cells #[sL none 0 0, sL none 0 0] 37) (zAx w (.cells #[sL a c.1.length cap, sL b c.2.length cp] 37));have Y0 := zAx (w.alloc (.cells #[sL a c.1.length cap, sL b c.2.length cp] 37)) (.cells #[sL none 0 0, sL none 0 0] 37);have D : ((w.alloc (.cells #[sL a c.1.length cap, sL b c.2.length cp] 37)).alloc (.cells #[sL none 0 0, sL none 0 0] 37)).heap.size = w.heap.size + 1 + 1 := by simp
 rw [zAp] at Y0;generalize (w.alloc (.cells #[sL a c.1.length cap, sL b c.2.length cp] 37)).alloc (.cells #[sL none 0 0, sL none 0 0] 37) = W0 at B0 X0 Y0 D ⊢;have eB := Go.run_make_row' (P := Tryz.prog) 35 115 (sL none 0 0) 24 Tryz.underlying35 Tryz.infoWayS rfl .i64 .i64 c.1.length (by omega) (by omega);obtain ⟨x0, x1⟩ := zAy X0;have x2 := (ltH X0);have A : Hid _ := aI B0 (aI X0 Y0);clear B0 X0 Y0;have q0 : W0.cell? ⟨w.heap.size, 0, none⟩ = some (sL a c.1.length cap) ∧ W0.cell? ⟨w.heap.size, 1, none⟩ = some (sL b c.2.length cp) ∧ Bl W0 W0 := ⟨x0, x1, Below.refl _ _⟩;have Q0 : Hid _ := q0;clear q0;go_cut [3] from 8 to 15 (fun p wx => ∃ t F T y v Tf, Lies w.heap.size t F T Tf ∧ p = .pointer (some ⟨T, 0, none⟩) ∧ zEX w t F T c.1.length Tf (.cells #[sL a c.1.length cap, sL b c.2.length cp] 37) (sL y c.2.length v) c.2 (List.replicate c.1.length []) wx)
 case first =>
  have O : c.1.length ≤ maxLen := by unfold maxLen; omega
  go_region_held3 (fun wx => wx.cell? ⟨w.heap.size, 0, none⟩ = some (sL a c.1.length cap) ∧ wx.cell? ⟨w.heap.size, 1, none⟩ = some (sL b c.2.length cp) ∧ Bl W0 wx) (repeat' first | exact Q0.out | exact Q9.out | assumption | refine sc_drew ?_ | refine sc_alloc x2 ?_ _ | refine sc_set x2 (by omega) ?_) (first | (go_at_call 72; refine (zJn b c.2 cp _ (H2.out _ (zAb A.out.1 (And.right (And.right (by assumption))))) hl).mono ?_; rintro e i ⟨y, v, rfl, mm⟩; have H : Hid _ := mm; have Q9 : Hid (i.cell? ⟨w.heap.size, 0, none⟩ = some (sL a c.1.length cap) ∧ i.cell? ⟨w.heap.size, 1, none⟩ = some (sL b c.2.length cp) ∧ Bl W0 i) := sc_made (by assumption) mm.2; (first | (have FC : i.cell? ⟨w.heap.size + 1 + 1, 0, none⟩ = some (sL none 0 0) ∧ i.frozen? ⟨w.heap.size + 1 + 1, 0, none⟩ = false ∧ w.heap.size + 1 + 1 < i.heap.size := ?hy; case hy => (refine zIt mm.2 ?_ ?_ <;> go_simp <;> done)) | skip); (first | (have qC : i.cell? ⟨w.heap.size + 1 + 1, 1, none⟩ = some (sL none 0 0) ∧ i.frozen? ⟨w.heap.size + 1 + 1, 1, none⟩ = false ∧ w.heap.size + 1 + 1 < i.heap.size := ?hy; case hy => (refine zIt mm.2 ?_ ?_ <;> go_simp <;> done)) | skip); (first | (have LC : i.cell? ⟨w.heap.size + 1 + 1 + 1, 0, none⟩ = some (sL none 0 0) ∧ i.frozen? ⟨w.heap.size + 1 + 1 + 1, 0, none⟩ = false ∧ w.heap.size + 1 + 1 + 1 < i.heap.size := ?hy; case hy => (refine zIt mm.2 ?_ ?_ <;> go_simp <;> done)) | skip); (first | (have EC : i.cell? ⟨w.heap.size + 1 + 1 + 1, 1, none⟩ = some (sL none 0 0) ∧ i.frozen? ⟨w.heap.size + 1 + 1 + 1, 1, none⟩ = false ∧ w.heap.size + 1 + 1 + 1 < i.heap.size := ?hy; case hy => (refine zIt mm.2 ?_ ?_ <;> go_simp <;> done)) | skip); clear mm))
  all_goals go_wp2_with fail
  all_goals go_meet
  all_goals have hS := And.right (And.right (by assumption : _ ∧ _ ∧ Bl W0 _))
  ·have P := zAa H.out.2 (zAx W0 (.cells (madeCells #[sL none 0 0] c.1.length) 115));have z := H.out.2.size;have U : W0.heap.size + 1 ≤ i.heap.size := by simpa using z
   rw [D] at P;exact ⟨_, w.heap.size + 1 + 1, i.heap.size, y, v, _, ⟨by omega, by simp <;> omega, by omega, by simp, by omega, fun k d => ⟨by have := d.1; simp at this; omega, by have := d.2; simp <;> omega⟩, fun d => by have := d.1; simp at this; omega, fun d => by have := d.2; omega⟩, rfl, zDe O A.out.1 A.out.2.1 A.out.2.2 hS (zAK _ P) (zBQ _ H.out.1) (zAx _ _)⟩
  ·have P := zAa H.out.2 (zAK (.cells #[sL none 0 0, sL none 0 0] 37) (zAx W0 (.cells (madeCells #[sL none 0 0] c.1.length) 115)));have C := zAa H.out.2 (zFr (W := W0.alloc (.cells (madeCells #[sL none 0 0] c.1.length) 115)) (o := (.cells #[sL none 0 0, sL none 0 0] 37)) (k := W0.heap.size + 1) (by simp));have z := H.out.2.size;have U : W0.heap.size + 1 + 1 ≤ i.heap.size := by simpa using z
   clear z;rw [D] at P C U;exact ⟨_, w.heap.size + 1 + 1, w.heap.size + 1 + 1 + 1, y, v, _, ⟨by omega, by simp <;> omega, by omega, by simp <;> omega, by omega, fun k d => ⟨by have := d.1; simp at this; omega, by have := d.2; simp <;> omega⟩, fun d => by have := d.1; have := d.2; simp at * <;> omega, fun d => by have := d.1; have := d.2; simp at * <;> omega⟩, rfl, zDe O A.out.1 A.out.2.1 A.out.2.2 hS (zAO (zAO P (by omega)) (by omega)) (zAl (zAl H.out.1 (fun d => by have := d.1; simp at this; omega)) (fun d => by have := d.1; simp at this; omega)) (put2 C)⟩
  ·have z := H.out.2.size;have U : W0.heap.size ≤ i.heap.size := by simpa using z
   clear z;rw [D] at U;exact ⟨_, i.heap.size, i.heap.size + 1, y, v, _, ⟨by omega, by simp <;> omega, by omega, by simp <;> omega, by omega, fun k d => ⟨by have := d.1; simp at this; omega, by have := d.2; simp <;> omega⟩, fun d => by have := d.1; have := d.2; simp at * <;> omega, fun d => by have := d.1; have := d.2; simp at * <;> omega⟩, rfl, zDe O A.out.1 A.out.2.1 A.out.2.2 hS (zAK _ (zAx _ _)) (zBQ _ (zBQ _ H.out.1)) (zFr (by simp))⟩
  ·have z := H.out.2.size;have U : W0.heap.size ≤ i.heap.size := by simpa using z
   clear z;rw [D] at U;exact ⟨_, i.heap.size + 1, i.heap.size, y, v, _, ⟨by omega, by simp <;> omega, by omega, by simp <;> omega, by omega, fun k d => ⟨by have := d.1; simp at this; omega, by have := d.2; simp <;> omega⟩, fun d => by have := d.1; have := d.2; simp at * <;> omega, fun d => by have := d.1; have := d.2; simp at * <;> omega⟩, rfl, zDe O A.out.1 A.out.2.1 A.out.2.2 hS (zFr (by simp)) (zBQ _ (zBQ _ H.out.1)) (zAK _ (zAx _ _))⟩
  ·have C := zAa H.out.2 (zAK (.cells (madeCells #[sL none 0 0] c.1.length) 115) (zAx W0 (.cells #[sL none 0 0, sL none 0 0] 37)));have P := zAa H.out.2 (zFr (W := W0.alloc (.cells #[sL none 0 0, sL none 0 0] 37)) (o := (.cells (madeCells #[sL none 0 0] c.1.length) 115)) (k := W0.heap.size + 1) (by simp));have z := H.out.2.size;have U : W0.heap.size + 1 + 1 ≤ i.heap.size := by simpa using z
   clear z;rw [D] at P C U;exact ⟨_, w.heap.size + 1 + 1 + 1, w.heap.size + 1 + 1, y, v, _, ⟨by omega, by simp <;> omega, by omega, by simp <;> omega, by omega, fun k d => ⟨by have := d.1; simp at this; omega, by have := d.2; simp <;> omega⟩, fun d => by have := d.1; have := d.2; simp at * <;> omega, fun d => by have := d.1; have := d.2; simp at * <;> omega⟩, rfl, zDe O A.out.1 A.out.2.1 A.out.2.2 hS (zAO (zAO P (by omega)) (by omega)) (zAl (zAl H.out.1 (fun d => by have := d.1; simp at this; omega)) (fun d => by have := d.1; simp at this; omega)) (put2 C)⟩
  ·have C := zAa H.out.2 (zAx W0 (.cells #[sL none 0 0, sL none 0 0] 37));have z := H.out.2.size;have U : W0.heap.size + 1 ≤ i.heap.size := by simpa using z
   clear z;rw [D] at C U;exact ⟨_, i.heap.size, w.heap.size + 1 + 1, y, v, _, ⟨by omega, by simp <;> omega, by omega, by simp <;> omega, by omega, fun k d => ⟨by have := d.1; simp at this; omega, by have := d.2; simp <;> omega⟩, fun d => by have := d.1; have := d.2; simp at * <;> omega, fun d => by have := d.1; have := d.2; simp at * <;> omega⟩, rfl, zDe O A.out.1 A.out.2.1 A.out.2.2 hS (zFr (by simp)) (zBQ _ (zAl (zAl H.out.1 (fun d => by have := d.1; simp at this; omega)) (fun d => by have := d.1; simp at this; omega))) (zAK _ (put2 C))⟩
 case rest =>
  obtain ⟨t, F, T, y, v, Tf, L, rfl, I⟩ := hcut;clear A x0 x1 x2 D eB Q0;obtain ⟨y0, y1⟩ := zAy I.2.2.2.1;rw [← madeAt_0] at I;have HI : Hid _ := I;clear I;go_wp2;go_loopw [19] (fun q wr => ∃ k : Nat, k ≤ c.1.length ∧ q = nI k ∧ zEX w t F T c.1.length Tf (.cells #[sL a c.1.length cap, sL b c.2.length cp] 37) (sL y c.2.length v) c.2 (zDC k c.1) wr) (fun q _ => c.1.length - (intOf q).toNat)
  case atStart => exact ⟨0, Nat.zero_le _, rfl, HI.out⟩
  case round =>
   clear HI y0 y1;obtain ⟨k, d, rfl, I⟩ := hrel;by_cases Z : k < c.1.length
   ·have ZB : (k : Int) < (c.1.length : Int) := by omega
    obtain ⟨g, cA⟩ : ∃ g, c.1[k]? = some g := ⟨_, List.getElem?_eq_getElem Z⟩;obtain ⟨b0, o0, aj, cj, rfl, k2, -, -, -⟩ := zDj (H1.out _ I.2.2.2.2.2.1) cA;have eC : g.length ≤ 4 := by have := J.out.2.2.1 g (List.mem_of_getElem? cA); have := J.out.2.1; omega
    obtain ⟨⟨u0, JA⟩, fz, pl, NI⟩ := zMU L I (zLQ Z) (r := g.length) (by unfold maxLen; omega);rw [zLR cA] at NI;have nB : Hid _ := NI;have fC : wr.cell? ⟨F, k, none⟩ = some u0 := JA;have dC : wr.frozen? ⟨F, k, none⟩ = false := fz;have iC : F < wr.heap.size := pl;obtain ⟨p0, p1⟩ := zAy I.2.1;have p2 := (Array.getElem?_eq_some_iff.1 I.2.1).1;have SB := zDK (P := Tryz.prog) 115 39 (.agg #[nI 0, nI 0, sL none 0 0]) 3 40 Tryz.underlying115 Tryz.infoWay g.length (by omega) (by omega);have AB := Ne.symm L.ne;clear I NI JA fz pl cA;go_wp2;go_region_held3 (fun wx => wx.cell? ⟨T, 0, none⟩ = some (sL (some ⟨F, 0, none⟩) c.1.length c.1.length)) (first | (go_keep; done) | (exact zAd (zAf (wr.setCell ⟨F, k, none⟩ (sL (some ⟨wr.heap.size, 0, none⟩) g.length g.length)) _).drew (cs1 AB p0) (by simpa using p2))) (fail)
    all_goals
     go_wp2;go_roundw
     case rel => exact ⟨k + 1, by omega, by go_num, zGI nB.out (below_drewN (Below.refl _ _) 1)⟩
     case measure => simp [intOf]; omega
   ·have kB : k = c.1.length := by omega
    subst kB;rw [zLS m] at I;obtain ⟨y0, y1⟩ := zAy I.2.2.2.1;have y2 := (Array.getElem?_eq_some_iff.1 I.2.2.2.1).1;have HI : Hid _ := I;clear I;go_wp2_with fail
    refine (zFQ _ _ _ _ _ _ _ _ rfl rfl _).mono ?_;rintro e w' ⟨rfl, rfl⟩;have vB : (zCI m 0 c.1).length = c.1.length := zDB m 0 c.1;have FA : ∀ g ∈ zCI m 0 c.1, g ≠ [] := fun g hr e => by
     rw [zGH] at hr;obtain ⟨r0, oB, rfl⟩ := List.mem_map.1 hr;have := J.out.2.2.1 r0 oB;have D := congrArg List.length e;simp at D
     rw [D] at this;simp at this
     omega
    obtain ⟨pc, R0, gA⟩ := zKt HI.out vB.symm FA (by have := J.out.1; omega) (zAf wr (.cells #[sL a c.1.length cap, sL b c.2.length cp] 37)) (zAx wr _);have e4 : (wr.alloc (.cells #[sL a c.1.length cap, sL b c.2.length cp] 37)).heap.size = wr.heap.size + 1 := by simp
    have iB := HI.out.2.2.2.2.2.2;have rB := HI.out.2.2.2.2.2.1.size;clear HI y0 y1 y2;generalize wr.alloc (.cells #[sL a c.1.length cap, sL b c.2.length cp] 37) = W0 at R0 e4 ⊢;generalize wr.heap.size = G at R0 e4 gA iB rB ⊢;obtain ⟨b0, E, l, rfl, IA, DA⟩ := zIY (H1.out w (Below.refl _ _)) (fun e => by have := J.out.1; rw [e] at this; simp at this) bA J.out.2.2.1;have HG : Hid (∀ k, k < c.1.length * m → ((l (k / m)).way (k % m)).line = (zBZ c m k).1 ∧ ((l (k / m)).way (k % m)).state = (zBZ c m k).2.1 ∧ ((l (k / m)).way (k % m)).len = (zBZ c m k).2.2.length ∧ zBg zBC w ((l (k / m)).way (k % m)).addr (zBZ c m k).2.2 ∧ zBk (zBZ c m k).1 ∧ zBk (zBZ c m k).2.1 ∧ (zBZ c m k).2.2.length ≤ 1048576 ∧ ∃ g, c.1[k / m]? = some g ∧ g[k % m]? = some (zBZ c m k)) := fun k d => by
     obtain ⟨g, e1, D⟩ := zGn bA J.out.2.2.1 d;obtain ⟨q1, q2, q3, q4, q5, q6⟩ := DA _ _ g _ e1 D;obtain ⟨_, _, aj, cj, -, -, -, -, fB⟩ := zDj (H1.out w (Below.refl _ _)) e1;obtain ⟨bj, oj, cs, -, AA, -⟩ := zBG fB D;obtain ⟨ad, yA, -, i1, i2, -⟩ := zAL AA;exact ⟨q1, q2, q3, q6, i1, i2, J.out.2.2.2 g (List.mem_of_getElem? e1) _ (List.mem_of_getElem? D), g, e1, D⟩
    have HA : Hid _ := IA;clear DA IA;go_wp2_with fail
    refine wpIn_wide.1 (zE3 (N := c.1.length * m) (lb := #[.pointer (some ⟨G, 0, none⟩)]) (gf := 120) rfl (enters_of Tryz.func120 (by kernel_rfl) rfl)
     (zEK G b0 E c.1.length m cap l (by have := J.out.1; omega) (by have := J.out.2.1; omega) (by have := J.out.1; omega) bA) (fun _ => rfl)
     (fun k W => zIu w t F T c.1.length G Tf #[sL (some ⟨b0, E, none⟩) c.1.length cap, sL b c.2.length cp] pc (sL y c.2.length v) c.2 (zCI m k c.1) W)
     (fun x k W => False)
     (zJo (by omega)) (fun x => ownFrom_pure _ _) ?hR R0
     (fun k a' W => ∃ B4 B5, W0.heap.size < B4 ∧ W0.heap.size < B5 ∧ W.heap[B4]? = some (.cells #[nI (k / m : Nat), nI (k % m : Nat)] 126 (0, 0)) ∧ W.heap[B5]? = some (.cells #[nI ((l (k / m)).way (k % m)).line, nI ((l (k / m)).way (k % m)).state, .slice ((l (k / m)).way (k % m)).addr ((l (k / m)).way (k % m)).len ((l (k / m)).way (k % m)).cap] 39 (0, 0)) ∧ zIu w t F T c.1.length G Tf #[sL (some ⟨b0, E, none⟩) c.1.length cap, sL b c.2.length cp] pc (sL y c.2.length v) c.2 (zCI m k c.1) W ∧
      a' = { tmps := #[.agg #[sL (some ⟨b0, E, none⟩) c.1.length cap, sL b c.2.length cp], .pointer (some ⟨w.heap.size, 0, none⟩), .pointer (some ⟨w.heap.size + 1, 0, none⟩), .pointer (some ⟨T, 0, none⟩), u4, u5, .pointer (some ⟨B4, 0, none⟩), .pointer (some ⟨B5, 0, none⟩), u8, u9, u10, u11, u12, u13, u14, u15, .pointer (some ⟨w.heap.size, 0, none⟩), sL (some ⟨b0, E, none⟩) c.1.length cap, nI c.1.length, nI c.1.length, .bool false, u21, u22, u23, u24, u25, u26, u27, u28, u29, u30, u31, .agg #[sL (some ⟨b0, E, none⟩) c.1.length cap, sL b c.2.length cp], .func (.func 120) #[] #[.pointer (some ⟨G, 0, none⟩)], .agg #[nI (k / m : Nat), nI (k % m : Nat)], ((l (k / m)).way (k % m)).agg, undef, undef, undef, undef, undef], defers := [] })
     ?hA ?hassign ?hbody ?hdone ?hstop)
    case hR =>
     rintro k W ⟨M, g1, g2⟩;exact ⟨by rw [cell_of_row W _ 0 _ _ (0, 0) g2]; rfl, zFP HA.out M.2.2.2.2.2.1 bA⟩
    case hA =>
     rintro k a' ⟨⟩ X Y R ⟨B4, B5, l4, l5, g4, g5, M, rfl⟩ hg hr;exact ⟨B4, B5, l4, l5, zBo (β := Unit) _ _ _ _ () X Y R g4 hg hr, zBo (β := Unit) _ _ _ _ () X Y R g5 hg hr, zJo (f := fun k => zCI m k c.1) (B := W0.heap.size) (by omega) k X Y R M hg hr, rfl⟩
    case hassign =>
     rintro k W K d M Z hK;gi_wp2
     have z1 := zAf W (.cells #[nI (k / m : Nat), nI (k % m : Nat)] 126);have z2 := zAf (W.alloc (.cells #[nI (k / m : Nat), nI (k % m : Nat)] 126)) (.cells #[nI ((l (k / m)).way (k % m)).line, nI ((l (k / m)).way (k % m)).state, .slice ((l (k / m)).way (k % m)).addr ((l (k / m)).way (k % m)).len ((l (k / m)).way (k % m)).cap] 39);have z3 := zAx (W.alloc (.cells #[nI (k / m : Nat), nI (k % m : Nat)] 126)) (.cells #[nI ((l (k / m)).way (k % m)).line, nI ((l (k / m)).way (k % m)).state, .slice ((l (k / m)).way (k % m)).addr ((l (k / m)).way (k % m)).len ((l (k / m)).way (k % m)).cap] 39);rw [zAp] at z3;exact hK _ _ (Kept.below (zAb z1 z2)) ⟨W.heap.size, W.heap.size + 1, by omega, by omega, zAK _ (zAx _ _), z3, zGJ (zGJ M z1) z2, rfl⟩
    case hbody =>
     rintro k a' V d ⟨B4, B5, l4, l5, g4, g5, M, rfl⟩ Z hD hL;obtain ⟨q1, q2, q3, q5, i1, i2, mB, g, e1, D⟩ := HG.out k d;rw [q1, q2, q3] at g5;have CA : ((l (k / m)).way (k % m)).agg = .agg #[nI (zBZ c m k).1, nI (zBZ c m k).2.1, .slice ((l (k / m)).way (k % m)).addr (zBZ c m k).2.2.length ((l (k / m)).way (k % m)).cap] := by rw [WCells.agg, q1, q2, q3]
     rw [CA];clear CA q1 q2 q3;generalize ((l (k / m)).way (k % m)).addr = ad at g5 q5 ⊢;generalize ((l (k / m)).way (k % m)).cap = yA at g5 ⊢;have aB : k / m * m + k % m = k := Nat.div_add_mod' k m;have fA := zKs (m := m) (s := k / m) (j := k % m) J.out.2.2.1 e1 D;rw [aB] at fA;have hj : (g.mapIdx fun j u => if k / m * m + j < k then u else zGd)[k % m]? = some (if k / m * m + k % m < k then zBZ c m k else zGd) := by rw [List.getElem?_mapIdx, D]; rfl
     have S := zGG (zIr t F V) _ (sL y c.2.length v) (zCI m k c.1) (k / m) (k % m) _ _ (zBZ c m k).1 (zBZ c m k).2.1 (zBZ c m k).2.2 ad yA V M.1.1 (zE9 e1) hj (by rw [zDB]; omega) (by have := J.out.2.2.1 g (List.mem_of_getElem? e1); have := J.out.2.1; simp; omega) i1 i2 (zA7 q5 fun k d => M.1.2.2.2.2.2.1.block k d) mB;have qB : k / m < c.1.length := (List.getElem?_eq_some_iff.1 e1).1;obtain ⟨x0, x1, x2⟩ := zAg g5;obtain ⟨y0, y1⟩ := zAy g4;obtain ⟨z0, z1⟩ := zAy M.1.2.1;have HC : Hid _ := S;have HX : Hid _ := aI fA M;clear S fA M g4 g5 hj D i1 i2 q5 hD hL;gi_wp2
     refine ⟨trivial, rfl, (CallsIn.inRound _ (callsIn_wide.2 HC.out)).mono ?_⟩;rintro e V1 ⟨rfl, ho, hx⟩;gi_wp2
     obtain ⟨R1, g2, mC, hc⟩ := zLT L HX.out.2 gA qB ho hx;refine ⟨Kept.chg hc (fun j e => by have e' : j = g2 := e; omega), ?_⟩;have zB := HX.out.1;show zIu w t F T c.1.length G Tf _ pc _ c.2 (zCI m (k + 1) c.1) V1
     rw [← zB];exact R1
    case hdone =>
     rintro W ⟨M, g1, g2⟩ hK;rw [zLO J.out.2.2.1] at M;obtain ⟨o1, o2, o3, o4, o5, o6, o7⟩ := M;obtain ⟨p0, p1⟩ := zAy o2;obtain ⟨r0, r1⟩ := zAy o3;obtain ⟨f0, f1⟩ := zBW o3;have HO : Hid _ := aI o1 (aI o3 (aI o5 (aI o6 hK)));clear o1 o2 o3 o4 o5 o6 g1 g2 hK R0 gA HG HA H1 H2;go_wp2;obtain ⟨o1, o3, o5, o6, hK⟩ := HO.out;obtain ⟨L1, L2, L3, L4, L5, L6, L7, L8⟩ := L;have lA : ((W.setCell ⟨w.heap.size + 1, 0, none⟩ (sL (some ⟨F, 0, none⟩) c.1.length c.1.length)).setCell ⟨w.heap.size + 1, 1, none⟩ (sL y c.2.length v)).heap[W0.heap.size]? = some (.deferred (some [])) := (heap_setCell_other _ ⟨w.heap.size + 1, 1, none⟩ _ _ (by simp; omega)).trans ((heap_setCell_other W ⟨w.heap.size + 1, 0, none⟩ _ _ (by simp; omega)).trans hK);refine ⟨by simp, .inl ⟨_, _, rfl, run_takeDeferred lA, ?_⟩⟩;have g9 := (World.putObj_heap_other (o := .deferred none) (show w.heap.size + 1 ≠ W0.heap.size by omega)).trans (put2 (a := sL (some ⟨F, 0, none⟩) c.1.length c.1.length) (b := sL y c.2.length v) o3);obtain ⟨c0, c1⟩ := zBb g9;have kA := grownBy_putObj' ((W.setCell ⟨w.heap.size + 1, 0, none⟩ (sL (some ⟨F, 0, none⟩) c.1.length c.1.length)).setCell ⟨w.heap.size + 1, 1, none⟩ (sL y c.2.length v)) W0.heap.size (.deferred none);have sA : ∀ r, some W0.heap.size = some r → ∃ o : Obj, ((W.setCell ⟨w.heap.size + 1, 0, none⟩ (sL (some ⟨F, 0, none⟩) c.1.length c.1.length)).setCell ⟨w.heap.size + 1, 1, none⟩ (sL y c.2.length v)).heap[r]? = some o ∧ o.isCells = false := fun r e => by
      cases e;exact ⟨_, lA, rfl⟩
     have nr : ¬ zIr t F W (w.heap.size + 1) := fun h => by
      rcases h.1 with h | h <;> omega
     have nt : ¬ Tf (w.heap.size + 1) := fun h => by
      have := (L6 _ h).1;omega
     refine ⟨.agg #[sL (some ⟨F, 0, none⟩) c.1.length c.1.length, sL y c.2.length v], ?_, _, _, _, _, rfl, zCd (zEA (zAl (zAl o1 nr) nr) kA sA) (zEA (zAl (zAl o5 nt) nt) kA sA) (fun k d => ?_) (fun k d => ?_) (fun k d ht => ?_), ?_⟩
     ·simp [results, Tryz.results69, go_sem, c0, c1]
     ·refine ⟨?_, by have := d.2; simpa using this⟩;rcases d.1 with h | h <;> omega
     ·have := L6 k d;exact ⟨by have := this.1; omega, by have := this.2; simp; omega⟩
     ·rcases d.1 with h | h
      ·exact L7 (h ▸ ht)
      ·have := (L6 k ht).2;omega
     ·exact (zAq (zAq o6 (by omega)) (by omega)).trans ((Below.refl _ _).grown kA (by have := (ltH lA); omega) (fun k e => by cases e; omega))
    case hstop =>
     rintro x k W d h;exact h.elim
end Go.Proofs.YtmdhblhdfcocjaaGreatDoor
