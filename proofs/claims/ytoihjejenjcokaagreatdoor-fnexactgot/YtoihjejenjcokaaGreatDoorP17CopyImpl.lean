import Derived.Test.YtoihjejenjcokaaGreatDoorP00Box
import Derived.Test.YtoihjejenjcokaaGreatDoorP16CopyFacts
import Derived.Test.YtoihjejenjcokaaGreatDoorP10WaysOk
namespace Go.Proofs.YtoihjejenjcokaaGreatDoor
open Go.ChangeShapes Go.WideShapes Go.ChangeAt Go.RowKit Go.Shelf
set_option linter.unusedVariables false
attribute [local go_sem] Oper.semAt_some
section
variable {W0 wx : World} {b0 o0 o1 : Nat} {u v : Value}
theorem sc_alloc (hD : b0 < W0.heap.size) (h : wx.cell? ⟨b0, o0, none⟩ = some u ∧ wx.cell? ⟨b0, o1, none⟩ = some v ∧ Below W0.heap.size W0 wx) (o : Obj) : (wx.alloc o).cell? ⟨b0, o0, none⟩ = some u ∧ (wx.alloc o).cell? ⟨b0, o1, none⟩ = some v ∧ Below W0.heap.size W0 (wx.alloc o) :=
 ⟨zAd (zAf wx o) h.1 (zAi h.1), zAd (zAf wx o) h.2.1 (zAi h.2.1), zAb h.2.2 (zAf wx o)⟩
theorem sc_drew (h : wx.cell? ⟨b0, o0, none⟩ = some u ∧ wx.cell? ⟨b0, o1, none⟩ = some v ∧ Below W0.heap.size W0 wx) : wx.drew.cell? ⟨b0, o0, none⟩ = some u ∧ wx.drew.cell? ⟨b0, o1, none⟩ = some v ∧ Below W0.heap.size W0 wx.drew := ⟨h.1, h.2.1, h.2.2.drew⟩
theorem sc_set {g o : Nat} {z : Value} (hD : b0 < W0.heap.size) (hg : W0.heap.size ≤ g) (h : wx.cell? ⟨b0, o0, none⟩ = some u ∧ wx.cell? ⟨b0, o1, none⟩ = some v ∧ Below W0.heap.size W0 wx) : (wx.setCell ⟨g, o, none⟩ z).cell? ⟨b0, o0, none⟩ = some u ∧ (wx.setCell ⟨g, o, none⟩ z).cell? ⟨b0, o1, none⟩ = some v ∧ Below W0.heap.size W0 (wx.setCell ⟨g, o, none⟩ z) :=
 ⟨cs1 (by omega) h.1, cs1 (by omega) h.2.1, zAq h.2.2 hg⟩
theorem sc_made {w9 : World} (h : wx.cell? ⟨b0, o0, none⟩ = some u ∧ wx.cell? ⟨b0, o1, none⟩ = some v ∧ Below W0.heap.size W0 wx) (hb : Below wx.heap.size wx w9) : w9.cell? ⟨b0, o0, none⟩ = some u ∧ w9.cell? ⟨b0, o1, none⟩ = some v ∧ Below W0.heap.size W0 w9 := ⟨zAd hb h.1 (zAi h.1), zAd hb h.2.1 (zAi h.2.1), zAb h.2.2 hb⟩
end
theorem zIs {W w9 : World} {b o : Nat} {u : Value} (hb : Below W.heap.size W w9) (h : W.cell? ⟨b, o, none⟩ = some u) (hf : W.frozen? ⟨b, o, none⟩ = false) : w9.cell? ⟨b, o, none⟩ = some u ∧ w9.frozen? ⟨b, o, none⟩ = false ∧ b < w9.heap.size :=
 ⟨zAd hb h (zAi h), (World.frozen?_of_block (w := W) (a := ⟨b, o, none⟩) (hb.block b (zAi h))).trans hf, Nat.lt_of_lt_of_le (zAi h) hb.size⟩
def zDC (k : Nat) (cs : List (List zAU)) : List (List zAU) := cs.mapIdx fun i row => if i < k then List.replicate row.length zGd else []
theorem madeAt_0 (cs : List (List zAU)) : zDC 0 cs = List.replicate cs.length [] := by
 apply List.ext_getElem?
 intro i
 rw [zDC, List.getElem?_mapIdx, List.getElem?_replicate]
 by_cases h : i < cs.length
 ·simp [h]
 ·simp [h]
theorem zLQ {k : Nat} {cs : List (List zAU)} (h : k < cs.length) : (zDC k cs)[k]? = some [] := by
 rw [zDC, List.getElem?_mapIdx, List.getElem?_eq_getElem h]
 simp
theorem zLR {k : Nat} {cs : List (List zAU)} {row : List zAU} (h : cs[k]? = some row) : (zDC k cs).set k (List.replicate row.length zGd) = zDC (k + 1) cs := by
 have hl := (List.getElem?_eq_some_iff.1 h).1
 apply List.ext_getElem?
 intro i
 by_cases hi : k = i
 ·subst hi
  rw [List.getElem?_set_self (by simpa [zDC] using hl), zDC, List.getElem?_mapIdx, h]
  simp
 ·rw [List.getElem?_set_ne hi, zDC, zDC, List.getElem?_mapIdx, List.getElem?_mapIdx]
  cases cs[i]? with
  | none => rfl
  | some r =>
   simp only [Option.map_some, Option.some.injEq]
   by_cases h1 : i < k
   ·rw [if_pos h1, if_pos (by omega)]
   ·rw [if_neg h1, if_neg (by omega)]
theorem zLS (m : Nat) (cs : List (List zAU)) : zDC cs.length cs = zCI m 0 cs := by
 rw [zGH]
 apply List.ext_getElem?
 intro i
 rw [zDC, List.getElem?_mapIdx, List.getElem?_map]
 cases h : cs[i]? with
 | none => rfl
 | some row => simp [(List.getElem?_eq_some_iff.1 h).1]
theorem zFr {W : World} {o : Obj} {k : Nat} (e : W.heap.size = k) : (W.alloc o).heap[k]? = some o := e ▸ zAy W o
theorem zDe {w W0 W' : World} {pa cb n : Nat} {Tf : zAX} {box : Obj} {v : Value} {ts : List Int} (hm : n ≤ maxLen) (hB : Below w.heap.size w W0) (hX : W0.heap[w.heap.size]? = some box) (hY : W0.heap[w.heap.size + 1]? = some (.cells #[.slice none 0 0, .slice none 0 0] 37 (0, 0))) (B : Below W0.heap.size W0 W')
    (h1 : W'.heap[pa]? = some (.cells (madeCells #[.slice none 0 0] n) 115 (0, 0))) (h2 : zA5.own W' Tf [v] ts) (h3 : W'.heap[cb]? = some (.cells #[.slice (some ⟨pa, 0, none⟩) n n, v] 37 (0, 0))) : zEX w W'.heap.size pa cb n Tf box v ts (List.replicate n []) W' :=
 ⟨nils_at h1 ⟨.inl rfl, (Array.getElem?_eq_some_iff.1 h1).1⟩ hm, h3, zAa B hY, zAa B hX, h2, zAb hB B, Nat.le_refl _⟩
theorem zEA {α : Type} {R : Rep α} {X Y : World} {row : Option Nat} {S : zAX} {cs : List Value} {x : α} (h : R.own X S cs x) (hg : X.grownBy Y row) (hr : ∀ r, row = some r → ∃ o : Obj, X.heap[r]? = some o ∧ o.isCells = false) : R.own Y S cs x :=
 R.own_mono (R.own_keep (R.own_tight h) (fun k hk hl => hg.block k hl (fun e => by
  obtain ⟨_, cur, t, _, hh⟩ := hk
  obtain ⟨o, ho, hc⟩ := hr k e.symm
  rw [hh] at ho
  cases ho
  cases hc))) (fun k hk => hk.1)
def zIt (w : World) (t pa cb n G : Nat) (Tf : zAX) (bc pc : Array Value) (v : Value) (ts : List Int) (xss : List (List zAU)) (W : World) : Prop :=
 zEX w t pa cb n Tf (.cells bc 37 (0, 0)) v ts xss W ∧ W.heap[pa]? = some (.cells pc 115 (0, 0)) ∧ W.heap[G]? = some (.cells bc 37 (0, 0))
theorem zJo {w : World} {t pa cb n G B : Nat} {Tf : zAX} {bc pc : Array Value} {v : Value} {ts : List Int} {f : Nat → List (List zAU)} (hB : w.heap.size ≤ B) : OwnFrom B (fun k W => zIt w t pa cb n G Tf bc pc v ts (f k) W) := by
 rintro k X Y row ⟨⟨h1, h2, h3, h4, h5, h6, h7⟩, h8, h9⟩ hg hr
 have hr' : ∀ r, row = some r → ∃ o : Obj, X.heap[r]? = some o ∧ o.isCells = false := fun r e => (hr r e).2
 have hs := hg.size
 exact ⟨⟨zBu.own_mono (zEA h1 hg hr') (fun k hk => ⟨hk.1, by have := hk.2; omega⟩), zBo (β := Unit) _ _ _ _ () X Y row h2 hg hr, zBo (β := Unit) _ _ _ _ () X Y row h3 hg hr, zBo (β := Unit) _ _ _ _ () X Y row h4 hg hr, zEA h5 hg hr', ownFrom_below (β := Unit) (Nat.le_refl _) hB () X Y row h6 hg hr, by omega⟩, zBo (β := Unit) _ _ _ _ () X Y row h8 hg hr, zBo (β := Unit) _ _ _ _ () X Y row h9 hg hr⟩
theorem zGJ {w W W' : World} {t pa cb n G : Nat} {Tf : zAX} {bc pc : Array Value} {v : Value} {ts : List Int} {xss : List (List zAU)} (h : zIt w t pa cb n G Tf bc pc v ts xss W) (hb : Below W.heap.size W W') : zIt w t pa cb n G Tf bc pc v ts xss W' :=
 ⟨zGI h.1 hb, zAa hb h.2.1, zAa hb h.2.2⟩
theorem zKt {w wr W0 : World} {t pa cb n : Nat} {Tf : zAX} {bc : Array Value} {v : Value} {ts : List Int} {xss : List (List zAU)} (h : zEX w t pa cb n Tf (.cells bc 37 (0, 0)) v ts xss wr) (hn : n = xss.length) (hne : ∀ row ∈ xss, row ≠ []) (h0 : 0 < n) (hb : Below wr.heap.size wr W0) (hG : W0.heap[wr.heap.size]? = some (.cells bc 37 (0, 0))) :
    ∃ pc, zIt w t pa cb n wr.heap.size Tf bc pc v ts xss W0 ∧ ∀ (s g2 k cp : Nat), s < n → pc[s]? = some (.slice (some ⟨g2, 0, none⟩) k cp) → g2 < wr.heap.size := by
 obtain ⟨g, cap, cur, Sj, T, c', hv, hSg, hg, -⟩ := zBH h.1 (List.getElem?_eq_getElem (show 0 < xss.length by omega))
 simp only [Value.slice.injEq, Option.some.injEq, Addr.mk.injEq, and_true] at hv
 obtain ⟨rfl, -⟩ := hv
 refine ⟨cur, ⟨zGI h hb, zAa hb hg, hG⟩, fun s g2 k cp hs hc => ?_⟩
 have hsl : s < xss.length := by omega
 have hr : 0 < (xss[s]).length := List.length_pos_iff.2 (hne _ (List.getElem_mem hsl))
 obtain ⟨g', cap', g2', cap2', e1, hcell, -, -, -, -, hl, -⟩ := zCN h.1 (List.getElem?_eq_getElem hsl) (List.getElem?_eq_getElem hr)
 simp only [Value.slice.injEq, Option.some.injEq, Addr.mk.injEq, and_true] at e1
 obtain ⟨rfl, -⟩ := e1
 rw [cell_of_row wr pa s _ _ (0, 0) hg, hc] at hcell
 simp only [Option.some.injEq, Value.slice.injEq, Addr.mk.injEq, and_true] at hcell
 rw [hcell.1]
 exact hl
theorem zLT {w W W' : World} {t pa cb n G s r : Nat} {Tf : zAX} {bc pc : Array Value} {v : Value} {ts : List Int} {xss yss : List (List zAU)} (L : Lies w.heap.size t pa cb Tf) (h : zIt w t pa cb n G Tf bc pc v ts xss W) (hrow : ∀ (s g2 k cp : Nat), s < n → pc[s]? = some (.slice (some ⟨g2, 0, none⟩) k cp) → g2 < G) (hs : s < n)
    (ho : zBu.own W' (fun k => Old W (zIq t pa W) k ∨ (W.heap.size ≤ k ∧ k < W'.heap.size)) [.slice (some ⟨pa, 0, none⟩) n n] yss)
    (hx : ∃ g cap g2 cap2, (.slice (some ⟨pa, 0, none⟩) n n : Value) = .slice (some ⟨g, 0, none⟩) xss.length cap ∧ W.cell? ⟨g, s, none⟩ = some (.slice (some ⟨g2, 0, none⟩) r cap2) ∧ g ≠ g2 ∧ Old W (zIq t pa W) g2 ∧ Chg (fun k => k = g2) W W') :
    zIt w t pa cb n G Tf bc pc v ts yss W' ∧ ∃ g2, g2 < G ∧ Chg (fun k => k = g2) W W' := by
 obtain ⟨h1, h2, h3⟩ := h
 obtain ⟨g, cap, g2, cap2, e1, hcell, hne, hS, hc⟩ := hx
 simp only [Value.slice.injEq, Option.some.injEq, Addr.mk.injEq, and_true] at e1
 obtain ⟨rfl, -⟩ := e1
 rw [cell_of_row W pa s _ _ (0, 0) h2] at hcell
 have hl := hrow s g2 r cap2 hs hcell
 exact ⟨⟨copy_put L h1 ho (hc.mono fun k hk => by have e : k = g2 := hk; rw [e]; exact hS), (hc.block pa (Array.getElem?_eq_some_iff.1 h2).1 (fun e => hne e)).trans h2, (hc.block G (Array.getElem?_eq_some_iff.1 h3).1 (fun e => by have e' : G = g2 := e; omega)).trans h3⟩, g2, hl, hc⟩
set_option maxRecDepth 8000 in
set_option maxHeartbeats 8000000 in
theorem zEN (a b : Option Addr) (c : zAu) (cap cp m : Nat) (w : World) (h1 : zBh zBl w a c.1) (h2 : zBh zBC w b c.2) (hp : c.1.length = 1 ∨ c.1.length = 2 ∨ c.1.length = 4) (hm : m = 1 ∨ m = 2 ∨ m = 4) (hrow : ∀ row ∈ c.1, row.length = m) (hl : c.2.length ≤ 1048576) (hd : ∀ row ∈ c.1, ∀ u ∈ row, u.2.2.length ≤ 1048576) :
    Calls Tryz.prog 69 #[.agg #[.slice a c.1.length cap, .slice b c.2.length cp]] w fun e w' => ∃ av cv bv dv, e = .returned (.agg #[.slice av c.1.length cv, .slice bv c.2.length dv]) ∧ zAY zAB w w' [.slice av c.1.length cv, .slice bv c.2.length dv] c := by
 have hm0 : 0 < m := by omega
 have hn4 : c.1.length ≤ 4 := by omega
 have H1 : Hid (∀ W, Below w.heap.size w W → zBh zBl W a c.1) := fun W hb => zA7 h1 fun k hk => hb.block k hk
 have H2 : Hid (∀ W, Below w.heap.size w W → zBh zBC W b c.2) := fun W hb => zA7 h2 fun k hk => hb.block k hk
 have HP : Hid _ := And.intro hp (And.intro hm (And.intro hrow hd))
 clear h1 h2 hp hm hrow hd
 refine (callsIn_wide (n := 0)).1 ?_
 refine callsIn_of_wp_marks Tryz.func69 rfl trivial ?_ rfl
 refine wpIn_wide.2 ?_
 simp only [Tryz.ntmps69, List.size_toArray, List.length_cons, List.length_nil, Nat.reduceAdd, Nat.reduceSub, Array.replicate_succ, Array.replicate_zero, List.push_toArray, List.append_toArray, List.nil_append, List.cons_append]
 go_wp2_with fail
 have B0 := zAb (zAf w (.cells #[.slice a c.1.length cap, .slice b c.2.length cp] 37)) (zAf _ (.cells #[.slice none 0 0, .slice none 0 0] 37))
 have X0 := zAK (.cells #[.slice none 0 0, .slice none 0 0] 37) (zAy w (.cells #[.slice a c.1.length cap, .slice b c.2.length cp] 37))
 have Y0 := zAy (w.alloc (.cells #[.slice a c.1.length cap, .slice b c.2.length cp] 37)) (.cells #[.slice none 0 0, .slice none 0 0] 37)
 have e2 : ((w.alloc (.cells #[.slice a c.1.length cap, .slice b c.2.length cp] 37)).alloc (.cells #[.slice none 0 0, .slice none 0 0] 37)).heap.size = w.heap.size + 1 + 1 := by simp
 rw [zAp] at Y0
 generalize (w.alloc (.cells #[.slice a c.1.length cap, .slice b c.2.length cp] 37)).alloc (.cells #[.slice none 0 0, .slice none 0 0] 37) = W0 at B0 X0 Y0 e2 ⊢
 have hmk := Go.run_make_row' (P := Tryz.prog) 35 115 (.slice none 0 0) 24 Tryz.underlying35 Tryz.infoWayS rfl .i64 .i64 c.1.length (by omega) (by omega)
 obtain ⟨x0, x1⟩ := zAx X0
 have x2 := (Array.getElem?_eq_some_iff.1 X0).1
 have HB : Hid _ := And.intro B0 (And.intro X0 Y0)
 clear B0 X0 Y0
 have q0 : W0.cell? ⟨w.heap.size, 0, none⟩ = some (.slice a c.1.length cap) ∧ W0.cell? ⟨w.heap.size, 1, none⟩ = some (.slice b c.2.length cp) ∧ Below W0.heap.size W0 W0 := ⟨x0, x1, Below.refl _ _⟩
 have Q0 : Hid _ := q0
 clear q0
 go_cut [3] from 8 to 15 (fun p wx => ∃ t pa cb bv dv Tf, Lies w.heap.size t pa cb Tf ∧ p = .pointer (some ⟨cb, 0, none⟩) ∧ zEX w t pa cb c.1.length Tf (.cells #[.slice a c.1.length cap, .slice b c.2.length cp] 37) (.slice bv c.2.length dv) c.2 (List.replicate c.1.length []) wx)
 case first =>
  have hmx : c.1.length ≤ maxLen := by unfold maxLen; omega
  go_region_held3 (fun wx => wx.cell? ⟨w.heap.size, 0, none⟩ = some (.slice a c.1.length cap) ∧ wx.cell? ⟨w.heap.size, 1, none⟩ = some (.slice b c.2.length cp) ∧ Below W0.heap.size W0 wx) (repeat' first | exact Q0.out | exact Q9.out | assumption | refine sc_drew ?_ | refine sc_alloc x2 ?_ _ | refine sc_set x2 (by omega) ?_) (first | (go_at_call 72; refine (zJn b c.2 cp _ (H2.out _ (zAb HB.out.1 (And.right (And.right (by assumption))))) hl).mono ?_; rintro e w9 ⟨bv, dv, rfl, mm⟩; have HM : Hid _ := mm; have Q9 : Hid (w9.cell? ⟨w.heap.size, 0, none⟩ = some (.slice a c.1.length cap) ∧ w9.cell? ⟨w.heap.size, 1, none⟩ = some (.slice b c.2.length cp) ∧ Below W0.heap.size W0 w9) := sc_made (by assumption) mm.2; (first | (have y00 : w9.cell? ⟨w.heap.size + 1 + 1, 0, none⟩ = some (.slice none 0 0) ∧ w9.frozen? ⟨w.heap.size + 1 + 1, 0, none⟩ = false ∧ w.heap.size + 1 + 1 < w9.heap.size := ?hy; case hy => (refine zIs mm.2 ?_ ?_ <;> go_simp <;> done)) | skip); (first | (have y01 : w9.cell? ⟨w.heap.size + 1 + 1, 1, none⟩ = some (.slice none 0 0) ∧ w9.frozen? ⟨w.heap.size + 1 + 1, 1, none⟩ = false ∧ w.heap.size + 1 + 1 < w9.heap.size := ?hy; case hy => (refine zIs mm.2 ?_ ?_ <;> go_simp <;> done)) | skip); (first | (have y10 : w9.cell? ⟨w.heap.size + 1 + 1 + 1, 0, none⟩ = some (.slice none 0 0) ∧ w9.frozen? ⟨w.heap.size + 1 + 1 + 1, 0, none⟩ = false ∧ w.heap.size + 1 + 1 + 1 < w9.heap.size := ?hy; case hy => (refine zIs mm.2 ?_ ?_ <;> go_simp <;> done)) | skip); (first | (have y11 : w9.cell? ⟨w.heap.size + 1 + 1 + 1, 1, none⟩ = some (.slice none 0 0) ∧ w9.frozen? ⟨w.heap.size + 1 + 1 + 1, 1, none⟩ = false ∧ w.heap.size + 1 + 1 + 1 < w9.heap.size := ?hy; case hy => (refine zIs mm.2 ?_ ?_ <;> go_simp <;> done)) | skip); clear mm))
  all_goals go_wp2_with fail
  all_goals go_meet
  all_goals have hS := And.right (And.right (by assumption : _ ∧ _ ∧ Below W0.heap.size W0 _))
  ·have P := zAa HM.out.2 (zAy W0 (.cells (madeCells #[.slice none 0 0] c.1.length) 115))
   have z := HM.out.2.size
   have zz : W0.heap.size + 1 ≤ w9.heap.size := by simpa using z
   rw [e2] at P
   exact ⟨_, w.heap.size + 1 + 1, w9.heap.size, bv, dv, _, ⟨by omega, by simp <;> omega, by omega, by simp, by omega, fun k hk => ⟨by have := hk.1; simp at this; omega, by have := hk.2; simp <;> omega⟩, fun hk => by have := hk.1; simp at this; omega, fun hk => by have := hk.2; omega⟩, rfl, zDe hmx HB.out.1 HB.out.2.1 HB.out.2.2 hS (zAK _ P) (zBQ _ HM.out.1) (zAy _ _)⟩
  ·have P := zAa HM.out.2 (zAK (.cells #[.slice none 0 0, .slice none 0 0] 37) (zAy W0 (.cells (madeCells #[.slice none 0 0] c.1.length) 115)))
   have C := zAa HM.out.2 (zFr (W := W0.alloc (.cells (madeCells #[.slice none 0 0] c.1.length) 115)) (o := (.cells #[.slice none 0 0, .slice none 0 0] 37)) (k := W0.heap.size + 1) (by simp))
   have z := HM.out.2.size
   have zz : W0.heap.size + 1 + 1 ≤ w9.heap.size := by simpa using z
   clear z
   rw [e2] at P C zz
   exact ⟨_, w.heap.size + 1 + 1, w.heap.size + 1 + 1 + 1, bv, dv, _, ⟨by omega, by simp <;> omega, by omega, by simp <;> omega, by omega, fun k hk => ⟨by have := hk.1; simp at this; omega, by have := hk.2; simp <;> omega⟩, fun hk => by have := hk.1; have := hk.2; simp at * <;> omega, fun hk => by have := hk.1; have := hk.2; simp at * <;> omega⟩, rfl, zDe hmx HB.out.1 HB.out.2.1 HB.out.2.2 hS (zAP (zAP P (by omega)) (by omega)) (zAl (zAl HM.out.1 (fun hk => by have := hk.1; simp at this; omega)) (fun hk => by have := hk.1; simp at this; omega)) (put2 C)⟩
  ·have z := HM.out.2.size
   have zz : W0.heap.size ≤ w9.heap.size := by simpa using z
   clear z
   rw [e2] at zz
   exact ⟨_, w9.heap.size, w9.heap.size + 1, bv, dv, _, ⟨by omega, by simp <;> omega, by omega, by simp <;> omega, by omega, fun k hk => ⟨by have := hk.1; simp at this; omega, by have := hk.2; simp <;> omega⟩, fun hk => by have := hk.1; have := hk.2; simp at * <;> omega, fun hk => by have := hk.1; have := hk.2; simp at * <;> omega⟩, rfl, zDe hmx HB.out.1 HB.out.2.1 HB.out.2.2 hS (zAK _ (zAy _ _)) (zBQ _ (zBQ _ HM.out.1)) (zFr (by simp))⟩
  ·have z := HM.out.2.size
   have zz : W0.heap.size ≤ w9.heap.size := by simpa using z
   clear z
   rw [e2] at zz
   exact ⟨_, w9.heap.size + 1, w9.heap.size, bv, dv, _, ⟨by omega, by simp <;> omega, by omega, by simp <;> omega, by omega, fun k hk => ⟨by have := hk.1; simp at this; omega, by have := hk.2; simp <;> omega⟩, fun hk => by have := hk.1; have := hk.2; simp at * <;> omega, fun hk => by have := hk.1; have := hk.2; simp at * <;> omega⟩, rfl, zDe hmx HB.out.1 HB.out.2.1 HB.out.2.2 hS (zFr (by simp)) (zBQ _ (zBQ _ HM.out.1)) (zAK _ (zAy _ _))⟩
  ·have C := zAa HM.out.2 (zAK (.cells (madeCells #[.slice none 0 0] c.1.length) 115) (zAy W0 (.cells #[.slice none 0 0, .slice none 0 0] 37)))
   have P := zAa HM.out.2 (zFr (W := W0.alloc (.cells #[.slice none 0 0, .slice none 0 0] 37)) (o := (.cells (madeCells #[.slice none 0 0] c.1.length) 115)) (k := W0.heap.size + 1) (by simp))
   have z := HM.out.2.size
   have zz : W0.heap.size + 1 + 1 ≤ w9.heap.size := by simpa using z
   clear z
   rw [e2] at P C zz
   exact ⟨_, w.heap.size + 1 + 1 + 1, w.heap.size + 1 + 1, bv, dv, _, ⟨by omega, by simp <;> omega, by omega, by simp <;> omega, by omega, fun k hk => ⟨by have := hk.1; simp at this; omega, by have := hk.2; simp <;> omega⟩, fun hk => by have := hk.1; have := hk.2; simp at * <;> omega, fun hk => by have := hk.1; have := hk.2; simp at * <;> omega⟩, rfl, zDe hmx HB.out.1 HB.out.2.1 HB.out.2.2 hS (zAP (zAP P (by omega)) (by omega)) (zAl (zAl HM.out.1 (fun hk => by have := hk.1; simp at this; omega)) (fun hk => by have := hk.1; simp at this; omega)) (put2 C)⟩
  ·have C := zAa HM.out.2 (zAy W0 (.cells #[.slice none 0 0, .slice none 0 0] 37))
   have z := HM.out.2.size
   have zz : W0.heap.size + 1 ≤ w9.heap.size := by simpa using z
   clear z
   rw [e2] at C zz
   exact ⟨_, w9.heap.size, w.heap.size + 1 + 1, bv, dv, _, ⟨by omega, by simp <;> omega, by omega, by simp <;> omega, by omega, fun k hk => ⟨by have := hk.1; simp at this; omega, by have := hk.2; simp <;> omega⟩, fun hk => by have := hk.1; have := hk.2; simp at * <;> omega, fun hk => by have := hk.1; have := hk.2; simp at * <;> omega⟩, rfl, zDe hmx HB.out.1 HB.out.2.1 HB.out.2.2 hS (zFr (by simp)) (zBQ _ (zAl (zAl HM.out.1 (fun hk => by have := hk.1; simp at this; omega)) (fun hk => by have := hk.1; simp at this; omega))) (zAK _ (put2 C))⟩
 case rest =>
  obtain ⟨t, pa, cb, bv, dv, Tf, L, rfl, I⟩ := hcut
  clear HB x0 x1 x2 e2 hmk Q0
  obtain ⟨y0, y1⟩ := zAx I.2.2.2.1
  rw [← madeAt_0] at I
  have HI : Hid _ := I
  clear I
  go_wp2
  go_loopw [19] (fun q wr => ∃ k : Nat, k ≤ c.1.length ∧ q = .int .i64 k ∧ zEX w t pa cb c.1.length Tf (.cells #[.slice a c.1.length cap, .slice b c.2.length cp] 37) (.slice bv c.2.length dv) c.2 (zDC k c.1) wr) (fun q _ => c.1.length - (intOf q).toNat)
  case atStart => exact ⟨0, Nat.zero_le _, rfl, HI.out⟩
  case round =>
   clear HI y0 y1
   obtain ⟨k, hk, rfl, I⟩ := hrel
   by_cases hlt : k < c.1.length
   ·have hlt' : (k : Int) < (c.1.length : Int) := by omega
    obtain ⟨row, hrw⟩ : ∃ row, c.1[k]? = some row := ⟨_, List.getElem?_eq_getElem hlt⟩
    obtain ⟨b0, o0, aj, cj, rfl, k2, -, -, -⟩ := zDj (H1.out _ I.2.2.2.2.2.1) hrw
    have hrm : row.length ≤ 4 := by have := HP.out.2.2.1 row (List.mem_of_getElem? hrw); have := HP.out.2.1; omega
    obtain ⟨⟨u0, cu0⟩, fz, pl, NI⟩ := zMU L I (zLQ hlt) (r := row.length) (by unfold maxLen; omega)
    rw [zLR hrw] at NI
    have HNI : Hid _ := NI
    have cu1 : wr.cell? ⟨pa, k, none⟩ = some u0 := cu0
    have fz1 : wr.frozen? ⟨pa, k, none⟩ = false := fz
    have pl1 : pa < wr.heap.size := pl
    obtain ⟨p0, p1⟩ := zAx I.2.1
    have p2 := (Array.getElem?_eq_some_iff.1 I.2.1).1
    have hmk3 := zDK (P := Tryz.prog) 115 39 (.agg #[.int .i64 0, .int .i64 0, .slice none 0 0]) 3 40 Tryz.underlying115 Tryz.infoWay row.length (by omega) (by omega)
    have hne := Ne.symm L.ne
    clear I NI cu0 fz pl hrw
    go_wp2
    go_region_held3 (fun wx => wx.cell? ⟨cb, 0, none⟩ = some (.slice (some ⟨pa, 0, none⟩) c.1.length c.1.length)) (first | (go_keep; done) | (exact zAd (zAf (wr.setCell ⟨pa, k, none⟩ (.slice (some ⟨wr.heap.size, 0, none⟩) row.length row.length)) _).drew (cs1 hne p0) (by simpa using p2))) (fail)
    all_goals
     go_wp2
     go_roundw
     case rel => exact ⟨k + 1, by omega, by go_num, zGI HNI.out (below_drewN (Below.refl _ _) 1)⟩
     case measure => simp [intOf]; omega
   ·have hkn : k = c.1.length := by omega
    subst hkn
    rw [zLS m] at I
    obtain ⟨y0, y1⟩ := zAx I.2.2.2.1
    have y2 := (Array.getElem?_eq_some_iff.1 I.2.2.2.1).1
    have HI : Hid _ := I
    clear I
    go_wp2_with fail
    refine (zFQ _ _ _ _ _ _ _ _ rfl rfl _).mono ?_
    rintro e w' ⟨rfl, rfl⟩
    have hzl : (zCI m 0 c.1).length = c.1.length := zDB m 0 c.1
    have hne0 : ∀ row ∈ zCI m 0 c.1, row ≠ [] := fun row hr e => by
     rw [zGH] at hr
     obtain ⟨r0, hr0, rfl⟩ := List.mem_map.1 hr
     have := HP.out.2.2.1 r0 hr0
     have e2 := congrArg List.length e
     simp at e2
     rw [e2] at this
     simp at this
     omega
    obtain ⟨pc, R0, hpc⟩ := zKt HI.out hzl.symm hne0 (by have := HP.out.1; omega) (zAf wr (.cells #[.slice a c.1.length cap, .slice b c.2.length cp] 37)) (zAy wr _)
    have e4 : (wr.alloc (.cells #[.slice a c.1.length cap, .slice b c.2.length cp] 37)).heap.size = wr.heap.size + 1 := by simp
    have hts := HI.out.2.2.2.2.2.2
    have hws := HI.out.2.2.2.2.2.1.size
    clear HI y0 y1 y2
    generalize wr.alloc (.cells #[.slice a c.1.length cap, .slice b c.2.length cp] 37) = W0 at R0 e4 ⊢
    generalize wr.heap.size = G at R0 e4 hpc hts hws ⊢
    obtain ⟨b0, off0, cc, rfl, hat, hcc⟩ := zIY (H1.out w (Below.refl _ _)) (fun e => by have := HP.out.1; rw [e] at this; simp at this) hm0 HP.out.2.2.1
    have HG : Hid (∀ k, k < c.1.length * m → ((cc (k / m)).way (k % m)).line = (zBZ c m k).1 ∧ ((cc (k / m)).way (k % m)).state = (zBZ c m k).2.1 ∧ ((cc (k / m)).way (k % m)).len = (zBZ c m k).2.2.length ∧ zBh zBC w ((cc (k / m)).way (k % m)).addr (zBZ c m k).2.2 ∧ zBk (zBZ c m k).1 ∧ zBk (zBZ c m k).2.1 ∧ (zBZ c m k).2.2.length ≤ 1048576 ∧ ∃ row, c.1[k / m]? = some row ∧ row[k % m]? = some (zBZ c m k)) := fun k hk => by
     obtain ⟨row, e1, e2⟩ := zGn hm0 HP.out.2.2.1 hk
     obtain ⟨q1, q2, q3, q4, q5, q6⟩ := hcc _ _ row _ e1 e2
     obtain ⟨_, _, aj, cj, -, -, -, -, hrd⟩ := zDj (H1.out w (Below.refl _ _)) e1
     obtain ⟨bj, oj, cs, -, hrdu, -⟩ := zBG hrd e2
     obtain ⟨ad, cpw, -, i1, i2, -⟩ := zAL hrdu
     exact ⟨q1, q2, q3, q6, i1, i2, HP.out.2.2.2 row (List.mem_of_getElem? e1) _ (List.mem_of_getElem? e2), row, e1, e2⟩
    have HA : Hid _ := hat
    clear hcc hat
    go_wp2_with fail
    refine wpIn_wide.1 (zE3 (N := c.1.length * m) (lb := #[.pointer (some ⟨G, 0, none⟩)]) (gf := 120) rfl (enters_of Tryz.func120 (by kernel_rfl) rfl)
     (zEK G b0 off0 c.1.length m cap cc (by have := HP.out.1; omega) (by have := HP.out.2.1; omega) (by have := HP.out.1; omega) hm0) (fun _ => rfl)
     (fun k W => zIt w t pa cb c.1.length G Tf #[.slice (some ⟨b0, off0, none⟩) c.1.length cap, .slice b c.2.length cp] pc (.slice bv c.2.length dv) c.2 (zCI m k c.1) W)
     (fun x k W => False)
     (zJo (by omega)) (fun x => ownFrom_pure _ _) ?hR R0
     (fun k a' W => ∃ B4 B5, W0.heap.size < B4 ∧ W0.heap.size < B5 ∧ W.heap[B4]? = some (.cells #[.int .i64 (k / m : Nat), .int .i64 (k % m : Nat)] 126 (0, 0)) ∧ W.heap[B5]? = some (.cells #[.int .i64 ((cc (k / m)).way (k % m)).line, .int .i64 ((cc (k / m)).way (k % m)).state, .slice ((cc (k / m)).way (k % m)).addr ((cc (k / m)).way (k % m)).len ((cc (k / m)).way (k % m)).cap] 39 (0, 0)) ∧ zIt w t pa cb c.1.length G Tf #[.slice (some ⟨b0, off0, none⟩) c.1.length cap, .slice b c.2.length cp] pc (.slice bv c.2.length dv) c.2 (zCI m k c.1) W ∧
      a' = { tmps := #[.agg #[.slice (some ⟨b0, off0, none⟩) c.1.length cap, .slice b c.2.length cp], .pointer (some ⟨w.heap.size, 0, none⟩), .pointer (some ⟨w.heap.size + 1, 0, none⟩), .pointer (some ⟨cb, 0, none⟩), u4, u5, .pointer (some ⟨B4, 0, none⟩), .pointer (some ⟨B5, 0, none⟩), u8, u9, u10, u11, u12, u13, u14, u15, .pointer (some ⟨w.heap.size, 0, none⟩), .slice (some ⟨b0, off0, none⟩) c.1.length cap, .int .i64 c.1.length, .int .i64 c.1.length, .bool false, u21, u22, u23, u24, u25, u26, u27, u28, u29, u30, u31, .agg #[.slice (some ⟨b0, off0, none⟩) c.1.length cap, .slice b c.2.length cp], .func (.func 120) #[] #[.pointer (some ⟨G, 0, none⟩)], .agg #[.int .i64 (k / m : Nat), .int .i64 (k % m : Nat)], ((cc (k / m)).way (k % m)).agg, undef, undef, undef, undef, undef], defers := [] })
     ?hA ?hassign ?hbody ?hdone ?hstop)
    case hR =>
     rintro k W ⟨g0, g1, g2⟩
     exact ⟨by rw [cell_of_row W _ 0 _ _ (0, 0) g2]; rfl, zFP HA.out g0.2.2.2.2.2.1 hm0⟩
    case hA =>
     rintro k a' ⟨⟩ X Y row' ⟨B4, B5, l4, l5, g4, g5, g0, rfl⟩ hg hr
     exact ⟨B4, B5, l4, l5, zBo (β := Unit) _ _ _ _ () X Y row' g4 hg hr, zBo (β := Unit) _ _ _ _ () X Y row' g5 hg hr, zJo (f := fun k => zCI m k c.1) (B := W0.heap.size) (by omega) k X Y row' g0 hg hr, rfl⟩
    case hassign =>
     rintro k W K hk g0 hlt hK
     gi_wp2
     have z1 := zAf W (.cells #[.int .i64 (k / m : Nat), .int .i64 (k % m : Nat)] 126)
     have z2 := zAf (W.alloc (.cells #[.int .i64 (k / m : Nat), .int .i64 (k % m : Nat)] 126)) (.cells #[.int .i64 ((cc (k / m)).way (k % m)).line, .int .i64 ((cc (k / m)).way (k % m)).state, .slice ((cc (k / m)).way (k % m)).addr ((cc (k / m)).way (k % m)).len ((cc (k / m)).way (k % m)).cap] 39)
     have z3 := zAy (W.alloc (.cells #[.int .i64 (k / m : Nat), .int .i64 (k % m : Nat)] 126)) (.cells #[.int .i64 ((cc (k / m)).way (k % m)).line, .int .i64 ((cc (k / m)).way (k % m)).state, .slice ((cc (k / m)).way (k % m)).addr ((cc (k / m)).way (k % m)).len ((cc (k / m)).way (k % m)).cap] 39)
     rw [zAp] at z3
     exact hK _ _ (Kept.below (zAb z1 z2)) ⟨W.heap.size, W.heap.size + 1, by omega, by omega, zAK _ (zAy _ _), z3, zGJ (zGJ g0 z1) z2, rfl⟩
    case hbody =>
     rintro k a' V hk ⟨B4, B5, l4, l5, g4, g5, g0, rfl⟩ hlt hD hL
     obtain ⟨q1, q2, q3, q5, i1, i2, hdl, row, e1, e2⟩ := HG.out k hk
     rw [q1, q2, q3] at g5
     have hag : ((cc (k / m)).way (k % m)).agg = .agg #[.int .i64 (zBZ c m k).1, .int .i64 (zBZ c m k).2.1, .slice ((cc (k / m)).way (k % m)).addr (zBZ c m k).2.2.length ((cc (k / m)).way (k % m)).cap] := by rw [WCells.agg, q1, q2, q3]
     rw [hag]
     clear hag q1 q2 q3
     generalize ((cc (k / m)).way (k % m)).addr = ad at g5 q5 ⊢
     generalize ((cc (k / m)).way (k % m)).cap = cpw at g5 ⊢
     have hkm : k / m * m + k % m = k := Nat.div_add_mod' k m
     have stp := zKs (m := m) (s := k / m) (j := k % m) HP.out.2.2.1 e1 e2
     rw [hkm] at stp
     have hj : (row.mapIdx fun j u => if k / m * m + j < k then u else zGd)[k % m]? = some (if k / m * m + k % m < k then zBZ c m k else zGd) := by rw [List.getElem?_mapIdx, e2]; rfl
     have hcall := zGG (zIq t pa V) _ (.slice bv c.2.length dv) (zCI m k c.1) (k / m) (k % m) _ _ (zBZ c m k).1 (zBZ c m k).2.1 (zBZ c m k).2.2 ad cpw V g0.1.1 (zE9 e1) hj (by rw [zDB]; omega) (by have := HP.out.2.2.1 row (List.mem_of_getElem? e1); have := HP.out.2.1; simp; omega) i1 i2 (zA7 q5 fun k hk => g0.1.2.2.2.2.2.1.block k hk) hdl
     have hks : k / m < c.1.length := (List.getElem?_eq_some_iff.1 e1).1
     obtain ⟨x0, x1, x2⟩ := zAg g5
     obtain ⟨y0, y1⟩ := zAx g4
     obtain ⟨z0, z1⟩ := zAx g0.1.2.1
     have HC : Hid _ := hcall
     have HX : Hid _ := And.intro stp g0
     clear hcall stp g0 g4 g5 hj e2 i1 i2 q5 hD hL
     gi_wp2
     refine ⟨trivial, rfl, (CallsIn.inRound _ (callsIn_wide.2 HC.out)).mono ?_⟩
     rintro e V1 ⟨rfl, ho, hx⟩
     gi_wp2
     obtain ⟨R1, g2, hl2, hc⟩ := zLT L HX.out.2 hpc hks ho hx
     refine ⟨Kept.chg hc (fun j e => by have e' : j = g2 := e; omega), ?_⟩
     have hst := HX.out.1
     show zIt w t pa cb c.1.length G Tf _ pc _ c.2 (zCI m (k + 1) c.1) V1
     rw [← hst]
     exact R1
    case hdone =>
     rintro W ⟨g0, g1, g2⟩ hK
     rw [zLO HP.out.2.2.1] at g0
     obtain ⟨o1, o2, o3, o4, o5, o6, o7⟩ := g0
     obtain ⟨p0, p1⟩ := zAx o2
     obtain ⟨r0, r1⟩ := zAx o3
     obtain ⟨f0, f1⟩ := zBW o3
     have HO : Hid _ := And.intro o1 (And.intro o3 (And.intro o5 (And.intro o6 hK)))
     clear o1 o2 o3 o4 o5 o6 g1 g2 hK R0 hpc HG HA H1 H2
     go_wp2
     obtain ⟨o1, o3, o5, o6, hK⟩ := HO.out
     obtain ⟨L1, L2, L3, L4, L5, L6, L7, L8⟩ := L
     have hK' : ((W.setCell ⟨w.heap.size + 1, 0, none⟩ (.slice (some ⟨pa, 0, none⟩) c.1.length c.1.length)).setCell ⟨w.heap.size + 1, 1, none⟩ (.slice bv c.2.length dv)).heap[W0.heap.size]? = some (.deferred (some [])) := (heap_setCell_other _ ⟨w.heap.size + 1, 1, none⟩ _ _ (by simp; omega)).trans ((heap_setCell_other W ⟨w.heap.size + 1, 0, none⟩ _ _ (by simp; omega)).trans hK)
     refine ⟨by simp, .inl ⟨_, _, rfl, run_takeDeferred hK', ?_⟩⟩
     have g9 := (World.putObj_heap_other (o := .deferred none) (show w.heap.size + 1 ≠ W0.heap.size by omega)).trans (put2 (a := .slice (some ⟨pa, 0, none⟩) c.1.length c.1.length) (b := .slice bv c.2.length dv) o3)
     obtain ⟨c0, c1⟩ := zBc g9
     have hgr := grownBy_putObj' ((W.setCell ⟨w.heap.size + 1, 0, none⟩ (.slice (some ⟨pa, 0, none⟩) c.1.length c.1.length)).setCell ⟨w.heap.size + 1, 1, none⟩ (.slice bv c.2.length dv)) W0.heap.size (.deferred none)
     have hr9 : ∀ r, some W0.heap.size = some r → ∃ o : Obj, ((W.setCell ⟨w.heap.size + 1, 0, none⟩ (.slice (some ⟨pa, 0, none⟩) c.1.length c.1.length)).setCell ⟨w.heap.size + 1, 1, none⟩ (.slice bv c.2.length dv)).heap[r]? = some o ∧ o.isCells = false := fun r e => by
      cases e
      exact ⟨_, hK', rfl⟩
     have nr : ¬ zIq t pa W (w.heap.size + 1) := fun h => by
      rcases h.1 with h | h <;> omega
     have nt : ¬ Tf (w.heap.size + 1) := fun h => by
      have := (L6 _ h).1
      omega
     refine ⟨.agg #[.slice (some ⟨pa, 0, none⟩) c.1.length c.1.length, .slice bv c.2.length dv], ?_, _, _, _, _, rfl, zCd (zEA (zAl (zAl o1 nr) nr) hgr hr9) (zEA (zAl (zAl o5 nt) nt) hgr hr9) (fun k hk => ?_) (fun k hk => ?_) (fun k hk ht => ?_), ?_⟩
     ·simp [results, Tryz.results69, go_sem, c0, c1]
     ·refine ⟨?_, by have := hk.2; simpa using this⟩
      rcases hk.1 with h | h <;> omega
     ·have := L6 k hk
      exact ⟨by have := this.1; omega, by have := this.2; simp; omega⟩
     ·rcases hk.1 with h | h
      ·exact L7 (h ▸ ht)
      ·have := (L6 k ht).2
       omega
     ·exact (zAq (zAq o6 (by omega)) (by omega)).trans ((Below.refl _ _).grown hgr (by have := (Array.getElem?_eq_some_iff.1 hK').1; omega) (fun k e => by cases e; omega))
    case hstop =>
     rintro x k W hk h
     exact h.elim
end Go.Proofs.YtoihjejenjcokaaGreatDoor
