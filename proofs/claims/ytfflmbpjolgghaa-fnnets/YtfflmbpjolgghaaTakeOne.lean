/- One letter of a post is found by its number, and leaves it. Conditions: a post that is owned, of a length that a machine can hold. -/
import Derived.Test.YtfflmbpjolgghaaTakes
namespace Go.Proofs.Ytfflmbpjolgghaa
open Go.ChangeShapes Go.WideShapes Go.ChangeAt Go.RowKit
set_option linter.unusedVariables false

theorem put7_chg {w : World} {g : Nat} {v0 v1 v2 v3 v4 v5 v6 : Value} : Chg (fun b => b = g) w (((((((w.setCell ⟨g, 0, none⟩ v0).setCell ⟨g, 1, none⟩ v1).setCell ⟨g, 2, none⟩ v2).setCell ⟨g, 3, none⟩ v3).setCell ⟨g, 4, none⟩ v4).setCell ⟨g, 5, none⟩ v5).setCell ⟨g, 6, none⟩ v6) := by
  have one : ∀ (w : World) (o : Nat) (v : Value), Chg (fun b => b = g) w (w.setCell ⟨g, o, none⟩ v) := fun w o v => ⟨rfl, rfl, rfl, by simp, fun j _ hj => heap_setCell_other w ⟨g, o, none⟩ j v hj⟩
  exact ((((((one w 0 v0).trans (one _ 1 v1)).trans (one _ 2 v2)).trans (one _ 3 v3)).trans (one _ 4 v4)).trans (one _ 5 v5)).trans (one _ 6 v6)
set_option maxHeartbeats 1000000 in
theorem take1_any (num k : Int) (p1 p2 p3 p4 p5 p7 : Int) (pa : Option Addr) (pn pc nb : Nat) (w : World) (hn : w.cell? ⟨nb, 0, none⟩ = some (.int .i64 k)) :
    Calls Try.prog 72 #[.agg #[.int .i64 num, .int .i64 p1, .int .i64 p2, .int .i64 p3, .int .i64 p4, .int .i64 p5, .slice pa pn pc, .int .i64 p7], .pointer (some ⟨nb, 0, none⟩)] w fun e w' => e = .returned (.bool (num == k)) ∧ Below w.heap.size w w' := by
  have B := box_below w (.cells #[.int .i64 num, .int .i64 p1, .int .i64 p2, .int .i64 p3, .int .i64 p4, .int .i64 p5, .slice pa pn pc, .int .i64 p7] 88)
  have hl := cell_lt hn
  have hl2 : ¬ nb = w.heap.size := by omega
  go_enter Try.func72, Try.ntmps72
  go_wp2
  go_ret
  exact ⟨rfl, B⟩

set_option maxRecDepth 20000 in
set_option maxHeartbeats 800000 in
theorem indexNum_any (g cap nb k : Nat) (ls : List LetD) (S : Foot) (w : World) (ho : postR.own w S [.slice (some ⟨g, 0, none⟩) ls.length cap] ls) (hn : w.cell? ⟨nb, 0, none⟩ = some (.int .i64 (k : Int))) (hm : ls.length ≤ 1000) (hk : k < ls.length) (hsh : ∀ u ∈ ls, MsgC u.2) (hnum : ∀ (i : Nat) (y : LetD), ls[i]? = some y → y.1 = (i : Int)) :
    Calls Try.prog 71 #[.slice (some ⟨g, 0, none⟩) ls.length cap, .func (.func 72) #[] #[.pointer (some ⟨nb, 0, none⟩)]] w fun e w' => e = .returned (.int .i64 (k : Int)) ∧ Below w.heap.size w w' := by
  have H0 : Hid (∀ W, Below w.heap.size w W → postR.own W S [.slice (some ⟨g, 0, none⟩) ls.length cap] ls) := fun W hb => postR.own_keep ho (keeps_below hb)
  have HN : Hid (∀ W, Below w.heap.size w W → W.cell? ⟨nb, 0, none⟩ = some (.int .i64 (k : Int))) := fun W hb => cell_keep hb hn (cell_lt hn)
  have HH : Hid _ := And.intro hsh hnum
  clear ho hn hsh hnum
  go_enter Try.func71, Try.ntmps71
  go_wp2
  go_loopw [8] (fun i wr => ∃ j : Nat, j ≤ k ∧ i = .int .i64 j ∧ Below w.heap.size w wr) (fun i _ => ls.length - (intOf i).toNat)
  case atStart => exact ⟨0, Nat.zero_le _, rfl, Below.refl _ _⟩
  case round =>
    obtain ⟨j, hj, rfl, BB⟩ := hrel
    have hlt' : (j : Int) < (ls.length : Int) := by omega
    obtain ⟨x, hx⟩ : ∃ x, ls[j]? = some x := ⟨_, List.getElem?_eq_getElem (by omega)⟩
    have hcx := post_cells (H0.out _ BB) hx
    have hxn := HH.out.2 j x hx
    obtain ⟨p1, p2, p3, p4, p5, pa, pn, pc, p7, hxl⟩ := HH.out.1 _ (List.mem_of_getElem? hx)
    obtain ⟨x1, xl⟩ := x
    simp only at hxl hxn
    subst hxl hxn
    have i0 := hcx 0 _ rfl
    have i1 := hcx 1 _ rfl
    have i2 := hcx 2 _ rfl
    have i3 := hcx 3 _ rfl
    have i4 := hcx 4 _ rfl
    have i5 := hcx 5 _ rfl
    have i6 := hcx 6 _ rfl
    have i7 := hcx 7 _ rfl
    rw [Nat.add_zero] at i0
    have HC := take1_any (j : Int) (k : Int) p1 p2 p3 p4 p5 p7 pa pn pc nb wr (HN.out _ BB)
    clear hcx hx
    by_cases he : j = k
    · subst he
      rw [show ((j : Int) == (j : Int)) = true from by simp] at HC
      go_wp2_with fail
      refine HC.mono ?_
      rintro e w2 ⟨rfl, b2⟩
      replace BB := below_step BB b2
      clear b2 i0 i1 i2 i3 i4 i5 i6 i7 HC
      go_wp2
      go_ret
      exact ⟨rfl, BB⟩
    · have he2 : ¬ ((j : Int) = (k : Int)) := by omega
      rw [beq_false_of_ne he2] at HC
      go_wp2_with fail
      refine HC.mono ?_
      rintro e w2 ⟨rfl, b2⟩
      replace BB := below_step BB b2
      clear b2 i0 i1 i2 i3 i4 i5 i6 i7 HC he2
      go_wp2
      go_roundw
      case rel => exact ⟨j + 1, by omega, by go_num, BB⟩
      case measure => simp [intOf]; omega

/-- What 'take' leaves. -/
def TakeP (pb g cap : Nat) (S : Foot) (m : LetD) (ms : List LetD) (w : World) (e : Ending) (w' : World) : Prop :=
  ∃ ls' : List LetD, e = .returned (.agg m.2.toArray) ∧ w'.heap[pb]? = some (.cells #[.slice (some ⟨g, 0, none⟩) ls'.length cap] 83 (0, 0)) ∧
      postR.own w' S [.slice (some ⟨g, 0, none⟩) ls'.length cap] ls' ∧ ls'.Perm ms ∧ HeapL ls' ls'.length ∧ Chg (fun b => b = g ∨ b = pb) w w'
set_option maxRecDepth 20000 in
set_option maxHeartbeats 800000 in
theorem take_any (pb : Nat) (S : Foot) (g cap : Nat) (ls : List LetD) (k : Nat) (x : LetD) (w : World) (hp : w.heap[pb]? = some (.cells #[.slice (some ⟨g, 0, none⟩) ls.length cap] 83 (0, 0))) (hS : ¬ S pb) (hsl : ∀ b, S b → b < w.heap.size) (h : postR.own w S [.slice (some ⟨g, 0, none⟩) ls.length cap] ls)
    (hm : ls.length ≤ 1000) (hsh : ∀ u ∈ ls, MsgC u.2) (hr : Rising ls) (hnum : ∀ (i : Nat) (y : LetD), ls[i]? = some y → y.1 = (i : Int)) (hx : ls[k]? = some x) :
    Calls Try.prog 42 #[.pointer (some ⟨pb, 0, none⟩), .int .i64 (k : Int)] w fun e w' => TakeP pb g cap S x (ls.eraseIdx k) w e w' := by
  have hkl := (List.getElem?_eq_some_iff.1 hx).1
  have hpl := (Array.getElem?_eq_some_iff.1 hp).1
  have hgl := (post_room h).2.2.2
  have X0 := heap_on (.cells #[.int .i64 0, .int .i64 0, .int .i64 0, .int .i64 0, .int .i64 0, .slice none 0 0, .int .i64 0] 27) (heap_at w (.cells #[.int .i64 (k : Int)] 2))
  have X1 := heap_at (w.alloc (.cells #[.int .i64 (k : Int)] 2)) (.cells #[.int .i64 0, .int .i64 0, .int .i64 0, .int .i64 0, .int .i64 0, .slice none 0 0, .int .i64 0] 27)
  rw [alloc_len] at X1
  have B0 := below_step (box_below w (.cells #[.int .i64 (k : Int)] 2)) (box_below _ (.cells #[.int .i64 0, .int .i64 0, .int .i64 0, .int .i64 0, .int .i64 0, .slice none 0 0, .int .i64 0] 27))
  obtain ⟨p1, p2, p3, p4, p5, pa, pn, pc, p7, hxl⟩ := hsh _ (List.mem_of_getElem? hx)
  obtain ⟨xn, xl⟩ := x
  simp only at hxl
  subst hxl
  have hta : ∀ (x : Value) (W : World), (Instr.typeAssert (.iface 88 x) 20 88 false).run Try.prog W = .ok x W := fun x W => assert_let x W
  have hfm : ∀ (a b c d e f g h : Value) (W : World), (Instr.field 88 (.agg #[a, b, c, d, e, f, g, h]) 1).run Try.prog W = .ok (.agg #[b, c, d, e, f, g, h]) W := field_msg
  have hp0 := row_keep B0 hp
  have q0 : ((w.alloc (.cells #[.int .i64 (k : Int)] 2)).alloc (.cells #[.int .i64 0, .int .i64 0, .int .i64 0, .int .i64 0, .int .i64 0, .slice none 0 0, .int .i64 0] 27)).cell? ⟨pb, 0, none⟩ = some (.slice (some ⟨g, 0, none⟩) ls.length cap) := by rw [cell_of_row _ pb 0 _ _ (0, 0) hp0]; rfl
  have n0 : ((w.alloc (.cells #[.int .i64 (k : Int)] 2)).alloc (.cells #[.int .i64 0, .int .i64 0, .int .i64 0, .int .i64 0, .int .i64 0, .slice none 0 0, .int .i64 0] 27)).cell? ⟨w.heap.size, 0, none⟩ = some (.int .i64 (k : Int)) := by rw [cell_of_row _ _ 0 _ _ (0, 0) X0]; rfl
  have sz0 : ((w.alloc (.cells #[.int .i64 (k : Int)] 2)).alloc (.cells #[.int .i64 0, .int .i64 0, .int .i64 0, .int .i64 0, .int .i64 0, .slice none 0 0, .int .i64 0] 27)).heap.size = w.heap.size + 2 := by simp
  have h0 := postR.own_keep h (keeps_below B0)
  have HI := indexNum_any g cap w.heap.size k ls S _ h0 n0 hm hkl hsh hnum
  have HH : Hid _ := And.intro hp0 (And.intro hS (And.intro hsl (And.intro h0 (And.intro hm (And.intro hsh (And.intro hr hx))))))
  have HX : Hid _ := And.intro B0 X1
  clear hp hS hsl h hsh hr hnum hx hm hp0 h0 B0 X1 X0 n0
  go_enter Try.func42, Try.ntmps42
  go_wp2_with fail
  generalize (w.alloc (.cells #[.int .i64 (k : Int)] 2)).alloc (.cells #[.int .i64 0, .int .i64 0, .int .i64 0, .int .i64 0, .int .i64 0, .slice none 0 0, .int .i64 0] 27) = W0 at HI HH HX q0 sz0 ⊢
  refine HI.mono ?_
  rintro e w1 ⟨rfl, b1⟩
  obtain ⟨hp0, hS, hsl, h0, hm, hsh, hr, hx⟩ := HH.out
  obtain ⟨B0, X1⟩ := HX.out
  have HR := heapRemove_any pb S g cap ls k _ w1 (row_keep b1 hp0) hS (postR.own_keep h0 (keeps_below b1)) hm hsh hr hx
  have HB : Hid _ := And.intro (below_step B0 b1) (And.intro (row_keep b1 X1) (And.intro hS (And.intro hsl (post_room h0).2.2.1)))
  have z1 := b1.size
  clear hp0 hS hsl h0 hm hsh hr hx B0 X1 b1 HI q0 HX HH
  go_wp2_with fail
  refine HR.mono ?_
  rintro e w2 ⟨l2, rfl, r1, r2, r3, r4, r5⟩
  obtain ⟨B1, X1, hS, hsl, hSg⟩ := HB.out
  have z2 := r5.size
  have X2 : w2.heap[w.heap.size + 1]? = some (.cells #[.int .i64 0, .int .i64 0, .int .i64 0, .int .i64 0, .int .i64 0, .slice none 0 0, .int .i64 0] 27) := (r5.block _ (by omega) (by omega)).trans X1
  obtain ⟨x0, x1, x2, x3, x4, x5, x6⟩ := cells_7 X2
  obtain ⟨f0, f1, f2, f3, f4, f5, f6⟩ := froz_7 X2
  have HE : Hid _ := And.intro r1 (And.intro r2 (And.intro r3 (And.intro r4 (And.intro r5 X2))))
  clear r1 r2 r3 r4 r5 X2 HR B1 X1 hS hsl hSg
  go_wp2
  obtain ⟨r1, r2, r3, r4, r5, X2⟩ := HE.out
  obtain ⟨B1, X1, hS, hsl, hSg⟩ := HB.out
  obtain ⟨y0, y1, y2, y3, y4, y5, y6⟩ := cells_7 (put_7 (y0 := .int .i64 p1) (y1 := .int .i64 p2) (y2 := .int .i64 p3) (y3 := .int .i64 p4) (y4 := .int .i64 p5) (y5 := .slice pa pn pc) (y6 := .int .i64 p7) X2)
  have c7 := put7_chg (w := w2) (g := w.heap.size + 1) (v0 := .int .i64 p1) (v1 := .int .i64 p2) (v2 := .int .i64 p3) (v3 := .int .i64 p4) (v4 := .int .i64 p5) (v5 := .slice pa pn pc) (v6 := .int .i64 p7)
  have c1 : Chg (fun b => b = g ∨ b = pb ∨ b = w.heap.size + 1) w _ := ((chg_below B1).trans (r5.mono fun b hb => by rcases hb with hb | hb; (exact .inl hb); exact .inr (.inl hb))).trans (c7.mono fun b hb => .inr (.inr hb))
  have k1 := (c7.block pb (by omega) (by omega)).trans r1
  have k2 := own_chg r2 c7 (fun j hj e => by have := hsl j hj; omega)
  refine bodyPost_ret (v := .agg #[.int .i64 p1, .int .i64 p2, .int .i64 p3, .int .i64 p4, .int .i64 p5, .slice pa pn pc, .int .i64 p7]) (by simp [results, Try.results42, go_sem, y0, y1, y2, y3, y4, y5, y6]) rfl ⟨l2, rfl, k1, k2, r3, r4, ⟨c1.os, c1.tape, c1.output, c1.size, fun j hj hn => c1.block j hj (fun hx => ?_)⟩⟩
  rcases hx with hx | hx | hx
  · exact hn (.inl hx)
  · exact hn (.inr hx)
  · omega
end Go.Proofs.Ytfflmbpjolgghaa
