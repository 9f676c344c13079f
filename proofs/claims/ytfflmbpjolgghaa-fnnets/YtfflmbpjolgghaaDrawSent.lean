/- The draws of a net and a letter, of a net and a number: they read as some, and nothing that was there turns. Conditions: the bytes are at most 2^61. -/
import Derived.Test.YtfflmbpjolgghaaDrawNet2
namespace Go.Proofs.Ytfflmbpjolgghaa
open Go.ChangeShapes Go.WideShapes Go.ChangeAt Go.RowKit
set_option linter.unusedVariables false

def SentP (w : World) (e : Ending) (w' : World) : Prop :=
  ∃ xs au cu u av cv, e = .returned (.tuple #[.slice au xs.length cu, .agg #[.int .i64 u.1, .int .i64 u.2.1, .int .i64 u.2.2.1, .int .i64 u.2.2.2.1, .int .i64 u.2.2.2.2.1, .slice av u.2.2.2.2.2.1.length cv, .int .i64 u.2.2.2.2.2.2]]) ∧ xs.length ≤ 61 ∧ (∀ v ∈ xs, v.2.2.2.2.2.1.length ≤ 3) ∧ u.2.2.2.2.2.1.length ≤ 3 ∧ In7 u ∧ SlRd msgR w' au xs ∧ SlRd intR w' av u.2.2.2.2.2.1 ∧ Below w.heap.size w w'
def FirstP (w : World) (e : Ending) (w' : World) : Prop :=
  ∃ xs au cu, ∃ k : Int, e = .returned (.tuple #[.slice au xs.length cu, .int .i64 k]) ∧ xs.length ≤ 61 ∧ (∀ v ∈ xs, v.2.2.2.2.2.1.length ≤ 3) ∧ -1 ≤ k ∧ k ≤ 10 ∧ (xs.length ≤ cu ∧ cu ≤ maxLen) ∧ SlRd msgR w' au xs ∧ Below w.heap.size w w'
theorem own_cap {w : World} {S : Foot} {a : Option Addr} {cap : Nat} {xs : List MsgD} (h : msgsR.own w S [.slice a xs.length cap] xs) : xs.length ≤ cap ∧ cap ≤ maxLen := by
  obtain ⟨a', cap', e, h1, h2, _⟩ := msgsR.own_rd h
  simp only [List.cons.injEq, Value.slice.injEq, and_true, true_and] at e
  rw [e.2]
  exact ⟨h1, h2⟩
theorem row8_box {w : World} {a : Option Addr} {len : Nat} {zs : List Int} (h : Row8 w a len zs) (o : Obj) : Row8 (w.alloc o) a len zs := row8_below h (box_below w o)

set_option maxRecDepth 8000 in
set_option maxHeartbeats 2000000 in
theorem drawSent_any (a : Option Addr) (len cap : Nat) (zs : List Int) (w : World) (hr : Row8 w a len zs) :
    Calls Try.prog 10 #[.slice a len cap] w fun e w' => SentP w e w' := by
  have X := heap_at w (.cells #[.int .i64 0, .int .i64 0, .int .i64 0, .int .i64 0, .int .i64 0, .slice none 0 0, .int .i64 0] 27)
  have B := box_below w (.cells #[.int .i64 0, .int .i64 0, .int .i64 0, .int .i64 0, .int .i64 0, .slice none 0 0, .int .i64 0] 27)
  have hr0 := row8_box hr (.cells #[.int .i64 0, .int .i64 0, .int .i64 0, .int .i64 0, .int .i64 0, .slice none 0 0, .int .i64 0] 27)
  have e0 : (w.alloc (.cells #[.int .i64 0, .int .i64 0, .int .i64 0, .int .i64 0, .int .i64 0, .slice none 0 0, .int .i64 0] 27)).heap.size ≥ w.heap.size + 1 := by simp
  go_enter Try.func10, Try.ntmps10
  go_wp2_with fail
  generalize w.alloc (.cells #[.int .i64 0, .int .i64 0, .int .i64 0, .int .i64 0, .int .i64 0, .slice none 0 0, .int .i64 0] 27) = W0 at X B hr0 e0 ⊢
  refine (l1New_any _ _ _ zs _ hr0).mono ?_
  rintro e w1 ⟨rfl, hc1, hb1⟩
  replace X := row_keep hb1 X
  have B1 := below_step B hb1
  have z1 := hb1.size
  have hcl := cur_lt hc1
  have HB : Hid _ := B1
  have HX : Hid _ := X
  generalize hgg : W0.heap.size = gg at hc1 e0 z1 hcl ⊢
  clear hb1 hr0 hr B B1 X hgg
  go_wp2_with fail
  refine (l7Draw_any gg gg w1 hc1).mono ?_
  rintro e w2 ⟨xs, au, cu, hi, rfl, hx61, DN⟩
  have hc2 := DN.cur
  have HN : Hid _ := DN
  clear DN hc1
  go_wp2_with fail
  refine (l7DrawMsg_any gg gg w2 hc2).mono ?_
  rintro e w3 ⟨u, av, cv, rfl, hdl, DR⟩
  obtain ⟨vq, eq, i0, i1, i2, i3, i4, i6, -⟩ := msg_own DR.own
  have N3 := dn_step HN.out DR.chg DR.cur
  have X3 : w3.heap[w.heap.size]? = some (.cells #[.int .i64 0, .int .i64 0, .int .i64 0, .int .i64 0, .int .i64 0, .slice none 0 0, .int .i64 0] 27) := (N3.chg.block _ (by omega) (by omega)).trans HX.out
  have B3 : Below w.heap.size w w3 := N3.chg.below HB.out (fun k hk => by omega) (by omega)
  obtain ⟨x0, x1, x2, x3, x4, x5, x6⟩ := cells_7 X3
  obtain ⟨f0, f1, f2, f3, f4, f5, f6⟩ := froz_7 X3
  have hc3 := DR.chg.size
  have hc4 := HN.out.chg.size
  have HE : Hid _ := And.intro DR (And.intro N3 (And.intro X3 (And.intro B3 (And.intro i0 (And.intro i1 (And.intro i2 (And.intro i3 (And.intro i4 i6))))))))
  clear DR N3 X3 B3 eq i0 i1 i2 i3 i4 i6 HN HX HB hc2
  go_wp2
  obtain ⟨DR, N3, X3, B3, i0, i1, i2, i3, i4, i6⟩ := HE.out
  obtain ⟨r0, r1, r2, r3, r4, r5, r6⟩ := cells_7 (put_7 (y0 := .int .i64 u.1) (y1 := .int .i64 u.2.1) (y2 := .int .i64 u.2.2.1) (y3 := .int .i64 u.2.2.2.1) (y4 := .int .i64 u.2.2.2.2.1) (y5 := .slice av u.2.2.2.2.2.1.length cv) (y6 := .int .i64 u.2.2.2.2.2.2) X3)
  have c7 := put7_chg (w := w3) (g := w.heap.size) (v0 := .int .i64 u.1) (v1 := .int .i64 u.2.1) (v2 := .int .i64 u.2.2.1) (v3 := .int .i64 u.2.2.2.1) (v4 := .int .i64 u.2.2.2.2.1) (v5 := .slice av u.2.2.2.2.2.1.length cv) (v6 := .int .i64 u.2.2.2.2.2.2)
  have k1 := own_chg N3.own c7 (fun j hj e => by have := hj.1; omega)
  have k2 := own_chg DR.own c7 (fun j hj e => by have := hj.1; omega)
  have k3 := c7.below B3 (fun j hj => by omega) (by omega)
  refine bodyPost_ret (v := .tuple #[.slice au xs.length cu, .agg #[.int .i64 u.1, .int .i64 u.2.1, .int .i64 u.2.2.1, .int .i64 u.2.2.2.1, .int .i64 u.2.2.2.2.1, .slice av u.2.2.2.2.2.1.length cv, .int .i64 u.2.2.2.2.2.2]]) (by simp [results, Try.results10, go_sem, r0, r1, r2, r3, r4, r5, r6]) rfl ⟨xs, au, cu, u, av, cv, rfl, hx61, N3.dl, hdl, ⟨i0, i1, i2, i3, i4, i6⟩, msgs_rd k1, ints_rd7 (msg_intsd (u := u) k2), k3⟩

set_option maxRecDepth 8000 in
set_option maxHeartbeats 2000000 in
theorem drawFirst_any (a : Option Addr) (len cap : Nat) (zs : List Int) (w : World) (hr : Row8 w a len zs) :
    Calls Try.prog 21 #[.slice a len cap] w fun e w' => FirstP w e w' := by
  go_enter Try.func21, Try.ntmps21
  go_wp2_with fail
  refine (l1New_any _ _ _ zs _ hr).mono ?_
  rintro e w1 ⟨rfl, hc1, hb1⟩
  have z1 := hb1.size
  have hcl := cur_lt hc1
  have HB : Hid _ := hb1
  generalize hgg : w.heap.size = gg at hc1 z1 hcl ⊢
  have hgg2 : w.heap.size ≤ gg := by omega
  have HG : Hid _ := hgg
  clear hb1 hr hgg
  go_wp2_with fail
  refine (l7Draw_any gg gg w1 hc1).mono ?_
  rintro e w2 ⟨xs, au, cu, hi, rfl, hx61, DN⟩
  have hc2 := DN.cur
  have HN : Hid _ := DN
  clear DN hc1
  go_wp2_with fail
  refine (l1From_small gg gg (-1) 10 w2 hc2 (by omega) (by omega) (by omega) (by omega)).mono ?_
  rintro e w3 ⟨k, rfl, k0, k1, hc3, g3⟩
  have N3 := dn_grown HN.out g3 hc3
  have HE : Hid _ := N3
  clear N3 g3 hc3 hc2 HN
  go_wp2
  go_ret2
  exact ⟨xs, au, cu, k, rfl, hx61, HE.out.dl, k0, k1, own_cap HE.out.own, msgs_rd HE.out.own, HE.out.chg.below HB.out (fun j hj => by omega) (by have := HB.out.size; omega)⟩

set_option maxHeartbeats 1000000 in
theorem drawTaken_any (a : Option Addr) (len cap : Nat) (zs : List Int) (w : World) (hr : Row8 w a len zs) :
    Calls Try.prog 12 #[.slice a len cap] w fun e w' => FirstP w e w' := by
  have H := drawFirst_any a len cap zs w hr
  clear hr
  go_enter Try.func12, Try.ntmps12
  go_wp2_with fail
  refine H.mono ?_
  rintro e w1 ⟨xs, au, cu, k, rfl, h1⟩
  have HE : Hid _ := h1
  clear h1 H
  go_wp2
  go_ret2
  exact ⟨xs, au, cu, k, rfl, HE.out⟩
end Go.Proofs.Ytfflmbpjolgghaa
