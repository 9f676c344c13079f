/- The least letter of a heap is taken out; one of a rising post is. Conditions: an owned row of letters, of a length that a machine can hold. -/
import Derived.Test.YtfflmbpjolgghaaDowns
namespace Go.Proofs.Ytfflmbpjolgghaa
open Go.ChangeShapes Go.WideShapes Go.ChangeAt Go.RowKit
set_option linter.unusedVariables false

theorem lown_take {α : Type} {R : Rep α} {w : World} : ∀ {xs : List α} {S : Foot} {cs : List Value} (n : Nat), lown R w S cs xs → lown R w S (cs.take (n * R.size)) (xs.take n)
  | [], S, cs, n, h => by
    rw [show cs = [] from h]
    simp [lown]
  | x :: xs, S, cs, 0, h => by simp [lown]
  | x :: xs, S, cs, n + 1, ⟨c1, c2, S1, S2, e, h1, h2, a1, a2, d⟩ => by
    subst e
    have hl := R.rd_len (R.own_rd h1)
    rw [List.take_succ_cons, Nat.add_one_mul, List.take_append, List.take_of_length_le (by omega), show n * R.size + R.size - c1.length = n * R.size by omega]
    exact ⟨c1, _, S1, S2, rfl, h1, lown_take n h2, a1, a2, d⟩
theorem post_take {w : World} {S : Foot} {g cap n : Nat} {ls : List LetD} (h : postR.own w S [.slice (some ⟨g, 0, none⟩) (n + 1) cap] ls) (hl : ls.length = n + 1) : postR.own w S [.slice (some ⟨g, 0, none⟩) n cap] (ls.take n) := by
  obtain ⟨v', rows, S', hv, hr, hg, hs, hlo⟩ := h
  simp only [List.cons.injEq, and_true] at hv
  subst hv
  have hrl := lown_len hlo
  have h8 : letR.size = 8 := rfl
  rw [hl, h8] at hrl
  refine ⟨_, rows.take (n * 8), S', rfl, ?_, hg, hs, lown_take n hlo⟩
  rcases hr.2 with ⟨hx, _⟩ | ⟨g', cap', cur, hx, hb, hh, hc, hm, hsz, ht⟩
  · simp at hx
  · simp only [Value.slice.injEq, Option.some.injEq, Addr.mk.injEq, and_true] at hx
    obtain ⟨rfl, _, rfl⟩ := hx
    rw [hl, h8] at ht
    rw [List.length_take, hl, Nat.min_eq_left (by omega)]
    refine ⟨by simp [h8]; omega, .inr ⟨g, cap, cur, rfl, hb, hh, by omega, hm, hsz, ?_⟩⟩
    rw [← ht, List.take_take, Nat.min_eq_left (by omega)]
    rfl
theorem post_room {w : World} {S : Foot} {g cap n : Nat} {ls : List LetD} (h : postR.own w S [.slice (some ⟨g, 0, none⟩) n cap] ls) : ls.length ≤ cap ∧ cap ≤ maxLen ∧ S g ∧ g < w.heap.size := by
  obtain ⟨v', rows, S', hv, hr, hg, hs, hlo⟩ := h
  simp only [List.cons.injEq, and_true] at hv
  subst hv
  obtain ⟨cur', hh'⟩ := row_block hr rfl
  rcases hr.2 with ⟨hx, _⟩ | ⟨g', cap', cur, hx, hb, hh, hc, hm, hsz, ht⟩
  · simp at hx
  · simp only [Value.slice.injEq, Option.some.injEq, Addr.mk.injEq, and_true] at hx
    obtain ⟨rfl, _, rfl⟩ := hx
    exact ⟨hc, hm, (hg g rfl).1, (Array.getElem?_eq_some_iff.1 hh').1⟩

set_option maxRecDepth 20000 in
set_option maxHeartbeats 4000000 in
theorem postPop_any (pb : Nat) (S : Foot) (g cap n : Nat) (ls : List LetD) (x : LetD) (w : World) (hp : w.heap[pb]? = some (.cells #[.slice (some ⟨g, 0, none⟩) (n + 1) cap] 83 (0, 0))) (hS : ¬ S pb) (h : postR.own w S [.slice (some ⟨g, 0, none⟩) (n + 1) cap] ls) (hl : ls.length = n + 1) (hx : ls[n]? = some x) (hm : n ≤ 1000) (hsh : ∀ u ∈ ls, MsgC u.2) :
    Calls Try.prog 102 #[.pointer (some ⟨pb, 0, none⟩)] w fun e w' => e = .returned (.iface 88 (.agg (.int .i64 x.1 :: x.2).toArray)) ∧ w'.heap[pb]? = some (.cells #[.slice (some ⟨g, 0, none⟩) n cap] 83 (0, 0)) ∧
      postR.own w' S [.slice (some ⟨g, 0, none⟩) n cap] (ls.take n) ∧ Chg (fun b => b = pb) w w' := by
  obtain ⟨r1, r2, r3, r4⟩ := post_room h
  have hnc : n + 1 ≤ cap := by omega
  have hcx := post_cells h hx
  have ht := post_take h hl
  obtain ⟨x1, xl⟩ := x
  obtain ⟨p1, p2, p3, p4, p5, pa, pn, pc, p7, hxl⟩ := hsh _ (List.mem_of_getElem? hx)
  simp only at hxl
  subst hxl
  have i0 := hcx 0 _ rfl
  have i1 := hcx 1 _ rfl
  have i2 := hcx 2 _ rfl
  have i3 := hcx 3 _ rfl
  have i4 := hcx 4 _ rfl
  have i5 := hcx 5 _ rfl
  have i6 := hcx 6 _ rfl
  have i7 := hcx 7 _ rfl
  rw [Nat.add_zero] at i0
  have q0 : w.cell? ⟨pb, 0, none⟩ = some (.slice (some ⟨g, 0, none⟩) (n + 1) cap) := by rw [cell_of_row w pb 0 _ _ (0, 0) hp]; rfl
  have q1 := frozen_of_row w pb 0 _ _ hp
  have hpl := (Array.getElem?_eq_some_iff.1 hp).1
  have hpl2 : ¬ pb = w.heap.size := by omega
  have HH : Hid _ := And.intro hp (And.intro hS ht)
  have hcm : cap ≤ 9223372036854775807 := r2
  have e1 : ((n : Int) + 1 - 1) = (n : Int) := by omega
  clear hcx hp h hx hsh ht r1 r3 hl hS
  go_enter Try.func102, Try.ntmps102
  go_wp2
  go_ret
  obtain ⟨hp, hS, ht⟩ := HH.out
  have hz := heap_setCell_same w pb 0 _ _ (.slice (some ⟨g, 0, none⟩) n cap) hp
  refine ⟨rfl, heap_on _ hz, own_box _ (own_setC ht hS), ?_⟩
  refine Chg.trans (b := w.setCell ⟨pb, 0, none⟩ (.slice (some ⟨g, 0, none⟩) n cap)) ⟨rfl, rfl, rfl, by simp, fun k _ hk => heap_setCell_other w ⟨pb, 0, none⟩ k _ (fun e => hk e)⟩ (chg_below (box_below _ _))

theorem m_pop (a : Addr) (w : World) : (method 227 57 (.pointer (some a)) "Pop").run Try.prog w = .ok (102, .pointer (some a)) w := by kernel_rfl
/-- What is left when m is taken out of a heap. -/
def PopP (pb g cap : Nat) (S : Foot) (m : LetD) (ms : List LetD) (w : World) (e : Ending) (w' : World) : Prop :=
  ∃ ls' : List LetD, e = .returned (.iface 88 (.agg (.int .i64 m.1 :: m.2).toArray)) ∧ w'.heap[pb]? = some (.cells #[.slice (some ⟨g, 0, none⟩) ls'.length cap] 83 (0, 0)) ∧
      postR.own w' S [.slice (some ⟨g, 0, none⟩) ls'.length cap] ls' ∧ ls'.Perm ms ∧ HeapL ls' ls'.length ∧ Chg (fun b => b = g ∨ b = pb) w w'
set_option maxRecDepth 20000 in
set_option maxHeartbeats 4000000 in
theorem heapPop_any (pb : Nat) (S : Foot) (g cap : Nat) (ls ms : List LetD) (m : LetD) (w : World) (hp : w.heap[pb]? = some (.cells #[.slice (some ⟨g, 0, none⟩) ls.length cap] 83 (0, 0))) (hS : ¬ S pb) (h : postR.own w S [.slice (some ⟨g, 0, none⟩) ls.length cap] ls)
    (hm : ls.length ≤ 1000) (hsh : ∀ u ∈ ls, MsgC u.2) (hr : Rising (m :: ms)) (hpm : ls.Perm (m :: ms)) (hh : HeapL ls ls.length) :
    Calls Try.prog 68 #[.iface 57 (.pointer (some ⟨pb, 0, none⟩))] w fun e w' => PopP pb g cap S m ms w e w' := by
  obtain ⟨n, hn⟩ : ∃ n, ls.length = n + 1 := ⟨ms.length, by simpa using hpm.length_eq⟩
  obtain ⟨y, hy⟩ : ∃ y, ls[n]? = some y := ⟨_, List.getElem?_eq_getElem (by omega)⟩
  have hx := heap_first hr hpm hh
  have hgS := (post_room h).2.2.1
  have hg : g ≠ pb := fun e => hS (by rw [← e]; exact hgS)
  have q0 : w.cell? ⟨pb, 0, none⟩ = some (.slice (some ⟨g, 0, none⟩) ls.length cap) := by rw [cell_of_row w pb 0 _ _ (0, 0) hp]; rfl
  have hme := m_len pb w _ q0
  have hms := m_swap pb w _ q0
  have HL := postLen_any (some ⟨g, 0, none⟩) ls.length cap w (by unfold maxLen; omega)
  have HW := postSwap_any S g cap 0 n ls m y w h hx hy hm hsh
  have HX : HeapX (keyAt (swapL ls 0 n m y)) n 0 := by
    by_cases h0 : n = 0
    · subst h0
      exact ⟨fun c _ hc => by omega, fun c _ hc => by omega⟩
    · refine heap_put (by rw [← hn]; exact hh) (by omega) ?_ (fun c h1 h2 => key_congr (swap_else h1 (by omega))) (fun h => by omega)
      rw [key_of (swap_i hx hy), key_of hy]
  have HH : Hid _ := And.intro hp (And.intro hS (And.intro hsh (And.intro hpm (And.intro hx (And.intro hy (And.intro hg (And.intro hn HX)))))))
  have hn1 : n + 1 ≤ 1000 := by omega
  rw [hn] at HL HW hme hms q0
  clear hp hS h hsh hr hpm hh hy hx hgS hg HX hm hn
  have e1 : (((n + 1 : Nat) : Int) - 1) = (n : Int) := by omega
  go_enter Try.func68, Try.ntmps68
  go_wp2_with fail
  refine HL.mono ?_
  rintro e w1 ⟨rfl, hw⟩
  rw [hw]
  clear hw w1 HL hme
  go_wp2_with fail
  refine HW.mono ?_
  rintro e w2 ⟨rfl, ow, ch⟩
  obtain ⟨hp, hS, hsh, hpm, hx, hy, hg, hn, HX⟩ := HH.out
  have hp2 : w2.heap[pb]? = some (.cells #[.slice (some ⟨g, 0, none⟩) (swapL ls 0 n m y).length cap] 83 (0, 0)) := by
    rw [swap_len]
    exact (ch.block pb (Array.getElem?_eq_some_iff.1 hp).1 (fun e => hg e.symm)).trans hp
  have HD := down_any pb S g cap 0 n (swapL ls 0 n m y) w2 hp2 hg (by rw [swap_len, hn]; exact ow) (Nat.zero_le _) (by rw [swap_len]; omega) (by rw [swap_len]; omega) (fun u hu => hsh u ((swap_perm hx hy).mem_iff.1 hu)) HX
  have HC : Hid _ := ch
  clear hp hS hsh hpm hx hy hg hn HX hp2 ow ch HW hms q0
  go_wp2_with fail
  refine HD.mono ?_
  rintro e w3 ⟨m3, b3, rfl, d1, d2, d3, d4, d5, _, d7⟩
  obtain ⟨hp, hS, hsh, hpm, hx, hy, hg, hn, HX⟩ := HH.out
  have hl3 : m3.length = n + 1 := by rw [d3.length_eq, swap_len, hn]
  have hat : m3[n]? = some m := (d5 n (Nat.le_refl _)).trans (swap_j hy)
  have hpp : m3.Perm (m :: ms) := (d3.trans (swap_perm hx hy)).trans hpm
  rw [hl3] at d1 d2
  have HP := postPop_any pb S g cap n m3 m w3 d1 hS d2 hl3 hat (by omega) (fun u hu => hsh u ((d3.trans (swap_perm hx hy)).mem_iff.1 hu))
  have hme := m_pop ⟨pb, 0, none⟩ w3
  have HE : Hid _ := And.intro hl3 (And.intro hat (And.intro hpp (And.intro d4 (HC.out.trans d7))))
  clear hp hS hsh hpm hx hy hg hn HX d1 d2 d3 d4 d5 d7 hl3 hat hpp HD HC HH
  go_wp2_with fail
  refine HP.mono ?_
  rintro e w4 ⟨rfl, f1, f2, f3⟩
  have HF : Hid _ := And.intro f1 (And.intro f2 f3)
  clear f1 f2 f3 HP hme
  go_wp2
  go_ret
  obtain ⟨hl3, hat, hpp, d4, c1⟩ := HE.out
  obtain ⟨f1, f2, f3⟩ := HF.out
  have htl : (m3.take n).length = n := by rw [List.length_take]; omega
  refine ⟨m3.take n, rfl, by rw [htl]; exact f1, by rw [htl]; exact f2, perm_cut hpp hl3 hat, by rw [htl]; exact heap_cut d4 (by omega), (c1.mono fun k hk => .inl hk).trans (f3.mono fun k hk => .inr hk)⟩
end Go.Proofs.Ytfflmbpjolgghaa
