/- One letter leaves a post whose numbers rise. Conditions: a post that is owned, of a length that a machine can hold. -/
import Derived.Test.YtfflmbpjolgghaaListOf
namespace Go.Proofs.Ytfflmbpjolgghaa
open Go.ChangeShapes Go.WideShapes Go.ChangeAt Go.RowKit
set_option linter.unusedVariables false

theorem rise_take {ls : List LetD} (h : Rising ls) (n : Nat) : Rising (ls.take n) := List.Pairwise.take h
theorem rise_lt {ls : List LetD} (h : Rising ls) {i j : Nat} {x y : LetD} (hx : ls[i]? = some x) (hy : ls[j]? = some y) (hij : i < j) : x.1 < y.1 := by
  obtain ⟨h1, rfl⟩ := List.getElem?_eq_some_iff.1 hx
  obtain ⟨h2, rfl⟩ := List.getElem?_eq_some_iff.1 hy
  exact List.pairwise_iff_getElem.1 h i j h1 h2 hij
theorem erase_perm {β : Type} {ls : List β} {k : Nat} {x : β} (hx : ls[k]? = some x) : ls.Perm (x :: ls.eraseIdx k) := by
  obtain ⟨h1, rfl⟩ := List.getElem?_eq_some_iff.1 hx
  rw [List.eraseIdx_eq_take_drop_succ]
  have e : ls.Perm (ls.take k ++ ls[k] :: ls.drop (k + 1)) := by rw [← List.drop_eq_getElem_cons h1, List.take_append_drop]
  exact e.trans List.perm_middle
theorem erase_last {β : Type} {ls : List β} {n : Nat} (h : ls.length = n + 1) : ls.eraseIdx n = ls.take n := by
  rw [List.eraseIdx_eq_take_drop_succ, List.drop_of_length_le (by omega), List.append_nil]

set_option maxRecDepth 20000 in
set_option maxHeartbeats 8000000 in
theorem heapRemove_any (pb : Nat) (S : Foot) (g cap : Nat) (ls : List LetD) (k : Nat) (x : LetD) (w : World) (hp : w.heap[pb]? = some (.cells #[.slice (some ⟨g, 0, none⟩) ls.length cap] 83 (0, 0))) (hS : ¬ S pb) (h : postR.own w S [.slice (some ⟨g, 0, none⟩) ls.length cap] ls)
    (hm : ls.length ≤ 1000) (hsh : ∀ u ∈ ls, MsgC u.2) (hr : Rising ls) (hx : ls[k]? = some x) :
    Calls Try.prog 73 #[.iface 57 (.pointer (some ⟨pb, 0, none⟩)), .int .i64 (k : Int)] w fun e w' => PopP pb g cap S x (ls.eraseIdx k) w e w' := by
  have hkl := (List.getElem?_eq_some_iff.1 hx).1
  obtain ⟨n, hn⟩ : ∃ n, ls.length = n + 1 := ⟨ls.length - 1, by omega⟩
  have hgS := (post_room h).2.2.1
  have hg : g ≠ pb := fun e => hS (by rw [← e]; exact hgS)
  have q0 : w.cell? ⟨pb, 0, none⟩ = some (.slice (some ⟨g, 0, none⟩) ls.length cap) := by rw [cell_of_row w pb 0 _ _ (0, 0) hp]; rfl
  have hme := m_len pb w _ q0
  have HL := postLen_any (some ⟨g, 0, none⟩) ls.length cap w (by unfold maxLen; omega)
  have e1 : (((n + 1 : Nat) : Int) - 1) = (n : Int) := by omega
  by_cases hk : k = n
  · subst hk
    rw [hn] at hp h
    have HP := postPop_any pb S g cap k ls x w hp hS h hn hx (by omega) hsh
    have hmp := m_pop ⟨pb, 0, none⟩ w
    have HH : Hid _ := And.intro hn hr
    rw [hn] at HL hme q0
    have hk1 : k + 1 ≤ 1000 := by omega
    clear hp hS h hsh hr hx hgS hg hm hn hkl
    go_enter Try.func73, Try.ntmps73
    go_wp2_with fail
    refine HL.mono ?_
    rintro e w1 ⟨rfl, hw⟩
    rw [hw]
    clear hw w1 HL hme q0
    go_wp2_with fail
    refine HP.mono ?_
    rintro e w4 ⟨rfl, f1, f2, f3⟩
    have HF : Hid _ := And.intro f1 (And.intro f2 f3)
    clear f1 f2 f3 HP hmp
    go_wp2
    go_ret
    obtain ⟨hn, hr⟩ := HH.out
    obtain ⟨f1, f2, f3⟩ := HF.out
    have htl : (ls.take k).length = k := by rw [List.length_take]; omega
    refine ⟨ls.take k, rfl, by rw [htl]; exact f1, by rw [htl]; exact f2, by rw [erase_last hn], rising_heap (rise_take hr k), f3.mono fun k hk => .inr hk⟩
  · have hkn : k < n := by omega
    obtain ⟨y, hy⟩ : ∃ y, ls[n]? = some y := ⟨_, List.getElem?_eq_getElem (by omega)⟩
    have hms := m_swap pb w _ q0
    have HW := postSwap_any S g cap k n ls x y w h hx hy hm hsh
    have HX : HeapX (keyAt (swapL ls k n x y)) n k := by
      refine heap_put (by rw [← hn]; exact rising_heap hr) hkn ?_ (fun c h1 h2 => key_congr (swap_else h1 (by omega))) (fun h0 => ?_)
      · rw [key_of (swap_i hx hy), key_of hy]
      · obtain ⟨z, hz⟩ : ∃ z, ls[(k - 1) / 2]? = some z := ⟨_, List.getElem?_eq_getElem (by omega)⟩
        rw [key_of hz, key_of hy]
        exact Int.le_of_lt (rise_lt hr hz hy (by omega))
    have HH : Hid _ := And.intro hp (And.intro hS (And.intro hsh (And.intro hr (And.intro hx (And.intro hy (And.intro hg (And.intro hn HX)))))))
    have hn1 : n + 1 ≤ 1000 := by omega
    have hne : ((n : Int) != (k : Int)) = true := by simp; omega
    have hne2 : ¬ ((n : Int) = (k : Int)) := by omega
    have hne3 : ((n : Int) == (k : Int)) = false := beq_false_of_ne hne2
    rw [hn] at HL HW hme hms q0
    clear hp hS h hsh hr hy hx hgS hg HX hm hn hkl
    go_enter Try.func73, Try.ntmps73
    go_wp2_with fail
    refine HL.mono ?_
    rintro e w1 ⟨rfl, hw⟩
    rw [hw]
    clear hw w1 HL hme
    go_wp2_with fail
    refine HW.mono ?_
    rintro e w2 ⟨rfl, ow, ch⟩
    obtain ⟨hp, hS, hsh, hr, hx, hy, hg, hn, HX⟩ := HH.out
    have hp2 : w2.heap[pb]? = some (.cells #[.slice (some ⟨g, 0, none⟩) (swapL ls k n x y).length cap] 83 (0, 0)) := by
      rw [swap_len]
      exact (ch.block pb (Array.getElem?_eq_some_iff.1 hp).1 (fun e => hg e.symm)).trans hp
    have HD := down_any pb S g cap k n (swapL ls k n x y) w2 hp2 hg (by rw [swap_len, hn]; exact ow) (by omega) (by rw [swap_len]; omega) (by rw [swap_len]; omega) (fun u hu => hsh u ((swap_perm hx hy).mem_iff.1 hu)) HX
    have HC : Hid _ := ch
    clear hp hS hsh hr hx hy hg hn HX hp2 ow ch HW hms q0
    go_wp2_with fail
    refine HD.mono ?_
    rintro e w3 ⟨m3, b3, rfl, d1, d2, d3, d4, d5, d6, d7⟩
    obtain ⟨hp, hS, hsh, hr, hx, hy, hg, hn, HX⟩ := HH.out
    have hl3 : m3.length = n + 1 := by rw [d3.length_eq, swap_len, hn]
    have hat : m3[n]? = some x := (d5 n (Nat.le_refl _)).trans (swap_j hy)
    have hpp : m3.Perm (x :: ls.eraseIdx k) := (d3.trans (swap_perm hx hy)).trans (erase_perm hx)
    have hsh3 : ∀ u ∈ m3, MsgC u.2 := fun u hu => hsh u ((d3.trans (swap_perm hx hy)).mem_iff.1 hu)
    cases b3
    · have hm3 := d6 rfl
      have hky : m3[k]? = some y := by rw [hm3]; exact swap_i hx hy
      have hlow : ∀ i z, i < k → m3[i]? = some z → z.1 < y.1 := fun i z hi hz => by
        rw [hm3, swap_else (by omega) (by omega)] at hz
        exact rise_lt hr hz hy (by omega)
      have q1 : w3.cell? ⟨pb, 0, none⟩ = some (.slice (some ⟨g, 0, none⟩) m3.length cap) := by rw [cell_of_row w3 pb 0 _ _ (0, 0) d1]; rfl
      obtain ⟨av, cv, ev, _, _, hsl⟩ := postR.own_rd d2
      simp only [List.cons.injEq, Value.slice.injEq, and_true, true_and] at ev
      obtain ⟨rfl, rfl⟩ := ev
      have HU := upRise_any pb (some ⟨g, 0, none⟩) m3 cap k y w3 q1 hsl (by omega) hky hlow
      rw [hl3] at d1 d2
      have HE : Hid _ := And.intro hl3 (And.intro hat (And.intro hpp (And.intro d4 (And.intro (HC.out.trans d7) (And.intro d1 (And.intro d2 (And.intro hS hsh3)))))))
      clear hp hS hsh hr hx hy hg hn HX d1 d2 d3 d4 d5 d6 d7 hl3 hat hpp HD HC HH hsh3 hm3 hky hlow q1 hsl
      go_wp2_with fail
      refine HU.mono ?_
      rintro e w4 ⟨rfl, b4⟩
      obtain ⟨hl3, hat, hpp, d4, c1, d1, d2, hS, hsh3⟩ := HE.out
      have HP := postPop_any pb S g cap n m3 x w4 (row_keep b4 d1) hS (postR.own_keep d2 (keeps_below b4)) hl3 hat (by omega) hsh3
      have hmp := m_pop ⟨pb, 0, none⟩ w4
      have HE2 : Hid _ := c1.trans (chg_below b4)
      clear hl3 hat hpp d4 c1 d1 d2 hS hsh3 b4 HU
      go_wp2_with fail
      refine HP.mono ?_
      rintro e w5 ⟨rfl, f1, f2, f3⟩
      have HF : Hid _ := And.intro f1 (And.intro f2 f3)
      clear f1 f2 f3 HP hmp
      go_wp2
      go_ret
      obtain ⟨hl3, hat, hpp, d4, -⟩ := HE.out
      obtain ⟨f1, f2, f3⟩ := HF.out
      have htl : (m3.take n).length = n := by rw [List.length_take]; omega
      refine ⟨m3.take n, rfl, by rw [htl]; exact f1, by rw [htl]; exact f2, perm_cut hpp hl3 hat, by rw [htl]; exact heap_cut d4 (by omega), (HE2.out.mono fun k hk => .inl hk).trans (f3.mono fun k hk => .inr hk)⟩
    · rw [hl3] at d1 d2
      have HP := postPop_any pb S g cap n m3 x w3 d1 hS d2 hl3 hat (by omega) hsh3
      have hmp := m_pop ⟨pb, 0, none⟩ w3
      have HE : Hid _ := And.intro hl3 (And.intro hat (And.intro hpp (And.intro d4 (HC.out.trans d7))))
      clear hp hS hsh hr hx hy hg hn HX d1 d2 d3 d4 d5 d6 d7 hl3 hat hpp HD HC HH hsh3
      go_wp2_with fail
      refine HP.mono ?_
      rintro e w5 ⟨rfl, f1, f2, f3⟩
      have HF : Hid _ := And.intro f1 (And.intro f2 f3)
      clear f1 f2 f3 HP hmp
      go_wp2
      go_ret
      obtain ⟨hl3, hat, hpp, d4, c1⟩ := HE.out
      obtain ⟨f1, f2, f3⟩ := HF.out
      have htl : (m3.take n).length = n := by rw [List.length_take]; omega
      refine ⟨m3.take n, rfl, by rw [htl]; exact f1, by rw [htl]; exact f2, perm_cut hpp hl3 hat, by rw [htl]; exact heap_cut d4 (by omega), (c1.mono fun k hk => .inl hk).trans (f3.mono fun k hk => .inr hk)⟩
end Go.Proofs.Ytfflmbpjolgghaa
