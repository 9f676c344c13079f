/- A letter that is put into a heap whose numbers rise, with the greatest number so far: it stays at the end. Conditions: an owned row of letters, a length that a machine can hold. -/
import Derived.Test.YtfflmbpjolgghaaHeap
import Derived.LoopN
namespace Go.Proofs.Ytfflmbpjolgghaa
open Go.ChangeShapes Go.WideShapes Go.ChangeAt Go.RowKit
set_option linter.unusedVariables false

set_option maxRecDepth 20000 in
set_option maxHeartbeats 2000000 in
theorem upRise_any (pb : Nat) (a : Option Addr) (ls : List LetD) (cap j : Nat) (x : LetD) (w : World) (hp : w.cell? ⟨pb, 0, none⟩ = some (.slice a ls.length cap)) (h : SlRd letR w a ls) (hm : ls.length ≤ 1000) (hx : ls[j]? = some x) (hr : ∀ i y, i < j → ls[i]? = some y → y.1 < x.1) :
    Calls Try.prog 81 #[.iface 57 (.pointer (some ⟨pb, 0, none⟩)), .int .i64 (j : Int)] w fun e w' => e = .returned (.tuple #[]) ∧ Below w.heap.size w w' := by
  have hjl := (List.getElem?_eq_some_iff.1 hx).1
  by_cases hj : j = 0
  · subst hj
    clear h hx hr
    go_enter Try.func81, Try.ntmps81
    go_wp2
    refine wp_loop_rounds 1 ?_
    rw [rounds_succ]
    go_wp2
    refine bodyPost_end (v := .tuple #[]) (by simp [results, Try.results81, go_sem]) rfl ⟨rfl, Below.refl _ _⟩
  · obtain ⟨i, hi⟩ : ∃ i : Nat, i = (j - 1) / 2 := ⟨_, rfl⟩
    have hij : i < j := by omega
    obtain ⟨y, hy⟩ : ∃ y, ls[i]? = some y := ⟨_, List.getElem?_eq_getElem (by omega)⟩
    have hyx := hr i y hij hy
    have HL := postLess_any a ls cap j i x y w h hx hy (by unfold maxLen; omega)
    have hd : decide (x.1 < y.1) = false := by simp; omega
    rw [hd] at HL
    have hme := m_less pb w _ hp
    have hq : Int.tdiv ((j : Int) - 1) 2 = (i : Int) := by
      rw [Int.tdiv_eq_ediv_of_nonneg (by omega)]
      omega
    have hne : ¬ ((i : Int) = (j : Int)) := by omega
    have hne2 : ((i : Int) == (j : Int)) = false := beq_false_of_ne hne
    have hne3 : ¬ (i = j) := by omega
    clear h hx hr hy hyx hd hi
    go_enter Try.func81, Try.ntmps81
    go_wp2
    refine wp_loop_rounds 1 ?_
    rw [rounds_succ]
    go_wp2_with fail
    refine HL.mono ?_
    rintro e w1 ⟨rfl, b1⟩
    go_wp2
    refine bodyPost_end (v := .tuple #[]) (by simp [results, Try.results81, go_sem]) rfl ⟨rfl, b1⟩

set_option maxRecDepth 20000 in
set_option maxHeartbeats 2000000 in
theorem pushRise_any (pb : Nat) (S : Foot) (v : Value) (ls : List LetD) (num : Int) (c1 c2 c3 c4 c5 c6 c7 : Value) (w : World) (hp : w.heap[pb]? = some (.cells #[v] 83 (0, 0))) (hS : ¬ S pb) (h : postR.own w S [v] ls) (hm : ls.length ≤ 999) (hc : ∀ u ∈ [c1, c2, c3, c4, c5, c6, c7], u.oneCell' = true) (hn : In64 num) (hr : ∀ (i : Nat) (y : LetD), ls[i]? = some y → y.1 < num) :
    Calls Try.prog 69 #[.iface 57 (.pointer (some ⟨pb, 0, none⟩)), .iface 88 (.agg #[.int .i64 num, c1, c2, c3, c4, c5, c6, c7])] w fun e w' => e = .returned (.tuple #[]) ∧
      ∃ v', w'.heap[pb]? = some (.cells #[v'] 83 (0, 0)) ∧ postR.own w' (fun k => Old w S k ∨ (w.heap.size ≤ k ∧ k < w'.heap.size)) [v'] (ls ++ [(num, [c1, c2, c3, c4, c5, c6, c7])]) ∧ Chg (fun k => Old w S k ∨ k = pb) w w' := by
  have HP := postPush_any pb S v ls num c1 c2 c3 c4 c5 c6 c7 w hp hS h (by omega) hc hn
  have hme := m_push ⟨pb, 0, none⟩ w
  have HR : Hid _ := hr
  have hpl := (Array.getElem?_eq_some_iff.1 hp).1
  clear h hp hc hn hr
  go_enter Try.func69, Try.ntmps69
  go_wp2_with fail
  refine HP.mono ?_
  rintro e w1 ⟨rfl, v', r1, r2, r3⟩
  obtain ⟨a, cap, rfl⟩ := slown_val r2
  have q0 : w1.cell? ⟨pb, 0, none⟩ = some (.slice a (ls ++ [(num, [c1, c2, c3, c4, c5, c6, c7])]).length cap) := by rw [cell_of_row w1 pb 0 _ _ (0, 0) r1]; rfl
  have hm1 := m_len pb w1 _ q0
  have HL := postLen_any a (ls ++ [(num, [c1, c2, c3, c4, c5, c6, c7])]).length cap w1 (by simp; unfold maxLen; omega)
  obtain ⟨a', cap', e1, _, _, hsl⟩ := postR.own_rd r2
  simp only [List.cons.injEq, Value.slice.injEq, and_true, true_and] at e1
  obtain ⟨rfl, rfl⟩ := e1
  have HU := upRise_any pb a _ cap ls.length (num, [c1, c2, c3, c4, c5, c6, c7]) w1 q0 hsl (by simp; omega) (by simp) (fun i y hi hy => HR.out i y (by rw [List.getElem?_append_left hi] at hy; exact hy))
  have HX : Hid _ := And.intro r1 (And.intro r2 r3)
  have hln : (ls ++ [(num, [c1, c2, c3, c4, c5, c6, c7])]).length = ls.length + 1 := by simp
  clear r1 r2 r3 hsl HP hme HR
  rw [hln] at hm1 HL HX q0
  have hsub : ((ls.length + 1 : Nat) : Int) - 1 = (ls.length : Int) := by omega
  go_wp2_with fail
  refine HL.mono ?_
  rintro e w2 ⟨rfl, hw⟩
  rw [hw]
  clear hw w2 HL hm1
  go_wp2_with fail
  refine HU.mono ?_
  rintro e w3 ⟨rfl, b3⟩
  have HB : Hid _ := b3
  clear b3 HU q0
  go_wp2
  obtain ⟨r1, r2, r3⟩ := HX.out
  refine bodyPost_end (v := .tuple #[]) (by simp [results, Try.results69, go_sem]) rfl ⟨rfl, _, row_keep HB.out r1, postR.own_mono (postR.own_keep r2 (keeps_below HB.out)) ?_, r3.trans (chg_below HB.out)⟩
  rintro k (h | h)
  · exact .inl h
  · exact .inr ⟨h.1, Nat.lt_of_lt_of_le h.2 HB.out.size⟩
end Go.Proofs.Ytfflmbpjolgghaa
