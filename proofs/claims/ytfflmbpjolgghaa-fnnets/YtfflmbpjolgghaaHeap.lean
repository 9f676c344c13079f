/- Letters put into a heap whose numbers rise: they stay in their order. Conditions: an owned row of letters, a length that a machine can hold. -/
import Derived.Test.YtfflmbpjolgghaaAppGen
import Derived.Test.YtfflmbpjolgghaaSpecFirst
import Derived.Deep.RegionLaw
namespace Go.Proofs.Ytfflmbpjolgghaa
open Go.ChangeShapes Go.WideShapes Go.ChangeAt Go.RowKit
set_option linter.unusedVariables false

/-- So many cells, whatever they hold. -/
def rawR (k : Nat) : Rep (List Value) where
  size := k
  tys := []
  rd _ cs a := cs = a ∧ a.length = k
  own _ _ cs a := cs = a ∧ a.length = k
  rd_len h := by rw [h.1]; exact h.2
  rd_keep h _ := h
  own_rd h := h
  own_mono h _ := h
  own_keep h _ := h
  own_tight h := h
abbrev LetD := Int × List Value
abbrev letR : Rep LetD := prodR intR (rawR 7)
abbrev postR : Rep (List LetD) := slR 88 letR

theorem m_push (a : Addr) (w : World) : (method 227 57 (.pointer (some a)) "Push").run Try.prog w = .ok (103, .pointer (some a)) w := by kernel_rfl
theorem recv1 (a : Addr) (w : World) (s : String) : (receiverAt 57 (.val (.pointer (some a))) false (some s)).run Try.prog w = (loadVar 83 a).run Try.prog w := by kernel_rfl
theorem load1 (pb : Nat) (w : World) (v : Value) (h : w.cell? ⟨pb, 0, none⟩ = some v) : (loadVar 83 ⟨pb, 0, none⟩).run Try.prog w = .ok v w := by
  have h0 : (isAgg 83).run Try.prog w = .ok false w := by kernel_rfl
  unfold loadVar
  simp [Sem.run_bind, h0, go_sem, h]
/-- A value method, called through a pointer that is not nil: what it points to is loaded. -/
theorem meth_val {pb : Nat} {w : World} {name : String} {f : Nat} {v : Value} (hq : (Try.prog.info? 57).bind (fun ti => (ti.methods.find? (·.name == name)).map (fun m => (m.path, m.func))) = some (#[], some (f, false))) (h : w.cell? ⟨pb, 0, none⟩ = some v) :
    (method 227 57 (.pointer (some ⟨pb, 0, none⟩)) name).run Try.prog w = .ok (f, v) w := by
  obtain ⟨ti, hti, hq⟩ := Option.bind_eq_some_iff.1 hq
  obtain ⟨m, hm, hq⟩ := Option.map_eq_some_iff.1 hq
  simp only [Prod.mk.injEq] at hq
  obtain ⟨hp, hf⟩ := hq
  have h1 : (typeInfo 57).run Try.prog w = .ok ti w := by simp [typeInfo, go_sem, hti]
  unfold method
  simp only [Sem.run_bind, h1, Result.andThen_ok, hm]
  simp only [Sem.run_bind, hp, follow, Sem.run_pure, Result.andThen_ok, hf]
  have h2 := recv1 ⟨pb, 0, none⟩ w ((name.splitOn ".").getLastD name)
  rw [load1 pb w v h] at h2
  exact (congrArg (fun r => Result.andThen r (fun a w' => Result.ok (f, a) w')) h2)
theorem m_len (pb : Nat) (w : World) (v : Value) (h : w.cell? ⟨pb, 0, none⟩ = some v) : (method 227 57 (.pointer (some ⟨pb, 0, none⟩)) "Len").run Try.prog w = .ok (67, v) w := meth_val (by kernel_rfl) h
theorem m_less (pb : Nat) (w : World) (v : Value) (h : w.cell? ⟨pb, 0, none⟩ = some v) : (method 227 57 (.pointer (some ⟨pb, 0, none⟩)) "Less").run Try.prog w = .ok (101, v) w := meth_val (by kernel_rfl) h
theorem m_swap (pb : Nat) (w : World) (v : Value) (h : w.cell? ⟨pb, 0, none⟩ = some v) : (method 227 57 (.pointer (some ⟨pb, 0, none⟩)) "Swap").run Try.prog w = .ok (104, v) w := meth_val (by kernel_rfl) h

theorem postLen_any (a : Option Addr) (n cap : Nat) (w : World) (hn : n ≤ maxLen) : Calls Try.prog 67 #[.slice a n cap] w fun e w' => e = .returned (.int .i64 (n : Int)) ∧ w' = w := by
  go_enter Try.func67, Try.ntmps67
  go_wp2
  go_ret
  exact ⟨rfl, rfl⟩

theorem let_rd {w : World} {cs : List Value} {u : LetD} (h : letR.rd w cs u) : cs = .int .i64 u.1 :: u.2 ∧ In64 u.1 ∧ u.2.length = 7 := by
  obtain ⟨c1, c2, rfl, ⟨rfl, i1⟩, rfl, h2⟩ := h
  exact ⟨rfl, i1, h2⟩
set_option maxHeartbeats 1000000 in
theorem postLess_any (a : Option Addr) (ls : List LetD) (cap i j : Nat) (x y : LetD) (w : World) (h : SlRd letR w a ls) (hi : ls[i]? = some x) (hj : ls[j]? = some y) (hm : ls.length ≤ maxLen) :
    Calls Try.prog 101 #[.slice a ls.length cap, .int .i64 (i : Int), .int .i64 (j : Int)] w fun e w' => e = .returned (.bool (decide (x.1 < y.1))) ∧ Below w.heap.size w w' := by
  have hil := (List.getElem?_eq_some_iff.1 hi).1
  have hjl := (List.getElem?_eq_some_iff.1 hj).1
  have hil' : (i : Int) < (ls.length : Int) := by omega
  have hjl' : (j : Int) < (ls.length : Int) := by omega
  obtain ⟨b, off, cs, rfl, hrd, hcell⟩ := slrd_at h hi
  obtain ⟨rfl, -, -⟩ := let_rd hrd
  have x0 := hcell 0 _ rfl
  rw [show off + (i * letR.size + 0) = off + i * 8 from rfl] at x0
  obtain ⟨b', off', cs', e', hrd', hcell'⟩ := slrd_at h hj
  simp only [Option.some.injEq, Addr.mk.injEq, and_true] at e'
  obtain ⟨rfl, rfl⟩ := e'
  obtain ⟨rfl, -, -⟩ := let_rd hrd'
  have y0 := hcell' 0 _ rfl
  rw [show off + (j * letR.size + 0) = off + j * 8 from rfl] at y0
  clear hcell hcell' hrd hrd' h hi hj hm
  obtain ⟨x1, x2⟩ := x
  obtain ⟨y1, y2⟩ := y
  simp only at x0 y0
  go_enter Try.func101, Try.ntmps101
  go_wp2
  go_quiet (fail)
  go_wp2
  go_ret
  exact ⟨rfl, bl_drewN (Below.refl _ _) nq⟩

theorem Try.infoLetter : (Try.prog.info? 88).map (fun i => (i.zero, i.size, i.bytes)) = some (some (.agg #[.int .i64 0, .int .i64 0, .int .i64 0, .int .i64 0, .int .i64 0, .int .i64 0, .slice none 0 0, .int .i64 0]), 8, 80) := by kernel_rfl
set_option maxHeartbeats 1000000 in
/-- All of the step, told ahead: the append's run, and what is owned behind the store. -/
theorem push_step (pb : Nat) (S : Foot) (a : Option Addr) (cap : Nat) (ls : List LetD) (num : Int) (c1 c2 c3 c4 c5 c6 c7 : Value) (w : World) (hp : w.heap[pb]? = some (.cells #[.slice a ls.length cap] 83 (0, 0))) (hS : ¬ S pb) (h : postR.own w S [.slice a ls.length cap] ls) (hm : ls.length ≤ 1000) (hc : ∀ u ∈ [c1, c2, c3, c4, c5, c6, c7], u.oneCell' = true) (hn : In64 num) :
    ∃ v' w2, (∃ g' c', v' = .slice (some ⟨g', 0, none⟩) (ls.length + 1) c') ∧ (Builtin.append_ #[83, 83] 83 #[.slice a ls.length cap, .slice (some ⟨w.heap.size, 0, none⟩) 1 1]).run Try.prog (w.drew.alloc (.cells #[.int .i64 num, c1, c2, c3, c4, c5, c6, c7] 88)) = .ok v' w2 ∧
      w2.cell? ⟨pb, 0, none⟩ = some (.slice a ls.length cap) ∧ w2.frozen? ⟨pb, 0, none⟩ = false ∧ (w2.setCell ⟨pb, 0, none⟩ v').heap[pb]? = some (.cells #[v'] 83 (0, 0)) ∧
      postR.own (w2.setCell ⟨pb, 0, none⟩ v') (fun k => Old w S k ∨ (w.heap.size ≤ k ∧ k < (w2.setCell ⟨pb, 0, none⟩ v').heap.size)) [v'] (ls ++ [(num, [c1, c2, c3, c4, c5, c6, c7])]) ∧ Chg (fun k => Old w S k ∨ k = pb) w (w2.setCell ⟨pb, 0, none⟩ v') := by
  have hpl := (Array.getElem?_eq_some_iff.1 hp).1
  have ho' := h
  obtain ⟨v0, rows0, S0, hv0, hr0, _, _, _⟩ := ho'
  simp only [List.cons.injEq, and_true] at hv0
  subst hv0
  have hrA : (w.drew.alloc (.cells #[.int .i64 num, c1, c2, c3, c4, c5, c6, c7] 88)).ownsRow 0 88 8 (.slice a ls.length cap) ls.length rows0 := orow_keep hr0 fun g hgb => by
    obtain ⟨cur', hh⟩ := row_block hr0 hgb
    have hl := (Array.getElem?_eq_some_iff.1 hh).1
    rw [Below.heap_alloc _ _ _ (show g < w.drew.heap.size from hl)]
    rfl
  have MM : MadeR letR w w.drew [.int .i64 num, c1, c2, c3, c4, c5, c6, c7] (num, [c1, c2, c3, c4, c5, c6, c7]) := ⟨⟨[_], [_, _, _, _, _, _, _], fun _ => False, fun _ => False, rfl, ⟨rfl, hn⟩, ⟨rfl, rfl⟩, fun _ h => h.elim, fun _ h => h.elim, fun _ h _ => h⟩, (Below.refl _ w).drew⟩
  obtain ⟨i0, hi, hz0, hz1, hz2⟩ := info_parts Try.infoLetter
  obtain ⟨v', w2, hrun, hown', hgrow, _, hblk⟩ := run_append_own_at (P := Try.prog) (w.drew.alloc (.cells #[.int .i64 num, c1, c2, c3, c4, c5, c6, c7] 88)) 0 83 83 88 i0 _ 8 80 Try.underlying83 hi hz0 hz1 hz2 rfl (by decide) _ _ _ hrA ⟨w.heap.size, 0, none⟩ 1 1 [.int .i64 num, c1, c2, c3, c4, c5, c6, c7] rfl (cells_news w.drew [.int .i64 num, c1, c2, c3, c4, c5, c6, c7] 88) (by
    intro u hu
    rcases List.mem_cons.1 hu with rfl | hu
    · rfl
    · exact hc u hu) (by unfold maxLen; omega) (by omega) (Nat.zero_le _)
  obtain ⟨NO, NC⟩ := appR_any (e := 88) (R := letR) (by decide) h MM (fun rows hr' => by rw [rows_unique hr' hr0]; exact hown') hgrow (hblk.imp id fun h => ⟨_, h, by simp⟩)
  have nP : ¬ Old w S pb := fun hx => hS hx.1
  have P2 := (NC.block _ hpl nP).trans hp
  have hch : Chg (fun k => Old w S k ∨ k = pb) w (w2.setCell ⟨pb, 0, none⟩ v') := (NC.mono fun k hk => .inl hk).trans ⟨rfl, rfl, rfl, by simp, fun k _ hk => heap_setCell_other w2 ⟨pb, 0, none⟩ k v' (fun e => hk (.inr e))⟩
  refine ⟨v', w2, owns_shape hown', hrun, by rw [cell_of_row w2 pb 0 _ _ (0, 0) P2]; rfl, frozen_of_row w2 pb 0 _ _ P2, heap_setCell_same w2 pb 0 _ _ v' P2, ?_, hch⟩
  refine postR.own_mono (own_setC (own_old NO) ?_) ?_
  · rintro ⟨h | h, _⟩
    · exact nP h
    · omega
  · rintro k ⟨h | h, hl⟩
    · exact .inl h
    · exact .inr ⟨h, by simpa using hl⟩
theorem assert_let (x : Value) (W : World) : (Instr.typeAssert (.iface 88 x) 20 88 false).run Try.prog W = .ok x W := by kernel_rfl
set_option maxRecDepth 20000 in
set_option maxHeartbeats 2000000 in
theorem postPush_any (pb : Nat) (S : Foot) (v : Value) (ls : List LetD) (num : Int) (c1 c2 c3 c4 c5 c6 c7 : Value) (w : World) (hp : w.heap[pb]? = some (.cells #[v] 83 (0, 0))) (hS : ¬ S pb) (h : postR.own w S [v] ls) (hm : ls.length ≤ 1000) (hc : ∀ u ∈ [c1, c2, c3, c4, c5, c6, c7], u.oneCell' = true) (hn : In64 num) :
    Calls Try.prog 103 #[.pointer (some ⟨pb, 0, none⟩), .iface 88 (.agg #[.int .i64 num, c1, c2, c3, c4, c5, c6, c7])] w fun e w' => e = .returned (.tuple #[]) ∧
      ∃ v', w'.heap[pb]? = some (.cells #[v'] 83 (0, 0)) ∧ postR.own w' (fun k => Old w S k ∨ (w.heap.size ≤ k ∧ k < w'.heap.size)) [v'] (ls ++ [(num, [c1, c2, c3, c4, c5, c6, c7])]) ∧ Chg (fun k => Old w S k ∨ k = pb) w w' := by
  obtain ⟨a, cap, rfl⟩ := slown_val h
  obtain ⟨v', w2, ⟨g', c', rfl⟩, hrun, z0, z1, r1, r2, r3⟩ := push_step pb S a cap ls num c1 c2 c3 c4 c5 c6 c7 w hp hS h hm hc hn
  have q0 : w.cell? ⟨pb, 0, none⟩ = some (.slice a ls.length cap) := by rw [cell_of_row w pb 0 _ _ (0, 0) hp]; rfl
  have HR : Hid _ := And.intro r1 (And.intro r2 r3)
  have hpl := (Array.getElem?_eq_some_iff.1 hp).1
  clear r1 r2 r3 h hp hc hn
  have hta : ∀ W, (Instr.typeAssert (.iface 88 (.agg #[.int .i64 num, c1, c2, c3, c4, c5, c6, c7])) 20 88 false).run Try.prog W = .ok (.agg #[.int .i64 num, c1, c2, c3, c4, c5, c6, c7]) W := fun W => assert_let _ W
  go_enter Try.func103, Try.ntmps103
  go_wp2
  go_region_law (first | (refine step_run (by rfl) _ _ _ _ (by rfl) (by rfl) _ _ _ (by rfl) (by rfl) hrun ?_) | (trace_state; fail))
  all_goals
    refine bodyPost_end (v := .tuple #[]) (by simp [results, Try.results103, go_sem]) rfl ⟨rfl, _, HR.out.1, HR.out.2.1, HR.out.2.2⟩
end Go.Proofs.Ytfflmbpjolgghaa
