/- A letter is put into a post whose numbers rise, as a copy. Conditions: an owned row of letters, lengths that a machine can hold. -/
import Derived.Test.YtfflmbpjolgghaaPops
import Derived.Test.YtfflmbpjolgghaaMsgCopied
import Derived.Deep.RegionWith
namespace Go.Proofs.Ytfflmbpjolgghaa
open Go.ChangeShapes Go.WideShapes Go.ChangeAt Go.RowKit
set_option linter.unusedVariables false

theorem one_7 (a b c d e f : Int) (p : Option Addr) (n m : Nat) : ∀ u ∈ ([.int .i64 a, .int .i64 b, .int .i64 c, .int .i64 d, .int .i64 e, .slice p n m, .int .i64 f] : List Value), u.oneCell' = true := by
  intro u hu
  simp at hu
  rcases hu with rfl | rfl | rfl | rfl | rfl | rfl | rfl <;> rfl
/-- What 'add' leaves: the post by one letter longer; the letter's own memory lies ahead of c, the post's new memory behind it. -/
def AddP (pb : Nat) (S : Foot) (ls : List LetD) (f0 f1 f2 f3 f4 : Int) (d : List Int) (f6 : Int) (w : World) (e : Ending) (w' : World) : Prop :=
  e = .returned (.tuple #[]) ∧ ∃ v' av cv c, w'.heap[pb]? = some (.cells #[v'] 83 (0, 0)) ∧ w.heap.size ≤ c ∧ c ≤ w'.heap.size ∧
    postR.own w' (fun k => Old w S k ∨ (c ≤ k ∧ k < w'.heap.size)) [v'] (ls ++ [((ls.length : Int), [.int .i64 f0, .int .i64 f1, .int .i64 f2, .int .i64 f3, .int .i64 f4, .slice av d.length cv, .int .i64 f6])]) ∧
    msgR.own w' (rng w.heap.size c) [.int .i64 f0, .int .i64 f1, .int .i64 f2, .int .i64 f3, .int .i64 f4, .slice av d.length cv, .int .i64 f6] (f0, f1, f2, f3, f4, d, f6) ∧ Chg (fun k => Old w S k ∨ k = pb) w w'
set_option maxRecDepth 20000 in
set_option maxHeartbeats 8000000 in
theorem postAdd_any (pb : Nat) (S : Foot) (v : Value) (ls : List LetD) (f0 f1 f2 f3 f4 f6 : Int) (d : List Int) (a : Option Addr) (cap : Nat) (w : World) (hp : w.heap[pb]? = some (.cells #[v] 83 (0, 0))) (hS : ¬ S pb) (h : postR.own w S [v] ls) (hm : ls.length ≤ 999)
    (hr : ∀ (i : Nat) (y : LetD), ls[i]? = some y → y.1 < (ls.length : Int)) (j0 : In64 f0) (j1 : In64 f1) (j2 : In64 f2) (j3 : In64 f3) (j4 : In64 f4) (j6 : In64 f6) (hd : SlRd intR w a d) (hdm : d.length ≤ 1048576) :
    Calls Try.prog 41 #[.pointer (some ⟨pb, 0, none⟩), .agg #[.int .i64 f0, .int .i64 f1, .int .i64 f2, .int .i64 f3, .int .i64 f4, .slice a d.length cap, .int .i64 f6]] w fun e w' => AddP pb S ls f0 f1 f2 f3 f4 d f6 w e w' := by
  obtain ⟨va, vc, rfl⟩ := slown_val h
  have B0 := box_below w (.cells #[.int .i64 f0, .int .i64 f1, .int .i64 f2, .int .i64 f3, .int .i64 f4, .slice a d.length cap, .int .i64 f6] 27)
  have X0 := heap_at w (.cells #[.int .i64 f0, .int .i64 f1, .int .i64 f2, .int .i64 f3, .int .i64 f4, .slice a d.length cap, .int .i64 f6] 27)
  have hp0 := row_keep B0 hp
  have hpl := (Array.getElem?_eq_some_iff.1 hp).1
  have h0 := own_box (.cells #[.int .i64 f0, .int .i64 f1, .int .i64 f2, .int .i64 f3, .int .i64 f4, .slice a d.length cap, .int .i64 f6] 27) (own_old h)
  have hd0 := slrd_next hd B0
  go_enter Try.func41, Try.ntmps41
  go_wp2
  generalize w.alloc (.cells #[.int .i64 f0, .int .i64 f1, .int .i64 f2, .int .i64 f3, .int .i64 f4, .slice a d.length cap, .int .i64 f6] 27) = W0 at B0 X0 hp0 h0 hd0 ⊢
  obtain ⟨x0, x1, x2, x3, x4, x5, x6⟩ := cells_7 X0
  have q0 : W0.cell? ⟨pb, 0, none⟩ = some (.slice va ls.length vc) := by rw [cell_of_row W0 pb 0 _ _ (0, 0) hp0]; rfl
  have hln : In64 (ls.length : Int) := by constructor <;> omega
  have hll : ls.length ≤ maxLen := by unfold maxLen; omega
  have HC := msgCopied_any f0 f1 f2 f3 f4 f6 d a cap W0.drew j0 j1 j2 j3 j4 j6 (slrd_keep hd0 fun _ _ => rfl) hdm
  have HH : Hid _ := And.intro B0 (And.intro hp0 (And.intro h0 (And.intro hS hr)))
  have HPU : Hid (∀ (w2 : World) (av : Option Addr) (cv : Nat), MadeR msgR W0.drew w2 [.int .i64 f0, .int .i64 f1, .int .i64 f2, .int .i64 f3, .int .i64 f4, .slice av d.length cv, .int .i64 f6] (f0, f1, f2, f3, f4, d, f6) →
      Calls Try.prog 69 #[.iface 57 (.pointer (some ⟨pb, 0, none⟩)), .iface 88 (.agg #[.int .i64 (ls.length : Int), .int .i64 f0, .int .i64 f1, .int .i64 f2, .int .i64 f3, .int .i64 f4, .slice av d.length cv, .int .i64 f6])] w2 fun e w' => e = .returned (.tuple #[]) ∧
      ∃ v', w'.heap[pb]? = some (.cells #[v'] 83 (0, 0)) ∧ postR.own w' (fun k => Old w2 (Old w S) k ∨ (w2.heap.size ≤ k ∧ k < w'.heap.size)) [v'] (ls ++ [((ls.length : Int), [.int .i64 f0, .int .i64 f1, .int .i64 f2, .int .i64 f3, .int .i64 f4, .slice av d.length cv, .int .i64 f6])]) ∧ Chg (fun k => Old w2 (Old w S) k ∨ k = pb) w2 w') := fun w2 av cv mm =>
    pushRise_any pb (Old w S) (.slice va ls.length vc) ls (ls.length : Int) (.int .i64 f0) (.int .i64 f1) (.int .i64 f2) (.int .i64 f3) (.int .i64 f4) (.slice av d.length cv) (.int .i64 f6) w2 (row_keep (w := W0.drew) mm.2 hp0) (fun hx => hS hx.1) (postR.own_keep (w := W0.drew) (own_drew h0) (keeps_below mm.2)) hm (one_7 _ _ _ _ _ _ _ _ _) hln hr
  clear hp h h0 hd hd0 X0 B0 hp0 hS hr j0 j1 j2 j3 j4 j6
  go_region_with (first
    | (go_at_call 67
       refine (postLen_any va ls.length vc _ hll).mono ?_
       rintro e w1 ⟨rfl, hw⟩
       rw [hw]
       clear hw w1)
    | (go_at_call 70
       refine HC.mono ?_
       rintro e w2 ⟨av, cv, rfl, mm⟩
       have HM : Hid _ := mm
       clear mm x0 x1 x2 x3 x4 x5 x6 q0)
    | (go_at_call 69
       refine (HPU.out w2 av cv HM.out).mono ?_
       rintro e w3 ⟨rfl, v', k1, k2, k3⟩
       have HK : Hid _ := And.intro k1 (And.intro k2 k3)
       clear k1 k2 k3))
  all_goals
    obtain ⟨B0, hp0, h0, hS, hr⟩ := HH.out
    obtain ⟨m1, m2⟩ := HM.out
    obtain ⟨k1, k2, k3⟩ := HK.out
    have z0 : w.heap.size ≤ W0.heap.size := B0.size
    have z1 : W0.heap.size ≤ w2.heap.size := m2.size
    have z3 := k3.size
    refine bodyPost_end (v := .tuple #[]) (by simp [results, Try.results41, go_sem]) rfl ⟨rfl, v', av, cv, w2.heap.size, k1, by omega, z3, postR.own_mono k2 ?_, ?_, ?_⟩
    · rintro k (hk | hk)
      · exact .inl hk.1
      · exact .inr hk
    · refine msgR.own_mono (own_chg m1 k3 ?_) (rng_sub z0 (Nat.le_refl _))
      intro k h1 h2
      have g1 : W0.heap.size ≤ k := h1.1
      rcases h2 with h2 | h2
      · have := h2.1.2
        omega
      · omega
    · have c1 : Chg (fun k => Old w S k ∨ k = pb) w w2 := (chg_drew (chg_below B0)).trans (chg_below m2)
      exact c1.trans (k3.mono fun k hk => hk.imp (fun x => x.1) id)
end Go.Proofs.Ytfflmbpjolgghaa
