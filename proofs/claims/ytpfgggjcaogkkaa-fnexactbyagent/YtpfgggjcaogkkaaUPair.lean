
/- Two answers that are owned side by side, and data that is only read from world to world. No program here. -/
import Derived.Test.YtpfgggjcaogkkaaUBase
namespace Go.Proofs.Ytpfgggjcaogkkaa
open Go.ChangeShapes Go.WideShapes Go.ChangeAt Go.RowKit
set_option linter.unusedVariables false
variable {α β : Type}

theorem pair_open {R : Rep α} {Q : Rep β} {w : World} {S : Foot} {cs ds : List Value} {x : α} {y : β} (h : (prodR R Q).own w S (cs ++ ds) (x, y)) (hl : cs.length = R.size) :
    ∃ S1 S2, R.own w S1 cs x ∧ Q.own w S2 ds y ∧ Sub S1 S ∧ Sub S2 S ∧ Dis S1 S2 := by
  obtain ⟨c1, c2, S1, S2, e, h1, h2, a1, a2, d⟩ := h
  obtain ⟨rfl, rfl⟩ := List.append_inj e (hl.trans (R.rd_len (R.own_rd h1)).symm)
  exact ⟨S1, S2, h1, h2, a1, a2, d⟩
theorem pair_rd {R : Rep α} {Q : Rep β} {w : World} {cs ds : List Value} {x : α} {y : β} (h : (prodR R Q).rd w (cs ++ ds) (x, y)) (hl : cs.length = R.size) : R.rd w cs x ∧ Q.rd w ds y := by
  obtain ⟨c1, c2, e, h1, h2⟩ := h
  obtain ⟨rfl, rfl⟩ := List.append_inj e (hl.trans (R.rd_len h1).symm)
  exact ⟨h1, h2⟩
theorem pair_own {R : Rep α} {Q : Rep β} {w : World} {S S1 S2 : Foot} {cs ds : List Value} {x : α} {y : β} (h1 : R.own w S1 cs x) (h2 : Q.own w S2 ds y) (a1 : Sub S1 S) (a2 : Sub S2 S) (d : Dis S1 S2) : (prodR R Q).own w S (cs ++ ds) (x, y) :=
  ⟨cs, ds, S1, S2, rfl, h1, h2, a1, a2, d⟩
theorem mk_fst {f : Nat} {R : Rep α} {M : Mk α} {V : List Value → Value} {Q : Rep β} (H : MkC f R M V) (S : Foot) (cs ds : List Value) (x : α) (y : β) (k : Int) (w : World) (h : (prodR R Q).own w S (cs ++ ds) (x, y)) (hl : cs.length = R.size) (h0 : 0 ≤ k) (h1 : k + (M.cV x : Int) ≤ (lot : Int)) (h2 : M.bk x ≤ lot) :
    Calls Try.prog f #[V cs, .int .i64 k] w fun e w' => e = .returned (.int .i64 (k + (M.cV x : Int))) ∧ (prodR R Q).own w' S (cs ++ ds) (M.mV k x, y) ∧ Chg S w w' := by
  obtain ⟨S1, S2, o1, o2, a1, a2, d⟩ := pair_open h hl
  refine (H S1 cs x k w o1 h0 h1 h2).mono ?_
  rintro e w' ⟨rfl, q, c⟩
  exact ⟨rfl, pair_own q (own_chg o2 c fun k p r => d k r p) a1 a2 d, c.mono a1⟩
theorem mk_snd {f : Nat} {Q : Rep β} {M : Mk β} {V : List Value → Value} {R : Rep α} (H : MkC f Q M V) (S : Foot) (cs ds : List Value) (x : α) (y : β) (k : Int) (w : World) (h : (prodR R Q).own w S (cs ++ ds) (x, y)) (hl : cs.length = R.size) (h0 : 0 ≤ k) (h1 : k + (M.cV y : Int) ≤ (lot : Int)) (h2 : M.bk y ≤ lot) :
    Calls Try.prog f #[V ds, .int .i64 k] w fun e w' => e = .returned (.int .i64 (k + (M.cV y : Int))) ∧ (prodR R Q).own w' S (cs ++ ds) (x, M.mV k y) ∧ Chg S w w' := by
  obtain ⟨S1, S2, o1, o2, a1, a2, d⟩ := pair_open h hl
  refine (H S2 ds y k w o2 h0 h1 h2).mono ?_
  rintro e w' ⟨rfl, q, c⟩
  exact ⟨rfl, pair_own (own_chg o1 c d) q a1 a2 d, c.mono a2⟩
/-- Data that lies below block n and is only read. -/
def Sight (R : Rep α) (n : Nat) (w : World) (cs : List Value) (x : α) : Prop := ∃ w0 : World, R.rd w0 cs x ∧ w0.heap.size = n ∧ n ≤ w.heap.size ∧ ∀ k, k < n → w.heap[k]? = w0.heap[k]?
theorem sight_of {R : Rep α} {w : World} {cs : List Value} {x : α} (h : R.rd w cs x) : Sight R w.heap.size w cs x := ⟨w, h, rfl, Nat.le_refl _, fun _ _ => rfl⟩
theorem sight_rd {R : Rep α} {n : Nat} {w : World} {cs : List Value} {x : α} (h : Sight R n w cs x) : R.rd w cs x := by
  obtain ⟨w0, h1, h2, h3, h4⟩ := h
  exact R.rd_keep h1 fun k hk => h4 k (h2 ▸ hk)
theorem sight_next {R : Rep α} {n : Nat} {w w' : World} {cs : List Value} {x : α} (h : Sight R n w cs x) (hb : Below w.heap.size w w') : Sight R n w' cs x := by
  obtain ⟨w0, h1, h2, h3, h4⟩ := h
  exact ⟨w0, h1, h2, Nat.le_trans h3 hb.size, fun k hk => (hb.block k (Nat.lt_of_lt_of_le hk h3)).trans (h4 k hk)⟩
theorem sight_chg {R : Rep α} {n lo hi : Nat} {w w' : World} {cs : List Value} {x : α} (h : Sight R n w cs x) (hc : Chg (rng lo hi) w w') (hl : n ≤ lo) : Sight R n w' cs x := by
  obtain ⟨w0, h1, h2, h3, h4⟩ := h
  exact ⟨w0, h1, h2, Nat.le_trans h3 hc.size, fun k hk => (hc.block k (Nat.lt_of_lt_of_le hk h3) fun p => by have := p.1; omega).trans (h4 k hk)⟩
theorem sight_drew {R : Rep α} {n : Nat} {w : World} {cs : List Value} {x : α} (h : Sight R n w cs x) : Sight R n w.drew cs x := h
theorem sight_lt {R : Rep α} {n : Nat} {w : World} {cs : List Value} {x : α} (h : Sight R n w cs x) : n ≤ w.heap.size := by
  obtain ⟨w0, h1, h2, h3, h4⟩ := h
  exact h3
end Go.Proofs.Ytpfgggjcaogkkaa
