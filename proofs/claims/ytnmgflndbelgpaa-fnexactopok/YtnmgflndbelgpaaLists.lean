/- The contracts of the laws' own helpers over lists of numbers: two lists that read alike are told alike; what is marked is held. Conditions: the lists are shorter than 2^61. -/
import Derived.Test.YtnmgflndbelgpaaRows
import Derived.WalkKit
import Derived.ProofKit
import Derived.OpenShut
import Derived.Deep.QuietTactic
import Derived.BigQuiet
import Derived.WalkSmall
namespace Go.Proofs.Ytnmgflndbelgpaa
open Go.ChangeShapes Go.WideShapes Go.ChangeAt Go.RowKit

def Reads (w : World) (a : Option Addr) (xs : List Int) : Prop :=
  xs = [] ∨ ∃ b off, a = some ⟨b, off, none⟩ ∧ ∀ j, j < xs.length → w.cell? ⟨b, off + j, none⟩ = some (.int .i64 (xs.getD j 0))





def seqs (k : Int) (n : Nat) : List Int := (List.range n).map (fun (j : Nat) => k + (j : Int))
theorem seqs_len (k : Int) (n : Nat) : (seqs k n).length = n := by simp [seqs]
theorem seqs_get (k : Int) (n j : Nat) (h : j < n) : (seqs k n).getD j 0 = k + j := by
  simp [seqs, List.getD_eq_getElem?_getD, h]
theorem seqs_succ (k : Int) (n : Nat) : seqs k (n + 1) = seqs k n ++ [k + n] := by simp [seqs, List.range_succ]

theorem grown_trans {a b c : World} {row : Option Nat} (h : a.grownBy b row) (k : b.grownBy c row) : a.grownBy c row :=
  ⟨k.os.trans h.os, k.tape.trans h.tape, k.output.trans h.output, Nat.le_trans h.size k.size, fun j hj hne => (k.block j (Nat.lt_of_lt_of_le hj h.size) hne).trans (h.block j hj hne)⟩

theorem mark_step (k : Int) (j : Nat) (xs : List Value) (h : j < xs.length) :
    ((seqs k j).map (Value.int .i64) ++ xs.drop j).set j (.int .i64 (k + j)) = (seqs k (j + 1)).map (Value.int .i64) ++ xs.drop (j + 1) := by
  have hl : ((seqs k j).map (Value.int .i64)).length = j := by simp [seqs_len]
  rw [List.set_append_right _ _ (by omega), hl, Nat.sub_self, List.drop_eq_getElem_cons h, seqs_succ]
  simp only [List.set_cons_zero, List.map_append, List.map_cons, List.map_nil, List.append_assoc, List.cons_append, List.nil_append]

theorem reads_own {w : World} {B e g n cap : Nat} {zs : List Int} (h : w.ownsRow B e 1 (.slice (some ⟨g, 0, none⟩) n cap) n (zs.map (Value.int .i64))) :
    Reads w (some ⟨g, 0, none⟩) zs := by
  refine .inr ⟨g, 0, rfl, fun j hj => ?_⟩
  have hl := h.1
  simp at hl
  rw [Nat.zero_add, h.cellAt j (by omega)]
  simp [List.getD_eq_getElem?_getD, hj]



theorem own_below {w w' : World} {base e size g n cap B : Nat} {xs : List Value} (h : w.ownsRow base e size (.slice (some ⟨g, 0, none⟩) n cap) n xs) (hb : Below B w w') (hg : g < B) :
    w'.ownsRow base e size (.slice (some ⟨g, 0, none⟩) n cap) n xs := by
  refine ⟨h.1, ?_⟩
  rcases h.2 with ⟨h', _⟩ | ⟨g', cap', cur, h', hb', hgg, rest⟩
  · simp at h'
  · simp only [Value.slice.injEq, Option.some.injEq, Addr.mk.injEq, and_true, true_and] at h'
    obtain ⟨rfl, rfl⟩ := h'
    exact .inr ⟨g, cap, cur, rfl, hb', by rw [hb.block g hg]; exact hgg, rest⟩
theorem own_grown {w w' : World} {base e size g n cap r : Nat} {xs : List Value} (h : w.ownsRow base e size (.slice (some ⟨g, 0, none⟩) n cap) n xs) (hb : w.grownBy w' (some r)) (hg : g ≠ r) :
    w'.ownsRow base e size (.slice (some ⟨g, 0, none⟩) n cap) n xs :=
  h.kept hb (.inr (by simp [Value.ownBlock, hg]))
theorem own_drewN {w : World} {base e size g n cap k : Nat} {xs : List Value} (h : w.ownsRow base e size (.slice (some ⟨g, 0, none⟩) n cap) n xs) :
    (w.drewN k).ownsRow base e size (.slice (some ⟨g, 0, none⟩) n cap) n xs := h
theorem own_lt {w : World} {base e size g n cap : Nat} {xs : List Value} (h : w.ownsRow base e size (.slice (some ⟨g, 0, none⟩) n cap) n xs) : base ≤ g ∧ g < w.heap.size := h.lt g rfl

end Go.Proofs.Ytnmgflndbelgpaa
