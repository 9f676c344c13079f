
/- The contracts of Members, of the program and of the specification: both hand back a new slice that holds mems s 8, and change nothing that was there. No condition. -/
import Derived.Test.YtcnnojfkpkmdmaaBits
namespace Go.Proofs.Ytcnnojfkpkmdmaa
open Go.ChangeShapes Go.WideShapes Go.ChangeAt Go.RowKit

theorem Try.infoI64 : (Try.prog.info? 2).map (fun i => (i.zero, i.size, i.bytes)) = some (some (.int .i64 0), 1, 8) := by kernel_rfl

def mems (s : Int) : Nat → List Int
  | 0 => []
  | k + 1 => if inB s k then mems s k ++ [(k : Int)] else mems s k

theorem mems_le (s : Int) : ∀ k, (mems s k).length ≤ k
  | 0 => Nat.le_refl _
  | k + 1 => by
    have := mems_le s k
    unfold mems
    split
    · simp; omega
    · omega

theorem mems_hit {s : Int} {k : Nat} (h : inB s k = true) : mems s (k + 1) = mems s k ++ [(k : Int)] := by simp [mems, h]
theorem mems_miss {s : Int} {k : Nat} (h : inB s k = false) : mems s (k + 1) = mems s k := by simp [mems, h]

theorem mem_keep {B k : Nat} {s : Int} {w wr w1 : World} {v v' : Value} {o : Obj} (hin : inB s k = true) (hB : B ≤ wr.heap.size)
    (hown : wr.ownsRow B 2 1 v (mems s k).length ((mems s k).map (Value.int .i64))) (hnx : Below B w wr)
    (hown' : w1.ownsRow B 2 1 v' ((mems s k).length + 1) ((mems s k).map (Value.int .i64) ++ [.int .i64 (k : Int)])) (hgrow : (wr.alloc o).grownBy w1 v.ownBlock) :
    w1.ownsRow B 2 1 v' (mems s (k + 1)).length ((mems s (k + 1)).map (Value.int .i64)) ∧ Below B w w1 := by
  refine ⟨by rw [mems_hit hin]; simpa using hown', (hnx.alloc hB o).grown hgrow (by simp; omega) (fun j hj => (hown.lt j hj).1)⟩

theorem own_shape {w : World} {B : Nat} {e : TypeId} {v : Value} {n : Nat} {xs : List Value} (h : w.ownsRow B e 1 v n xs) (hv : v ≠ .slice none 0 0) :
    ∃ g cap, v = .slice (some ⟨g, 0, none⟩) n cap ∧ B ≤ g ∧ g < w.heap.size ∧ n ≤ cap ∧ cap ≤ maxLen := by
  rcases h.2 with ⟨rfl, _⟩ | ⟨g, cap, cur, rfl, hb, hg, hc, hm, _⟩
  · exact absurd rfl hv
  · exact ⟨g, cap, rfl, hb, (Array.getElem?_eq_some_iff.1 hg).1, hc, hm⟩

set_option maxHeartbeats 1000000 in
theorem specMembers_any (s : Int) (w : World) :
    Calls Try.prog 56 #[.int .i64 s] w fun e w' => ∃ g cap, e = .returned (.slice (some ⟨g, 0, none⟩) (mems s 8).length cap) ∧ w.heap.size ≤ g ∧ g < w'.heap.size ∧
      w'.ownsRow w.heap.size 2 1 (.slice (some ⟨g, 0, none⟩) (mems s 8).length cap) (mems s 8).length ((mems s 8).map (Value.int .i64)) ∧ Below w.heap.size w w' := by
  obtain ⟨i0, hi, hz0, hz1, hz2⟩ := info_parts Try.infoI64
  go_enter Try.func56, Try.ntmps56
  go_wp2
  go_loopw [3, 4] (fun v i wr => ∃ k : Nat, k ≤ 8 ∧ i = .int .i64 k ∧ v ≠ .slice none 0 0 ∧ wr.ownsRow w.heap.size 2 1 v (mems s k).length ((mems s k).map (Value.int .i64)) ∧ Below w.heap.size w wr)
    (fun _ i _ => 8 - (intOf i).toNat)
  case atStart => exact ⟨0, by omega, rfl, by simp, World.ownsRow_lit _ #[] 0 (Nat.le_refl _) (Nat.zero_le _) rfl, (Below.refl _ _).alloc (Nat.le_refl _) _⟩
  case round =>
    obtain ⟨k, hk, rfl, hv, hown, hnx⟩ := hrel
    have hle := mems_le s k
    have hsz := hnx.size
    by_cases hlt : k < 8
    · cases hin : inB s k
      · have HE : Hid (mems s (k + 1) = mems s k) := mems_miss hin
        go_wp2_with (go_at_call 70; refine (specIn_any _ _ _).mono ?_; rintro e w' ⟨rfl, rfl⟩)
        go_roundw
        case rel => exact ⟨k + 1, by omega, by go_num, hv, by rw [HE.out]; exact hown, hnx⟩
        case measure => simp [intOf]; omega
      · go_wp2_with (first
          | (go_at_call 70; refine (specIn_any _ _ _).mono ?_; rintro e w' ⟨rfl, rfl⟩)
          | (at_builtin; refine wpList_append_own _ rfl _ _ 38 rfl w.heap.size 2 i0 (.int .i64 0) 1 8 Try.underlying38 hi hz0 hz1 hz2 rfl (by decide) _ _ _ rfl (hown.alloc _) ⟨_, 0, none⟩ 1 1 [.int .i64 (k : Int)] rfl rfl ?c1 ?c2 ?c3 ?c4 ?c5 ?_))
        case c1 =>
          intro j u hj
          match j, hj with
          | 0, hj => simp at hj; subst hj; simp [Addr.add]
        case c2 => intro u hu; simp at hu; subst hu; rfl
        case c3 => unfold maxLen; omega
        case c4 => omega
        case c5 => simp; omega
        · intro v' w1 hown' hgrow hnil
          have R := mem_keep hin hsz hown hnx hown' hgrow
          have hv' : v' ≠ .slice none 0 0 := hnil
          clear hown' hgrow hown hnil
          go_wp2
          go_roundw
          case rel => exact ⟨k + 1, by omega, by go_num, hv', R.1, R.2⟩
          case measure => simp [intOf]; omega
    · have hkl : k = 8 := by omega
      subst hkl
      obtain ⟨g, cap, rfl, hg1, hg2, _⟩ := own_shape hown hv
      go_wp2
      go_ret
      exact ⟨g, cap, rfl, hg1, hg2, hown, hnx⟩


end Go.Proofs.Ytcnnojfkpkmdmaa
