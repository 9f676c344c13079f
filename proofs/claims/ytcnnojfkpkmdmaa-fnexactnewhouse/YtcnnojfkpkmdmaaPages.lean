
/- Who holds a line, by the program's page (the set of the sharers, and the owner): who owns, who holds, all that do, one forgotten. Condition: an owner and sharers that are right, where it is said. -/
import Derived.Test.YtcnnojfkpkmdmaaImplEnt
import Derived.Test.YtcnnojfkpkmdmaaMembers
import Derived.Test.YtcnnojfkpkmdmaaChange
namespace Go.Proofs.Ytcnnojfkpkmdmaa
open Go.ChangeShapes Go.WideShapes Go.ChangeAt Go.RowKit
set_option linter.unusedVariables false

def ownB (o c : Int) : Bool := betw c 0 3 && decide (c = o)
def holB (o s c : Int) : Bool := ownB o c || inB s c
def holL (o s : Int) : Nat → List Int
  | 0 => []
  | k + 1 => if holB o s k then holL o s k ++ [(k : Int)] else holL o s k
theorem holL_le (o s : Int) : ∀ k, (holL o s k).length ≤ k
  | 0 => Nat.le_refl _
  | k + 1 => by
    have := holL_le o s k
    unfold holL
    split
    · simp; omega
    · omega
theorem holL_hit {o s : Int} {k : Nat} (h : holB o s k = true) : holL o s (k + 1) = holL o s k ++ [(k : Int)] := by simp [holL, h]
theorem holL_miss {o s : Int} {k : Nat} (h : holB o s k = false) : holL o s (k + 1) = holL o s k := by simp [holL, h]
def hoI (o s : Int) : List Int := if 0 ≤ o then [o] else mems s 8
theorem mems_zero : mems 0 8 = [] := by decide +kernel
theorem who_alone {o s : Int} (h : whoB o s = true) (ho : 0 ≤ o) : s = 0 := by
  simp [whoB] at h
  have := h.2.2
  omega
theorem holL_none (s : Int) : ∀ k, holL (-1) s k = mems s k
  | 0 => rfl
  | k + 1 => by
    have e : holB (-1) s k = inB s k := by
      unfold holB ownB
      rw [show decide ((k : Int) = -1) = false from decide_eq_false (by omega)]
      simp
    unfold holL mems
    rw [e, holL_none s k]
theorem holL_fin : ∀ o : Fin 4, holL (o.val : Int) 0 8 = [(o.val : Int)] := by decide +kernel
theorem holL_eq {o s : Int} (h : whoB o s = true) : holL o s 8 = hoI o s := by
  unfold hoI
  by_cases ho : 0 ≤ o
  · rw [if_pos ho, who_alone h ho]
    have hb : o ≤ 3 := by simp [whoB, betw] at h; omega
    have := holL_fin ⟨o.toNat, by omega⟩
    simpa [Int.toNat_of_nonneg ho] using this
  · rw [if_neg ho]
    have hb : o = -1 := by simp [whoB, betw] at h; omega
    rw [hb]
    exact holL_none s 8
def fgO (o c : Int) : Int := if ownB o c then -1 else o
def fgS (s c : Int) : Int := if inB s c then andNotI s c else s

theorem cells_2p {w : World} {g : Nat} {x0 x1 : Value} {t : TypeId} (h : w.heap[g]? = some (.cells #[x0, x1] t (0, 0))) :
    w.cell? ⟨g, 0, none⟩ = some x0 ∧ w.cell? ⟨g, 1, none⟩ = some x1 :=
  ⟨by rw [cell_of_row w g 0 _ t (0, 0) h]; rfl, by rw [cell_of_row w g 1 _ t (0, 0) h]; rfl⟩

set_option maxHeartbeats 1000000 in
theorem owns_any (o s c : Int) (w : World) :
    Calls Try.prog 71 #[.agg #[.int .i64 s, .int .i64 o], .int .i64 c] w fun e w' => e = .returned (.bool (ownB o c)) ∧ Below w.heap.size w w' := by
  have HB : Hid _ := box_below w
  cases h1 : betw c 0 3
  · have HV : Hid (ownB o c = false) := by unfold Hid ownB; simp [h1]
    rw [HV.out]
    go_enter Try.func71, Try.ntmps71
    go_wp2_with (go_at_call 74; refine (coreOk_any _ _).mono ?_; rintro e w' ⟨rfl, rfl⟩)
    go_ret
    exact ⟨rfl, HB.out _⟩
  · have HV : Hid (ownB o c = (c == o)) := by unfold Hid ownB; rw [h1]; by_cases e : c = o <;> simp [e]
    rw [HV.out]
    generalize (c == o) = t at HV ⊢
    by_cases h2 : c = o
    · subst h2
      have ht : t = true := by rw [← HV.out]; unfold ownB; simp [h1]
      subst ht
      clear HV
      go_enter Try.func71, Try.ntmps71
      go_wp2_with (go_at_call 74; refine (coreOk_any _ _).mono ?_; rintro e w' ⟨rfl, rfl⟩)
      go_ret
      exact ⟨rfl, HB.out _⟩
    · have h2b : (c == o) = false := beq_false_of_ne h2
      have ht : t = false := by rw [← HV.out]; unfold ownB; simp [h2]
      subst ht
      clear HV
      go_enter Try.func71, Try.ntmps71
      go_wp2_with (go_at_call 74; refine (coreOk_any _ _).mono ?_; rintro e w' ⟨rfl, rfl⟩)
      go_ret
      exact ⟨rfl, HB.out _⟩

set_option maxHeartbeats 1000000 in
theorem holds_any (o s c : Int) (w : World) :
    Calls Try.prog 60 #[.agg #[.int .i64 s, .int .i64 o], .int .i64 c] w fun e w' => e = .returned (.bool (holB o s c)) ∧ Below w.heap.size w w' := by
  have X := heap_at w (.cells #[.int .i64 s, .int .i64 o] 76)
  have B := box_below w (.cells #[.int .i64 s, .int .i64 o] 76)
  have HO : Hid (∀ W, Calls Try.prog 71 #[.agg #[.int .i64 s, .int .i64 o], .int .i64 c] W fun e w' => e = .returned (.bool (ownB o c)) ∧ Below W.heap.size W w') := fun W => owns_any o s c W
  unfold holB
  generalize ownB o c = p at HO ⊢
  go_enter Try.func60, Try.ntmps60
  go_wp2_with fail
  generalize w.alloc (.cells #[.int .i64 s, .int .i64 o] 76) = W0 at X B ⊢
  refine (HO.out _).mono ?_
  rintro e w1 ⟨rfl, b1⟩
  replace X := row_keep b1 X
  replace B := below_step B b1
  obtain ⟨x0, x1⟩ := cells_2p X
  clear b1 HO X
  cases p
  · go_wp2_with (go_at_call 72; refine (has_any _ _ _).mono ?_; rintro e w' ⟨rfl, rfl⟩)
    go_ret
    exact ⟨rfl, B⟩
  · go_wp2_with fail
    go_ret
    exact ⟨rfl, B⟩

set_option maxHeartbeats 2000000 in
theorem chosenP_any (o s : Int) (w : World) :
    Calls Try.prog 58 #[.func (.func 60) #[.agg #[.int .i64 s, .int .i64 o]] #[]] w fun e w' => ∃ v, e = .returned v ∧ Made w w' v (holL o s 8) := by
  obtain ⟨i0, hi, hz0, hz1, hz2⟩ := info_parts Try.infoI64
  go_enter Try.func58, Try.ntmps58
  go_wp2
  go_loopw [3, 4] (fun v i wr => ∃ k : Nat, k ≤ 8 ∧ i = .int .i64 k ∧ v ≠ .slice none 0 0 ∧ wr.ownsRow w.heap.size 2 1 v (holL o s k).length ((holL o s k).map (Value.int .i64)) ∧ Below w.heap.size w wr)
    (fun _ i _ => 8 - (intOf i).toNat)
  case atStart => exact ⟨0, by omega, rfl, by simp, World.ownsRow_lit _ #[] 0 (Nat.le_refl _) (Nat.zero_le _) rfl, (Below.refl _ _).alloc (Nat.le_refl _) _⟩
  case round =>
    obtain ⟨k, hk, rfl, hv, hown, hnx⟩ := hrel
    have hle := holL_le o s k
    have hsz := hnx.size
    by_cases hlt : k < 8
    · have HC : Hid (∀ W, Calls Try.prog 60 #[.agg #[.int .i64 s, .int .i64 o], .int .i64 (k : Int)] W fun e w' => e = .returned (.bool (holB o s k)) ∧ Below W.heap.size W w') := fun W => holds_any o s k W
      have HH : Hid (∀ b, holB o s k = b → if b then holL o s (k + 1) = holL o s k ++ [(k : Int)] else holL o s (k + 1) = holL o s k) := fun b e => by
        cases b
        · exact holL_miss e
        · exact holL_hit e
      obtain ⟨q, hq⟩ : ∃ q, holB o s k = q := ⟨_, rfl⟩
      rw [hq] at HC
      have HE := HH.out q hq
      clear HH hq
      obtain ⟨g, cp, rfl, hg1, hg2, hn1, hn2⟩ := own_shape hown hv
      cases q
      · have HE' : Hid (holL o s (k + 1) = holL o s k) := HE
        clear HE
        go_wp2_with (go_at_call 60; refine (HC.out _).mono ?_; rintro e w' ⟨rfl, bb⟩; replace hown := own_below hown bb hg2; replace hnx := below_step hnx bb; clear bb)
        go_roundw
        case rel => exact ⟨k + 1, by omega, by go_num, hv, by rw [HE'.out]; exact hown, hnx⟩
        case measure => simp [intOf]; omega
      · have HE' : Hid (holL o s (k + 1) = holL o s k ++ [(k : Int)]) := HE
        clear HE
        go_wp2_with fail
        refine (HC.out _).mono ?_
        rintro e w2 ⟨rfl, bb⟩
        replace hown := own_below hown bb hg2
        replace hnx := below_step hnx bb
        have hsz2 := hnx.size
        clear bb hg2
        go_wp2_with (at_builtin; refine wpList_append_own _ rfl _ _ 38 rfl w.heap.size 2 i0 (.int .i64 0) 1 8 Try.underlying38 hi hz0 hz1 hz2 rfl (by decide) _ _ _ rfl (hown.alloc _) ⟨_, 0, none⟩ 1 1 [.int .i64 (k : Int)] rfl rfl ?c1 ?c2 ?c3 ?c4 ?c5 ?_)
        case c1 =>
          intro j u hj
          match j, hj with
          | 0, hj => simp at hj; subst hj; simp [Addr.add]
        case c2 => intro u hu; simp at hu; subst hu; rfl
        case c3 => unfold maxLen; omega
        case c4 => omega
        case c5 => simp; omega
        · intro v' w1 hown' hgrow hnil
          have R : w1.ownsRow w.heap.size 2 1 v' (holL o s (k + 1)).length ((holL o s (k + 1)).map (Value.int .i64)) ∧ Below w.heap.size w w1 :=
            ⟨by rw [HE'.out]; simpa using hown', (hnx.alloc hsz2 _).grown hgrow (by simp; omega) (fun j hj => (hown.lt j hj).1)⟩
          have hv' : v' ≠ .slice none 0 0 := hnil
          clear hown' hgrow hown hnil
          go_wp2
          go_roundw
          case rel => exact ⟨k + 1, by omega, by go_num, hv', R.1, R.2⟩
          case measure => simp [intOf]; omega
    · have hkl : k = 8 := by omega
      subst hkl
      obtain ⟨g, cap, rfl, hg1, hg2, _⟩ := own_shape hown hv
      have HM : Hid (Made w wr (.slice (some ⟨g, 0, none⟩) (holL o s 8).length cap) (holL o s 8)) := ⟨g, cap, rfl, hg1, hg2, hown, hnx⟩
      clear hown hnx hv
      go_wp2
      go_ret
      exact ⟨_, rfl, HM.out⟩
end Go.Proofs.Ytcnnojfkpkmdmaa
