/- The first letter of a road, of the program: by a heap of the letters of that road. Conditions: a net of a length that a machine can hold, in which there is a letter of the road. -/
import Derived.Test.YtfflmbpjolgghaaHeapUp
namespace Go.Proofs.Ytfflmbpjolgghaa
open Go.ChangeShapes Go.WideShapes Go.ChangeAt Go.RowKit
set_option linter.unusedVariables false

theorem cells_3r {w : World} {g : Nat} {x y z : Value} {t : TypeId} (h : w.heap[g]? = some (.cells #[x, y, z] t (0, 0))) :
    w.cell? ⟨g, 0, none⟩ = some x ∧ w.cell? ⟨g, 1, none⟩ = some y ∧ w.cell? ⟨g, 2, none⟩ = some z :=
  ⟨by rw [cell_of_row w g 0 _ t (0, 0) h]; rfl, by rw [cell_of_row w g 1 _ t (0, 0) h]; rfl, by rw [cell_of_row w g 2 _ t (0, 0) h]; rfl⟩

set_option maxHeartbeats 1000000 in
theorem route_any (f0 f1 f2 f3 f4 f6 : Int) (a : Option Addr) (n cap : Nat) (w : World) :
    Calls Try.prog 53 #[.agg #[.int .i64 f0, .int .i64 f1, .int .i64 f2, .int .i64 f3, .int .i64 f4, .slice a n cap, .int .i64 f6]] w fun e w' => e = .returned (.agg #[.int .i64 f0, .int .i64 f1, .int .i64 f2]) ∧ Below w.heap.size w w' := by
  have X := heap_at (w.alloc (.cells #[.int .i64 f0, .int .i64 f1, .int .i64 f2, .int .i64 f3, .int .i64 f4, .slice a n cap, .int .i64 f6] 27)) (.cells #[.int .i64 f0, .int .i64 f1, .int .i64 f2] 72)
  rw [alloc_len] at X
  obtain ⟨r0, r1, r2⟩ := cells_3r X
  go_enter Try.func53, Try.ntmps53
  go_wp2
  refine bodyPost_ret (v := .agg #[.int .i64 f0, .int .i64 f1, .int .i64 f2]) (by simp [results, Try.results53, go_sem]) rfl ⟨rfl, below_step (box_below w _) (box_below _ _)⟩

/-- What the heap holds when k letters have been looked at. -/
structure Picked (xs : List MsgD) (v : MsgD) (k : Nat) (ls : List LetD) : Prop where
  len : ls.length ≤ k
  less : ∀ (i : Nat) (y : LetD), ls[i]? = some y → y.1 < (k : Int)
  none : ls = [] → NoneOf xs v k
  some : ∀ y, ls[0]? = some y → ∃ (j : Nat) (u : MsgD), y.1 = (j : Int) ∧ xs[j]? = some u ∧ sameB u v = true ∧ NoneOf xs v j
theorem picked_no {xs : List MsgD} {v x : MsgD} {k : Nat} {ls : List LetD} (P : Picked xs v k ls) (hx : xs[k]? = Option.some x) (hs : sameB x v = false) : Picked xs v (k + 1) ls :=
  ⟨by have := P.len; omega, fun i y hy => by have := P.less i y hy; omega, fun h j u hj hu => by
    by_cases he : j < k
    · exact P.none h j u he hu
    · have : j = k := by omega
      subst this
      rw [hx] at hu
      cases hu
      exact hs, P.some⟩
theorem picked_yes {xs : List MsgD} {v x : MsgD} {k : Nat} {ls : List LetD} (P : Picked xs v k ls) (hx : xs[k]? = Option.some x) (hs : sameB x v = true) (c : List Value) : Picked xs v (k + 1) (ls ++ [((k : Int), c)]) := by
  refine ⟨by simp; exact P.len, fun i y hy => ?_, fun h => by simp at h, fun y hy => ?_⟩
  · by_cases hi : i < ls.length
    · rw [List.getElem?_append_left hi] at hy
      have := P.less i y hy
      omega
    · rw [List.getElem?_append_right (by omega)] at hy
      have h0 : i - ls.length = 0 := by
        have := (List.getElem?_eq_some_iff.1 hy).1
        simp at this
        omega
      rw [h0] at hy
      cases hy
      show (k : Int) < _
      omega
  · cases ls with
    | nil =>
      cases hy
      exact ⟨k, x, rfl, hx, hs, P.none rfl⟩
    | cons z r =>
      cases hy
      exact P.some _ rfl
def PostI (w : World) (ls : List LetD) (v : MsgD) (wr : World) : Prop :=
  ∃ s, wr.heap[w.heap.size + 1 + 1]? = some (.cells #[s] 83 (0, 0)) ∧ postR.own wr (fun k => (k = w.heap.size + 1 ∨ w.heap.size + 3 ≤ k) ∧ k < wr.heap.size) [s] ls ∧ wr.heap[w.heap.size]? = some (.cells #[.int .i64 v.1, .int .i64 v.2.1, .int .i64 v.2.2.1] 72) ∧ w.heap.size + 3 ≤ wr.heap.size ∧ Below w.heap.size w wr
theorem postI_next {w wr w' : World} {ls : List LetD} {v : MsgD} (h : PostI w ls v wr) (hb : Below wr.heap.size wr w') : PostI w ls v w' := by
  obtain ⟨s, h1, h2, h3, h4, h5⟩ := h
  have := hb.size
  exact ⟨s, row_keep hb h1, postR.own_mono (postR.own_keep h2 (keeps_below hb)) (fun k hk => ⟨hk.1, by have := hk.2; omega⟩), row_keep hb h3, by omega, below_step h5 hb⟩

set_option maxRecDepth 20000 in
set_option maxHeartbeats 8000000 in
theorem firstOf_any (a : Option Addr) (xs : List MsgD) (cap : Nat) (v : MsgD) (w : World) (h : SlRd msgR w a xs) (hm : xs.length ≤ 900) (hex : ∃ (j : Nat) (u : MsgD), xs[j]? = some u ∧ sameB u v = true) :
    Calls Try.prog 52 #[.slice a xs.length cap, .agg #[.int .i64 v.1, .int .i64 v.2.1, .int .i64 v.2.2.1]] w fun e w' => (∃ (j : Nat) (u : MsgD), e = .returned (.int .i64 (j : Int)) ∧ xs[j]? = some u ∧ sameB u v = true ∧ NoneOf xs v j) ∧ Below w.heap.size w w' := by
  have H0 : Hid (∀ W, Below w.heap.size w W → SlRd msgR W a xs) := fun W hb => slrd_keep h fun k hk => hb.block k hk
  have HE : Hid _ := hex
  have hm' : xs.length ≤ 9223372036854775807 := by omega
  clear h hex
  have X := heap_on (.cells #[.slice (some ⟨w.heap.size + 1, 0, none⟩) 0 0] 83) (heap_on (.cells #[] 88) (heap_at w (.cells #[.int .i64 v.1, .int .i64 v.2.1, .int .i64 v.2.2.1] 72)))
  have Y := heap_on (.cells #[.slice (some ⟨w.heap.size + 1, 0, none⟩) 0 0] 83) (heap_at (w.alloc (.cells #[.int .i64 v.1, .int .i64 v.2.1, .int .i64 v.2.2.1] 72)) (.cells #[] 88))
  have Z := heap_at ((w.alloc (.cells #[.int .i64 v.1, .int .i64 v.2.1, .int .i64 v.2.2.1] 72)).alloc (.cells #[] 88)) (.cells #[.slice (some ⟨w.heap.size + 1, 0, none⟩) 0 0] 83)
  rw [alloc_len] at Y
  rw [alloc_len, alloc_len] at Z
  have B := below_step (below_step (box_below w (.cells #[.int .i64 v.1, .int .i64 v.2.1, .int .i64 v.2.2.1] 72)) (box_below _ (.cells #[] 88))) (box_below _ (.cells #[.slice (some ⟨w.heap.size + 1, 0, none⟩) 0 0] 83))
  have e3 : (((w.alloc (.cells #[.int .i64 v.1, .int .i64 v.2.1, .int .i64 v.2.2.1] 72)).alloc (.cells #[] 88)).alloc (.cells #[.slice (some ⟨w.heap.size + 1, 0, none⟩) 0 0] 83)).heap.size = w.heap.size + 3 := by simp
  go_enter Try.func52, Try.ntmps52
  go_wp2
  generalize ((w.alloc (.cells #[.int .i64 v.1, .int .i64 v.2.1, .int .i64 v.2.2.1] 72)).alloc (.cells #[] 88)).alloc (.cells #[.slice (some ⟨w.heap.size + 1, 0, none⟩) 0 0] 83) = W0 at X Y Z B e3 ⊢
  have I0 : PostI w [] v W0 := by
    refine ⟨_, Z, ⟨_, [], fun _ => False, rfl, ⟨rfl, .inr ⟨w.heap.size + 1, 0, #[], rfl, Nat.zero_le _, Y, Nat.le_refl _, by unfold maxLen; omega, rfl, rfl⟩⟩, fun g hg => ?_, fun _ h => h.elim, rfl⟩, X, by omega, B⟩
    simp [Value.ownBlock] at hg
    subst hg
    exact ⟨⟨.inl rfl, by omega⟩, fun h => h⟩
  clear X Y Z B e3
  go_loopw [12] (fun i wr => ∃ k : Nat, k ≤ xs.length ∧ i = .int .i64 k ∧ ∃ ls, Picked xs v k ls ∧ PostI w ls v wr) (fun i _ => xs.length - (intOf i).toNat)
  case atStart => exact ⟨0, Nat.zero_le _, rfl, [], ⟨Nat.le_refl _, fun i y h => by simp at h, fun _ j u hj => by omega, fun y h => by simp at h⟩, I0⟩
  case round =>
    clear I0
    obtain ⟨k, hk, rfl, ls, P, I⟩ := hrel
    by_cases hlt : k < xs.length
    · have hlt' : (k : Int) < (xs.length : Int) := by omega
      obtain ⟨x, hx⟩ : ∃ x, xs[k]? = some x := ⟨_, List.getElem?_eq_getElem hlt⟩
      obtain ⟨s, i1, i2, i3, i4, i5⟩ := id I
      obtain ⟨b, off, cs, rfl, hrd, hcell⟩ := slrd_at (H0.out _ i5) hx
      obtain ⟨ad, cpw, rfl, -, -, -, -, -, -, hd1, hd2, hd3⟩ := msg_rd hrd
      have x0 := hcell 0 _ rfl
      have x1 := hcell 1 _ rfl
      have x2 := hcell 2 _ rfl
      have x3 := hcell 3 _ rfl
      have x4 := hcell 4 _ rfl
      have x5 := hcell 5 _ rfl
      have x6 := hcell 6 _ rfl
      rw [show off + (k * msgR.size + 0) = off + k * 7 from rfl] at x0
      rw [show off + (k * msgR.size + 1) = off + k * 7 + 1 from rfl] at x1
      rw [show off + (k * msgR.size + 2) = off + k * 7 + 2 from rfl] at x2
      rw [show off + (k * msgR.size + 3) = off + k * 7 + 3 from rfl] at x3
      rw [show off + (k * msgR.size + 4) = off + k * 7 + 4 from rfl] at x4
      rw [show off + (k * msgR.size + 5) = off + k * 7 + 5 from rfl] at x5
      rw [show off + (k * msgR.size + 6) = off + k * 7 + 6 from rfl] at x6
      clear hcell hrd hd1 hd2 hd3
      have HX : Hid (xs[k]? = some x) := hx
      have HS : Hid (sameB x v = (decide (x.1 = v.1) && (decide (x.2.1 = v.2.1) && decide (x.2.2.1 = v.2.2.1)))) := rfl
      have HI : Hid _ := I
      clear I i1 i2 i3 i5 hx
      generalize x.1 = p1 at x0 HS
      generalize x.2.1 = p2 at x1 HS
      generalize x.2.2.1 = p3 at x2 HS
      go_wp2
      have I1 := postI_next HI.out (box_below wr (.cells #[.int .i64 p1, .int .i64 p2, .int .i64 p3, .int .i64 x.2.2.2.1, .int .i64 x.2.2.2.2.1, .slice ad x.2.2.2.2.2.1.length cpw, .int .i64 x.2.2.2.2.2.2] 27))
      have MX := heap_at wr (.cells #[.int .i64 p1, .int .i64 p2, .int .i64 p3, .int .i64 x.2.2.2.1, .int .i64 x.2.2.2.2.1, .slice ad x.2.2.2.2.2.1.length cpw, .int .i64 x.2.2.2.2.2.2] 27)
      have e1 : (wr.alloc (.cells #[.int .i64 p1, .int .i64 p2, .int .i64 p3, .int .i64 x.2.2.2.1, .int .i64 x.2.2.2.2.1, .slice ad x.2.2.2.2.2.1.length cpw, .int .i64 x.2.2.2.2.2.2] 27)).heap.size = wr.heap.size + 1 := by simp
      generalize wr.alloc (.cells #[.int .i64 p1, .int .i64 p2, .int .i64 p3, .int .i64 x.2.2.2.1, .int .i64 x.2.2.2.2.1, .slice ad x.2.2.2.2.2.1.length cpw, .int .i64 x.2.2.2.2.2.2] 27) = wr1 at I1 MX e1 ⊢
      obtain ⟨y0, y1, y2, y3, y4, y5, y6⟩ := cells_7 MX
      obtain ⟨z0, z1, z2⟩ := cells_3r (by obtain ⟨s', -, -, h3, -, -⟩ := I1; exact h3 : wr1.heap[w.heap.size]? = some (.cells #[.int .i64 v.1, .int .i64 v.2.1, .int .i64 v.2.2.1] 72))
      have m0 : ∀ n' : Cls (fun wx => Below wr1.heap.size wr1 wx), n'.w.cell? ⟨wr.heap.size, 0, none⟩ = some (.int .i64 p1) := fun n' => cell_keep n'.h y0 (cell_lt y0)
      have m1 : ∀ n' : Cls (fun wx => Below wr1.heap.size wr1 wx), n'.w.cell? ⟨wr.heap.size, 1, none⟩ = some (.int .i64 p2) := fun n' => cell_keep n'.h y1 (cell_lt y1)
      have m2 : ∀ n' : Cls (fun wx => Below wr1.heap.size wr1 wx), n'.w.cell? ⟨wr.heap.size, 2, none⟩ = some (.int .i64 p3) := fun n' => cell_keep n'.h y2 (cell_lt y2)
      have m3 : ∀ n' : Cls (fun wx => Below wr1.heap.size wr1 wx), n'.w.cell? ⟨wr.heap.size, 3, none⟩ = some (.int .i64 x.2.2.2.1) := fun n' => cell_keep n'.h y3 (cell_lt y3)
      have m4 : ∀ n' : Cls (fun wx => Below wr1.heap.size wr1 wx), n'.w.cell? ⟨wr.heap.size, 4, none⟩ = some (.int .i64 x.2.2.2.2.1) := fun n' => cell_keep n'.h y4 (cell_lt y4)
      have m5 : ∀ n' : Cls (fun wx => Below wr1.heap.size wr1 wx), n'.w.cell? ⟨wr.heap.size, 5, none⟩ = some (.slice ad x.2.2.2.2.2.1.length cpw) := fun n' => cell_keep n'.h y5 (cell_lt y5)
      have m6 : ∀ n' : Cls (fun wx => Below wr1.heap.size wr1 wx), n'.w.cell? ⟨wr.heap.size, 6, none⟩ = some (.int .i64 x.2.2.2.2.2.2) := fun n' => cell_keep n'.h y6 (cell_lt y6)
      have r0 : ∀ n' : Cls (fun wx => Below wr1.heap.size wr1 wx), n'.w.cell? ⟨w.heap.size, 0, none⟩ = some (.int .i64 v.1) := fun n' => cell_keep n'.h z0 (cell_lt z0)
      have r1 : ∀ n' : Cls (fun wx => Below wr1.heap.size wr1 wx), n'.w.cell? ⟨w.heap.size, 1, none⟩ = some (.int .i64 v.2.1) := fun n' => cell_keep n'.h z1 (cell_lt z1)
      have r2 : ∀ n' : Cls (fun wx => Below wr1.heap.size wr1 wx), n'.w.cell? ⟨w.heap.size, 2, none⟩ = some (.int .i64 v.2.2.1) := fun n' => cell_keep n'.h z2 (cell_lt z2)
      have HI1 : Hid _ := And.intro I1 MX
      clear y0 y1 y2 y3 y4 y5 y6 z0 z1 z2 I1 MX x0 x1 x2 x3 x4 x5 x6 HI
      by_cases q1 : p1 = v.1
      · by_cases q2 : p2 = v.2.1
        · by_cases q3 : p3 = v.2.2.1
          · have hs : sameB x v = true := by rw [HS.out, q1, q2, q3]; simp
            have HSM : Hid (sameB x v = true) := hs
            clear HS hs
            subst q1 q2 q3
            refine region_class (fun wx => Below wr1.heap.size wr1 wx) (by kernel_rfl) (by kernel_rfl) ((Below.refl _ wr1).drew) ?_
            intro hne
            iterate 3 (quiet_step (first | (go_at_call 53; exact calls_class (route_any _ _ _ _ _ _ _ _ _ _) (fun w' hc bb => below_step hc bb))))
            quiet_step (first | rfl | skip)
            refine wpQuiet_nil ?_
            intro wx b2
            clear m0 m1 m2 m3 m4 m5 m6 r0 r1 r2 hne
            obtain ⟨s2, j1, j2, j3, j4, j5⟩ := postI_next HI1.out.1 b2
            obtain ⟨y0, y1, y2, y3, y4, y5, y6⟩ := cells_7 (row_keep b2 HI1.out.2)
            have sz := b2.size
            have HP := pushRise_any (w.heap.size + 1 + 1) _ s2 ls (k : Int) (.int .i64 v.1) (.int .i64 v.2.1) (.int .i64 v.2.2.1) (.int .i64 x.2.2.2.1) (.int .i64 x.2.2.2.2.1) (.slice ad x.2.2.2.2.2.1.length cpw) (.int .i64 x.2.2.2.2.2.2) wx j1 (fun h => by rcases h.1 with h | h <;> omega) j2 (by have := P.len; omega) (by intro u hu; simp at hu; rcases hu with rfl | rfl | rfl | rfl | rfl | rfl | rfl <;> rfl) (by constructor <;> omega) (fun i y hy => P.less i y hy)
            have HJ : Hid _ := And.intro j3 j5
            clear j1 j2 j3 j5
            go_wp2_with fail
            refine HP.mono ?_
            rintro e w5 ⟨rfl, s3, k1, k2, CH⟩
            have HK : Hid _ := And.intro k1 (And.intro k2 CH)
            clear k1 k2 CH HP y0 y1 y2 y3 y4 y5 y6
            go_wp2
            go_roundw
            case rel =>
              obtain ⟨k1, k2, CH⟩ := HK.out
              obtain ⟨j3, j5⟩ := HJ.out
              have z5 := CH.size
              refine ⟨k + 1, by omega, by go_num, _, picked_yes P HX.out HSM.out _, s3, k1, postR.own_mono k2 (fun q hq => ?_), (CH.block _ (by omega) (fun hq => ?_)).trans j3, by omega, CH.below j5 (fun q hq => ?_) (by omega)⟩
              · rcases hq with hq | hq
                · exact ⟨hq.1.1, by have := hq.2; omega⟩
                · exact ⟨.inr (by omega), hq.2⟩
              · rcases hq with hq | hq
                · rcases hq.1.1 with h | h <;> omega
                · omega
              · rcases hq with hq | hq
                · rcases hq.1.1 with h | h <;> omega
                · omega
            case measure => simp [intOf]; omega
          · have hs : sameB x v = false := by rw [HS.out]; simp [q3]
            have HSM : Hid (sameB x v = false) := hs
            clear HS hs
            subst q1 q2
            refine region_class (fun wx => Below wr1.heap.size wr1 wx) (by kernel_rfl) (by kernel_rfl) ((Below.refl _ wr1).drew) ?_
            intro hne
            iterate 3 (quiet_step (first | (go_at_call 53; exact calls_class (route_any _ _ _ _ _ _ _ _ _ _) (fun w' hc bb => below_step hc bb))))
            quiet_step (first | rfl | skip)
            refine wpQuiet_nil ?_
            intro wx b2
            clear m0 m1 m2 m3 m4 m5 m6 r0 r1 r2 hne
            go_wp2
            go_roundw
            case rel => exact ⟨k + 1, by omega, by go_num, ls, picked_no P HX.out HSM.out, postI_next HI1.out.1 b2⟩
            case measure => simp [intOf]; omega
        · have hs : sameB x v = false := by rw [HS.out]; simp [q2]
          have HSM : Hid (sameB x v = false) := hs
          clear HS hs
          subst q1
          refine region_class (fun wx => Below wr1.heap.size wr1 wx) (by kernel_rfl) (by kernel_rfl) ((Below.refl _ wr1).drew) ?_
          intro hne
          iterate 3 (quiet_step (first | (go_at_call 53; exact calls_class (route_any _ _ _ _ _ _ _ _ _ _) (fun w' hc bb => below_step hc bb))))
          quiet_step (first | rfl | skip)
          refine wpQuiet_nil ?_
          intro wx b2
          clear m0 m1 m2 m3 m4 m5 m6 r0 r1 r2 hne
          go_wp2
          go_roundw
          case rel => exact ⟨k + 1, by omega, by go_num, ls, picked_no P HX.out HSM.out, postI_next HI1.out.1 b2⟩
          case measure => simp [intOf]; omega
      · have hs : sameB x v = false := by rw [HS.out]; simp [q1]
        have HSM : Hid (sameB x v = false) := hs
        clear HS hs
        refine region_class (fun wx => Below wr1.heap.size wr1 wx) (by kernel_rfl) (by kernel_rfl) ((Below.refl _ wr1).drew) ?_
        intro hne
        iterate 3 (quiet_step (first | (go_at_call 53; exact calls_class (route_any _ _ _ _ _ _ _ _ _ _) (fun w' hc bb => below_step hc bb))))
        quiet_step (first | rfl | skip)
        refine wpQuiet_nil ?_
        intro wx b2
        clear m0 m1 m2 m3 m4 m5 m6 r0 r1 r2 hne
        go_wp2
        go_roundw
        case rel => exact ⟨k + 1, by omega, by go_num, ls, picked_no P HX.out HSM.out, postI_next HI1.out.1 b2⟩
        case measure => simp [intOf]; omega
    · have hkn : k = xs.length := by omega
      subst hkn
      obtain ⟨s, i1, i2, i3, i4, i5⟩ := I
      obtain ⟨j0, u0, hj0, hu0⟩ := HE.out
      cases hls : ls with
      | nil =>
        have := P.none hls j0 u0 (List.getElem?_eq_some_iff.1 hj0).1 hj0
        rw [this] at hu0
        cases hu0
      | cons y r =>
        subst hls
        obtain ⟨j, u, hyj, hxj, hsm, hno⟩ := P.some y rfl
        obtain ⟨a9, c9, e9, _, _, hsl⟩ := postR.own_rd i2
        simp only [List.cons.injEq, and_true] at e9
        subst e9
        obtain ⟨b, off, cs, rfl, hrd, hcell⟩ := slrd_at (j := 0) (x := y) hsl rfl
        obtain ⟨rfl, -, -⟩ := let_rd hrd
        have x0 := hcell 0 _ rfl
        rw [show off + (0 * letR.size + 0) = off from by simp] at x0
        have q0 : wr.cell? ⟨w.heap.size + 1 + 1, 0, none⟩ = some (.slice (some ⟨b, off, none⟩) (y :: r).length c9) := by rw [cell_of_row wr _ 0 _ _ (0, 0) i1]; rfl
        have HR : Hid _ := And.intro hxj (And.intro hsm (And.intro hno i5))
        have hyl : (0 : Int) < ((y :: r).length : Int) := by simp
        rw [hyj] at x0
        generalize (y :: r).length = nl at q0 hyl
        clear hcell hrd hsl i1 i2 i3 hxj hsm hno i5
        go_wp2
        go_ret
        exact ⟨⟨j, u, rfl, HR.out.1, HR.out.2.1, HR.out.2.2.1⟩, HR.out.2.2.2⟩
end Go.Proofs.Ytfflmbpjolgghaa
