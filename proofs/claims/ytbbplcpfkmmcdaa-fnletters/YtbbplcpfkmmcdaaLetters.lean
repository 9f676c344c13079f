/- Which letter is picked, and the letters of one road, of the laws. Conditions: lengths that a machine can hold. -/
import Derived.Test.YtbbplcpfkmmcdaaLetterFacts
import Derived.Test.YtbbplcpfkmmcdaaAdds
import Derived.Test.YtbbplcpfkmmcdaaDrawLine
import Derived.BigQuiet
namespace Go.Proofs.Ytbbplcpfkmmcdaa
open Go.ChangeShapes Go.WideShapes Go.ChangeAt Go.RowKit
set_option linter.unusedVariables false

set_option maxHeartbeats 2000000 in
theorem pick_any (a : Option Addr) (len cap : Nat) (zs : List Int) (s n : Int) (w : World) (hr : Row8 w a len zs) (hn : 0 < n) :
    Calls Try.prog 23 #[.slice a len cap, .int .i64 s, .int .i64 n] w fun e w' => (∃ k : Int, e = .returned (.int .i64 k)) ∧ w' = w := by
  have hl := hr.1
  have hn0 : ¬ n = 0 := by omega
  have hn1 : (n == 0) = false := by simp; omega
  go_enter Try.func23, Try.ntmps23
  go_wp2
  go_loop [7, 8] (fun q i => ∃ (j : Nat) (x : Int), j ≤ len ∧ i = .int .i64 j ∧ q = .int .i64 x) (fun _ i => len - (intOf i).toNat)
  case atStart => exact ⟨0, _, Nat.zero_le _, rfl, rfl⟩
  case round =>
    obtain ⟨j, x, hj, rfl, rfl⟩ := hrel
    by_cases hlt : j < len
    · have hlt' : (j : Int) < (len : Int) := by omega
      rcases hr.2 with h0 | ⟨b, off, rfl, hb, hc⟩
      · omega
      · have hcj := hc j hlt
        clear hc
        go_wp2
        go_round
        case rel => exact ⟨j + 1, _, by omega, by go_num, rfl⟩
        case measure => simp [intOf]; omega
    · have hjn : j = len := by omega
      subst hjn
      clear hr
      go_wp2
      go_ret
      exact ⟨⟨_, rfl⟩, rfl⟩
theorem lrd_push {α : Type} {R : Rep α} {w : World} {c : List Value} {x : α} : ∀ {cs : List Value} {xs : List α}, lrd R w cs xs → R.rd w c x → lrd R w (cs ++ c) (xs ++ [x])
  | cs, [], h, hx => by
    rw [show cs = [] from h]
    exact ⟨c, [], by simp, hx, rfl⟩
  | cs, y :: ys, ⟨c1, c2, e, h1, h2⟩, hx => by
    subst e
    exact ⟨c1, c2 ++ c, by simp, h1, lrd_push h2 hx⟩
theorem ofR_next {xs : List MsgD} {k : Nat} {x v : MsgD} (hx : xs[k]? = some x) : ofR (xs.take (k + 1)) v = ofR (xs.take k) v ++ (if sameB x v then [x] else []) := by
  rw [List.take_add_one, hx]
  by_cases hs : sameB x v = true
  · simp [ofR, hs]
  · simp [ofR, hs]
theorem ofR_le (xs : List MsgD) (v : MsgD) : (ofR xs v).length ≤ xs.length := List.length_filter_le _ _
/-- What holds between two rounds of 'ofRoad'. -/
structure RoadI (w wr : World) (u : MsgD) (am : Option Addr) (cm : Nat) (os : List MsgD) (au : Option Addr) (cu : Nat) : Prop where
  box : wr.heap[w.heap.size]? = some (.cells #[.int .i64 u.1, .int .i64 u.2.1, .int .i64 u.2.2.1, .int .i64 u.2.2.2.1, .int .i64 u.2.2.2.2.1, .slice am u.2.2.2.2.2.1.length cm, .int .i64 u.2.2.2.2.2.2] 27 (0, 0))
  row : ∃ rows, lrd msgR w rows os ∧ wr.ownsRow (w.heap.size + 1) 27 7 (.slice au os.length cu) os.length rows
  below : Below w.heap.size w wr
theorem roadI_drewN {w wr : World} {u : MsgD} {am au : Option Addr} {cm cu : Nat} {os : List MsgD} (h : RoadI w wr u am cm os au cu) (n : Nat) : RoadI w (wr.drewN n) u am cm os au cu :=
  ⟨h.box, by obtain ⟨rows, h1, h2⟩ := h.row; exact ⟨rows, h1, orow_keep h2 fun _ _ => rfl⟩, be_drewN h.below n⟩

set_option maxRecDepth 20000 in
set_option maxHeartbeats 8000000 in
theorem ofRoad_any (a : Option Addr) (xs : List MsgD) (cap : Nat) (u : MsgD) (am : Option Addr) (cm : Nat) (w : World) (h : SlRd msgR w a xs) (hm : xs.length ≤ 1000) :
    Calls Try.prog 24 #[.slice a xs.length cap, .agg #[.int .i64 u.1, .int .i64 u.2.1, .int .i64 u.2.2.1, .int .i64 u.2.2.2.1, .int .i64 u.2.2.2.2.1, .slice am u.2.2.2.2.2.1.length cm, .int .i64 u.2.2.2.2.2.2]] w fun e w' => ∃ ao co, e = .returned (.slice ao (ofR xs u).length co) ∧ SlRd msgR w' ao (ofR xs u) ∧ Below w.heap.size w w' := by
  have H0 : Hid (∀ W, Below w.heap.size w W → SlRd msgR W a xs) := fun W hb => slrd_keep h fun k hk => hb.block k hk
  have H1 : Hid (SlRd msgR w a xs) := h
  obtain ⟨ti, hi, hz0, hz1, hz2⟩ := info_parts Try.infoMsg
  have X := heap_on (.cells #[] 27) (heap_at w (.cells #[.int .i64 u.1, .int .i64 u.2.1, .int .i64 u.2.2.1, .int .i64 u.2.2.2.1, .int .i64 u.2.2.2.2.1, .slice am u.2.2.2.2.2.1.length cm, .int .i64 u.2.2.2.2.2.2] 27))
  have Y := heap_at (w.alloc (.cells #[.int .i64 u.1, .int .i64 u.2.1, .int .i64 u.2.2.1, .int .i64 u.2.2.2.1, .int .i64 u.2.2.2.2.1, .slice am u.2.2.2.2.2.1.length cm, .int .i64 u.2.2.2.2.2.2] 27)) (.cells #[] 27)
  rw [alloc_len] at Y
  have B := below_step (box_below w (.cells #[.int .i64 u.1, .int .i64 u.2.1, .int .i64 u.2.2.1, .int .i64 u.2.2.2.1, .int .i64 u.2.2.2.2.1, .slice am u.2.2.2.2.2.1.length cm, .int .i64 u.2.2.2.2.2.2] 27)) (box_below _ (.cells #[] 27))
  have I0 : RoadI w _ u am cm [] (some ⟨w.heap.size + 1, 0, none⟩) 0 := ⟨X, ⟨[], rfl, ⟨rfl, .inr ⟨w.heap.size + 1, 0, #[], rfl, Nat.le_refl _, Y, Nat.le_refl _, by unfold maxLen; omega, rfl, rfl⟩⟩⟩, B⟩
  have HI0 : Hid _ := I0
  clear h X Y B I0
  go_enter Try.func24, Try.ntmps24
  go_wp2
  go_loopw [5, 6] (fun r i wr => ∃ (k : Nat) (au : Option Addr) (cu : Nat), k ≤ xs.length ∧ i = .int .i64 k ∧ r = .slice au (ofR (xs.take k) u).length cu ∧ RoadI w wr u am cm (ofR (xs.take k) u) au cu) (fun _ i _ => xs.length - (intOf i).toNat)
  case atStart => exact ⟨0, _, _, Nat.zero_le _, rfl, rfl, HI0.out⟩
  case round =>
    clear HI0
    obtain ⟨k, au, cu, hk, rfl, rfl, I⟩ := hrel
    have hol := ofR_le (xs.take k) u
    rw [List.length_take] at hol
    by_cases hlt : k < xs.length
    · have hlt' : (k : Int) < (xs.length : Int) := by omega
      obtain ⟨x, hx⟩ : ∃ x, xs[k]? = some x := ⟨_, List.getElem?_eq_getElem hlt⟩
      have HN : Hid _ := ofR_next (v := u) hx
      obtain ⟨b, off, cs, rfl, hrd, hcell⟩ := slrd_at (H0.out _ I.below) hx
      obtain ⟨ad, cpw, rfl, -⟩ := msg_rd hrd
      have HRD : Hid (msgR.rd w [.int .i64 x.1, .int .i64 x.2.1, .int .i64 x.2.2.1, .int .i64 x.2.2.2.1, .int .i64 x.2.2.2.2.1, .slice ad x.2.2.2.2.2.1.length cpw, .int .i64 x.2.2.2.2.2.2] x) := by
        obtain ⟨b', off', cs', e', hrd', hcell'⟩ := slrd_at H1.out hx
        simp only [Option.some.injEq, Addr.mk.injEq, and_true] at e'
        obtain ⟨rfl, rfl⟩ := e'
        obtain ⟨ad', cpw', rfl, -⟩ := msg_rd hrd'
        have p1 := hcell' 5 _ rfl
        have p2 := hcell 5 _ rfl
        have p3 := cell_keep I.below p1 (cell_lt p1)
        rw [p3] at p2
        simp only [Option.some.injEq, Value.slice.injEq, true_and] at p2
        rw [← p2.1, ← p2.2]
        exact hrd'
      have x0 := hcell 0 _ rfl
      have x1 := hcell 1 _ rfl
      have x2 := hcell 2 _ rfl
      have x3 := hcell 3 _ rfl
      have x4 := hcell 4 _ rfl
      have x5 := hcell 5 _ rfl
      have x6 := hcell 6 _ rfl
      rw [show off + (k * msgR.size + 0) = off + k * 7 from rfl] at x0
      rw [show off + (k * msgR.size + 1) = off + k * 7 + 1 from rfl] at x1
      rw [show off + (k * msgR.size + 2) = off + k * 7 + 2 from rfl] at x2
      rw [show off + (k * msgR.size + 3) = off + k * 7 + 3 from rfl] at x3
      rw [show off + (k * msgR.size + 4) = off + k * 7 + 4 from rfl] at x4
      rw [show off + (k * msgR.size + 5) = off + k * 7 + 5 from rfl] at x5
      rw [show off + (k * msgR.size + 6) = off + k * 7 + 6 from rfl] at x6
      obtain ⟨m0, m1, m2, m3, m4, m5, m6⟩ := cells_7 I.box
      have HI : Hid _ := I
      have HS : Hid (sameB x u = (decide (x.1 = u.1) && (decide (x.2.1 = u.2.1) && decide (x.2.2.1 = u.2.2.1)))) := rfl
      clear hcell hrd hx I
      generalize hp1 : u.1 = p1 at m0 HS
      generalize hp2 : u.2.1 = p2 at m1 HS
      generalize hp3 : u.2.2.1 = p3 at m2 HS
      clear hp1 hp2 hp3 m3 m4 m5 m6
      by_cases q1 : x.1 = p1
      · by_cases q2 : x.2.1 = p2
        · by_cases q3 : x.2.2.1 = p3
          · have hs : Hid (sameB x u = true) := by unfold Hid; rw [HS.out, q1, q2, q3]; simp
            clear HS
            subst q1 q2 q3
            go_wp2
            go_quiet (fail)
            have I := roadI_drewN HI.out nq
            clear HI m0 m1 m2
            obtain ⟨rows, lr, hr0⟩ := I.row
            have hrA : ((wr.drewN nq).alloc (.cells #[.int .i64 x.1, .int .i64 x.2.1, .int .i64 x.2.2.1, .int .i64 x.2.2.2.1, .int .i64 x.2.2.2.2.1, .slice ad x.2.2.2.2.2.1.length cpw, .int .i64 x.2.2.2.2.2.2] 27)).ownsRow (w.heap.size + 1) 27 7 (.slice au (ofR (xs.take k) u).length cu) (ofR (xs.take k) u).length rows := orow_keep hr0 fun g hg => by
              have hl := World.ownsRow.lt hr0 g hg
              rw [Below.heap_alloc _ _ _ hl.2]
            have hbs : w.heap.size + 1 ≤ ((wr.drewN nq).alloc (.cells #[.int .i64 x.1, .int .i64 x.2.1, .int .i64 x.2.2.1, .int .i64 x.2.2.2.1, .int .i64 x.2.2.2.2.1, .slice ad x.2.2.2.2.2.1.length cpw, .int .i64 x.2.2.2.2.2.2] 27)).heap.size := by have := I.below.size; simp at this ⊢; omega
            have HM : Hid _ := And.intro I (And.intro lr hr0)
            clear I lr hr0
            replace x0 : (wr.drewN nq).cell? ⟨b, off + k * 7, none⟩ = some (.int .i64 x.1) := x0
            replace x1 : (wr.drewN nq).cell? ⟨b, off + k * 7 + 1, none⟩ = some (.int .i64 x.2.1) := x1
            replace x2 : (wr.drewN nq).cell? ⟨b, off + k * 7 + 2, none⟩ = some (.int .i64 x.2.2.1) := x2
            replace x3 : (wr.drewN nq).cell? ⟨b, off + k * 7 + 3, none⟩ = some (.int .i64 x.2.2.2.1) := x3
            replace x4 : (wr.drewN nq).cell? ⟨b, off + k * 7 + 4, none⟩ = some (.int .i64 x.2.2.2.2.1) := x4
            replace x5 : (wr.drewN nq).cell? ⟨b, off + k * 7 + 5, none⟩ = some (.slice ad x.2.2.2.2.2.1.length cpw) := x5
            replace x6 : (wr.drewN nq).cell? ⟨b, off + k * 7 + 6, none⟩ = some (.int .i64 x.2.2.2.2.2.2) := x6
            generalize wr.drewN nq = wq at hrA hbs HM x0 x1 x2 x3 x4 x5 x6 ⊢
            go_wp2_with (at_builtin; refine wpList_append_own _ rfl _ _ 24 rfl (w.heap.size + 1) 27 ti (.agg #[.int .i64 0, .int .i64 0, .int .i64 0, .int .i64 0, .int .i64 0, .slice none 0 0, .int .i64 0]) 7 72 Try.underlying24 hi hz0 hz1 hz2 rfl (by decide) _ _ _ rfl hrA ⟨wq.heap.size, 0, none⟩ 1 1 [.int .i64 x.1, .int .i64 x.2.1, .int .i64 x.2.2.1, .int .i64 x.2.2.2.1, .int .i64 x.2.2.2.2.1, .slice ad x.2.2.2.2.2.1.length cpw, .int .i64 x.2.2.2.2.2.2] rfl rfl ?c1 ?c2 ?c3 ?c4 ?c5 ?_)
            case c1 => exact cells_news wq _ _
            case c2 => exact one_7 _ _ _ _ _ _ _ _ _
            case c3 => unfold maxLen; omega
            case c4 => omega
            case c5 => exact hbs
            intro v' w3 hown' hgrow hnil
            obtain ⟨g', cap', rfl⟩ := owns_shape hown'
            have NI : Hid (RoadI w w3 u am cm (ofR (xs.take (k + 1)) u) (some ⟨g', 0, none⟩) cap' ∧ (ofR (xs.take (k + 1)) u).length = (ofR (xs.take k) u).length + 1) := by
              obtain ⟨I, lr, hr0⟩ := HM.out
              have hoe : ofR (xs.take (k + 1)) u = ofR (xs.take k) u ++ [x] := by rw [HN.out, hs.out]; rfl
              have hol2 : (ofR (xs.take k) u ++ [x]).length = (ofR (xs.take k) u).length + 1 := by simp
              have hz3 : wq.heap.size + 1 ≤ w3.heap.size := by have := hgrow.size; simpa using this
              have hbx := (Array.getElem?_eq_some_iff.1 I.box).1
              rw [hoe]
              refine ⟨⟨?_, ⟨_, lrd_push lr HRD.out, by rw [hol2]; exact hown'⟩, ?_⟩, hol2⟩
              · rw [hgrow.block w.heap.size (by simp; omega) (fun e => by have := (World.ownsRow.lt hr0 w.heap.size (by simpa using e.symm)).1; omega), Below.heap_alloc _ _ _ hbx]
                exact I.box
              · exact (I.below.alloc I.below.size _).grown hgrow (by have := I.below.size; simp; omega) (fun j hj => by have := (World.ownsRow.lt hr0 j (by simpa using hj)).1; omega)
            clear hown' hgrow hnil HM hrA hbs x0 x1 x2 x3 x4 x5 x6
            go_wp2
            go_roundw
            case rel => exact ⟨k + 1, _, _, by omega, by go_num, by rw [NI.out.2], NI.out.1⟩
            case measure => simp [intOf]; omega
          · skip
            have hs : Hid (sameB x u = false) := by unfold Hid; rw [HS.out]; simp [q3]
            clear HS
            subst q1 q2
            have q3b : (x.2.2.1 == p3) = false := beq_false_of_ne q3
            go_wp2
            go_quiet (fail)
            have I := roadI_drewN HI.out nq
            have hoe : ofR (xs.take (k + 1)) u = ofR (xs.take k) u := by rw [HN.out, hs.out]; simp
            have HI2 : Hid (RoadI w (wr.drewN nq) u am cm (ofR (xs.take (k + 1)) u) au cu ∧ (ofR (xs.take (k + 1)) u).length = (ofR (xs.take k) u).length) := ⟨by rw [hoe]; exact I, by rw [hoe]⟩
            clear HI I hoe m0 m1 m2 x0 x1 x2 x3 x4 x5 x6
            generalize wr.drewN nq = wq at HI2 ⊢
            go_wp2
            go_roundw
            case rel => exact ⟨k + 1, au, cu, by omega, by go_num, by rw [HI2.out.2], HI2.out.1⟩
            case measure => simp [intOf]; omega
        · skip
          have hs : Hid (sameB x u = false) := by unfold Hid; rw [HS.out]; simp [q2]
          clear HS
          subst q1
          have q2b : (x.2.1 == p2) = false := beq_false_of_ne q2
          go_wp2
          go_quiet (fail)
          have I := roadI_drewN HI.out nq
          have hoe : ofR (xs.take (k + 1)) u = ofR (xs.take k) u := by rw [HN.out, hs.out]; simp
          have HI2 : Hid (RoadI w (wr.drewN nq) u am cm (ofR (xs.take (k + 1)) u) au cu ∧ (ofR (xs.take (k + 1)) u).length = (ofR (xs.take k) u).length) := ⟨by rw [hoe]; exact I, by rw [hoe]⟩
          clear HI I hoe m0 m1 m2 x0 x1 x2 x3 x4 x5 x6
          generalize wr.drewN nq = wq at HI2 ⊢
          go_wp2
          go_roundw
          case rel => exact ⟨k + 1, au, cu, by omega, by go_num, by rw [HI2.out.2], HI2.out.1⟩
          case measure => simp [intOf]; omega
      · skip
        have hs : Hid (sameB x u = false) := by unfold Hid; rw [HS.out]; simp [q1]
        clear HS
        have q1b : (x.1 == p1) = false := beq_false_of_ne q1
        go_wp2
        go_quiet (fail)
        have I := roadI_drewN HI.out nq
        have hoe : ofR (xs.take (k + 1)) u = ofR (xs.take k) u := by rw [HN.out, hs.out]; simp
        have HI2 : Hid (RoadI w (wr.drewN nq) u am cm (ofR (xs.take (k + 1)) u) au cu ∧ (ofR (xs.take (k + 1)) u).length = (ofR (xs.take k) u).length) := ⟨by rw [hoe]; exact I, by rw [hoe]⟩
        clear HI I hoe m0 m1 m2 x0 x1 x2 x3 x4 x5 x6
        generalize wr.drewN nq = wq at HI2 ⊢
        go_wp2
        go_roundw
        case rel => exact ⟨k + 1, au, cu, by omega, by go_num, by rw [HI2.out.2], HI2.out.1⟩
        case measure => simp [intOf]; omega
    · have hkn : k = xs.length := by omega
      subst hkn
      rw [List.take_length] at I
      have HI : Hid _ := I
      have hto : ofR (xs.take xs.length) u = ofR xs u := by rw [List.take_length]
      clear I
      rw [hto]
      clear hto
      go_wp2
      go_ret
      refine ⟨_, _, rfl, ?_, HI.out.below⟩
      obtain ⟨rows, lr, hr0⟩ := HI.out.row
      have lr2 := lrd_keep lr (fun k hk => HI.out.below.block k hk)
      rcases hr0.2 with ⟨e1, e2⟩ | ⟨g, cp, cur, e1, _, hh, hc, hmx, hsz, ht⟩
      · exact .inl (List.eq_nil_of_length_eq_zero e2)
      · simp only [Value.slice.injEq] at e1
        rw [e1.1]
        refine .inr ⟨g, 0, rows, rfl, lr2, fun j v hv => ?_⟩
        have hj : j < rows.length := (List.getElem?_eq_some_iff.1 hv).1
        rw [e1.1, e1.2.2] at hr0
        rw [Nat.zero_add, World.ownsRow.cellAt hr0 j (by have := hr0.1; omega)]
        exact hv
end Go.Proofs.Ytbbplcpfkmmcdaa
