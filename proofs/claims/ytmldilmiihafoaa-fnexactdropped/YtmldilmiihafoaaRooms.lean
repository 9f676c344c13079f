/- What must go, of the program: against stores as plain lists. Conditions: lists that read as told, of lengths that a machine can hold. -/
import Derived.Test.YtmldilmiihafoaaFinds
import Derived.Test.YtmldilmiihafoaaTree5
import Derived.Test.YtmldilmiihafoaaJBitsLinesClassesWays2
namespace Go.Proofs.Ytmldilmiihafoaa
open Go.ChangeShapes Go.WideShapes Go.ChangeAt Go.RowKit Go.Shelf
set_option linter.unusedVariables false

theorem idx_congr {p q : WayD → Bool} : ∀ {row : List WayD}, (∀ u ∈ row, p u = q u) → row.findIdx? p = row.findIdx? q
  | [], _ => rfl
  | u :: row, h => by
    simp only [List.findIdx?_cons, h u (by simp), idx_congr (row := row) fun x hx => h x (by simp [hx])]
def idxI (o : Option Nat) : Int := match o with
  | some i => (i : Int)
  | none => -1
theorem firstI_eq (row : List WayD) (line : Int) : firstI row line = idxI (row.findIdx? fun u => u.1 == line) := by
  unfold firstI idxI
  cases row.findIdx? fun u => u.1 == line <;> rfl
theorem idxI_neg (o : Option Nat) : (idxI o != -1) = o.isSome := by
  cases o with
  | none => rfl
  | some i =>
    have : ((i : Int) != -1) = true := by simp
    exact this

theorem at_first {c : CacheD} {line : Int} (h0 : 0 ≤ line) : firstI (rowFor c line) line = idxI (atC c line) := by
  rw [firstI_eq]
  unfold atC
  rw [if_neg (by omega)]
theorem room_first {c : CacheD} (h : OkC isL treeB c) (line : Int) : firstI (rowFor c line) (-1) = idxI (roomC c line) := by
  rw [firstI_eq]
  unfold roomC
  congr 1
  refine idx_congr fun u hu => ?_
  obtain ⟨h1, h2, m, hm, h3⟩ := h
  obtain ⟨i, hi⟩ := List.mem_iff_getElem?.1 hu
  rcases (h3 _ _ (rowFor_get (line := line) h1)).2.2.1 i u hi with hc | ⟨hf, _⟩
  · rw [hc, clear_eq hc]
    rfl
  · rw [full_not_clear hf]
    have := (full_line hf).1
    simp
    omega
theorem at_out {c : CacheD} (h : OkC isL treeB c) {line : Int} (hl : betw line 0 15 = false) : atC c line = none := by
  cases ha : atC c line with
  | none => rfl
  | some i =>
    obtain ⟨h0, u, hu, he⟩ := at_some ha
    obtain ⟨h1, h2, m, hm, h3⟩ := h
    rcases (h3 _ _ (rowFor_get (line := line) h1)).2.2.1 i u hu with hc | ⟨hf, _⟩
    · rw [clear_eq hc] at he
      simp [emptyW] at he
      omega
    · have := full_line hf
      simp [betw] at hl
      omega
theorem findP_eq {c : CacheD} (h : OkC isL treeB c) {line : Int} : findP c line = if betw line 0 15 then (((setNo c line : Nat) : Int), idxI (atC c line), (atC c line).isSome) else (0, 0, false) := by
  unfold findP
  split
  · rename_i hb
    have h0 : 0 ≤ line := by simp [betw] at hb; omega
    rw [at_first h0, idxI_neg, setNo_cast h.1]
  · rfl
theorem roomP_eq {c : CacheD} (h : OkC isL treeB c) {line : Int} (hb : betw line 0 15 = true) : roomP c line = (((setNo c line : Nat) : Int), idxI (putNo c line), (putNo c line).isSome) := by
  unfold roomP
  rw [findP_eq h, if_pos hb]
  unfold putNo
  cases ha : atC c line with
  | some i => rfl
  | none =>
    show (line % (c.1.length : Int), firstI (rowFor c line) (-1), firstI (rowFor c line) (-1) != -1) = _
    rw [room_first h, idxI_neg, setNo_cast h.1]

/-- The ways of a right store are as many in every set; its tree is right. -/
theorem ok_tree {c : CacheD} (h : OkC isL treeB c) (line : Int) : (rowFor c line).length = waysN c ∧ c.2[setNo c line]? = some (treeFor c line) ∧ treeB (treeFor c line) (waysN c) = true ∧ (c.1.getD 0 []).length = waysN c ∧ c.1[0]? = some (c.1.getD 0 []) ∧ 0 < c.1.length ∧ c.2.length = c.1.length := by
  obtain ⟨h1, h2, m, hm, h3⟩ := h
  have hpos := pow3_pos h1
  have e0 : c.1[0]? = some (c.1.getD 0 []) := by rw [List.getD_eq_getElem?_getD, List.getElem?_eq_getElem hpos]; rfl
  have hw : waysN c = m := (h3 0 _ e0).1
  obtain ⟨a1, a2, a3, a4⟩ := tree_get (line := line) h1 h2 h3
  rw [hw]
  exact ⟨a1, a2, a3, (h3 0 _ e0).1, e0, hpos, h2⟩
theorem go_in {t n : Int} (h : treeB t n = true) : 0 ≤ goI t n ∧ goI t n < n ∧ viI t n = goI t n := by
  refine ⟨?_, ?_, by unfold viI; rw [if_pos h]⟩
  all_goals
    simp only [treeB, decide_eq_true_eq] at h
    unfold goI
    rcases h with ⟨rfl, rfl⟩ | ⟨rfl, h1, h2⟩ | ⟨rfl, h1, h2⟩
    · simp
    · simp
      omega
    · have ht : t = 0 ∨ t = 1 ∨ t = 2 ∨ t = 3 ∨ t = 4 ∨ t = 5 ∨ t = 6 ∨ t = 7 := by omega
      rcases ht with rfl | rfl | rfl | rfl | rfl | rfl | rfl | rfl <;> decide

/-- What the store answers for 'Leaves'. -/
noncomputable def leavesI (c : CacheD) (line : Int) : Int := leavesC isL treeB goI c line
theorem leaves_no {c : CacheD} {line : Int} (h : (okB isL treeB c && betw line 0 15) = false) : leavesI c line = -1 := by
  unfold leavesI leavesC
  rw [h]
  rfl
theorem leaves_room {c : CacheD} {line : Int} {i : Nat} (hp : putNo c line = some i) : leavesI c line = -1 := by
  unfold leavesI leavesC
  rw [hp]
  split <;> rfl
theorem leaves_go {c : CacheD} {line : Int} (h : OkC isL treeB c) (hb : betw line 0 15 = true) (hp : putNo c line = none) {u : WayD} (hu : (rowFor c line)[(goI (treeFor c line) (waysN c)).toNat]? = some u) : leavesI c line = u.1 := by
  unfold leavesI leavesC
  rw [okB_iff.2 h, hb, hp, (ok_tree h line).1]
  simp only [Bool.and_self, if_true]
  rw [getD_of hu]

set_option maxHeartbeats 2000000 in
theorem implLeaves_any (a b : Option Addr) (c : CacheD) (cap cp : Nat) (line : Int) (w : World) (h1 : SlRd waysR w a c.1) (h2 : SlRd intR w b c.2) (m1 : c.1.length ≤ maxLen) (m2 : c.2.length ≤ maxLen) (m3 : ∀ row ∈ c.1, row.length ≤ maxLen) :
    Calls Try.prog 25 #[.agg #[.slice a c.1.length cap, .slice b c.2.length cp], .int .i64 line] w fun e w' => e = .returned (.int .i64 (leavesI c line)) ∧ Below w.heap.size w w' := by
  have X := heap_at w (.cells #[.slice a c.1.length cap, .slice b c.2.length cp] 27)
  have B := box_below w (.cells #[.slice a c.1.length cap, .slice b c.2.length cp] 27)
  have HOK : Hid (∀ W, Below w.heap.size w W → Calls Try.prog 18 #[.agg #[.slice a c.1.length cap, .slice b c.2.length cp]] W fun e w' => e = .returned (.bool (okB isL treeB c)) ∧ Below W.heap.size W w') := fun W hb =>
    implCacheOk_any a b c cap cp W (slrd_keep h1 fun k hk => hb.block k hk) (slrd_keep h2 fun k hk => hb.block k hk) m1 m2 m3
  cases hok : okB isL treeB c
  · have HL : Hid (leavesI c line = -1) := leaves_no (by rw [hok]; rfl)
    rw [hok] at HOK
    clear h1 h2 m1 m2 m3
    go_enter Try.func25, Try.ntmps25
    go_wp2_with fail
    refine (HOK.out _ B).mono ?_
    rintro e w1 ⟨rfl, b1⟩
    replace B := below_step B b1
    clear b1 X HOK
    go_wp2
    go_ret
    exact ⟨ret_int HL.out.symm, B⟩
  · have hokc := okB_iff.1 hok
    rw [hok] at HOK
    cases hb : betw line 0 15
    · have HL : Hid (leavesI c line = -1) := leaves_no (by rw [hb, Bool.and_false])
      clear h1 h2 m1 m2 m3 hokc
      go_enter Try.func25, Try.ntmps25
      go_wp2_with fail
      refine (HOK.out _ B).mono ?_
      rintro e w1 ⟨rfl, b1⟩
      replace B := below_step B b1
      clear b1 X HOK
      go_wp2_with (go_at_call 65; refine (lineNumberOk_any _ _).mono ?_; rintro e w' ⟨rfl, rfl⟩; rw [hb])
      go_ret
      exact ⟨ret_int HL.out.symm, B⟩
    · have hl0 : 0 ≤ line := by simp [betw] at hb; omega
      have HRM : Hid (∀ W, Below w.heap.size w W → Calls Try.prog 41 #[.agg #[.slice a c.1.length cap, .slice b c.2.length cp], .int .i64 line] W fun e w' => e = .returned (.tuple #[.agg #[.int .i64 ((setNo c line : Nat) : Int), .int .i64 (idxI (putNo c line))], .bool (putNo c line).isSome]) ∧ Below W.heap.size W w') := fun W hbw => by
        have := implRoom_any a b c cap cp line W hokc (slrd_keep h1 fun k hk => hbw.block k hk) hl0
        rwa [roomP_eq hokc hb] at this
      cases hp : putNo c line with
      | some i =>
        have HL : Hid (leavesI c line = -1) := leaves_room hp
        rw [hp] at HRM
        clear h1 h2 m1 m2 m3 hokc
        generalize idxI (some i) = f2 at HRM
        generalize setNo c line = f1 at HRM
        go_enter Try.func25, Try.ntmps25
        go_wp2_with fail
        refine (HOK.out _ B).mono ?_
        rintro e w1 ⟨rfl, b1⟩
        replace B := below_step B b1
        replace X := row_keep b1 X
        obtain ⟨x0, x1⟩ := cells_two X
        clear b1 HOK
        go_wp2_with (go_at_call 65; refine (lineNumberOk_any _ _).mono ?_; rintro e w' ⟨rfl, rfl⟩; rw [hb])
        refine (HRM.out _ B).mono ?_
        rintro e w2 ⟨rfl, b1⟩
        replace B := below_step B b1
        clear b1 HRM x0 x1 X
        go_wp2
        go_ret
        exact ⟨ret_int HL.out.symm, B.alloc B.size _⟩
      | none =>
        obtain ⟨t1, t2, t3, t4, t5, t6, t7⟩ := ok_tree hokc line
        obtain ⟨g1, g2, g3⟩ := go_in t3
        obtain ⟨g, hg⟩ : ∃ g : Nat, goI (treeFor c line) (waysN c) = (g : Int) := ⟨(goI (treeFor c line) (waysN c)).toNat, by omega⟩
        obtain ⟨u, hu⟩ : ∃ u, (rowFor c line)[g]? = some u := ⟨_, List.getElem?_eq_getElem (by omega)⟩
        have HL : Hid (leavesI c line = u.1) := leaves_go hokc hb hp (by rw [hg]; exact hu)
        have hsl := setNo_lt (line := line) hokc.1
        obtain ⟨b0, o0, am, cm, rfl, k1, -, -, -⟩ := set_at h1 t5
        obtain ⟨_, _, aj, cj, e1, k2, -, -, hrd⟩ := set_at h1 (rowFor_get (line := line) hokc.1)
        cases e1
        obtain ⟨bt, ot, rfl, k3⟩ := int_at h2 t2
        obtain ⟨bj, oj, cs, rfl, hrdu, hcell⟩ := slrd_at hrd hu
        obtain ⟨ad, cpw, rfl, -, -, -, -, -⟩ := way_rd hrdu
        have k4 := hcell 0 _ rfl
        rw [show oj + (g * wayR.size + 0) = oj + g * 3 from rfl] at k4
        have hgl : (g : Int) < ((rowFor c line).length : Int) := by omega
        have hsl1 : ((setNo c line : Nat) : Int) < (c.1.length : Int) := by omega
        have hsl2 : ((setNo c line : Nat) : Int) < (c.2.length : Int) := by omega
        have HV : Hid (∀ W, Calls Try.prog 66 #[.int .i64 (treeFor c line), .int .i64 (waysN c : Nat)] W fun e w' => e = .returned (.int .i64 (g : Int)) ∧ w' = W) := fun W => by
          have := implVictim_any (treeFor c line) (waysN c) W
          rwa [g3, hg] at this
        rw [t4] at k1
        have KC : Hid (∀ W, Below w.heap.size w W → W.cell? ⟨b0, o0, none⟩ = some (.slice am (waysN c) cm) ∧ W.cell? ⟨b0, o0 + setNo c line, none⟩ = some (.slice (some ⟨bj, oj, none⟩) (rowFor c line).length cj) ∧ W.cell? ⟨bt, ot + setNo c line, none⟩ = some (.int .i64 (treeFor c line)) ∧ W.cell? ⟨bj, oj + g * 3, none⟩ = some (.int .i64 u.1)) :=
          fun W hbw => ⟨cell_keep hbw k1 (cell_lt k1), cell_keep hbw k2 (cell_lt k2), cell_keep hbw k3 (cell_lt k3), cell_keep hbw k4 (cell_lt k4)⟩
        rw [hp] at HRM
        clear h1 h2 m1 m2 m3 hokc t1 t2 t3 t4 t5 t7 g1 g2 g3 hg hu k1 k2 k3 k4 hcell hrdu hrd
        generalize treeFor c line = tr at HV KC
        generalize waysN c = mm at HV KC
        generalize setNo c line = sn at HRM KC hsl hsl1 hsl2
        generalize (rowFor c line).length = rn at KC hgl
        generalize idxI none = f2 at HRM
        obtain ⟨ul, us, ud⟩ := u
        go_enter Try.func25, Try.ntmps25
        go_wp2_with fail
        refine (HOK.out _ B).mono ?_
        rintro e w1 ⟨rfl, b1⟩
        replace B := below_step B b1
        replace X := row_keep b1 X
        obtain ⟨x0, x1⟩ := cells_two X
        clear b1 HOK
        go_wp2_with (go_at_call 65; refine (lineNumberOk_any _ _).mono ?_; rintro e w' ⟨rfl, rfl⟩; rw [hb])
        refine (HRM.out _ B).mono ?_
        rintro e w4 ⟨rfl, b1⟩
        replace B := below_step B b1
        replace X := row_keep b1 X
        have Z := heap_at w4 (.cells #[.int .i64 (sn : Int), .int .i64 f2] 65)
        have bz := box_below w4 (.cells #[.int .i64 (sn : Int), .int .i64 f2] 65)
        replace B := below_step B bz
        replace X := row_keep bz X
        clear b1 bz HRM x0 x1 hp
        go_wp2_with fail
        generalize w4.alloc (.cells #[.int .i64 (sn : Int), .int .i64 f2] 65) = w5 at X Z B ⊢
        have n0 : ∀ n : Cls (fun wx => Below w5.heap.size w5 wx), n.w.cell? ⟨w.heap.size, 0, none⟩ = some (.slice (some ⟨b0, o0, none⟩) c.1.length cap) := fun n => (cells_two (row_keep n.h X)).1
        have n1 : ∀ n : Cls (fun wx => Below w5.heap.size w5 wx), n.w.cell? ⟨w.heap.size, 1, none⟩ = some (.slice (some ⟨bt, ot, none⟩) c.2.length cp) := fun n => (cells_two (row_keep n.h X)).2
        have n2 : ∀ n : Cls (fun wx => Below w5.heap.size w5 wx), n.w.cell? ⟨w4.heap.size, 0, none⟩ = some (.int .i64 (sn : Int)) := fun n => (cells_two (row_keep n.h Z)).1
        have q0 : Hid (∀ n : Cls (fun wx => Below w5.heap.size w5 wx), n.w.cell? ⟨b0, o0, none⟩ = some (.slice am mm cm)) := fun n => (KC.out _ (below_step B n.h)).1
        have q1 : ∀ n : Cls (fun wx => Below w5.heap.size w5 wx), n.w.cell? ⟨bt, ot + sn, none⟩ = some (.int .i64 tr) := fun n => (KC.out _ (below_step B n.h)).2.2.1
        refine region_class (fun wx => Below w5.heap.size w5 wx) (by kernel_rfl) (by kernel_rfl) ((Below.refl _ w5).drew) ?_
        intro hne
        repeat (quiet_step (first | (go_at_call 67; exact calls_class (ways_any b0 o0 c.1.length cap _ _ _ _ rfl am mm cm _ t6 (q0.out _)) (fun w' hc bb => below_step hc bb)) | (go_at_call 66; exact calls_class_same (HV.out _))))
        refine wpQuiet_nil ?_
        intro wx b2
        replace B := below_step B b2
        replace X := row_keep b2 X
        replace Z := row_keep b2 Z
        clear n0 n1 n2 q0 q1 hne b2
        obtain ⟨x0, x1⟩ := cells_two X
        obtain ⟨z0, z1⟩ := cells_two Z
        obtain ⟨p0, p1, p2, p3⟩ := KC.out _ B
        go_wp2
        go_ret
        exact ⟨ret_int HL.out.symm, B⟩

end Go.Proofs.Ytmldilmiihafoaa
