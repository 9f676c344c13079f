/- Where a line is, of the specification; what must go. Condition: a store that is right. -/
import Derived.Test.YtmldilmiihafoaaRooms
import Derived.Test.YtmldilmiihafoaaSpecOk
namespace Go.Proofs.Ytmldilmiihafoaa
open Go.ChangeShapes Go.WideShapes Go.ChangeAt Go.RowKit Go.Shelf
set_option linter.unusedVariables false

theorem idx_first {p : WayD → Bool} {row : List WayD} {k : Nat} {u : WayD} (hu : row[k]? = some u) (hp : p u = true) (hno : ∀ j v, j < k → row[j]? = some v → p v = false) : row.findIdx? p = some k := by
  have hk := (List.getElem?_eq_some_iff.1 hu).1
  rw [List.findIdx?_eq_some_iff_getElem]
  refine ⟨hk, ?_, fun j hj => ?_⟩
  · rw [List.getElem?_eq_getElem hk] at hu
    cases hu
    exact hp
  · simpa using hno j _ hj (List.getElem?_eq_getElem (by omega))
theorem idx_never {p : WayD → Bool} {row : List WayD} (hno : ∀ (j : Nat) (v : WayD), row[j]? = some v → p v = false) : row.findIdx? p = none := by
  rw [List.findIdx?_eq_none_iff]
  intro u hu
  obtain ⟨j, hj⟩ := List.mem_iff_getElem?.1 hu
  simpa using hno j u hj

set_option maxHeartbeats 1000000 in
theorem specAt_any (a b : Option Addr) (c : CacheD) (cap cp : Nat) (line : Int) (w : World) (hok : OkC isL treeB c) (h1 : SlRd waysR w a c.1) :
    Calls Try.prog 61 #[.agg #[.slice a c.1.length cap, .slice b c.2.length cp], .int .i64 line] w fun e w' => e = .returned (.int .i64 (idxI (atC c line))) ∧ Below w.heap.size w w' := by
  have X := heap_at w (.cells #[.slice a c.1.length cap, .slice b c.2.length cp] 27)
  have B := box_below w (.cells #[.slice a c.1.length cap, .slice b c.2.length cp] 27)
  by_cases hneg : line < 0
  · have HR : Hid (idxI (atC c line) = -1) := by unfold Hid atC; rw [if_pos hneg]; rfl
    go_enter Try.func61, Try.ntmps61
    go_wp2
    go_ret
    exact ⟨ret_int HR.out.symm, B⟩
  · have hl0 : 0 ≤ line := by omega
    have HA : Hid (atC c line = (rowFor c line).findIdx? fun u => u.1 == line) := by unfold Hid atC; rw [if_neg hneg]
    obtain ⟨hp, hget, hne, hr4, hset, hsl⟩ := ok_row hok line
    obtain ⟨b0, o0, aj, cj, rfl, hcell, -, -, hrd⟩ := set_at h1 hget
    have hz : (c.1.length : Int) ≠ 0 := by omega
    have hsl' : ((setNo c line : Nat) : Int) < (c.1.length : Int) := by omega
    have hset' : line % (c.1.length : Int) = ((setNo c line : Nat) : Int) := hset.symm
    have g0 := cell_keep B hcell (cell_lt hcell)
    have HRD : Hid (SlRd wayR w aj (rowFor c line)) := hrd
    clear hcell hrd h1 hget hset hok hne
    obtain ⟨x0, x1⟩ := cells_two X
    generalize setNo c line = sn at hsl hsl' hset' g0
    generalize rowFor c line = row at hr4 g0 HRD HA
    go_enter Try.func61, Try.ntmps61
    go_wp2_with fail
    generalize w.alloc (.cells #[.slice (some ⟨b0, o0, none⟩) c.1.length cap, .slice b c.2.length cp] 27) = W0 at X B x0 x1 g0 ⊢
    go_quiet (fail)
    have B2 := bl_drewN B nq
    clear x0 x1 g0 X B
    go_wp2
    go_loop [6] (fun i => ∃ k : Nat, k ≤ row.length ∧ i = .int .i64 k ∧ ∀ j v, j < k → row[j]? = some v → (v.1 == line) = false) (fun i => row.length - (intOf i).toNat)
    case atStart => exact ⟨0, Nat.zero_le _, rfl, fun j v hj => by omega⟩
    case round =>
      obtain ⟨k, hk, rfl, hno⟩ := hrel
      by_cases hlt : k < row.length
      · have hlt' : (k : Int) < (row.length : Int) := by omega
        obtain ⟨u, hu⟩ : ∃ u, row[k]? = some u := ⟨_, List.getElem?_eq_getElem hlt⟩
        obtain ⟨bk, ok, cs, rfl, hrd, hcell⟩ := slrd_at (slrd_keep HRD.out fun k hk => B2.block k hk) hu
        obtain ⟨ad, cpw, rfl, -, -, -, -, -⟩ := way_rd hrd
        have y0 := hcell 0 _ rfl
        rw [show ok + (k * wayR.size + 0) = ok + k * 3 from rfl] at y0
        have HU : Hid (row[k]? = some u) := hu
        obtain ⟨l, st, d⟩ := u
        simp only at y0
        clear hcell hrd hu
        by_cases hl : l = line
        · have HRES : Hid (idxI (atC c line) = k) := by unfold Hid; rw [HA.out, idx_first HU.out (by simp [hl]) hno]; rfl
          subst hl
          go_wp2
          go_ret
          exact ⟨ret_int HRES.out.symm, B2⟩
        · have hl' : (l == line) = false := by simpa using hl
          go_wp2
          go_round
          case rel =>
            refine ⟨k + 1, by omega, by go_num, fun j v hj hv => ?_⟩
            by_cases he : j < k
            · exact hno j v he hv
            · have : j = k := by omega
              subst this
              rw [HU.out] at hv
              cases hv
              exact hl'
          case measure => simp [intOf]; omega
      · have HRES : Hid (idxI (atC c line) = -1) := by
          unfold Hid
          rw [HA.out, idx_never fun j v hv => hno j v (by have := (List.getElem?_eq_some_iff.1 hv).1; omega) hv]
          rfl
        have hlt' : ¬ (k : Int) < (row.length : Int) := by omega
        go_wp2
        go_ret
        exact ⟨ret_int HRES.out.symm, B2⟩

set_option maxHeartbeats 2000000 in
theorem specLeaves_in (a b : Option Addr) (c : CacheD) (cap cp : Nat) (line : Int) (w : World) (hok : OkC isL treeB c) (hb : betw line 0 15 = true) (h1 : SlRd waysR w a c.1) (h2 : SlRd intR w b c.2) :
    Calls Try.prog 69 #[.agg #[.slice a c.1.length cap, .slice b c.2.length cp], .int .i64 line] w fun e w' => e = .returned (.int .i64 (leavesI c line)) ∧ Below w.heap.size w w' := by
  have X := heap_at w (.cells #[.slice a c.1.length cap, .slice b c.2.length cp] 27)
  have B := box_below w (.cells #[.slice a c.1.length cap, .slice b c.2.length cp] 27)
  have hl0 : 0 ≤ line := by simp [betw] at hb; omega
  have HAT : Hid (∀ W, Below w.heap.size w W → Calls Try.prog 61 #[.agg #[.slice a c.1.length cap, .slice b c.2.length cp], .int .i64 line] W fun e w' => e = .returned (.int .i64 (idxI (atC c line))) ∧ Below W.heap.size W w') := fun W hbw => specAt_any a b c cap cp line W hok (slrd_keep h1 fun k hk => hbw.block k hk)
  cases hat : atC c line with
  | some i =>
    have HL : Hid (leavesI c line = -1) := leaves_room (i := i) (by unfold putNo; rw [hat])
    rw [hat] at HAT
    have hi : ¬ ((i : Int) < 0) := by omega
    clear h1 h2 hok
    go_enter Try.func69, Try.ntmps69
    go_wp2_with fail
    refine (HAT.out _ B).mono ?_
    rintro e w1 ⟨rfl, b1⟩
    replace B := below_step B b1
    clear b1 X HAT
    rw [show idxI (some i) = (i : Int) from rfl]
    go_wp2
    go_ret
    exact ⟨ret_int HL.out.symm, B⟩
  | none =>
    have HPN : Hid (putNo c line = roomC c line) := by unfold Hid putNo; rw [hat]
    rw [hat] at HAT
    obtain ⟨t1, t2, t3, t4, t5, t6, t7⟩ := ok_tree hok line
    obtain ⟨g1, g2, g3⟩ := go_in t3
    obtain ⟨g, hg⟩ : ∃ g : Nat, goI (treeFor c line) (waysN c) = (g : Int) := ⟨(goI (treeFor c line) (waysN c)).toNat, by omega⟩
    obtain ⟨u, hu⟩ : ∃ u, (rowFor c line)[g]? = some u := ⟨_, List.getElem?_eq_getElem (by omega)⟩
    have HLG : Hid (roomC c line = none → leavesI c line = u.1) := fun h => leaves_go hok hb (by rw [HPN.out]; exact h) (by rw [hg]; exact hu)
    have HLR : Hid (∀ i, roomC c line = some i → leavesI c line = -1) := fun i h => leaves_room (i := i) (by rw [HPN.out]; exact h)
    have hsl := setNo_lt (line := line) hok.1
    have hset : line % (c.1.length : Int) = ((setNo c line : Nat) : Int) := (setNo_cast hok.1).symm
    obtain ⟨b0, o0, aj, cj, rfl, k2, -, -, hrd⟩ := set_at h1 (rowFor_get (line := line) hok.1)
    obtain ⟨bt, ot, rfl, k3⟩ := int_at h2 t2
    have hsl1 : ((setNo c line : Nat) : Int) < (c.1.length : Int) := by omega
    have hsl2 : ((setNo c line : Nat) : Int) < (c.2.length : Int) := by omega
    have hgl : (g : Int) < ((rowFor c line).length : Int) := by omega
    have hrl : (rowFor c line).length ≤ 4 := (ok_row hok line).2.2.2.1
    have HV : Hid (∀ W, Calls Try.prog 98 #[.int .i64 (treeFor c line), .int .i64 ((rowFor c line).length : Nat)] W fun e w' => e = .returned (.int .i64 (g : Int)) ∧ w' = W) := fun W => by
      have := l5Victim_in (treeFor c line) (waysN c) W t3
      rw [hg] at this
      rw [t1]
      exact this
    have KC : Hid (∀ W, Below w.heap.size w W → W.cell? ⟨b0, o0 + setNo c line, none⟩ = some (.slice aj (rowFor c line).length cj) ∧ W.cell? ⟨bt, ot + setNo c line, none⟩ = some (.int .i64 (treeFor c line))) := fun W hbw => ⟨cell_keep hbw k2 (cell_lt k2), cell_keep hbw k3 (cell_lt k3)⟩
    have HRD : Hid (SlRd wayR w aj (rowFor c line)) := hrd
    have HRC : Hid (roomC c line = (rowFor c line).findIdx? clearB) := rfl
    have HU : Hid ((rowFor c line)[g]? = some u) := hu
    have hz : (c.1.length : Int) ≠ 0 := by omega
    have ht3 : Int.tmod line (c.1.length : Int) = ((setNo c line : Nat) : Int) := by rw [Int.tmod_eq_emod_of_nonneg hl0, hset]
    clear h1 h2 hok t1 t2 t3 t4 t5 t7 g1 g2 g3 hg hu k2 k3 hrd HPN
    generalize treeFor c line = tr at HV KC
    generalize setNo c line = sn at KC hsl hsl1 hsl2 hset ht3
    generalize rowFor c line = row at KC hgl HV HRD HRC HU hrl
    obtain ⟨ul, us, ud⟩ := u
    go_enter Try.func69, Try.ntmps69
    go_wp2_with fail
    refine (HAT.out _ B).mono ?_
    rintro e w1 ⟨rfl, b1⟩
    replace B := below_step B b1
    replace X := row_keep b1 X
    clear b1 HAT
    rw [show idxI none = (-1 : Int) from rfl]
    obtain ⟨x0, x1⟩ := cells_two X
    go_wp2
    go_loopw [6] (fun i wr => ∃ k : Nat, k ≤ row.length ∧ i = .int .i64 k ∧ (∀ j v, j < k → row[j]? = some v → clearB v = false) ∧ Below w.heap.size w wr ∧ wr.heap[w.heap.size]? = some (.cells #[.slice (some ⟨b0, o0, none⟩) c.1.length cap, .slice (some ⟨bt, ot, none⟩) c.2.length cp] 27 (0, 0))) (fun i _ => row.length - (intOf i).toNat)
    case atStart => exact ⟨0, Nat.zero_le _, rfl, fun j v hj => by omega, B, X⟩
    case round =>
      clear x0 x1 X B
      obtain ⟨k, hk, rfl, hno, B, X⟩ := hrel
      obtain ⟨x0, x1⟩ := cells_two X
      obtain ⟨q0, q1⟩ := KC.out _ B
      by_cases hlt : k < row.length
      · have hlt' : (k : Int) < (row.length : Int) := by omega
        obtain ⟨v, hv⟩ : ∃ v, row[k]? = some v := ⟨_, List.getElem?_eq_getElem hlt⟩
        obtain ⟨bk, ok, cs, rfl, hrd, hcell⟩ := slrd_at (slrd_keep HRD.out fun k hk => B.block k hk) hv
        obtain ⟨ad, cpw, rfl, -, -, hd1, hd2, -⟩ := way_rd hrd
        have y0 := hcell 0 _ rfl
        have y1 := hcell 1 _ rfl
        have y2 := hcell 2 _ rfl
        rw [show ok + (k * wayR.size + 0) = ok + k * 3 from rfl] at y0
        rw [show ok + (k * wayR.size + 1) = ok + k * 3 + 1 from rfl] at y1
        rw [show ok + (k * wayR.size + 2) = ok + k * 3 + 2 from rfl] at y2
        have HVV : Hid (row[k]? = some v) := hv
        obtain ⟨l, st, d⟩ := v
        simp only at y0 y1 y2 hd1
        have hd4 : d.length ≤ maxLen := Nat.le_trans hd1 hd2
        clear hcell hrd hv hd1 hd2
        have HE := l6Clear_any l st ad d.length cpw wr hd4
        rw [clr_eq (l, st, d)] at HE
        cases hcl : clearB (l, st, d)
        · rw [hcl] at HE
          go_wp2_with fail
          refine HE.mono ?_
          rintro e w2 ⟨rfl, b2⟩
          replace B := below_step B b2
          replace X := row_keep b2 X
          clear b2 HE x0 x1 y0 y1 y2 q0 q1
          go_wp2
          go_roundw
          case rel =>
            refine ⟨k + 1, by omega, by go_num, fun j v hj hv => ?_, B, X⟩
            by_cases he : j < k
            · exact hno j v he hv
            · have : j = k := by omega
              subst this
              rw [HVV.out] at hv
              cases hv
              exact hcl
          case measure => simp [intOf]; omega
        · have HRES : Hid (leavesI c line = -1) := HLR.out k (by rw [HRC.out]; exact idx_first HVV.out hcl hno)
          rw [hcl] at HE
          go_wp2_with fail
          refine HE.mono ?_
          rintro e w2 ⟨rfl, b2⟩
          replace B := below_step B b2
          clear b2 HE x0 x1 y0 y1 y2 q0 q1 X
          go_wp2
          go_ret
          exact ⟨ret_int HRES.out.symm, B⟩
      · have HRES : Hid (leavesI c line = ul) := HLG.out (by rw [HRC.out]; exact idx_never fun j v hv => hno j v (by have := (List.getElem?_eq_some_iff.1 hv).1; omega) hv)
        have hlt' : ¬ (k : Int) < (row.length : Int) := by omega
        obtain ⟨bk, ok, cs, rfl, hrd, hcell⟩ := slrd_at (slrd_keep HRD.out fun k hk => B.block k hk) HU.out
        obtain ⟨ad, cpw, rfl, -, -, -, -, -⟩ := way_rd hrd
        have y0 := hcell 0 _ rfl
        rw [show ok + (g * wayR.size + 0) = ok + g * 3 from rfl] at y0
        simp only at y0
        clear hcell hrd
        have n0 : ∀ n : Cls (fun wx => Below wr.heap.size wr wx), n.w.cell? ⟨w.heap.size, 0, none⟩ = some (.slice (some ⟨b0, o0, none⟩) c.1.length cap) := fun n => cell_keep n.h x0 (cell_lt x0)
        have n1 : ∀ n : Cls (fun wx => Below wr.heap.size wr wx), n.w.cell? ⟨w.heap.size, 1, none⟩ = some (.slice (some ⟨bt, ot, none⟩) c.2.length cp) := fun n => cell_keep n.h x1 (cell_lt x1)
        have n2 : ∀ n : Cls (fun wx => Below wr.heap.size wr wx), n.w.cell? ⟨b0, o0 + sn, none⟩ = some (.slice (some ⟨bk, ok, none⟩) row.length cj) := fun n => cell_keep n.h q0 (cell_lt q0)
        have n3 : ∀ n : Cls (fun wx => Below wr.heap.size wr wx), n.w.cell? ⟨bt, ot + sn, none⟩ = some (.int .i64 tr) := fun n => cell_keep n.h q1 (cell_lt q1)
        have n4 : ∀ n : Cls (fun wx => Below wr.heap.size wr wx), n.w.cell? ⟨bk, ok + g * 3, none⟩ = some (.int .i64 ul) := fun n => cell_keep n.h y0 (cell_lt y0)
        go_wp2_with fail
        clear x0 x1 q0 q1 y0
        refine region_class (fun wx => Below wr.heap.size wr wx) (by kernel_rfl) (by kernel_rfl) ((Below.refl _ wr).drew) ?_
        intro hne
        repeat (quiet_step ((go_at_call 98; exact calls_class_same (HV.out _))))
        refine wpQuiet_nil ?_
        intro wx b2
        replace B := below_step B b2
        clear n0 n1 n2 n3 n4 hne b2 X
        go_wp2
        go_ret
        exact ⟨ret_int HRES.out.symm, B⟩

set_option maxHeartbeats 1000000 in
theorem specLeaves_any (a b : Option Addr) (c : CacheD) (cap cp : Nat) (line : Int) (w : World) (h1 : SlRd waysR w a c.1) (h2 : SlRd intR w b c.2) (m1 : c.1.length ≤ maxLen) (m2 : c.2.length ≤ maxLen) (m3 : ∀ row ∈ c.1, row.length ≤ maxLen) :
    Calls Try.prog 26 #[.agg #[.slice a c.1.length cap, .slice b c.2.length cp], .int .i64 line] w fun e w' => e = .returned (.int .i64 (leavesI c line)) ∧ Below w.heap.size w w' := by
  have X := heap_at w (.cells #[.slice a c.1.length cap, .slice b c.2.length cp] 27)
  have B := box_below w (.cells #[.slice a c.1.length cap, .slice b c.2.length cp] 27)
  have HOK : Hid (∀ W, Below w.heap.size w W → Calls Try.prog 19 #[.agg #[.slice a c.1.length cap, .slice b c.2.length cp]] W fun e w' => e = .returned (.bool (okB isL treeB c)) ∧ Below W.heap.size W w') := fun W hb =>
    specCacheOk_any a b c cap cp W (slrd_keep h1 fun k hk => hb.block k hk) (slrd_keep h2 fun k hk => hb.block k hk) m1 m2 m3
  have HLV : Hid (OkC isL treeB c → betw line 0 15 = true → ∀ W, Below w.heap.size w W → Calls Try.prog 69 #[.agg #[.slice a c.1.length cap, .slice b c.2.length cp], .int .i64 line] W fun e w' => e = .returned (.int .i64 (leavesI c line)) ∧ Below W.heap.size W w') := fun hk hb W hbw =>
    specLeaves_in a b c cap cp line W hk hb (slrd_keep h1 fun k hk => hbw.block k hk) (slrd_keep h2 fun k hk => hbw.block k hk)
  clear h1 h2 m1 m2 m3
  cases hok : okB isL treeB c
  · have HL : Hid (leavesI c line = -1) := leaves_no (by rw [hok]; rfl)
    rw [hok] at HOK
    go_enter Try.func26, Try.ntmps26
    go_wp2_with fail
    refine (HOK.out _ B).mono ?_
    rintro e w1 ⟨rfl, b1⟩
    replace B := below_step B b1
    clear b1 X HOK HLV
    go_wp2
    go_ret
    exact ⟨ret_int HL.out.symm, B⟩
  · have hokc := okB_iff.1 hok
    rw [hok] at HOK
    cases hb : betw line 0 15
    · have HL : Hid (leavesI c line = -1) := leaves_no (by rw [hb, Bool.and_false])
      clear hokc
      go_enter Try.func26, Try.ntmps26
      go_wp2_with fail
      refine (HOK.out _ B).mono ?_
      rintro e w1 ⟨rfl, b1⟩
      replace B := below_step B b1
      clear b1 X HOK HLV
      go_wp2_with (go_at_call 68; refine (l1In_any _ _ _ _).mono ?_; rintro e w' ⟨rfl, rfl⟩; rw [hb])
      go_ret
      exact ⟨ret_int HL.out.symm, B⟩
    · have HC := HLV.out hokc hb
      have HCC : Hid _ := HC
      clear HLV HC hokc
      go_enter Try.func26, Try.ntmps26
      go_wp2_with fail
      refine (HOK.out _ B).mono ?_
      rintro e w1 ⟨rfl, b1⟩
      replace B := below_step B b1
      replace X := row_keep b1 X
      obtain ⟨x0, x1⟩ := cells_two X
      clear b1 HOK
      go_wp2_with (go_at_call 68; refine (l1In_any _ _ _ _).mono ?_; rintro e w' ⟨rfl, rfl⟩; rw [hb])
      refine Calls.mono (HCC.out _ B) ?_
      rintro e w2 ⟨rfl, b2⟩
      replace B := below_step B b2
      clear b2 x0 x1 X HCC
      go_wp2
      go_ret
      exact ⟨rfl, B⟩

end Go.Proofs.Ytmldilmiihafoaa
