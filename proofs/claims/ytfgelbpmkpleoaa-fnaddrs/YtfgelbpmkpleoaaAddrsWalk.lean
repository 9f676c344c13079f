/- The law FnAddrs returns true at every code of at most 4096 bytes, and nothing that was there turns. -/
import Derived.Test.YtfgelbpmkpleoaaDrawCfg4
import Derived.Test.YtfgelbpmkpleoaaAddrFacts
import Derived.Deep.DeepCutAuto
namespace Go.Proofs.Ytfgelbpmkpleoaa
open Go.ChangeShapes Go.WideShapes Go.ChangeAt Go.RowKit

theorem row_below {w w' : World} {k : Nat} {o : Obj} (h : Below w.heap.size w w') (r : w.heap[k]? = some o) : w'.heap[k]? = some o := (h.block k (row_lt r)).trans r

set_option maxHeartbeats 2000000 in
set_option maxRecDepth 100000 in
theorem addrs_any (a : Option Addr) (len cap : Nat) (zs : List Int) (w : World) (hr : Row8 w a len zs) (hs : len ≤ 4096) :
    Calls Try.prog 3 #[.slice a len cap] w fun e w' => e = .returned (.bool true) ∧ Below w.heap.size w w' := by
  have hbig : decide ((4096 : Int) < len) = false := by simp; omega
  go_enter Try.func3, Try.ntmps3
  go_wp2_with fail
  refine (big_any _ _ _ _).mono ?_
  rintro e w1 ⟨rfl, rfl⟩
  go_wp2_with fail
  refine (drawLineOf_any _ _ _ zs _ hr).mono ?_
  rintro e w2 ⟨c, s, y, l, x, rfl, hx, b2⟩
  go_wp2_with fail
  refine (implLine_any c s y l x _ (by omega)).mono ?_
  rintro e w3 ⟨rfl, b3⟩
  have X3 := row_below b3 (heap_alloc_new w2 _)
  have b13 := below_step (b2.alloc b2.size _) b3
  have hb2 := b2.size
  clear b2 b3 hbig
  obtain ⟨⟨m0, m1, m2, m3⟩, -⟩ := cell_four X3
  go_wp2_with fail
  refine (implWord_any c s y l x _ (by omega)).mono ?_
  rintro e w4 ⟨rfl, b4⟩
  have X4 := row_below b4 X3
  have b14 := below_step b13 b4
  clear m0 m1 m2 m3 X3 b13 b4
  go_wp2_with fail
  refine (drawAddrOf_any _ _ _ zs _ (row8_below hr b14)).mono ?_
  rintro e w5 ⟨c', s', y', l', z, v, rfl, b5⟩
  have X5 := row_below b5 X4
  have b15 := below_step b14 b5
  clear X4 b14 b5
  go_wp2_with fail
  refine (implAddr_any c' s' y' l' z v _).mono ?_
  rintro e w6 ⟨rfl, b6⟩
  have X6 := row_below b6 (row_alloc X5 _)
  have Y6 := row_below b6 (heap_alloc_new w5 _)
  have b16 := below_step (b15.alloc b15.size _) b6
  clear X5 b15 b6
  go_wp2_with fail
  refine (drawSetOf_any _ _ _ zs _ (row8_below hr b16)).mono ?_
  rintro e w7 ⟨c2, s2, y2, l2, k, rfl, hk, b7⟩
  have X7 := row_below b7 X6
  have Y7 := row_below b7 Y6
  have b17 := below_step b16 b7
  clear X6 Y6 b16 b7
  go_wp2_with fail
  refine (implSet_any c2 s2 y2 l2 k _).mono ?_
  rintro e w8 ⟨rfl, b8⟩
  have X8 := row_below b8 (row_alloc X7 _)
  have Y8 := row_below b8 (row_alloc Y7 _)
  have Z8 := row_below b8 (heap_alloc_new w7 _)
  have b18 := below_step (b17.alloc b17.size _) b8
  clear X7 Y7 b17 b8
  go_wp2_with fail
  refine (drawConfigCode_any _ _ _ zs _ (row8_below hr b18)).mono ?_
  rintro e w9 ⟨c3, s3, y3, l3, rfl, b9⟩
  have X9 := row_alloc (row_below b9 X8) (.cells #[.int .i64 c3, .int .i64 s3, .int .i64 y3, .int .i64 l3] 25)
  have Y9 := row_alloc (row_below b9 Y8) (.cells #[.int .i64 c3, .int .i64 s3, .int .i64 y3, .int .i64 l3] 25)
  have Z9 := row_alloc (row_below b9 Z8) (.cells #[.int .i64 c3, .int .i64 s3, .int .i64 y3, .int .i64 l3] 25)
  have V9 := heap_alloc_new w9 (.cells #[.int .i64 c3, .int .i64 s3, .int .i64 y3, .int .i64 l3] 25)
  have b19 := below_step b18 b9
  have BB := (b19.alloc b19.size (.cells #[.int .i64 c3, .int .i64 s3, .int .i64 y3, .int .i64 l3] 25)).drew
  clear X8 Y8 Z8 b18 b9 b19 hr
  go_wp2
  generalize w9.alloc (.cells #[.int .i64 c3, .int .i64 s3, .int .i64 y3, .int .i64 l3] 25) = W at X9 Y9 Z9 V9 BB ⊢
  go_cut [81] (fun q wx => q = .bool false ∧ Below w1.heap.size w1 wx ∧ wx.heap[w2.heap.size]? = some (.cells #[.int .i64 c, .int .i64 s, .int .i64 y, .int .i64 l] 25 (0, 0)) ∧ wx.heap[w5.heap.size]? = some (.cells #[.int .i64 c', .int .i64 s', .int .i64 y', .int .i64 l'] 25 (0, 0)) ∧ wx.heap[w7.heap.size]? = some (.cells #[.int .i64 c2, .int .i64 s2, .int .i64 y2, .int .i64 l2] 25 (0, 0)))
  case first =>
    obtain ⟨⟨m0, m1, m2, m3⟩, -⟩ := cell_four X9
    obtain ⟨⟨n0, n1, n2, n3⟩, -⟩ := cell_four Y9
    obtain ⟨⟨t0, t1, t2, t3⟩, -⟩ := cell_four Z9
    obtain ⟨⟨o0, o1, o2, o3⟩, -⟩ := cell_four V9
    go_region_with (
      (first
        | (go_at_call 18; refine (specLine_any _ _ _ _ _ _).mono ?_)
        | (go_at_call 19; refine (specWord_any _ _ _ _ _ _).mono ?_)
        | (go_at_call 20; refine (specAddr_any _ _ _ _ _ _ _).mono ?_)
        | (go_at_call 21; refine (specSet_any _ _ _ _ _ _).mono ?_)
        | (go_at_call 22; refine (implCode_any _ _ _ _ _).mono ?_)
        | (go_at_call 23; refine (specCode_any _ _ _ _ _).mono ?_))
      rintro e w' ⟨rfl, b⟩
      replace BB := below_step BB b
      replace X9 := row_below b X9
      replace Y9 := row_below b Y9
      replace Z9 := row_below b Z9
      replace V9 := row_below b V9
      clear b m0 m1 m2 m3 n0 n1 n2 n3 t0 t1 t2 t3 o0 o1 o2 o3
      obtain ⟨⟨m0, m1, m2, m3⟩, -⟩ := cell_four X9
      obtain ⟨⟨n0, n1, n2, n3⟩, -⟩ := cell_four Y9
      obtain ⟨⟨t0, t1, t2, t3⟩, -⟩ := cell_four Z9
      obtain ⟨⟨o0, o1, o2, o3⟩, -⟩ := cell_four V9)
    all_goals
      go_wp2_with fail
      go_meet
      exact ⟨rfl, BB, X9, Y9, Z9⟩
  case rest =>
    obtain ⟨rfl, b20, X, Y, Z⟩ := hcut
    clear X9 Y9 Z9 V9 BB
    have HA : Hid (0 ≤ lineI c s y l x → addrI c s y l (lineI c s y l x) (wordI c s y l x) = x ∧ 0 ≤ wordI c s y l x ∧ wordI c s y l x ≤ 1 ∧ lineI c s y l x < l) := addr_back
    have HS : Hid (0 ≤ addrI c' s' y' l' z v → lineI c' s' y' l' (addrI c' s' y' l' z v) = z ∧ wordI c' s' y' l' (addrI c' s' y' l' z v) = v ∧ addrI c' s' y' l' z v ≤ 31) := addr_split
    have HM : Hid (0 ≤ setI c2 s2 y2 l2 k → setI c2 s2 y2 l2 k < s2 ∧ (k - setI c2 s2 y2 l2 k).tmod s2 = 0 ∧ 0 < s2 ∧ s2 ≤ 4 ∧ setI c2 s2 y2 l2 k ≤ k ∧ k ≤ 15) := set_mod
    clear hx hk hb2
    by_cases h1 : 0 ≤ lineI c s y l x
    · obtain ⟨f1, f2, f3, f4⟩ := HA.out h1
      clear HA
      by_cases h2 : 0 ≤ addrI c' s' y' l' z v
      · obtain ⟨g1, g2, g3⟩ := HS.out h2
        have HQ : Hid (addrI c' s' y' l' z v < 9223372036854775808) := by unfold Hid; omega
        clear HS
        by_cases h3 : 0 ≤ setI c2 s2 y2 l2 k
        · obtain ⟨e1, e2, e3, e4, e5, e6⟩ := HM.out h3
          clear HM
          obtain ⟨⟨m0, m1, m2, m3⟩, -⟩ := cell_four X
          obtain ⟨⟨n0, n1, n2, n3⟩, -⟩ := cell_four Y
          obtain ⟨⟨t0, t1, t2, t3⟩, -⟩ := cell_four Z
          go_wp2_with (
            (first
              | (go_at_call 14; refine (implAddr_any _ _ _ _ _ _ _).mono ?_)
              | (go_at_call 11; refine (implLine_any _ _ _ _ _ _ HQ.out).mono ?_)
              | (go_at_call 12; refine (implWord_any _ _ _ _ _ _ HQ.out).mono ?_))
            rintro e w' ⟨rfl, b⟩
            replace b20 := below_step b20 b
            replace X := row_below b X
            replace Y := row_below b Y
            replace Z := row_below b Z
            clear b m0 m1 m2 m3 n0 n1 n2 n3 t0 t1 t2 t3
            obtain ⟨⟨m0, m1, m2, m3⟩, -⟩ := cell_four X
            obtain ⟨⟨n0, n1, n2, n3⟩, -⟩ := cell_four Y
            obtain ⟨⟨t0, t1, t2, t3⟩, -⟩ := cell_four Z)
          go_ret
          exact ⟨ret_bool (by simp [*]), b20⟩
        · clear HM
          obtain ⟨⟨m0, m1, m2, m3⟩, -⟩ := cell_four X
          obtain ⟨⟨n0, n1, n2, n3⟩, -⟩ := cell_four Y
          obtain ⟨⟨t0, t1, t2, t3⟩, -⟩ := cell_four Z
          go_wp2_with (
            (first
              | (go_at_call 14; refine (implAddr_any _ _ _ _ _ _ _).mono ?_)
              | (go_at_call 11; refine (implLine_any _ _ _ _ _ _ HQ.out).mono ?_)
              | (go_at_call 12; refine (implWord_any _ _ _ _ _ _ HQ.out).mono ?_))
            rintro e w' ⟨rfl, b⟩
            replace b20 := below_step b20 b
            replace X := row_below b X
            replace Y := row_below b Y
            replace Z := row_below b Z
            clear b m0 m1 m2 m3 n0 n1 n2 n3 t0 t1 t2 t3
            obtain ⟨⟨m0, m1, m2, m3⟩, -⟩ := cell_four X
            obtain ⟨⟨n0, n1, n2, n3⟩, -⟩ := cell_four Y
            obtain ⟨⟨t0, t1, t2, t3⟩, -⟩ := cell_four Z)
          go_ret
          exact ⟨ret_bool (by simp [*]), b20⟩
      · clear HS
        by_cases h3 : 0 ≤ setI c2 s2 y2 l2 k
        · obtain ⟨e1, e2, e3, e4, e5, e6⟩ := HM.out h3
          clear HM
          obtain ⟨⟨m0, m1, m2, m3⟩, -⟩ := cell_four X
          obtain ⟨⟨n0, n1, n2, n3⟩, -⟩ := cell_four Y
          obtain ⟨⟨t0, t1, t2, t3⟩, -⟩ := cell_four Z
          go_wp2_with (
            (first
              | (go_at_call 14; refine (implAddr_any _ _ _ _ _ _ _).mono ?_)
              | (go_at_call 11; refine (implLine_any _ _ _ _ _ _ HQ.out).mono ?_)
              | (go_at_call 12; refine (implWord_any _ _ _ _ _ _ HQ.out).mono ?_))
            rintro e w' ⟨rfl, b⟩
            replace b20 := below_step b20 b
            replace X := row_below b X
            replace Y := row_below b Y
            replace Z := row_below b Z
            clear b m0 m1 m2 m3 n0 n1 n2 n3 t0 t1 t2 t3
            obtain ⟨⟨m0, m1, m2, m3⟩, -⟩ := cell_four X
            obtain ⟨⟨n0, n1, n2, n3⟩, -⟩ := cell_four Y
            obtain ⟨⟨t0, t1, t2, t3⟩, -⟩ := cell_four Z)
          go_ret
          exact ⟨ret_bool (by simp [*]), b20⟩
        · clear HM
          obtain ⟨⟨m0, m1, m2, m3⟩, -⟩ := cell_four X
          obtain ⟨⟨n0, n1, n2, n3⟩, -⟩ := cell_four Y
          obtain ⟨⟨t0, t1, t2, t3⟩, -⟩ := cell_four Z
          go_wp2_with (
            (first
              | (go_at_call 14; refine (implAddr_any _ _ _ _ _ _ _).mono ?_)
              | (go_at_call 11; refine (implLine_any _ _ _ _ _ _ HQ.out).mono ?_)
              | (go_at_call 12; refine (implWord_any _ _ _ _ _ _ HQ.out).mono ?_))
            rintro e w' ⟨rfl, b⟩
            replace b20 := below_step b20 b
            replace X := row_below b X
            replace Y := row_below b Y
            replace Z := row_below b Z
            clear b m0 m1 m2 m3 n0 n1 n2 n3 t0 t1 t2 t3
            obtain ⟨⟨m0, m1, m2, m3⟩, -⟩ := cell_four X
            obtain ⟨⟨n0, n1, n2, n3⟩, -⟩ := cell_four Y
            obtain ⟨⟨t0, t1, t2, t3⟩, -⟩ := cell_four Z)
          go_ret
          exact ⟨ret_bool (by simp [*]), b20⟩
    · clear HA
      by_cases h2 : 0 ≤ addrI c' s' y' l' z v
      · obtain ⟨g1, g2, g3⟩ := HS.out h2
        have HQ : Hid (addrI c' s' y' l' z v < 9223372036854775808) := by unfold Hid; omega
        clear HS
        by_cases h3 : 0 ≤ setI c2 s2 y2 l2 k
        · obtain ⟨e1, e2, e3, e4, e5, e6⟩ := HM.out h3
          clear HM
          obtain ⟨⟨m0, m1, m2, m3⟩, -⟩ := cell_four X
          obtain ⟨⟨n0, n1, n2, n3⟩, -⟩ := cell_four Y
          obtain ⟨⟨t0, t1, t2, t3⟩, -⟩ := cell_four Z
          go_wp2_with (
            (first
              | (go_at_call 14; refine (implAddr_any _ _ _ _ _ _ _).mono ?_)
              | (go_at_call 11; refine (implLine_any _ _ _ _ _ _ HQ.out).mono ?_)
              | (go_at_call 12; refine (implWord_any _ _ _ _ _ _ HQ.out).mono ?_))
            rintro e w' ⟨rfl, b⟩
            replace b20 := below_step b20 b
            replace X := row_below b X
            replace Y := row_below b Y
            replace Z := row_below b Z
            clear b m0 m1 m2 m3 n0 n1 n2 n3 t0 t1 t2 t3
            obtain ⟨⟨m0, m1, m2, m3⟩, -⟩ := cell_four X
            obtain ⟨⟨n0, n1, n2, n3⟩, -⟩ := cell_four Y
            obtain ⟨⟨t0, t1, t2, t3⟩, -⟩ := cell_four Z)
          go_ret
          exact ⟨ret_bool (by simp [*]), b20⟩
        · clear HM
          obtain ⟨⟨m0, m1, m2, m3⟩, -⟩ := cell_four X
          obtain ⟨⟨n0, n1, n2, n3⟩, -⟩ := cell_four Y
          obtain ⟨⟨t0, t1, t2, t3⟩, -⟩ := cell_four Z
          go_wp2_with (
            (first
              | (go_at_call 14; refine (implAddr_any _ _ _ _ _ _ _).mono ?_)
              | (go_at_call 11; refine (implLine_any _ _ _ _ _ _ HQ.out).mono ?_)
              | (go_at_call 12; refine (implWord_any _ _ _ _ _ _ HQ.out).mono ?_))
            rintro e w' ⟨rfl, b⟩
            replace b20 := below_step b20 b
            replace X := row_below b X
            replace Y := row_below b Y
            replace Z := row_below b Z
            clear b m0 m1 m2 m3 n0 n1 n2 n3 t0 t1 t2 t3
            obtain ⟨⟨m0, m1, m2, m3⟩, -⟩ := cell_four X
            obtain ⟨⟨n0, n1, n2, n3⟩, -⟩ := cell_four Y
            obtain ⟨⟨t0, t1, t2, t3⟩, -⟩ := cell_four Z)
          go_ret
          exact ⟨ret_bool (by simp [*]), b20⟩
      · clear HS
        by_cases h3 : 0 ≤ setI c2 s2 y2 l2 k
        · obtain ⟨e1, e2, e3, e4, e5, e6⟩ := HM.out h3
          clear HM
          obtain ⟨⟨m0, m1, m2, m3⟩, -⟩ := cell_four X
          obtain ⟨⟨n0, n1, n2, n3⟩, -⟩ := cell_four Y
          obtain ⟨⟨t0, t1, t2, t3⟩, -⟩ := cell_four Z
          go_wp2_with (
            (first
              | (go_at_call 14; refine (implAddr_any _ _ _ _ _ _ _).mono ?_)
              | (go_at_call 11; refine (implLine_any _ _ _ _ _ _ HQ.out).mono ?_)
              | (go_at_call 12; refine (implWord_any _ _ _ _ _ _ HQ.out).mono ?_))
            rintro e w' ⟨rfl, b⟩
            replace b20 := below_step b20 b
            replace X := row_below b X
            replace Y := row_below b Y
            replace Z := row_below b Z
            clear b m0 m1 m2 m3 n0 n1 n2 n3 t0 t1 t2 t3
            obtain ⟨⟨m0, m1, m2, m3⟩, -⟩ := cell_four X
            obtain ⟨⟨n0, n1, n2, n3⟩, -⟩ := cell_four Y
            obtain ⟨⟨t0, t1, t2, t3⟩, -⟩ := cell_four Z)
          go_ret
          exact ⟨ret_bool (by simp [*]), b20⟩
        · clear HM
          obtain ⟨⟨m0, m1, m2, m3⟩, -⟩ := cell_four X
          obtain ⟨⟨n0, n1, n2, n3⟩, -⟩ := cell_four Y
          obtain ⟨⟨t0, t1, t2, t3⟩, -⟩ := cell_four Z
          go_wp2_with (
            (first
              | (go_at_call 14; refine (implAddr_any _ _ _ _ _ _ _).mono ?_)
              | (go_at_call 11; refine (implLine_any _ _ _ _ _ _ HQ.out).mono ?_)
              | (go_at_call 12; refine (implWord_any _ _ _ _ _ _ HQ.out).mono ?_))
            rintro e w' ⟨rfl, b⟩
            replace b20 := below_step b20 b
            replace X := row_below b X
            replace Y := row_below b Y
            replace Z := row_below b Z
            clear b m0 m1 m2 m3 n0 n1 n2 n3 t0 t1 t2 t3
            obtain ⟨⟨m0, m1, m2, m3⟩, -⟩ := cell_four X
            obtain ⟨⟨n0, n1, n2, n3⟩, -⟩ := cell_four Y
            obtain ⟨⟨t0, t1, t2, t3⟩, -⟩ := cell_four Z)
          go_ret
          exact ⟨ret_bool (by simp [*]), b20⟩

end Go.Proofs.Ytfgelbpmkpleoaa
