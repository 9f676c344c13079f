
/- Who holds a line, of both. Conditions: lengths that a machine can hold. -/
import Derived.Test.YtcnnojfkpkmdmaaHouse1
import Derived.Test.YtcnnojfkpkmdmaaHolders
import Derived.Test.YtcnnojfkpkmdmaaForgot2
import Derived.Test.YtcnnojfkpkmdmaaHoldFacts
namespace Go.Proofs.Ytcnnojfkpkmdmaa
open Go.ChangeShapes Go.WideShapes Go.ChangeAt Go.RowKit
set_option linter.unusedVariables false

noncomputable def holdsI (x : HouseD) (k : Int) : List Int := if houseB x && betw k 0 ((x.2.length : Int) - 1) then hoI (x.2.getD k.toNat zeroE).1 (x.2.getD k.toNat zeroE).2.1 else []
theorem hoI_64 {o s : Int} (h : whoB o s = true) : ∀ y ∈ hoI o s, In64 y := by
  obtain ⟨h1, h2, h3, h4⟩ := who_bd h
  intro y hy
  unfold hoI at hy
  split at hy
  · simp only [List.mem_singleton] at hy
    subst hy
    constructor <;> omega
  · have := mems_in hy
    constructor <;> omega
theorem ent_who {u : EntryD} (h : entB u = true) : whoB u.1 u.2.1 = true := by
  unfold entB at h
  rw [Bool.and_eq_true] at h
  exact h.1
theorem house_ent {x : HouseD} (h : houseB x = true) {k : Nat} {u : EntryD} (hu : x.2[k]? = some u) : entB u = true := by
  unfold houseB at h
  simp only [Bool.and_eq_true] at h
  exact List.all_eq_true.1 h.2.2 u (List.mem_of_getElem? hu)
theorem house_parts {x : HouseD} (h : houseB x = true) : memOk x.1 = true ∧ x.2.length = x.1.length := by
  unfold houseB at h
  simp only [Bool.and_eq_true, decide_eq_true_eq] at h
  exact ⟨h.1, h.2.1⟩
theorem holds_at {x : HouseD} {k : Int} (h : houseB x = true) (hb : betw k 0 ((x.2.length : Int) - 1) = true) : ∃ (n : Nat) (u : EntryD), k = n ∧ n < x.2.length ∧ x.2[n]? = some u ∧ entB u = true ∧ holdsI x k = hoI u.1 u.2.1 := by
  obtain ⟨n, rfl, hn⟩ := betw_nat hb
  refine ⟨n, x.2[n], rfl, hn, List.getElem?_eq_getElem hn, house_ent h (List.getElem?_eq_getElem hn), ?_⟩
  unfold holdsI
  rw [h, hb, Bool.true_and, if_pos rfl, List.getD_eq_getElem?_getD, show ((n : Int)).toNat = n by omega, List.getElem?_eq_getElem hn]
  rfl
theorem holds_no {x : HouseD} {k : Int} (h : houseB x = true → betw k 0 ((x.2.length : Int) - 1) = false) : holdsI x k = [] := by
  unfold holdsI
  cases hh : houseB x
  · rfl
  · rw [h hh]; rfl
theorem hoI_len (o s : Int) : (hoI o s).length ≤ 8 := by
  unfold hoI
  split
  · simp
  · exact mems_le s 8
theorem holds_small (x : HouseD) (k : Int) : intsM.bk (holdsI x k) ≤ 8388608 := by
  rw [bk_ints7]
  unfold holdsI
  split
  · have := hoI_len (x.2.getD k.toNat zeroE).1 (x.2.getD k.toNat zeroE).2.1
    omega
  · decide
set_option maxHeartbeats 1000000 in
theorem hasLine_u (cs : List Value) (x : HouseD) (k : Int) (w : World) (h : houseR.rd w cs x) :
    Calls Try.prog 41 #[aggV cs, .int .i64 k] w fun e w' => e = .returned (.bool (betw k 0 ((x.2.length : Int) - 1))) ∧ Below w.heap.size w w' := by
  obtain ⟨v0, v1, rfl, ⟨a0, c0, e0, l1, l2, q0⟩, ⟨a1, c1, e1, m1, m2, q1⟩⟩ := house_rd h
  simp only [List.cons.injEq, and_true] at e0 e1
  obtain rfl := e0
  obtain rfl := e1
  have hl : x.2.length ≤ 9223372036854775807 := Nat.le_trans m1 m2
  clear h q0 q1
  change Calls Try.prog 41 #[.agg #[.slice a0 x.1.length c0, .slice a1 x.2.length c1], .int .i64 k] w _
  generalize x.1.length = n at *
  generalize x.2.length = m at *
  have B := box_below w (.cells #[.slice a0 n c0, .slice a1 m c1] 30)
  have HB : Hid _ := B
  clear B
  go_enter Try.func41, Try.ntmps41
  go_wp2_with (go_at_call 53; refine (between_any k 0 ((m : Int) - 1) _).mono ?_; rintro e w1 ⟨rfl, rfl⟩)
  go_ret
  exact ⟨rfl, HB.out⟩
set_option maxHeartbeats 4000000 in
theorem implHolds_u (cs : List Value) (x : HouseD) (k : Int) (w : World) (h : houseR.rd w cs x) :
    Calls Try.prog 16 #[aggV cs, .int .i64 k] w fun e w' => ∃ ds, e = .returned (cell1 ds) ∧ MadeR intsR w w' ds (holdsI x k) := by
  obtain ⟨v0, v1, rfl, ⟨a0, c0, e0, l1, l2, q0⟩, ⟨a1, c1, e1, m1, m2, q1⟩⟩ := house_rd h
  simp only [List.cons.injEq, and_true] at e0 e1
  obtain rfl := e0
  obtain rfl := e1
  have hl2 : x.2.length ≤ 9223372036854775807 := Nat.le_trans m1 m2
  have HOK : Hid (∀ W, Below w.heap.size w W → Calls Try.prog 9 #[.agg #[.slice a0 x.1.length c0, .slice a1 x.2.length c1]] W fun e w' => e = .returned (.bool (houseB x)) ∧ Below W.heap.size W w') := fun W hb => implHouseOk_u _ x W (rd_next h hb)
  have HL : Hid (∀ W, Below w.heap.size w W → Calls Try.prog 41 #[.agg #[.slice a0 x.1.length c0, .slice a1 x.2.length c1], .int .i64 k] W fun e w' => e = .returned (.bool (betw k 0 ((x.2.length : Int) - 1))) ∧ Below W.heap.size W w') := fun W hb => hasLine_u _ x k W (rd_next h hb)
  have HE : Hid (∀ W, Below w.heap.size w W → SlRd entR W a1 x.2) := fun W hb => slrd_next q1 hb
  clear h q0 q1 l1 l2 m1 m2
  change Calls Try.prog 16 #[.agg #[.slice a0 x.1.length c0, .slice a1 x.2.length c1], .int .i64 k] w _
  have X := heap_at w (.cells #[.slice a0 x.1.length c0, .slice a1 x.2.length c1] 30)
  have B := box_below w (.cells #[.slice a0 x.1.length c0, .slice a1 x.2.length c1] 30)
  have HN : Hid (∀ w1, Below w.heap.size w w1 → holdsI x k = [] → ∃ ds, Ending.returned (.slice (some ⟨w1.heap.size, 0, none⟩) 0 0) = .returned (cell1 ds) ∧ MadeR intsR w (w1.alloc (.cells #[] 2)) ds (holdsI x k)) := fun w1 hb e => by
    rw [e]
    have mm := madeR_step hb (made_none (e := 2) (R := intR) w1)
    exact ⟨_, rfl, mm⟩
  have HH : Hid (houseB x = true → betw k 0 ((x.2.length : Int) - 1) = true → _) := fun h1 h2 => holds_at (x := x) (k := k) h1 h2
  have HZ : Hid ((houseB x = true → betw k 0 ((x.2.length : Int) - 1) = false) → holdsI x k = []) := holds_no
  generalize houseB x = hb at HOK HH HZ
  go_enter Try.func16, Try.ntmps16
  go_wp2_with fail
  generalize w.alloc (.cells #[.slice a0 x.1.length c0, .slice a1 x.2.length c1] 30) = W0 at X B ⊢
  refine (HOK.out _ B).mono ?_
  rintro e w1 ⟨rfl, bq⟩
  replace X := row_keep bq X
  replace B := below_step B bq
  clear bq
  cases hb
  · have HZ2 : Hid (holdsI x k = []) := HZ.out (fun e => by cases e)
    obtain ⟨x0, x1⟩ := cells_house X
    have xlt := (Array.getElem?_eq_some_iff.1 X).1
    have HBB : Hid _ := B
    clear X B
    go_wp2
    go_ret
    exact HN.out _ HBB.out HZ2.out
  · cases hlb : betw k 0 ((x.2.length : Int) - 1)
    · have HZ2 : Hid (holdsI x k = []) := HZ.out (fun _ => hlb)
      rw [hlb] at HL
      obtain ⟨x0, x1⟩ := cells_house X
      have xlt := (Array.getElem?_eq_some_iff.1 X).1
      go_wp2_with fail
      refine (HL.out _ B).mono ?_
      rintro e w3 ⟨rfl, bq⟩
      replace B := below_step B bq
      clear bq x0 x1 X xlt
      have HBB : Hid _ := B
      clear B
      go_wp2
      go_ret
      exact HN.out _ HBB.out HZ2.out
    · obtain ⟨n, u, rfl, hn, hu, hu2, he⟩ := HH.out rfl hlb
      have HEQ : Hid (holdsI x n = hoI u.1 u.2.1) := he
      have hn' : (n : Int) < (x.2.length : Int) := by omega
      rw [hlb] at HL
      obtain ⟨x0, x1⟩ := cells_house X
      have xlt := (Array.getElem?_eq_some_iff.1 X).1
      go_wp2_with fail
      clear x0 x1 xlt
      refine (HL.out _ B).mono ?_
      rintro e w3 ⟨rfl, bq⟩
      replace X := row_keep bq X
      replace B := below_step B bq
      clear bq
      obtain ⟨b, off, ad, cp, rfl, z0, z1, z2, z3, z4, z5, z6, z7, hd⟩ := ent_at (HE.out _ B) hu
      have HC := implHolders_any u.1 u.2.1 u.2.2.2.1 u.2.2.2.2.1 u.2.2.2.2.2.1 u.2.2.2.2.2.2.1 u.2.2.1 u.2.2.2.2.2.2.2 ad cp _ hd
      rw [show entB (u.1, u.2.1, u.2.2.1, u.2.2.2.1, u.2.2.2.2.1, u.2.2.2.2.2.1, u.2.2.2.2.2.2.1, u.2.2.2.2.2.2.2) = entB u from rfl, hu2, if_pos rfl] at HC
      obtain ⟨x0, x1⟩ := cells_house X
      have xlt := (Array.getElem?_eq_some_iff.1 X).1
      have HBB : Hid _ := And.intro B hu2
      clear X B hlb HH HZ HE HN hu2 hu hd he
      go_wp2_with fail
      refine HC.mono ?_
      rintro e w4 ⟨v, rfl, mm⟩
      have mr := madeR_step HBB.out.1 (madeR_ints mm (hoI_64 (ent_who HBB.out.2)))
      rw [← HEQ.out] at mr
      obtain ⟨va, vc, rfl⟩ := slown_val mr.1
      have HM : Hid _ := mr
      clear mr mm HBB
      go_wp2
      go_ret
      exact ⟨_, rfl, HM.out⟩
set_option maxHeartbeats 4000000 in
theorem specHolds_u (cs : List Value) (x : HouseD) (k : Int) (w : World) (h : houseR.rd w cs x) (hk : houseM.bk x ≤ 1048576) :
    Calls Try.prog 15 #[aggV cs, .int .i64 k] w fun e w' => ∃ ds, e = .returned (cell1 ds) ∧ intsR.rd w' ds (holdsI x k) ∧ Below w.heap.size w w' := by
  obtain ⟨v0, v1, rfl, ⟨a0, c0, e0, l1, l2, q0⟩, ⟨a1, c1, e1, m1, m2, q1⟩⟩ := house_rd h
  simp only [List.cons.injEq, and_true] at e0 e1
  obtain rfl := e0
  obtain rfl := e1
  have hl2 : x.2.length ≤ 9223372036854775807 := Nat.le_trans m1 m2
  have HOK : Hid (∀ W, Below w.heap.size w W → Calls Try.prog 7 #[.agg #[.slice a0 x.1.length c0, .slice a1 x.2.length c1]] W fun e w' => e = .returned (.bool (houseB x)) ∧ Below W.heap.size W w') := fun W hb => specHouseOk_u _ x W (rd_next h hb) hk
  have HE : Hid (∀ W, Below w.heap.size w W → SlRd entR W a1 x.2) := fun W hb => slrd_next q1 hb
  clear h q0 q1 l1 l2 m1 m2
  change Calls Try.prog 15 #[.agg #[.slice a0 x.1.length c0, .slice a1 x.2.length c1], .int .i64 k] w _
  have X := heap_at w (.cells #[.slice a0 x.1.length c0, .slice a1 x.2.length c1] 30)
  have B := box_below w (.cells #[.slice a0 x.1.length c0, .slice a1 x.2.length c1] 30)
  have HN : Hid (∀ w1, Below w.heap.size w w1 → holdsI x k = [] → ∃ ds, Ending.returned (.slice (some ⟨w1.heap.size, 0, none⟩) 0 0) = .returned (cell1 ds) ∧ intsR.rd (w1.alloc (.cells #[] 2)) ds (holdsI x k) ∧ Below w.heap.size w (w1.alloc (.cells #[] 2))) := fun w1 hb e => by
    rw [e]
    have mm := madeR_step hb (made_none (e := 2) (R := intR) w1)
    exact ⟨_, rfl, intsR.own_rd (mm).1, (mm).2⟩
  have HH : Hid (houseB x = true → betw k 0 ((x.2.length : Int) - 1) = true → _) := fun h1 h2 => holds_at (x := x) (k := k) h1 h2
  have HZ : Hid ((houseB x = true → betw k 0 ((x.2.length : Int) - 1) = false) → holdsI x k = []) := holds_no
  generalize houseB x = hb at HOK HH HZ
  go_enter Try.func15, Try.ntmps15
  go_wp2_with fail
  generalize w.alloc (.cells #[.slice a0 x.1.length c0, .slice a1 x.2.length c1] 30) = W0 at X B ⊢
  refine (HOK.out _ B).mono ?_
  rintro e w1 ⟨rfl, bq⟩
  replace X := row_keep bq X
  replace B := below_step B bq
  clear bq
  cases hb
  · have HZ2 : Hid (holdsI x k = []) := HZ.out (fun e => by cases e)
    obtain ⟨x0, x1⟩ := cells_house X
    have xlt := (Array.getElem?_eq_some_iff.1 X).1
    have HBB : Hid _ := B
    clear X B
    go_wp2
    go_ret
    exact HN.out _ HBB.out HZ2.out
  · cases hlb : betw k 0 ((x.2.length : Int) - 1)
    · have HZ2 : Hid (holdsI x k = []) := HZ.out (fun _ => hlb)
      have hlb2 : k < 0 ∨ (x.2.length : Int) ≤ k := by
        simp [betw] at hlb
        omega
      obtain ⟨x0, x1⟩ := cells_house X
      have xlt := (Array.getElem?_eq_some_iff.1 X).1
      have HBB : Hid _ := B
      clear X B hlb
      by_cases hneg : k < 0
      · go_wp2
        go_ret
        exact HN.out _ HBB.out HZ2.out
      · have hge : (x.2.length : Int) ≤ k := by omega
        clear hlb2
        go_wp2
        go_ret
        exact HN.out _ HBB.out HZ2.out
    · obtain ⟨n, u, rfl, hn, hu, hu2, he⟩ := HH.out rfl hlb
      have HEQ : Hid (holdsI x n = hoI u.1 u.2.1) := he
      have hn' : (n : Int) < (x.2.length : Int) := by omega
      have hn2 : ¬ ((n : Int) < 0) := by omega
      have hn3 : ¬ ((x.2.length : Int) ≤ (n : Int)) := by omega
      obtain ⟨b, off, ad, cp, rfl, z0, z1, z2, z3, z4, z5, z6, z7, hd⟩ := ent_at (HE.out _ B) hu
      have HC := l10Holders_any u.1 u.2.1 u.2.2.2.1 u.2.2.2.2.1 u.2.2.2.2.2.1 u.2.2.2.2.2.2.1 u.2.2.1 u.2.2.2.2.2.2.2 ad cp w1 (ent_who hu2)
      skip
      obtain ⟨x0, x1⟩ := cells_house X
      have xlt := (Array.getElem?_eq_some_iff.1 X).1
      have HBB : Hid _ := And.intro B hu2
      clear X B hlb HH HZ HE HN hu2 hu hd he
      go_wp2_with fail
      refine HC.mono ?_
      rintro e w4 ⟨v, rfl, mm⟩
      have mr := madeR_step HBB.out.1 (madeR_ints mm (hoI_64 (ent_who HBB.out.2)))
      rw [← HEQ.out] at mr
      obtain ⟨va, vc, rfl⟩ := slown_val mr.1
      have HM : Hid _ := mr
      clear mr mm HBB
      go_wp2
      go_ret
      exact ⟨_, rfl, intsR.own_rd (HM.out).1, (HM.out).2⟩
end Go.Proofs.Ytcnnojfkpkmdmaa
