
/- Whether a house is right, of both. Conditions: lengths that a machine can hold. -/
import Derived.Test.YtcnnojfkpkmdmaaHouseU
import Derived.Test.YtcnnojfkpkmdmaaBadP
import Derived.Test.YtcnnojfkpkmdmaaEntOk
import Derived.Test.YtcnnojfkpkmdmaaImplEnt
import Derived.Test.YtcnnojfkpkmdmaaMems8
import Derived.Test.YtcnnojfkpkmdmaaMems9
namespace Go.Proofs.Ytcnnojfkpkmdmaa
open Go.ChangeShapes Go.WideShapes Go.ChangeAt Go.RowKit
set_option linter.unusedVariables false

def houseB (x : HouseD) : Bool := memOk x.1 && (decide (x.2.length = x.1.length) && x.2.all entB)
theorem house_len {x : HouseD} (h : houseM.bk x ≤ 1048576) : x.1.length ≤ 1048576 ∧ x.2.length ≤ 1048576 := by
  have e : houseM.bk x = (x.1.length + sumbk intsM x.1) + (x.2.length + sumbk entM x.2) := rfl
  omega
theorem ent_at {w : World} {a : Option Addr} {xs : List EntryD} {k : Nat} {x : EntryD} (h : SlRd entR w a xs) (hx : xs[k]? = some x) :
    ∃ b off ad cp, a = some ⟨b, off, none⟩ ∧ w.cell? ⟨b, off + k * 8, none⟩ = some (.int .i64 x.1) ∧ w.cell? ⟨b, off + k * 8 + 1, none⟩ = some (.int .i64 x.2.1) ∧ w.cell? ⟨b, off + k * 8 + 2, none⟩ = some (.bool x.2.2.1) ∧ w.cell? ⟨b, off + k * 8 + 3, none⟩ = some (.int .i64 x.2.2.2.1) ∧ w.cell? ⟨b, off + k * 8 + 4, none⟩ = some (.int .i64 x.2.2.2.2.1) ∧ w.cell? ⟨b, off + k * 8 + 5, none⟩ = some (.int .i64 x.2.2.2.2.2.1) ∧ w.cell? ⟨b, off + k * 8 + 6, none⟩ = some (.int .i64 x.2.2.2.2.2.2.1) ∧ w.cell? ⟨b, off + k * 8 + 7, none⟩ = some (.slice ad x.2.2.2.2.2.2.2.length cp) ∧ SlRd intR w ad x.2.2.2.2.2.2.2 := by
  obtain ⟨b, off, cs, rfl, hrd, hcell⟩ := slrd_at h hx
  obtain ⟨ad, cp, rfl, -, -, -, -, -, -, -, -, hd⟩ := ent_rd hrd
  exact ⟨b, off, ad, cp, rfl, hcell 0 _ rfl, hcell 1 _ rfl, hcell 2 _ rfl, hcell 3 _ rfl, hcell 4 _ rfl, hcell 5 _ rfl, hcell 6 _ rfl, hcell 7 _ rfl, hd⟩
set_option maxHeartbeats 1000000 in
theorem bookOk1_any (x : EntryD) (ad : Option Addr) (cp : Nat) (w : World) (h : SlRd intR w ad x.2.2.2.2.2.2.2) :
    Calls Try.prog 50 #[.agg #[.int .i64 x.1, .int .i64 x.2.1, .bool x.2.2.1, .int .i64 x.2.2.2.1, .int .i64 x.2.2.2.2.1, .int .i64 x.2.2.2.2.2.1, .int .i64 x.2.2.2.2.2.2.1, .slice ad x.2.2.2.2.2.2.2.length cp]] w fun e w' => e = .returned (.bool (!entB x)) ∧ Below w.heap.size w w' := by
  have B := box_below w (.cells #[.int .i64 x.1, .int .i64 x.2.1, .bool x.2.2.1, .int .i64 x.2.2.2.1, .int .i64 x.2.2.2.2.1, .int .i64 x.2.2.2.2.2.1, .int .i64 x.2.2.2.2.2.2.1, .slice ad x.2.2.2.2.2.2.2.length cp] 48)
  have HM : Hid (∀ W, Below w.heap.size w W → Calls Try.prog 51 #[.agg #[.int .i64 x.1, .int .i64 x.2.1, .bool x.2.2.1, .int .i64 x.2.2.2.1, .int .i64 x.2.2.2.2.1, .int .i64 x.2.2.2.2.2.1, .int .i64 x.2.2.2.2.2.2.1, .slice ad x.2.2.2.2.2.2.2.length cp]] W fun e w' => e = .returned (.bool (entB x)) ∧ Below W.heap.size W w') := fun W hb => implEntryOk_any x.1 x.2.1 x.2.2.2.1 x.2.2.2.2.1 x.2.2.2.2.2.1 x.2.2.2.2.2.2.1 x.2.2.1 x.2.2.2.2.2.2.2 ad cp W (slrd_next h hb)
  generalize entB x = q at HM ⊢
  clear h
  go_enter Try.func50, Try.ntmps50
  go_wp2_with fail
  generalize w.alloc (.cells #[.int .i64 x.1, .int .i64 x.2.1, .bool x.2.2.1, .int .i64 x.2.2.2.1, .int .i64 x.2.2.2.2.1, .int .i64 x.2.2.2.2.2.1, .int .i64 x.2.2.2.2.2.2.1, .slice ad x.2.2.2.2.2.2.2.length cp] 48) = W0 at B ⊢
  refine (HM.out _ B).mono ?_
  rintro e w1 ⟨rfl, b1⟩
  go_wp2
  go_ret
  exact ⟨rfl, below_step B b1⟩
set_option maxHeartbeats 2000000 in
theorem indexBadE_any (a : Option Addr) (xs : List EntryD) (cap : Nat) (w : World) (h : SlRd entR w a xs) (hm : xs.length ≤ maxLen) :
    Calls Try.prog 64 #[.slice a xs.length cap, .func (.func 50) #[] #[]] w fun e w' => e = .returned (.int .i64 (badP entB xs)) ∧ Below w.heap.size w w' := by
  have hm' : xs.length ≤ 9223372036854775807 := hm
  have H0 : Hid (∀ W, Below w.heap.size w W → SlRd entR W a xs) := fun W hb => slrd_keep h fun k hk => hb.block k hk
  clear h hm
  go_enter Try.func64, Try.ntmps64
  go_wp2
  go_loopw [8] (fun i wr => ∃ k : Nat, k ≤ xs.length ∧ i = .int .i64 k ∧ (∀ j v, j < k → xs[j]? = some v → entB v = true) ∧ Below w.heap.size w wr) (fun i _ => xs.length - (intOf i).toNat)
  case atStart => exact ⟨0, Nat.zero_le _, rfl, fun j v hj => by omega, Below.refl _ _⟩
  case round =>
    obtain ⟨k, hk, rfl, hno, BB⟩ := hrel
    by_cases hlt : k < xs.length
    · have hlt' : (k : Int) < (xs.length : Int) := by omega
      obtain ⟨x, hx⟩ : ∃ x, xs[k]? = some x := ⟨_, List.getElem?_eq_getElem hlt⟩
      obtain ⟨b, off, ad, cp, rfl, x0, x1, x2, x3, x4, x5, x6, x7, hd⟩ := ent_at (H0.out _ BB) hx
      have HC := bookOk1_any x ad cp wr hd
      clear hd
      have HX : Hid (xs[k]? = some x) := hx
      clear hx
      cases hb : entB x
      · have HR : Hid (badP entB xs = k) := badP_at HX.out hb hno
        rw [hb] at HC
        go_wp2_with fail
        refine HC.mono ?_
        rintro e w2 ⟨rfl, b2⟩
        replace BB := below_step BB b2
        clear b2 x0 x1 x2 x3 x4 x5 x6 x7
        go_wp2
        go_ret
        exact ⟨ret_int HR.out.symm, BB⟩
      · rw [hb] at HC
        go_wp2_with fail
        refine HC.mono ?_
        rintro e w2 ⟨rfl, b2⟩
        replace BB := below_step BB b2
        clear b2 x0 x1 x2 x3 x4 x5 x6 x7
        go_wp2
        go_roundw
        case rel =>
          refine ⟨k + 1, by omega, by go_num, fun j v hj hv => ?_, BB⟩
          by_cases he : j < k
          · exact hno j v he hv
          · have : j = k := by omega
            subst this
            rw [HX.out] at hv
            cases hv
            exact hb
        case measure => simp [intOf]; omega
    · have HR : Hid (badP entB xs = -1) := badP_no fun j v hv => hno j v (by have := (List.getElem?_eq_some_iff.1 hv).1; omega) hv
      go_wp2
      go_ret
      exact ⟨ret_int HR.out.symm, BB⟩

set_option maxHeartbeats 1000000 in
theorem containsBadE_any (a : Option Addr) (xs : List EntryD) (cap : Nat) (w : World) (h : SlRd entR w a xs) (hm : xs.length ≤ maxLen) :
    Calls Try.prog 49 #[.slice a xs.length cap, .func (.func 50) #[] #[]] w fun e w' => e = .returned (.bool (!xs.all entB)) ∧ Below w.heap.size w w' := by
  have HI := indexBadE_any a xs cap w h hm
  have hab := badP_all entB xs
  clear h hm
  generalize badP entB xs = q at HI hab
  generalize xs.all entB = y at hab ⊢
  subst hab
  by_cases hq : q < 0
  · have hq2 : ¬ (0 ≤ q) := by omega
    go_enter Try.func49, Try.ntmps49
    go_wp2_with fail
    refine HI.mono ?_
    rintro e w1 ⟨rfl, b1⟩
    go_wp2
    go_ret
    exact ⟨by simp [hq], b1⟩
  · have hq2 : 0 ≤ q := by omega
    go_enter Try.func49, Try.ntmps49
    go_wp2_with fail
    refine HI.mono ?_
    rintro e w1 ⟨rfl, b1⟩
    go_wp2
    go_ret
    exact ⟨by simp [hq], b1⟩

set_option maxHeartbeats 1000000 in
theorem implBookOk_any (a : Option Addr) (xs : List EntryD) (cap : Nat) (w : World) (h : SlRd entR w a xs) (hm : xs.length ≤ maxLen) :
    Calls Try.prog 27 #[.slice a xs.length cap] w fun e w' => e = .returned (.bool (xs.all entB)) ∧ Below w.heap.size w w' := by
  have HC := containsBadE_any a xs cap w h hm
  generalize xs.all entB = y at HC ⊢
  clear h hm
  go_enter Try.func27, Try.ntmps27
  go_wp2_with fail
  refine HC.mono ?_
  rintro e w1 ⟨rfl, b1⟩
  go_wp2
  go_ret
  exact ⟨by simp, b1⟩
set_option maxHeartbeats 2000000 in
theorem implHouseOk_u (cs : List Value) (x : HouseD) (w : World) (h : houseR.rd w cs x) :
    Calls Try.prog 9 #[aggV cs] w fun e w' => e = .returned (.bool (houseB x)) ∧ Below w.heap.size w w' := by
  obtain ⟨v0, v1, rfl, ⟨a0, c0, e0, l1, l2, q0⟩, ⟨a1, c1, e1, m1, m2, q1⟩⟩ := house_rd h
  simp only [List.cons.injEq, and_true] at e0 e1
  obtain rfl := e0
  obtain rfl := e1
  clear h
  change Calls Try.prog 9 #[.agg #[.slice a0 x.1.length c0, .slice a1 x.2.length c1]] w _
  have HM : Hid (∀ W, Below w.heap.size w W → Calls Try.prog 26 #[.slice a0 x.1.length c0] W fun e w' => e = .returned (.bool (memOk x.1)) ∧ Below W.heap.size W w') := fun W hb => implMemoryOk_any a0 x.1 c0 W (readsM_of (slrd_next q0 hb)) (Nat.le_trans l1 l2)
  have HB : Hid (∀ W, Below w.heap.size w W → Calls Try.prog 27 #[.slice a1 x.2.length c1] W fun e w' => e = .returned (.bool (x.2.all entB)) ∧ Below W.heap.size W w') := fun W hb => implBookOk_any a1 x.2 c1 W (slrd_next q1 hb) (Nat.le_trans m1 m2)
  have hl1 : x.1.length ≤ 9223372036854775807 := Nat.le_trans l1 l2
  have hl2 : x.2.length ≤ 9223372036854775807 := Nat.le_trans m1 m2
  clear q0 q1 l1 l2 m1 m2
  have X := heap_at w (.cells #[.slice a0 x.1.length c0, .slice a1 x.2.length c1] 30)
  have B := box_below w (.cells #[.slice a0 x.1.length c0, .slice a1 x.2.length c1] 30)
  unfold houseB
  generalize memOk x.1 = q at HM ⊢
  generalize x.2.all entB = r at HB ⊢
  generalize x.1.length = n at *
  generalize x.2.length = m at *
  go_enter Try.func9, Try.ntmps9
  go_wp2_with fail
  generalize w.alloc (.cells #[.slice a0 n c0, .slice a1 m c1] 30) = W0 at X B ⊢
  refine (HM.out _ B).mono ?_
  rintro e w1 ⟨rfl, bq⟩
  replace X := row_keep bq X
  replace B := below_step B bq
  clear bq
  obtain ⟨x0, x1⟩ := cells_house X
  cases q
  · clear X
    go_wp2
    go_ret
    exact ⟨rfl, B⟩
  · by_cases he : m = n
    · subst he
      have he2 : ((m : Int) == (m : Int)) = true := by simp
      go_wp2_with fail
      refine (HB.out _ B).mono ?_
      rintro e w2 ⟨rfl, bq⟩
      replace B := below_step B bq
      clear bq X x0 x1
      go_wp2
      go_ret
      exact ⟨by simp, B⟩
    · have he2 : ((m : Int) == (n : Int)) = false := by simp; omega
      clear X
      go_wp2
      go_ret
      exact ⟨by simp [he], B⟩
set_option maxHeartbeats 4000000 in
theorem specHouseOk_u (cs : List Value) (x : HouseD) (w : World) (h : houseR.rd w cs x) (hk : houseM.bk x ≤ 1048576) :
    Calls Try.prog 7 #[aggV cs] w fun e w' => e = .returned (.bool (houseB x)) ∧ Below w.heap.size w w' := by
  obtain ⟨v0, v1, rfl, ⟨a0, c0, e0, l1, l2, q0⟩, ⟨a1, c1, e1, m1, m2, q1⟩⟩ := house_rd h
  simp only [List.cons.injEq, and_true] at e0 e1
  obtain rfl := e0
  obtain rfl := e1
  clear h
  obtain ⟨hl1, hl2⟩ := house_len hk
  change Calls Try.prog 7 #[.agg #[.slice a0 x.1.length c0, .slice a1 x.2.length c1]] w _
  have HM : Hid (∀ W, Below w.heap.size w W → Calls Try.prog 22 #[.slice a0 x.1.length c0] W fun e w' => e = .returned (.bool (memOk x.1)) ∧ Below W.heap.size W w') := fun W hb => (specMemoryOk_any a0 x.1 c0 W (readsM_of (slrd_next q0 hb)) (by omega)).mono fun e w' ⟨q, r⟩ => ⟨q, be_eq r⟩
  have HE : Hid (∀ W, Below w.heap.size w W → SlRd entR W a1 x.2) := fun W hb => slrd_next q1 hb
  clear q0 q1 l1 l2 m1 m2 hk
  have X := heap_at w (.cells #[.slice a0 x.1.length c0, .slice a1 x.2.length c1] 30)
  have B := box_below w (.cells #[.slice a0 x.1.length c0, .slice a1 x.2.length c1] 30)
  have HF : Hid (memOk x.1 = false → houseB x = false) := fun e => by unfold houseB; rw [e]; rfl
  have HG : Hid (¬ x.2.length = x.1.length → houseB x = false) := fun e => by unfold houseB; simp [e]
  have HB : Hid (∀ j u, x.2[j]? = some u → entB u = false → houseB x = false) := fun j u hu e => by
    have : x.2.all entB = false := by
      cases hh : x.2.all entB
      · rfl
      · rw [List.all_eq_true] at hh
        rw [hh u (List.mem_of_getElem? hu)] at e
        cases e
    unfold houseB
    simp [this]
  have HT : Hid (memOk x.1 = true → x.2.length = x.1.length → (∀ j u, x.2[j]? = some u → entB u = true) → houseB x = true) := fun e1 e2 e3 => by
    have : x.2.all entB = true := List.all_eq_true.2 fun u hu => by
      obtain ⟨j, hj⟩ := List.getElem?_of_mem hu
      exact e3 j u hj
    unfold houseB
    simp [e1, e2, this]
  cases hmm : memOk x.1
  · rw [HF.out hmm]
    rw [hmm] at HM
    generalize x.1.length = n at *
    generalize x.2.length = m at *
    go_enter Try.func7, Try.ntmps7
    go_wp2_with fail
    generalize w.alloc (.cells #[.slice a0 n c0, .slice a1 m c1] 30) = W0 at X B ⊢
    refine (HM.out _ B).mono ?_
    rintro e w1 ⟨rfl, bq⟩
    replace B := below_step B bq
    clear bq X
    go_wp2
    go_ret
    exact ⟨rfl, B⟩
  by_cases he : x.2.length = x.1.length
  · rw [hmm] at HM
    have HT2 : Hid ((∀ j u, x.2[j]? = some u → entB u = true) → houseB x = true) := HT.out hmm he
    rw [← he] at HM X B ⊢
    clear HT HF HG hmm hl1 he
    go_enter Try.func7, Try.ntmps7
    go_wp2_with fail
    generalize w.alloc (.cells #[.slice a0 x.2.length c0, .slice a1 x.2.length c1] 30) = W0 at X B ⊢
    refine (HM.out _ B).mono ?_
    rintro e w1 ⟨rfl, bq⟩
    replace X := row_keep bq X
    replace B := below_step B bq
    clear bq
    obtain ⟨x0, x1⟩ := cells_house X
    go_wp2
    clear x0 x1
    go_loopw [3] (fun i wr => ∃ k : Nat, k ≤ x.2.length ∧ i = .int .i64 k ∧ (∀ j v, j < k → x.2[j]? = some v → entB v = true) ∧ Below w.heap.size w wr ∧ wr.heap[w.heap.size]? = some (.cells #[.slice a0 x.2.length c0, .slice a1 x.2.length c1] 30 (0, 0))) (fun i _ => x.2.length - (intOf i).toNat)
    case atStart => exact ⟨0, Nat.zero_le _, rfl, fun j v hj => by omega, B, X⟩
    case round =>
      obtain ⟨k, hk, rfl, hno, BB, XX⟩ := hrel
      obtain ⟨x0, x1⟩ := cells_house XX
      by_cases hlt : k < x.2.length
      · have hlt' : (k : Int) < (x.2.length : Int) := by omega
        obtain ⟨y, hy⟩ : ∃ y, x.2[k]? = some y := ⟨_, List.getElem?_eq_getElem hlt⟩
        obtain ⟨b, off, ad, cp, rfl, z0, z1, z2, z3, z4, z5, z6, z7, hd⟩ := ent_at (HE.out _ BB) hy
        have HC := specEntryOk_any y.1 y.2.1 y.2.2.2.1 y.2.2.2.2.1 y.2.2.2.2.2.1 y.2.2.2.2.2.2.1 y.2.2.1 y.2.2.2.2.2.2.2 ad cp wr hd
        rw [show entB (y.1, y.2.1, y.2.2.1, y.2.2.2.1, y.2.2.2.2.1, y.2.2.2.2.2.1, y.2.2.2.2.2.2.1, y.2.2.2.2.2.2.2) = entB y from rfl] at HC
        have HX : Hid (x.2[k]? = some y) := hy
        clear hy hd
        cases hb : entB y
        · rw [hb] at HC
          go_wp2_with fail
          refine HC.mono ?_
          rintro e w2 ⟨rfl, b2⟩
          replace BB := below_step BB b2
          clear b2 z0 z1 z2 z3 z4 z5 z6 z7 x0 x1 XX X B
          go_wp2
          go_ret
          exact ⟨ret_bool (HB.out k y HX.out hb).symm, BB⟩
        · rw [hb] at HC
          go_wp2_with fail
          refine HC.mono ?_
          rintro e w2 ⟨rfl, b2⟩
          replace BB := below_step BB b2
          replace XX := row_keep b2 XX
          clear b2 z0 z1 z2 z3 z4 z5 z6 z7 x0 x1 X B
          go_wp2
          go_roundw
          case rel =>
            refine ⟨k + 1, by omega, by go_num, fun j v hj hv => ?_, BB, XX⟩
            by_cases he : j < k
            · exact hno j v he hv
            · have : j = k := by omega
              subst this
              rw [HX.out] at hv
              cases hv
              exact hb
          case measure => simp [intOf]; omega
      · have HR : Hid (houseB x = true) := HT2.out fun j v hv => hno j v (by have := (List.getElem?_eq_some_iff.1 hv).1; omega) hv
        go_wp2
        go_ret
        exact ⟨ret_bool HR.out.symm, BB⟩
  · rw [HG.out he]
    rw [hmm] at HM
    have he2 : ¬ ((x.2.length : Int) = (x.1.length : Int)) := by omega
    have he3 : ((x.2.length : Int) != (x.1.length : Int)) = true := by simp; omega
    clear HT HF HG HB HE hmm he
    generalize x.1.length = n at *
    generalize x.2.length = m at *
    go_enter Try.func7, Try.ntmps7
    go_wp2_with fail
    generalize w.alloc (.cells #[.slice a0 n c0, .slice a1 m c1] 30) = W0 at X B ⊢
    refine (HM.out _ B).mono ?_
    rintro e w1 ⟨rfl, bq⟩
    replace X := row_keep bq X
    replace B := below_step B bq
    clear bq
    obtain ⟨x0, x1⟩ := cells_house X
    clear X
    go_wp2
    go_ret
    exact ⟨rfl, B⟩
end Go.Proofs.Ytcnnojfkpkmdmaa
