/- At every house and every number, impl.Holds answers as spec.Holds does, field by field, writes into no argument, keeps nothing of one, and its answer owns its memory, behind another call too: the law FnExactHolds returns true and changes nothing that was there. No condition. -/
import Derived.Test.YtcnnojfkpkmdmaaRows
import Derived.Test.YtcnnojfkpkmdmaaOwned
import Derived.Test.YtcnnojfkpkmdmaaGxKit
import Derived.Test.YtcnnojfkpkmdmaaHouseB
import Derived.Test.YtcnnojfkpkmdmaaHouse3
import Derived.WalkKit
import Derived.ProofKit
import Derived.OpenShut
import Derived.ShutString
import Derived.ChangeOld
import Derived.Below
import Derived.Carry
import Derived.Lib.SmallJoins
namespace Go.Proofs.Ytcnnojfkpkmdmaa.fnExactHolds
open Go.ChangeShapes Go.WideShapes Go.ChangeAt Go.RowKit Go.Joins
open Go.ChangeMaps (open_string shut_string)
set_option linter.unusedVariables false

theorem own : ownKnob Try.prog.godebug = none := by kernel_rfl
theorem laidOut : laidOutB Try.prog = true := by kernel_rfl

set_option maxHeartbeats 8000000 in
set_option maxRecDepth 100000 in
theorem walk (cs0 : Array Value) (x0 : RepOf (houseR)) (a1 : Int) (w1 : (Lit.int .i64 a1).wf = true) (w : World) (w0 : (houseR).rd w cs0.toList x0) :
    Calls Try.prog 5 #[.agg cs0, .int .i64 a1] w fun e w' => e = .returned (.bool true) ∧ Below w.heap.size w w' := by
  obtain ⟨gaz0, gcz0, haz0, hcz0, hcs0⟩ := house_shape w0
  obtain rfl := arr_of hcs0
  have HR0 : Hid (∀ W, Below w.heap.size w W → houseR.rd W [.slice gaz0 x0.1.length gcz0, .slice haz0 x0.2.length hcz0] x0) := fun W hb => rd_next w0 hb
  clear w0 hcs0
  have hsm := fun (_ : houseM.bk x0 ≤ 1048576) => holds_small x0 a1
  generalize hres : holdsI x0 a1 = res at hsm
  have HRES : Hid (holdsI x0 a1 = res) := hres
  clear hres
  have RR : res = res := rfl
  clear RR
  have CSP : Hid (∀ W cs0, houseR.rd W cs0 x0 → houseM.bk x0 ≤ 1048576 → Calls Try.prog 15 #[aggV cs0, .int .i64 a1] W fun e w' => ∃ ds0, e = .returned (cell1 ds0) ∧ intsR.rd w' ds0 res ∧ Below W.heap.size W w') := fun W cs0 h0 k0 => by have := specHolds_u cs0 x0 a1 W h0 k0; rw [HRES.out] at this; exact this
  have CIM : Hid (∀ W cs0, houseR.rd W cs0 x0 → houseM.bk x0 ≤ 1048576 → Calls Try.prog 16 #[aggV cs0, .int .i64 a1] W fun e w' => ∃ ds0, e = .returned (cell1 ds0) ∧ MadeR intsR W w' ds0 res) := fun W cs0 h0 k0 => by have := implHolds_u cs0 x0 a1 W h0; rw [HRES.out] at this; exact this
  clear HRES
  have b0 := Below.refl w.heap.size w
  go_enter Try.func5, Try.ntmps5
  go_wp2_with fail
  have A0 := heap_at w (.cells #[.slice gaz0 x0.1.length gcz0, .slice haz0 x0.2.length hcz0] 25)
  have bzA0 := box_below w (.cells #[.slice gaz0 x0.1.length gcz0, .slice haz0 x0.2.length hcz0] 25)
  replace b0 := below_step b0 bzA0
  clear bzA0
  generalize w.alloc (.cells #[.slice gaz0 x0.1.length gcz0, .slice haz0 x0.2.length hcz0] 25) = v1w at b0 A0 ⊢
  refine (szHouse_u [.slice gaz0 x0.1.length gcz0, .slice haz0 x0.2.length hcz0] x0 (1048576) _ (HR0.out _ b0) (by omega) (by omega)).mono ?_
  rintro e v2w ⟨rfl, bq⟩
  replace b0 := below_step b0 bq
  replace A0 := row_keep bq A0
  clear bq
  by_cases hf0 : ((houseM.bk x0 : Nat) : Int) ≤ 1048576
  · have HS0 : Hid (szI (houseM.bk x0) (1048576) = 1048576 - (houseM.bk x0 : Int)) := szI_yes hf0
    have hg0 : ¬ (1048576 - ((houseM.bk x0 : Nat) : Int) < 0) := by omega
    have hbk0 : houseM.bk x0 ≤ 1048576 := by omega
    have hbl0 : houseM.bk x0 ≤ lot := Nat.le_trans hbk0 (by decide)
    rw [HS0.out]
    replace hsm := hsm hbk0
    have hxm0 : (houseM.cV x0 : Int) ≤ 268435456 := by have := bv_house x0; omega
    generalize hkx0 : houseM.cV x0 = kx0 at hxm0
    have HKX0 : Hid (houseM.cV x0 = kx0) := hkx0
    clear hkx0
    have hb0 : intsM.bk res ≤ 8388608 := hsm
    have hl0 : intsM.bk res ≤ lot := Nat.le_trans hb0 (by decide)
    have hgm0 : (intsM.cV res : Int) ≤ 268435456 := by have := bv_ints res; omega
    generalize hky0 : intsM.cV res = ky0 at hgm0
    have HKY0 : Hid (intsM.cV res = ky0) := hky0
    clear hky0
    have hlot : (lot : Int) = 4398046511104 := rfl
    obtain ⟨A0c0, A0c1⟩ := cells_house A0
    have A0lt := (Array.getElem?_eq_some_iff.1 A0).1
    go_wp2_with fail
    clear A0c0 A0c1 A0lt
    refine (toHouse_u [.slice gaz0 x0.1.length gcz0, .slice haz0 x0.2.length hcz0] x0 _ (HR0.out _ b0) hbk0).mono ?_
    rintro e v3w ⟨ds, rfl, mm⟩
    obtain ⟨gap0, gcp0, hap0, hcp0, rfl⟩ := house_shape (houseR.own_rd mm.1)
    rw [show aggV [.slice gap0 x0.1.length gcp0, .slice hap0 x0.2.length hcp0] = .agg #[.slice gap0 x0.1.length gcp0, .slice hap0 x0.2.length hcp0] from rfl]
    have P0A0 : w.heap.size < v2w.heap.size ∨ v3w.heap.size ≤ w.heap.size := .inl (Array.getElem?_eq_some_iff.1 A0).1
    have P0lo : w.heap.size ≤ v2w.heap.size := b0.size
    have P0 := owned_made (R := houseR) mm
    have mbP0 := mm.2
    replace b0 := below_step b0 mbP0
    replace A0 := row_keep mbP0 A0
    clear mbP0 mm
    obtain ⟨A0c0, A0c1⟩ := cells_house A0
    have A0lt := (Array.getElem?_eq_some_iff.1 A0).1
    go_wp2_with fail
    clear A0c0 A0c1 A0lt
    refine (CSP.out _ [.slice gap0 x0.1.length gcp0, .slice hap0 x0.2.length hcp0] (houseR.own_rd P0.1) hbk0).mono ?_
    rintro e v4w ⟨ds0, rfl, rd0, bq⟩
    replace b0 := below_step b0 bq
    replace A0 := row_keep bq A0
    replace P0 := owned_next P0 bq
    clear bq
    clear P0
    have rr := rd0
    obtain ⟨gaq0, gcq0, ro, -, -, -⟩ := rr
    obtain rfl := ro
    rw [show cell1 [.slice gaq0 res.length gcq0] = .slice gaq0 res.length gcq0 from rfl]
    have S0 := sight_of rd0
    clear rd0
    obtain ⟨A0c0, A0c1⟩ := cells_house A0
    have A0lt := (Array.getElem?_eq_some_iff.1 A0).1
    go_wp2_with fail
    clear A0c0 A0c1 A0lt
    refine (toHouse_u [.slice gaz0 x0.1.length gcz0, .slice haz0 x0.2.length hcz0] x0 _ (HR0.out _ b0) hbk0).mono ?_
    rintro e v5w ⟨ds, rfl, mm⟩
    obtain ⟨gax0, gcx0, hax0, hcx0, rfl⟩ := house_shape (houseR.own_rd mm.1)
    rw [show aggV [.slice gax0 x0.1.length gcx0, .slice hax0 x0.2.length hcx0] = .agg #[.slice gax0 x0.1.length gcx0, .slice hax0 x0.2.length hcx0] from rfl]
    have X0S0 : v4w.heap.size ≤ v4w.heap.size := sight_lt S0
    have X0A0 : w.heap.size < v4w.heap.size ∨ v5w.heap.size ≤ w.heap.size := .inl (Array.getElem?_eq_some_iff.1 A0).1
    have X0lo : w.heap.size ≤ v4w.heap.size := b0.size
    have X0 := owned_made (R := houseR) mm
    have mbX0 := mm.2
    replace b0 := below_step b0 mbX0
    replace A0 := row_keep mbX0 A0
    replace S0 := sight_next S0 mbX0
    clear mbX0 mm
    obtain ⟨A0c0, A0c1⟩ := cells_house A0
    have A0lt := (Array.getElem?_eq_some_iff.1 A0).1
    go_wp2_with fail
    clear A0c0 A0c1 A0lt
    have ZX0 := heap_at v5w (.cells #[.slice gax0 x0.1.length gcx0, .slice hax0 x0.2.length hcx0] 30)
    have bzZX0 := box_below v5w (.cells #[.slice gax0 x0.1.length gcx0, .slice hax0 x0.2.length hcx0] 30)
    have X0ZX0 : v5w.heap.size < v4w.heap.size ∨ v5w.heap.size ≤ v5w.heap.size := .inr X0.2
    replace b0 := below_step b0 bzZX0
    replace A0 := row_keep bzZX0 A0
    replace X0 := owned_next X0 bzZX0
    replace S0 := sight_next S0 bzZX0
    clear bzZX0
    generalize v5w.alloc (.cells #[.slice gax0 x0.1.length gcx0, .slice hax0 x0.2.length hcx0] 30) = v6w at b0 A0 ZX0 X0 S0 ⊢
    obtain ⟨A0c0, A0c1⟩ := cells_house A0
    have A0lt := (Array.getElem?_eq_some_iff.1 A0).1
    obtain ⟨ZX0c0, ZX0c1⟩ := cells_house ZX0
    have ZX0lt := (Array.getElem?_eq_some_iff.1 ZX0).1
    go_wp2_with fail
    clear A0c0 A0c1 A0lt ZX0c0 ZX0c1 ZX0lt
    refine (CIM.out _ [.slice gax0 x0.1.length gcx0, .slice hax0 x0.2.length hcx0] (houseR.own_rd X0.1) hbk0).mono ?_
    rintro e v7w ⟨ds0, rfl, mm⟩
    have rr := intsR.own_rd mm.1
    obtain ⟨gag0, gcg0, ro, -, -, -⟩ := rr
    obtain rfl := ro
    rw [show cell1 [.slice gag0 res.length gcg0] = .slice gag0 res.length gcg0 from rfl]
    have GGS0 : v4w.heap.size ≤ v6w.heap.size := sight_lt S0
    have GGA0 : w.heap.size < v6w.heap.size ∨ v7w.heap.size ≤ w.heap.size := .inl (Array.getElem?_eq_some_iff.1 A0).1
    have GGZX0 : v5w.heap.size < v6w.heap.size ∨ v7w.heap.size ≤ v5w.heap.size := .inl (Array.getElem?_eq_some_iff.1 ZX0).1
    have X0GG : v5w.heap.size ≤ v6w.heap.size := X0.2
    have GGlo : w.heap.size ≤ v6w.heap.size := b0.size
    have GG := owned_made (R := intsR) mm
    have mbGG := mm.2
    replace b0 := below_step b0 mbGG
    replace A0 := row_keep mbGG A0
    replace ZX0 := row_keep mbGG ZX0
    replace X0 := owned_next X0 mbGG
    replace S0 := sight_next S0 mbGG
    clear mbGG mm
    obtain ⟨A0c0, A0c1⟩ := cells_house A0
    have A0lt := (Array.getElem?_eq_some_iff.1 A0).1
    obtain ⟨ZX0c0, ZX0c1⟩ := cells_house ZX0
    have ZX0lt := (Array.getElem?_eq_some_iff.1 ZX0).1
    go_wp2_with fail
    clear A0c0 A0c1 A0lt ZX0c0 ZX0c1 ZX0lt
    refine (eqInts_u [.slice gag0 res.length gcg0] [.slice gaq0 res.length gcq0] res _ (intsR.own_rd GG.1) (sight_rd S0) hl0).mono ?_
    rintro e v8w ⟨rfl, bq⟩
    replace b0 := below_step b0 bq
    replace A0 := row_keep bq A0
    replace ZX0 := row_keep bq ZX0
    replace X0 := owned_next X0 bq
    replace GG := owned_next GG bq
    replace S0 := sight_next S0 bq
    clear bq
    obtain ⟨A0c0, A0c1⟩ := cells_house A0
    have A0lt := (Array.getElem?_eq_some_iff.1 A0).1
    obtain ⟨ZX0c0, ZX0c1⟩ := cells_house ZX0
    have ZX0lt := (Array.getElem?_eq_some_iff.1 ZX0).1
    go_upto_region 10 with fail
    clear A0c0 A0c1 A0lt ZX0c0 ZX0c1 ZX0lt
    go_cut [35] (fun q wx => q = .bool false ∧ Below w.heap.size w wx ∧ wx.heap[w.heap.size]? = some (.cells #[.slice gaz0 x0.1.length gcz0, .slice haz0 x0.2.length hcz0] 25) ∧ wx.heap[v5w.heap.size]? = some (.cells #[.slice gax0 x0.1.length gcx0, .slice hax0 x0.2.length hcx0] 30) ∧ Owned houseR (v4w.heap.size) (v5w.heap.size) wx ([.slice gax0 x0.1.length gcx0, .slice hax0 x0.2.length hcx0]) (x0) ∧ Owned intsR (v6w.heap.size) (v7w.heap.size) wx ([.slice gag0 res.length gcg0]) (res) ∧ Sight intsR v4w.heap.size wx [.slice gaq0 res.length gcq0] res)
    case first =>
      replace b0 := b0.drew
      replace X0 := owned_drew X0
      replace GG := owned_drew GG
      replace S0 := sight_drew S0
      obtain ⟨A0c0, A0c1⟩ := cells_house A0
      have A0lt := (Array.getElem?_eq_some_iff.1 A0).1
      obtain ⟨ZX0c0, ZX0c1⟩ := cells_house ZX0
      have ZX0lt := (Array.getElem?_eq_some_iff.1 ZX0).1
      go_region_with (first | (go_at_call 8; refine (toHouse_u [.slice gaz0 x0.1.length gcz0, .slice haz0 x0.2.length hcz0] x0 _ (HR0.out _ b0) hbk0).mono ?_; rintro e wq ⟨ds, rfl, mm⟩; obtain ⟨gay, gcy, hay, hcy, rfl⟩ := house_shape (houseR.own_rd mm.1); rw [show aggV [.slice gay x0.1.length gcy, .slice hay x0.2.length hcy] = .agg #[.slice gay x0.1.length gcy, .slice hay x0.2.length hcy] from rfl]; have YY := houseR.own_rd mm.1; have mb := mm.2; replace b0 := below_step b0 mb; replace A0 := row_keep mb A0; replace ZX0 := row_keep mb ZX0; replace X0 := owned_next X0 mb; replace GG := owned_next GG mb; replace S0 := sight_next S0 mb; clear mb mm; clear A0c0 A0c1 A0lt ZX0c0 ZX0c1 ZX0lt; obtain ⟨A0c0, A0c1⟩ := cells_house A0; have A0lt := (Array.getElem?_eq_some_iff.1 A0).1; obtain ⟨ZX0c0, ZX0c1⟩ := cells_house ZX0; have ZX0lt := (Array.getElem?_eq_some_iff.1 ZX0).1) | (go_at_call 10; refine (eqHouse_u [.slice gax0 x0.1.length gcx0, .slice hax0 x0.2.length hcx0] [.slice gay x0.1.length gcy, .slice hay x0.2.length hcy] x0 _ (houseR.own_rd X0.1) YY hbl0).mono ?_; rintro e wq ⟨rfl, mb⟩; replace b0 := below_step b0 mb; replace A0 := row_keep mb A0; replace ZX0 := row_keep mb ZX0; replace X0 := owned_next X0 mb; replace GG := owned_next GG mb; replace S0 := sight_next S0 mb; clear mb; clear A0c0 A0c1 A0lt ZX0c0 ZX0c1 ZX0lt; obtain ⟨A0c0, A0c1⟩ := cells_house A0; have A0lt := (Array.getElem?_eq_some_iff.1 A0).1; obtain ⟨ZX0c0, ZX0c1⟩ := cells_house ZX0; have ZX0lt := (Array.getElem?_eq_some_iff.1 ZX0).1))
      all_goals
        go_wp2_with fail
        go_meet
        exact ⟨rfl, b0, A0, ZX0, X0, GG, S0⟩
    case rest =>
      clear b0 A0 ZX0 X0 GG S0
      obtain ⟨rfl, b0, A0, ZX0, X0, GG, S0⟩ := hcut
      generalize wc = v9w at b0 A0 ZX0 X0 GG S0 ⊢
      obtain ⟨A0c0, A0c1⟩ := cells_house A0
      have A0lt := (Array.getElem?_eq_some_iff.1 A0).1
      obtain ⟨ZX0c0, ZX0c1⟩ := cells_house ZX0
      have ZX0lt := (Array.getElem?_eq_some_iff.1 ZX0).1
      go_wp2_with fail
      clear A0c0 A0c1 A0lt ZX0c0 ZX0c1 ZX0lt
      refine (mkHouse_u _ [.slice gax0 x0.1.length gcx0, .slice hax0 x0.2.length hcx0] x0 (1) _ X0.1 (by omega) (by rw [HKX0.out]; omega) hbl0).mono ?_
      rintro e v10w ⟨rfl, gm, ch⟩
      rw [HKX0.out]
      replace b0 := chg_b0 b0 ch X0lo
      replace A0 := row_chg A0 ch X0A0
      replace ZX0 := row_chg ZX0 ch X0ZX0
      replace GG := owned_chg GG ch (.inr X0GG)
      replace S0 := sight_chg S0 ch X0S0
      have X0M : Owned houseR (v4w.heap.size) (v5w.heap.size) v10w ([.slice gax0 x0.1.length gcx0, .slice hax0 x0.2.length hcx0]) (houseM.mV (1) x0) := And.intro gm (Nat.le_trans X0.2 ch.size)
      clear ch X0 gm
      have X0MA0 := X0A0
      have X0MZX0 := X0ZX0
      have X0MS0 := X0S0
      have X0Mlo := X0lo
      have X0MGG := X0GG
      have nk : ¬ (1 + (kx0 : Int) < 0) := by omega
      obtain ⟨A0c0, A0c1⟩ := cells_house A0
      have A0lt := (Array.getElem?_eq_some_iff.1 A0).1
      obtain ⟨ZX0c0, ZX0c1⟩ := cells_house ZX0
      have ZX0lt := (Array.getElem?_eq_some_iff.1 ZX0).1
      go_wp2_with fail
      clear A0c0 A0c1 A0lt ZX0c0 ZX0c1 ZX0lt
      refine (eqInts_u [.slice gag0 res.length gcg0] [.slice gaq0 res.length gcq0] res _ (intsR.own_rd GG.1) (sight_rd S0) hl0).mono ?_
      rintro e v11w ⟨rfl, bq⟩
      replace b0 := below_step b0 bq
      replace A0 := row_keep bq A0
      replace ZX0 := row_keep bq ZX0
      replace X0M := owned_next X0M bq
      replace GG := owned_next GG bq
      replace S0 := sight_next S0 bq
      clear bq
      clear X0M
      clear nk
      obtain ⟨A0c0, A0c1⟩ := cells_house A0
      have A0lt := (Array.getElem?_eq_some_iff.1 A0).1
      obtain ⟨ZX0c0, ZX0c1⟩ := cells_house ZX0
      have ZX0lt := (Array.getElem?_eq_some_iff.1 ZX0).1
      go_wp2_with fail
      clear A0c0 A0c1 A0lt ZX0c0 ZX0c1 ZX0lt
      refine (mkInts_u _ [.slice gag0 res.length gcg0] res (1) _ GG.1 (by omega) (by rw [HKY0.out]; omega) hl0).mono ?_
      rintro e v12w ⟨rfl, gm, ch⟩
      rw [HKY0.out]
      replace b0 := chg_b0 b0 ch GGlo
      replace A0 := row_chg A0 ch GGA0
      replace ZX0 := row_chg ZX0 ch GGZX0
      replace S0 := sight_chg S0 ch GGS0
      have GGM : Owned intsR (v6w.heap.size) (v7w.heap.size) v12w ([.slice gag0 res.length gcg0]) (intsM.mV (1) res) := And.intro gm (Nat.le_trans GG.2 ch.size)
      clear ch GG gm
      have GGMA0 := GGA0
      have GGMZX0 := GGZX0
      have GGMS0 := GGS0
      have GGMlo := GGlo
      obtain ⟨A0c0, A0c1⟩ := cells_house A0
      have A0lt := (Array.getElem?_eq_some_iff.1 A0).1
      obtain ⟨ZX0c0, ZX0c1⟩ := cells_house ZX0
      have ZX0lt := (Array.getElem?_eq_some_iff.1 ZX0).1
      go_wp2_with fail
      clear A0c0 A0c1 A0lt ZX0c0 ZX0c1 ZX0lt
      refine (hdInts_u [.slice gag0 res.length gcg0] res (1) _ (intsR.own_rd GGM.1) (by omega) (by rw [HKY0.out]; omega) hl0).mono ?_
      rintro e v13w ⟨rfl, bq⟩
      rw [HKY0.out]
      replace b0 := below_step b0 bq
      replace A0 := row_keep bq A0
      replace ZX0 := row_keep bq ZX0
      replace GGM := owned_next GGM bq
      replace S0 := sight_next S0 bq
      clear bq
      have nh0 : ¬ (1 + (ky0 : Int) < 0) := by omega
      obtain ⟨A0c0, A0c1⟩ := cells_house A0
      have A0lt := (Array.getElem?_eq_some_iff.1 A0).1
      obtain ⟨ZX0c0, ZX0c1⟩ := cells_house ZX0
      have ZX0lt := (Array.getElem?_eq_some_iff.1 ZX0).1
      go_wp2_with fail
      clear A0c0 A0c1 A0lt ZX0c0 ZX0c1 ZX0lt
      refine (toHouse_u [.slice gaz0 x0.1.length gcz0, .slice haz0 x0.2.length hcz0] x0 _ (HR0.out _ b0) hbk0).mono ?_
      rintro e v14w ⟨ds, rfl, mm⟩
      obtain ⟨gau0, gcu0, hau0, hcu0, rfl⟩ := house_shape (houseR.own_rd mm.1)
      rw [show aggV [.slice gau0 x0.1.length gcu0, .slice hau0 x0.2.length hcu0] = .agg #[.slice gau0 x0.1.length gcu0, .slice hau0 x0.2.length hcu0] from rfl]
      have U0S0 : v4w.heap.size ≤ v13w.heap.size := sight_lt S0
      have U0A0 : w.heap.size < v13w.heap.size ∨ v14w.heap.size ≤ w.heap.size := .inl (Array.getElem?_eq_some_iff.1 A0).1
      have U0ZX0 : v5w.heap.size < v13w.heap.size ∨ v14w.heap.size ≤ v5w.heap.size := .inl (Array.getElem?_eq_some_iff.1 ZX0).1
      have GGMU0 : v7w.heap.size ≤ v13w.heap.size := GGM.2
      have U0lo : w.heap.size ≤ v13w.heap.size := b0.size
      have U0 := owned_made (R := houseR) mm
      have mbU0 := mm.2
      replace b0 := below_step b0 mbU0
      replace A0 := row_keep mbU0 A0
      replace ZX0 := row_keep mbU0 ZX0
      replace GGM := owned_next GGM mbU0
      replace S0 := sight_next S0 mbU0
      clear mbU0 mm
      obtain ⟨A0c0, A0c1⟩ := cells_house A0
      have A0lt := (Array.getElem?_eq_some_iff.1 A0).1
      obtain ⟨ZX0c0, ZX0c1⟩ := cells_house ZX0
      have ZX0lt := (Array.getElem?_eq_some_iff.1 ZX0).1
      go_wp2_with fail
      clear A0c0 A0c1 A0lt ZX0c0 ZX0c1 ZX0lt
      refine (CIM.out _ [.slice gau0 x0.1.length gcu0, .slice hau0 x0.2.length hcu0] (houseR.own_rd U0.1) hbk0).mono ?_
      rintro e v15w ⟨ds0, rfl, mm⟩
      have rr := intsR.own_rd mm.1
      obtain ⟨gah0, gch0, ro, -, -, -⟩ := rr
      obtain rfl := ro
      rw [show cell1 [.slice gah0 res.length gch0] = .slice gah0 res.length gch0 from rfl]
      have HHS0 : v4w.heap.size ≤ v14w.heap.size := sight_lt S0
      have HHA0 : w.heap.size < v14w.heap.size ∨ v15w.heap.size ≤ w.heap.size := .inl (Array.getElem?_eq_some_iff.1 A0).1
      have HHZX0 : v5w.heap.size < v14w.heap.size ∨ v15w.heap.size ≤ v5w.heap.size := .inl (Array.getElem?_eq_some_iff.1 ZX0).1
      have GGMHH : v7w.heap.size ≤ v14w.heap.size := GGM.2
      have U0HH : v14w.heap.size ≤ v14w.heap.size := U0.2
      have HHlo : w.heap.size ≤ v14w.heap.size := b0.size
      have HH := owned_made (R := intsR) mm
      have mbHH := mm.2
      replace b0 := below_step b0 mbHH
      replace A0 := row_keep mbHH A0
      replace ZX0 := row_keep mbHH ZX0
      replace GGM := owned_next GGM mbHH
      replace U0 := owned_next U0 mbHH
      replace S0 := sight_next S0 mbHH
      clear mbHH mm
      clear U0
      obtain ⟨A0c0, A0c1⟩ := cells_house A0
      have A0lt := (Array.getElem?_eq_some_iff.1 A0).1
      obtain ⟨ZX0c0, ZX0c1⟩ := cells_house ZX0
      have ZX0lt := (Array.getElem?_eq_some_iff.1 ZX0).1
      go_wp2_with fail
      clear A0c0 A0c1 A0lt ZX0c0 ZX0c1 ZX0lt
      refine (eqInts_u [.slice gah0 res.length gch0] [.slice gaq0 res.length gcq0] res _ (intsR.own_rd HH.1) (sight_rd S0) hl0).mono ?_
      rintro e v16w ⟨rfl, bq⟩
      replace b0 := below_step b0 bq
      replace A0 := row_keep bq A0
      replace ZX0 := row_keep bq ZX0
      replace GGM := owned_next GGM bq
      replace HH := owned_next HH bq
      replace S0 := sight_next S0 bq
      clear bq
      obtain ⟨A0c0, A0c1⟩ := cells_house A0
      have A0lt := (Array.getElem?_eq_some_iff.1 A0).1
      obtain ⟨ZX0c0, ZX0c1⟩ := cells_house ZX0
      have ZX0lt := (Array.getElem?_eq_some_iff.1 ZX0).1
      go_wp2_with fail
      clear A0c0 A0c1 A0lt ZX0c0 ZX0c1 ZX0lt
      refine (hdInts_u [.slice gag0 res.length gcg0] res (1) _ (intsR.own_rd GGM.1) (by omega) (by rw [HKY0.out]; omega) hl0).mono ?_
      rintro e v17w ⟨rfl, bq⟩
      rw [HKY0.out]
      replace b0 := below_step b0 bq
      replace A0 := row_keep bq A0
      replace ZX0 := row_keep bq ZX0
      replace GGM := owned_next GGM bq
      replace HH := owned_next HH bq
      replace S0 := sight_next S0 bq
      clear bq
      have nh0 : ¬ (1 + (ky0 : Int) < 0) := by omega
      clear A0 ZX0 GGM HH S0
      go_wp2
      go_ret
      exact ⟨rfl, b0⟩
  · have HS0 : Hid (szI (houseM.bk x0) (1048576) = -1) := szI_no hf0
    rw [HS0.out]
    go_wp2
    go_ret
    exact ⟨rfl, b0⟩

set_option maxRecDepth 100000 in
theorem lifted (os : Os) (started : os.Started) (H : Type) (enc : TypeId × Value → H) :
    ReturnsInHanded {} Try.checked os 5 .any (Rows.fnExactHoldsSpec.pre6 enc Try.prog Try.f5 Rows.fnExactHoldsRow.domain false) (Rows.fnExactHoldsSpec.post enc Try.prog Try.f5 false true false false) := by
  refine returnsInHanded_of_change (C := Try.checked) own started (by kernel_rfl) Try.func5
    (ChangeSpec.witness6 (enc := enc) (C := Try.checked) false ⟨#[], #[.agg #[.slice none 0 0, .slice none 0 0], .int .i64 0], []⟩ 8 (by kernel_rfl) (by kernel_rfl) (by kernel_rfl) (by kernel_rfl)) ?_
  intro W base args ds gs before hval0 hW hcnd _
  have hval : ∀ (j : Nat) t v, Try.f5.params[j]? = some t → args[j]? = some v → Value.okWide Try.prog W .any base t v := hval0
  have hW' := hW
  obtain ⟨p, q, hA0, hV, rfl, hfz, hnd⟩ := hW
  have hA : DataW.TrodAll enc Try.prog W 0 (fun _ => true) true Try.f5.params.toList args.toList ds p := hA0
  rw [Try.params5] at hA hval
  obtain ⟨v0, vs0, d0, ds0, p0, q0, hargs, rfl, rfl, h0, r0⟩ := trodAll_cons hA
  obtain ⟨v1, vs1, d1, ds1, p1, q1, rfl, rfl, rfl, h1, r1⟩ := trodAll_cons r0
  obtain ⟨rfl, rfl, rfl⟩ := trodAll_nil r1
  obtain rfl : args = #[v0, v1] := by cases args; simp_all
  obtain ⟨rfl, rfl⟩ := trodVars_none hV
  have k0 := h0
  have lt0 : ∀ x ∈ p0, x.block < W.heap.size := by obtain ⟨m, hm⟩ := k0; exact DataW.trod_lt m _ _ _ hm
  have k1 := h1
  have lt1 : ∀ x ∈ p1, x.block < W.heap.size := by obtain ⟨m, hm⟩ := k1; exact DataW.trod_lt m _ _ _ hm
  obtain ⟨cs0, x0, rfl, w0⟩ := open_struct Try.underlying25 opens_house (hval 0 25 v0 rfl rfl) h0
  obtain ⟨a1, rfl, e1, f1, w1⟩ := open_int Try.underlying2 (hval 1 2 v1 rfl rfl) h1
  clear hA0 hval0
  refine (walk cs0 x0 a1 w1 W w0).mono fun e W' ⟨he, bel⟩ => ?_
  subst he
  exact ⟨_, rfl, _, _, _, [], _, [], hW', trodAll_mk1 (shut_bool Try.underlying4 _), (trodAll_cons_mk (Below.trod laidOut (by kernel_rfl) (of_decide_eq_true (by kernel_rfl)) k0 bel lt0) (trodAll_cons_mk (Below.trod laidOut (by kernel_rfl) (of_decide_eq_true (by kernel_rfl)) k1 bel lt1) trodAll_mk0)), rfl, bel.frame _, fun h => by cases h⟩

theorem over : Rows.fnExactHoldsRow.holds Try.pinned (OpenSpec.ofChange Rows.fnExactHoldsSpec) :=
  OpenClaim.holds_of_wide 5 Try.f5 rfl rfl rfl rfl rfl rfl rfl ⟨rfl, rfl, rfl, rfl, rfl⟩ rfl rfl rfl rfl rfl (by kernel_rfl) Try.func5 (by kernel_rfl)
    (of_decide_eq_true (by kernel_rfl)) (by unfold Func.isWrapper; first | (rw [if_pos (by decide +kernel)]; kernel_rfl) | (rw [if_neg (by decide +kernel)]; exact ⟨rfl, rfl⟩))
    (fun os started H enc _ => lifted os started H enc)

theorem proved : Rows.FnExactHoldsSaid :=
  over
#print axioms proved
end Go.Proofs.Ytcnnojfkpkmdmaa.fnExactHolds
