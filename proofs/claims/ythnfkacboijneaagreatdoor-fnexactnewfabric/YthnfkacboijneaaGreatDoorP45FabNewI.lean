import Derived.Test.YthnfkacboijneaaGreatDoorP42FabC
import Derived.Test.YthnfkacboijneaaGreatDoorP44DmaNewS
import Derived.Test.YthnfkacboijneaaGreatDoorP40NewCore
namespace Go.Proofs.YthnfkacboijneaaGreatDoor
open Go.ChangeShapes Go.WideShapes Go.ChangeAt Go.RowKit
set_option linter.unusedVariables false
set_option linter.unusedSimpArgs false
theorem own_nil2 {α : Type} {e : TypeId} {R : Rep α} (w : World) (S : Foot) : (slR e R).own w S [.slice none 0 0] [] := ⟨_, [], fun _ => False, rfl, World.ownsRow_nil _ _ _ _, fun g hg => by simp [Value.ownBlock] at hg, fun _ h => h.elim, rfl⟩
theorem fabC_zero {g : CfgD} {ps : List (List OpD)} {ds : List DescD} (h : fabC g ps ds = 0) : codeI g.1 g.2.1 g.2.2.1 g.2.2.2 = 0 ∧ (ps.length : Int) = g.1 ∧ codesI g.1 g.2.1 g.2.2.1 g.2.2.2 ps = 0 ∧ descI g.1 g.2.1 g.2.2.1 g.2.2.2 ds = 0 := by
 by_cases hc : codeI g.1 g.2.1 g.2.2.1 g.2.2.2 = 0
 ·refine ⟨hc, ?_⟩
  unfold fabC at h
  split at h
  ·rename_i h1
   split at h
   ·rename_i h2
    exact ⟨h1, h2, h⟩
   ·rename_i h2
    exact absurd h h2
  ·cases h
 ·rw [fabC_cfg hc] at h
  cases h
theorem desc_zero {c s y l : Int} {ds : List DescD} (h : descI c s y l ds = 0) : ds.length ≤ 30 ∧ ds.all descB = true ∧ ds.all (dlnOk l) = true ∧ codeI c s y l = 0 := by
 unfold descI at h
 split at h
 ·rename_i h0
  split at h
  ·rename_i h1
   split at h
   ·rename_i h2
    split at h
    ·rename_i h3
     exact ⟨h1, h2, h3, h0⟩
    ·cases h
   ·cases h
  ·cases h
 ·cases h
theorem desc_len {u : DescD} (h : descB u = true) : u.2.2.2.length ≤ 1048576 := by
 unfold descB at h
 split at h
 ·simp only [Bool.and_eq_true] at h
  have := isL_len h.2
  omega
 ·simp only [Bool.and_eq_true, decide_eq_true_eq] at h
  omega
theorem descs_right {c s y l : Int} {ds : List DescD} (h : descI c s y l ds = 0) : descsB ds = true ∧ ds.length ≤ 1000 ∧ ∀ u ∈ ds, u.2.2.2.length ≤ 1048576 := by
 obtain ⟨h1, h2, -, -⟩ := desc_zero h
 refine ⟨?_, by omega, fun u hu => desc_len (List.all_eq_true.1 h2 u hu)⟩
 unfold descsB
 simp [h1, h2]
theorem new_yes1 {g : CfgD} {ps : List (List OpD)} {ds : List DescD} (h : fabC g ps ds = 0) : newFabI g ps ds = ((g, (newHouseI g.2.2.2).1, coresI g ps, (ds, 0, false, []), [], []), 0) := by unfold newFabI; rw [if_pos h]
theorem new_no1 {g : CfgD} {ps : List (List OpD)} {ds : List DescD} (h : ¬ fabC g ps ds = 0) : newFabI g ps ds = (((0, 0, 0, 0), ([], []), [], ([], 0, false, []), [], []), fabC g ps ds) := by unfold newFabI; rw [if_neg h]
theorem own_zeroF (w : World) (S : Foot) : fabricR.own w S [.int .i64 0, .int .i64 0, .int .i64 0, .int .i64 0, .slice none 0 0, .slice none 0 0, .slice none 0 0, .slice none 0 0, .int .i64 0, .bool false, .slice none 0 0, .slice none 0 0, .slice none 0 0] ((0, 0, 0, 0), ([], []), [], ([], 0, false, []), [], []) :=
 own_fabric (x := ((0, 0, 0, 0), ([], []), [], ([], 0, false, []), [], [])) (S0 := fun _ => False) (S1 := fun _ => False) (S2 := fun _ => False) (S3 := fun _ => False) (S4 := fun _ => False) (S5 := fun _ => False) (own_cfg (u := (0, 0, 0, 0)) (show In64 0 by constructor <;> omega) (show In64 0 by constructor <;> omega) (show In64 0 by constructor <;> omega) (show In64 0 by constructor <;> omega)) (own_house (x := ([], [])) (S0 := fun _ => False) (S1 := fun _ => False) (own_nil2 _ _) (own_nil2 _ _) (fun _ h => h.elim) (fun _ h => h.elim) (fun _ h _ => h)) (own_nil2 _ _) (own_dma (x := ([], 0, false, [])) (S0 := fun _ => False) (S3 := fun _ => False) (show In64 0 by constructor <;> omega) (own_nil2 _ _) (own_nil2 _ _) (fun _ h => h.elim) (fun _ h => h.elim) (fun _ h _ => h)) (own_nil2 _ _) (own_nil2 _ _) (fun _ h => h.elim) (fun _ h => h.elim) (fun _ h => h.elim) (fun _ h => h.elim) (fun _ h => h.elim) (fun _ h => h.elim) (fun _ h _ => h) (fun _ h _ => h) (fun _ h _ => h) (fun _ h _ => h) (fun _ h _ => h) (fun _ h _ => h) (fun _ h _ => h) (fun _ h _ => h) (fun _ h _ => h) (fun _ h _ => h) (fun _ h _ => h) (fun _ h _ => h) (fun _ h _ => h) (fun _ h _ => h) (fun _ h _ => h)
theorem made_fab {w w' : World} {g : CfgD} {h : HouseD} {cs : List CoreD} {d : DmaD} {v4 v5 v6 v7 v10 : Value} {l1 h1 l2 h2 l3 h3 : Nat} (hi : In64 g.1 ∧ In64 g.2.1 ∧ In64 g.2.2.1 ∧ In64 g.2.2.2) (oh : Owned houseR l1 h1 w' [v4, v5] h) (oc : Owned coresR l2 h2 w' [v6] cs) (od : Owned dmaR l3 h3 w' [v7, .int .i64 d.2.1, .bool d.2.2.1, v10] d) (b : Below w.heap.size w w') (k1 : w.heap.size ≤ l1) (k2 : w.heap.size ≤ l2) (k3 : w.heap.size ≤ l3) (d12 : h1 ≤ l2) (d23 : h2 ≤ l3) (e2 : l2 ≤ h2) :
    MadeR fabricR w w' [.int .i64 g.1, .int .i64 g.2.1, .int .i64 g.2.2.1, .int .i64 g.2.2.2, v4, v5, v6, v7, .int .i64 d.2.1, .bool d.2.2.1, v10, .slice none 0 0, .slice none 0 0] (g, h, cs, d, [], []) :=
 ⟨own_fabric (x := (g, h, cs, d, [], [])) (S0 := fun _ => False) (S4 := fun _ => False) (S5 := fun _ => False) (own_cfg hi.1 hi.2.1 hi.2.2.1 hi.2.2.2) oh.1 oc.1 od.1 (own_nil2 _ _) (own_nil2 _ _) (fun _ h => h.elim) (fun k h => ⟨Nat.le_trans k1 h.1, Nat.lt_of_lt_of_le h.2 oh.2⟩) (fun k h => ⟨Nat.le_trans k2 h.1, Nat.lt_of_lt_of_le h.2 oc.2⟩) (fun k h => ⟨Nat.le_trans k3 h.1, Nat.lt_of_lt_of_le h.2 od.2⟩) (fun _ h => h.elim) (fun _ h => h.elim) (fun _ h _ => h) (fun _ h _ => h) (fun _ h _ => h) (fun _ h _ => h) (fun _ h _ => h) (rng_dis (.inl d12)) (rng_dis (.inl (by omega))) (fun _ _ h => h) (fun _ _ h => h) (rng_dis (.inl d23)) (fun _ _ h => h) (fun _ _ h => h) (fun _ _ h => h) (fun _ _ h => h) (fun _ _ h => h), b⟩
structure NfI (w : World) (b9 vs hlo hhi : Nat) (g : CfgD) (ps : List (List OpD)) (ha hb : Option Addr) (hc hd : Nat) (i : Value) (wr : World) : Prop where
 ex : ∃ (k : Nat) (au : Option Addr) (cu : Nat), k ≤ ps.length ∧ i = .int .i64 k ∧ wr.heap[w.heap.size]? = some (.cells #[.int .i64 g.1, .int .i64 g.2.1, .int .i64 g.2.2.1, .int .i64 g.2.2.2] 38 (0, 0)) ∧ wr.heap[w.heap.size + 1]? = some (.cells #[.int .i64 0, .int .i64 0, .int .i64 0, .int .i64 0, .slice none 0 0, .slice none 0 0, .slice none 0 0, .slice none 0 0, .int .i64 0, .bool false, .slice none 0 0, .slice none 0 0, .slice none 0 0] 49 (0, 0)) ∧ wr.heap[b9]? = some (.cells #[.int .i64 g.1, .int .i64 g.2.1, .int .i64 g.2.2.1, .int .i64 g.2.2.2, .slice ha (newHouseI g.2.2.2).1.1.length hc, .slice hb (newHouseI g.2.2.2).1.2.length hd, .slice au k cu, .slice none 0 0, .int .i64 0, .bool false, .slice none 0 0, .slice none 0 0, .slice none 0 0] 49 (0, 0)) ∧ Owned houseR hlo hhi wr [.slice ha (newHouseI g.2.2.2).1.1.length hc, .slice hb (newHouseI g.2.2.2).1.2.length hd] (newHouseI g.2.2.2).1 ∧ Owned coresR vs wr.heap.size wr [.slice au k cu] (coresI g (ps.take k)) ∧ Below w.heap.size w wr ∧ vs ≤ wr.heap.size
set_option maxHeartbeats 8000000 in
set_option maxRecDepth 20000 in
theorem implNewFabric_u (g : CfgD) (ps : List (List OpD)) (pa : Option Addr) (pc : Nat) (ds : List DescD) (da : Option Addr) (dc : Nat) (w : World) (hp : SlRd opsR w pa ps) (hpl : ps.length ≤ maxLen) (hd : SlRd descR w da ds) (hdl : ds.length ≤ maxLen) (hi : In64 g.1 ∧ In64 g.2.1 ∧ In64 g.2.2.1 ∧ In64 g.2.2.2) (hh : Hold w) :
    Calls Tryz.prog 16 #[.agg #[.int .i64 g.1, .int .i64 g.2.1, .int .i64 g.2.2.1, .int .i64 g.2.2.2], .slice pa ps.length pc, .slice da ds.length dc] w fun e w' => ∃ ds', e = .returned (.tuple #[aggV ds', .int .i64 (newFabI g ps ds).2]) ∧ MadeR fabricR w w' ds' (newFabI g ps ds).1 := by
 have HS : Hid (∀ W, Below w.heap.size w W → SlRd opsR W pa ps) := fun W hb => slrd_next hp hb
 have HSD : Hid (∀ W, Below w.heap.size w W → SlRd descR W da ds) := fun W hb => slrd_next hd hb
 have hpl2 : ps.length ≤ 9223372036854775807 := hpl
 have HI : Hid _ := hi
 obtain ⟨kp, hkp⟩ : ∃ kp, kp = fabC g ps ds := ⟨_, rfl⟩
 have EK : Hid (fabC g ps ds = kp) := hkp.symm
 have HFC : Hid (∀ W, Below w.heap.size w W → Calls Tryz.prog 61 #[.agg #[.int .i64 g.1, .int .i64 g.2.1, .int .i64 g.2.2.1, .int .i64 g.2.2.2], .slice pa ps.length pc, .slice da ds.length dc] W fun e w' => e = .returned (.int .i64 kp) ∧ Below W.heap.size W w') := fun W hb => by
  rw [hkp]
  exact fabricCode_any g ps pa pc ds da dc W (slrd_next hp hb) hpl (slrd_next hd hb) hdl (hh.goes hb)
 clear hp hd hpl hdl hi hkp hh
 have B := Below.refl w.heap.size w
 by_cases hz : kp = 0
 ·have zk : (kp != 0) = false := by simp [hz]
  have HZ : Hid (fabC g ps ds = 0) := EK.out.trans hz
  rw [new_yes1 HZ.out]
  obtain ⟨hdb, hdn, hdm⟩ := descs_right (fabC_zero HZ.out).2.2.2
  have HDM : Hid _ := hdm
  have hpc : (ps.length : Int) = g.1 ∧ g.1 ≤ 4 := ⟨(fabC_zero HZ.out).2.1, ((code_cores (fabC_zero HZ.out).1).1).2⟩
  have hp4 : ps.length ≤ 4 := by omega
  clear hz hdm hpc EK
  go_enter Tryz.func16, Tryz.ntmps16
  go_upto_region 1 with fail
  have G := heap_at w (.cells #[.int .i64 g.1, .int .i64 g.2.1, .int .i64 g.2.2.1, .int .i64 g.2.2.2] 38)
  have bz := box_below w (.cells #[.int .i64 g.1, .int .i64 g.2.1, .int .i64 g.2.2.1, .int .i64 g.2.2.2] 38)
  have zG := alloc_len w (.cells #[.int .i64 g.1, .int .i64 g.2.1, .int .i64 g.2.2.1, .int .i64 g.2.2.2] 38)
  replace B := below_step B bz
  clear bz
  generalize w.alloc (.cells #[.int .i64 g.1, .int .i64 g.2.1, .int .i64 g.2.2.1, .int .i64 g.2.2.2] 38) = u1w at B G zG ⊢
  have zGa := Nat.le_of_eq zG
  have zGb := Nat.le_of_eq zG.symm
  clear zG
  have R := heap_at u1w (.cells #[.int .i64 0, .int .i64 0, .int .i64 0, .int .i64 0, .slice none 0 0, .slice none 0 0, .slice none 0 0, .slice none 0 0, .int .i64 0, .bool false, .slice none 0 0, .slice none 0 0, .slice none 0 0] 49)
  have bz := box_below u1w (.cells #[.int .i64 0, .int .i64 0, .int .i64 0, .int .i64 0, .slice none 0 0, .slice none 0 0, .slice none 0 0, .slice none 0 0, .int .i64 0, .bool false, .slice none 0 0, .slice none 0 0, .slice none 0 0] 49)
  have zR := alloc_len u1w (.cells #[.int .i64 0, .int .i64 0, .int .i64 0, .int .i64 0, .slice none 0 0, .slice none 0 0, .slice none 0 0, .slice none 0 0, .int .i64 0, .bool false, .slice none 0 0, .slice none 0 0, .slice none 0 0] 49)
  rw [show u1w.heap.size = w.heap.size + 1 from by omega] at R
  replace B := below_step B bz
  replace G := row_keep bz G
  clear bz
  generalize u1w.alloc (.cells #[.int .i64 0, .int .i64 0, .int .i64 0, .int .i64 0, .slice none 0 0, .slice none 0 0, .slice none 0 0, .slice none 0 0, .int .i64 0, .bool false, .slice none 0 0, .slice none 0 0, .slice none 0 0] 49) = u2w at B G R zR ⊢
  have zRa := Nat.le_of_eq zR
  have zRb := Nat.le_of_eq zR.symm
  clear zR
  obtain ⟨Gc0, Gc1, Gc2, Gc3⟩ := cells_4 G
  have Glt := (Array.getElem?_eq_some_iff.1 G).1
  obtain ⟨Rc0, Rc1, Rc2, Rc3, Rc4, Rc5, Rc6, Rc7, Rc8, Rc9, Rc10, Rc11, Rc12⟩ := cells_fabric R
  have Rlt := (Array.getElem?_eq_some_iff.1 R).1
  go_wp2_with fail
  clear Gc0 Gc1 Gc2 Gc3 Glt Rc0 Rc1 Rc2 Rc3 Rc4 Rc5 Rc6 Rc7 Rc8 Rc9 Rc10 Rc11 Rc12 Rlt
  refine (HFC.out _ B).mono ?_
  rintro e u3w ⟨rfl, bq⟩
  have tu3w : u2w.heap.size ≤ u3w.heap.size := bq.size
  replace B := below_step B bq
  replace G := row_keep bq G
  replace R := row_keep bq R
  clear bq
  obtain ⟨Gc0, Gc1, Gc2, Gc3⟩ := cells_4 G
  have Glt := (Array.getElem?_eq_some_iff.1 G).1
  obtain ⟨Rc0, Rc1, Rc2, Rc3, Rc4, Rc5, Rc6, Rc7, Rc8, Rc9, Rc10, Rc11, Rc12⟩ := cells_fabric R
  have Rlt := (Array.getElem?_eq_some_iff.1 R).1
  go_upto_region 5 with fail
  clear Gc0 Gc1 Gc2 Gc3 Glt Rc0 Rc1 Rc2 Rc3 Rc4 Rc5 Rc6 Rc7 Rc8 Rc9 Rc10 Rc11 Rc12 Rlt
  have F := heap_at u3w (.cells #[.int .i64 g.1, .int .i64 g.2.1, .int .i64 g.2.2.1, .int .i64 g.2.2.2, .slice none 0 0, .slice none 0 0, .slice none 0 0, .slice none 0 0, .int .i64 0, .bool false, .slice none 0 0, .slice none 0 0, .slice none 0 0] 49)
  have bz := box_below u3w (.cells #[.int .i64 g.1, .int .i64 g.2.1, .int .i64 g.2.2.1, .int .i64 g.2.2.2, .slice none 0 0, .slice none 0 0, .slice none 0 0, .slice none 0 0, .int .i64 0, .bool false, .slice none 0 0, .slice none 0 0, .slice none 0 0] 49)
  have zF := alloc_len u3w (.cells #[.int .i64 g.1, .int .i64 g.2.1, .int .i64 g.2.2.1, .int .i64 g.2.2.2, .slice none 0 0, .slice none 0 0, .slice none 0 0, .slice none 0 0, .int .i64 0, .bool false, .slice none 0 0, .slice none 0 0, .slice none 0 0] 49)
  replace B := below_step B bz
  replace G := row_keep bz G
  replace R := row_keep bz R
  clear bz
  generalize u3w.alloc (.cells #[.int .i64 g.1, .int .i64 g.2.1, .int .i64 g.2.2.1, .int .i64 g.2.2.2, .slice none 0 0, .slice none 0 0, .slice none 0 0, .slice none 0 0, .int .i64 0, .bool false, .slice none 0 0, .slice none 0 0, .slice none 0 0] 49) = u4w at B G R F zF ⊢
  have zFa := Nat.le_of_eq zF
  have zFb := Nat.le_of_eq zF.symm
  clear zF
  obtain ⟨Gc0, Gc1, Gc2, Gc3⟩ := cells_4 G
  have Glt := (Array.getElem?_eq_some_iff.1 G).1
  obtain ⟨Rc0, Rc1, Rc2, Rc3, Rc4, Rc5, Rc6, Rc7, Rc8, Rc9, Rc10, Rc11, Rc12⟩ := cells_fabric R
  have Rlt := (Array.getElem?_eq_some_iff.1 R).1
  obtain ⟨Fc0, Fc1, Fc2, Fc3, Fc4, Fc5, Fc6, Fc7, Fc8, Fc9, Fc10, Fc11, Fc12⟩ := cells_fabric F
  have Flt := (Array.getElem?_eq_some_iff.1 F).1
  go_wp2_with fail
  clear Gc0 Gc1 Gc2 Gc3 Glt Rc0 Rc1 Rc2 Rc3 Rc4 Rc5 Rc6 Rc7 Rc8 Rc9 Rc10 Rc11 Rc12 Rlt Fc0 Fc1 Fc2 Fc3 Fc4 Fc5 Fc6 Fc7 Fc8 Fc9 Fc10 Fc11 Fc12 Flt
  refine (implNewHouse_u g.2.2.2 _).mono ?_
  rintro e u5w ⟨dsh, rfl, mm⟩
  obtain ⟨ha, hc, hb, hd, rfl⟩ := house_shape (houseR.own_rd mm.1)
  rw [show aggV [.slice ha (newHouseI g.2.2.2).1.1.length hc, .slice hb (newHouseI g.2.2.2).1.2.length hd] = .agg #[.slice ha (newHouseI g.2.2.2).1.1.length hc, .slice hb (newHouseI g.2.2.2).1.2.length hd] from rfl]
  have H := owned_made (R := houseR) mm
  have mb := mm.2
  have tu5w : u4w.heap.size ≤ u5w.heap.size := mb.size
  replace B := below_step B mb
  replace G := row_keep mb G
  replace R := row_keep mb R
  replace F := row_keep mb F
  clear mb mm
  obtain ⟨Gc0, Gc1, Gc2, Gc3⟩ := cells_4 G
  have Glt := (Array.getElem?_eq_some_iff.1 G).1
  obtain ⟨Rc0, Rc1, Rc2, Rc3, Rc4, Rc5, Rc6, Rc7, Rc8, Rc9, Rc10, Rc11, Rc12⟩ := cells_fabric R
  have Rlt := (Array.getElem?_eq_some_iff.1 R).1
  obtain ⟨Fc0, Fc1, Fc2, Fc3, Fc4, Fc5, Fc6, Fc7, Fc8, Fc9, Fc10, Fc11, Fc12⟩ := cells_fabric F
  have Flt := (Array.getElem?_eq_some_iff.1 F).1
  obtain ⟨Ff0, Ff1, Ff2, Ff3, Ff4, Ff5, Ff6, Ff7, Ff8, Ff9, Ff10, Ff11, Ff12⟩ := froz_fabric F
  go_upto_region 6 with fail
  clear Gc0 Gc1 Gc2 Gc3 Glt Rc0 Rc1 Rc2 Rc3 Rc4 Rc5 Rc6 Rc7 Rc8 Rc9 Rc10 Rc11 Rc12 Rlt Fc0 Fc1 Fc2 Fc3 Fc4 Fc5 Fc6 Fc7 Fc8 Fc9 Fc10 Fc11 Fc12 Flt Ff0 Ff1 Ff2 Ff3 Ff4 Ff5 Ff6 Ff7 Ff8 Ff9 Ff10 Ff11 Ff12
  rw [show ((u5w.setCell ⟨u3w.heap.size, 4, none⟩ (.slice ha (newHouseI g.2.2.2).1.1.length hc)).setCell ⟨u3w.heap.size, 5, none⟩ (.slice hb (newHouseI g.2.2.2).1.2.length hd)) = (setCs u5w (u3w.heap.size) 4 [.slice ha (newHouseI g.2.2.2).1.1.length hc, .slice hb (newHouseI g.2.2.2).1.2.length hd]) from rfl]
  replace G := row_otherCs (g := u3w.heap.size) (o := 4) (vs := [.slice ha (newHouseI g.2.2.2).1.1.length hc, .slice hb (newHouseI g.2.2.2).1.2.length hd]) G (by omega)
  replace R := row_otherCs (g := u3w.heap.size) (o := 4) (vs := [.slice ha (newHouseI g.2.2.2).1.1.length hc, .slice hb (newHouseI g.2.2.2).1.2.length hd]) R (by omega)
  replace H := owned_setCs (g := u3w.heap.size) (o := 4) (vs := [.slice ha (newHouseI g.2.2.2).1.1.length hc, .slice hb (newHouseI g.2.2.2).1.2.length hd]) H (by omega)
  replace B := below_setCs0 (g := u3w.heap.size) (o := 4) (vs := [.slice ha (newHouseI g.2.2.2).1.1.length hc, .slice hb (newHouseI g.2.2.2).1.2.length hd]) B (by omega)
  replace F : (setCs u5w (u3w.heap.size) 4 [.slice ha (newHouseI g.2.2.2).1.1.length hc, .slice hb (newHouseI g.2.2.2).1.2.length hd]).heap[u3w.heap.size]? = some (.cells #[.int .i64 g.1, .int .i64 g.2.1, .int .i64 g.2.2.1, .int .i64 g.2.2.2, .slice ha (newHouseI g.2.2.2).1.1.length hc, .slice hb (newHouseI g.2.2.2).1.2.length hd, .slice none 0 0, .slice none 0 0, .int .i64 0, .bool false, .slice none 0 0, .slice none 0 0, .slice none 0 0] 49 (0, 0)) := row_setCs _ _ F
  have tu6w := Nat.le_of_eq (setCs_size (g := u3w.heap.size) [.slice ha (newHouseI g.2.2.2).1.1.length hc, .slice hb (newHouseI g.2.2.2).1.2.length hd] 4 u5w)
  have qu6w := Nat.le_of_eq (setCs_size (g := u3w.heap.size) [.slice ha (newHouseI g.2.2.2).1.1.length hc, .slice hb (newHouseI g.2.2.2).1.2.length hd] 4 u5w).symm
  generalize (setCs u5w (u3w.heap.size) 4 [.slice ha (newHouseI g.2.2.2).1.1.length hc, .slice hb (newHouseI g.2.2.2).1.2.length hd]) = u6w at B G R F H tu6w qu6w ⊢
  generalize hb9 : u3w.heap.size = b9 at F ⊢
  obtain ⟨vs, hvs⟩ : ∃ b : Nat, b = u6w.heap.size := ⟨_, rfl⟩
  obtain ⟨hlo, hhl⟩ : ∃ b : Nat, b = u4w.heap.size := ⟨_, rfl⟩
  obtain ⟨hhi, hhh⟩ : ∃ b : Nat, b = u5w.heap.size := ⟨_, rfl⟩
  have q1 : w.heap.size + 2 ≤ b9 := by omega
  have q2 : b9 + 1 ≤ hlo := by omega
  have q3 : hlo ≤ hhi := by omega
  have q4 : hhi ≤ vs := by omega
  rw [← hhl, ← hhh] at H
  have L0 : Owned coresR vs u6w.heap.size u6w [.slice none 0 0] (coresI g (ps.take 0)) := ⟨own_nil2 _ _, Nat.le_refl _⟩
  have ST : Hid (NfI w b9 vs hlo hhi g ps ha hb hc hd (.int .i64 0) u6w) := ⟨0, none, 0, Nat.zero_le _, rfl, G, R, F, H, L0, B, by omega⟩
  obtain ⟨Gc0, Gc1, Gc2, Gc3⟩ := cells_4 G
  have Glt := (Array.getElem?_eq_some_iff.1 G).1
  obtain ⟨Rc0, Rc1, Rc2, Rc3, Rc4, Rc5, Rc6, Rc7, Rc8, Rc9, Rc10, Rc11, Rc12⟩ := cells_fabric R
  have Rlt := (Array.getElem?_eq_some_iff.1 R).1
  obtain ⟨Fc0, Fc1, Fc2, Fc3, Fc4, Fc5, Fc6, Fc7, Fc8, Fc9, Fc10, Fc11, Fc12⟩ := cells_fabric F
  have Flt := (Array.getElem?_eq_some_iff.1 F).1
  go_wp2
  clear Gc0 Gc1 Gc2 Gc3 Glt Rc0 Rc1 Rc2 Rc3 Rc4 Rc5 Rc6 Rc7 Rc8 Rc9 Rc10 Rc11 Rc12 Rlt Fc0 Fc1 Fc2 Fc3 Fc4 Fc5 Fc6 Fc7 Fc8 Fc9 Fc10 Fc11 Fc12 Flt
  clear G R F H B L0 hvs hhl hhh hb9
  go_loopw [33] (fun i wr => NfI w b9 vs hlo hhi g ps ha hb hc hd i wr) (fun i _ => ps.length - (intOf i).toNat)
  case atStart => exact ST.out
  case round =>
   clear ST
   obtain ⟨k, au, cu, hk, rfl, G, R, F, H, O, B, hsz⟩ := hrel.ex
   clear hrel
   by_cases hlt : k < ps.length
   ·have hlt' : (k : Int) < (ps.length : Int) := by omega
    obtain ⟨p, hx⟩ : ∃ p, ps[k]? = some p := ⟨_, List.getElem?_eq_getElem hlt⟩
    obtain ⟨b, off, cs, rfl, hrdx, hcell⟩ := slrd_at (HS.out _ B) hx
    have HRP : Hid _ := hrdx
    obtain ⟨oa, oc, rfl, l1, l2, l3⟩ := hrdx
    have x0 := hcell 0 _ rfl
    rw [show off + (k * opsR.size + 0) = off + k * 1 from rfl, Nat.mul_one] at x0
    obtain ⟨nc, hnc⟩ : ∃ nc, nc = newCoreI g.2.1 g.2.2.1 p := ⟨_, rfl⟩
    have HC : Hid (∀ W, Below wr.heap.size wr W → Calls Tryz.prog 63 #[.int .i64 g.2.1, .int .i64 g.2.2.1, .slice oa p.length oc] W fun e w' => ∃ ds, e = .returned (.tuple #[aggV ds, .bool nc.2]) ∧ MadeR coreR W w' ds nc.1) := fun W hb => by
     rw [hnc]
     exact implNewCore_u _ _ _ p W (rd_next HRP.out hb)
    have HTK : Hid ((coresI g (ps.take k)) ++ [nc.1] = coresI g (ps.take (k + 1))) := by
     unfold Hid
     rw [hnc]
     exact coresI_push hx
    have HTL : Hid ((coresI g (ps.take k)).length = k) := by unfold Hid; rw [coresI_len, List.length_take]; omega
    obtain ⟨ti, hi, hz0, hz1, hz2⟩ := info_parts Tryz.infoCore
    clear hcell l1 l2 l3 hx hnc HRP
    obtain ⟨Gc0, Gc1, Gc2, Gc3⟩ := cells_4 G
    have Glt := (Array.getElem?_eq_some_iff.1 G).1
    obtain ⟨Rc0, Rc1, Rc2, Rc3, Rc4, Rc5, Rc6, Rc7, Rc8, Rc9, Rc10, Rc11, Rc12⟩ := cells_fabric R
    have Rlt := (Array.getElem?_eq_some_iff.1 R).1
    obtain ⟨Fc0, Fc1, Fc2, Fc3, Fc4, Fc5, Fc6, Fc7, Fc8, Fc9, Fc10, Fc11, Fc12⟩ := cells_fabric F
    have Flt := (Array.getElem?_eq_some_iff.1 F).1
    go_wp2_with fail
    clear Gc0 Gc1 Gc2 Gc3 Glt Rc0 Rc1 Rc2 Rc3 Rc4 Rc5 Rc6 Rc7 Rc8 Rc9 Rc10 Rc11 Rc12 Rlt Fc0 Fc1 Fc2 Fc3 Fc4 Fc5 Fc6 Fc7 Fc8 Fc9 Fc10 Fc11 Fc12 Flt
    clear x0
    refine (HC.out _ (Below.refl _ _)).mono ?_
    rintro e u7w ⟨dsc, rfl, mm⟩
    obtain ⟨gau, gcu, gbu, gdu, hau, hcu, iau, icu, jau, jcu, rfl⟩ := core_shape (coreR.own_rd mm.1)
    rw [show aggV [.slice gau nc.1.1.1.length gcu, .slice gbu nc.1.1.2.length gdu, .slice hau nc.1.2.1.length hcu, .int .i64 nc.1.2.2.1, .int .i64 nc.1.2.2.2.1, .int .i64 nc.1.2.2.2.2.1.1, .int .i64 nc.1.2.2.2.2.1.2.1, .slice iau nc.1.2.2.2.2.1.2.2.length icu, .slice jau nc.1.2.2.2.2.2.length jcu] = .agg #[.slice gau nc.1.1.1.length gcu, .slice gbu nc.1.1.2.length gdu, .slice hau nc.1.2.1.length hcu, .int .i64 nc.1.2.2.1, .int .i64 nc.1.2.2.2.1, .int .i64 nc.1.2.2.2.2.1.1, .int .i64 nc.1.2.2.2.2.1.2.1, .slice iau nc.1.2.2.2.2.1.2.2.length icu, .slice jau nc.1.2.2.2.2.2.length jcu] from rfl]
    have C := owned_made (R := coreR) mm
    have mb := mm.2
    have tu7w : wr.heap.size ≤ u7w.heap.size := mb.size
    replace B := below_step B mb
    replace G := row_keep mb G
    replace R := row_keep mb R
    replace F := row_keep mb F
    replace H := owned_next H mb
    replace O := owned_next O mb
    clear mb mm
    obtain ⟨Gc0, Gc1, Gc2, Gc3⟩ := cells_4 G
    have Glt := (Array.getElem?_eq_some_iff.1 G).1
    obtain ⟨Rc0, Rc1, Rc2, Rc3, Rc4, Rc5, Rc6, Rc7, Rc8, Rc9, Rc10, Rc11, Rc12⟩ := cells_fabric R
    have Rlt := (Array.getElem?_eq_some_iff.1 R).1
    obtain ⟨Fc0, Fc1, Fc2, Fc3, Fc4, Fc5, Fc6, Fc7, Fc8, Fc9, Fc10, Fc11, Fc12⟩ := cells_fabric F
    have Flt := (Array.getElem?_eq_some_iff.1 F).1
    go_upto_region 10 with fail
    clear Gc0 Gc1 Gc2 Gc3 Glt Rc0 Rc1 Rc2 Rc3 Rc4 Rc5 Rc6 Rc7 Rc8 Rc9 Rc10 Rc11 Rc12 Rlt Fc0 Fc1 Fc2 Fc3 Fc4 Fc5 Fc6 Fc7 Fc8 Fc9 Fc10 Fc11 Fc12 Flt
    have E := heap_at u7w (.cells #[.slice gau nc.1.1.1.length gcu, .slice gbu nc.1.1.2.length gdu, .slice hau nc.1.2.1.length hcu, .int .i64 nc.1.2.2.1, .int .i64 nc.1.2.2.2.1, .int .i64 nc.1.2.2.2.2.1.1, .int .i64 nc.1.2.2.2.2.1.2.1, .slice iau nc.1.2.2.2.2.1.2.2.length icu, .slice jau nc.1.2.2.2.2.2.length jcu] 86)
    have bz := box_below u7w (.cells #[.slice gau nc.1.1.1.length gcu, .slice gbu nc.1.1.2.length gdu, .slice hau nc.1.2.1.length hcu, .int .i64 nc.1.2.2.1, .int .i64 nc.1.2.2.2.1, .int .i64 nc.1.2.2.2.2.1.1, .int .i64 nc.1.2.2.2.2.1.2.1, .slice iau nc.1.2.2.2.2.1.2.2.length icu, .slice jau nc.1.2.2.2.2.2.length jcu] 86)
    have zE := alloc_len u7w (.cells #[.slice gau nc.1.1.1.length gcu, .slice gbu nc.1.1.2.length gdu, .slice hau nc.1.2.1.length hcu, .int .i64 nc.1.2.2.1, .int .i64 nc.1.2.2.2.1, .int .i64 nc.1.2.2.2.2.1.1, .int .i64 nc.1.2.2.2.2.1.2.1, .slice iau nc.1.2.2.2.2.1.2.2.length icu, .slice jau nc.1.2.2.2.2.2.length jcu] 86)
    replace B := below_step B bz
    replace G := row_keep bz G
    replace R := row_keep bz R
    replace F := row_keep bz F
    replace H := owned_next H bz
    replace O := owned_next O bz
    replace C := owned_next C bz
    clear bz
    generalize u7w.alloc (.cells #[.slice gau nc.1.1.1.length gcu, .slice gbu nc.1.1.2.length gdu, .slice hau nc.1.2.1.length hcu, .int .i64 nc.1.2.2.1, .int .i64 nc.1.2.2.2.1, .int .i64 nc.1.2.2.2.2.1.1, .int .i64 nc.1.2.2.2.2.1.2.1, .slice iau nc.1.2.2.2.2.1.2.2.length icu, .slice jau nc.1.2.2.2.2.2.length jcu] 86) = u8w at B G R F E H O C zE ⊢
    have zEa := Nat.le_of_eq zE
    have zEb := Nat.le_of_eq zE.symm
    clear zE
    obtain ⟨Gc0, Gc1, Gc2, Gc3⟩ := cells_4 G
    have Glt := (Array.getElem?_eq_some_iff.1 G).1
    obtain ⟨Rc0, Rc1, Rc2, Rc3, Rc4, Rc5, Rc6, Rc7, Rc8, Rc9, Rc10, Rc11, Rc12⟩ := cells_fabric R
    have Rlt := (Array.getElem?_eq_some_iff.1 R).1
    obtain ⟨Fc0, Fc1, Fc2, Fc3, Fc4, Fc5, Fc6, Fc7, Fc8, Fc9, Fc10, Fc11, Fc12⟩ := cells_fabric F
    have Flt := (Array.getElem?_eq_some_iff.1 F).1
    obtain ⟨Ff0, Ff1, Ff2, Ff3, Ff4, Ff5, Ff6, Ff7, Ff8, Ff9, Ff10, Ff11, Ff12⟩ := froz_fabric F
    obtain ⟨Ec0, Ec1, Ec2, Ec3, Ec4, Ec5, Ec6, Ec7, Ec8⟩ := cells_core E
    have Elt := (Array.getElem?_eq_some_iff.1 E).1
    go_wp2_with (at_builtin; refine wpList_push rfl _ _ 42 rfl coreR 86 ti (.agg #[.slice none 0 0, .slice none 0 0, .slice none 0 0, .int .i64 0, .int .i64 0, .int .i64 0, .int .i64 0, .slice none 0 0, .slice none 0 0]) 152 Tryz.underlying42 hi hz0 hz1 hz2 rfl (by decide) (by decide) vs (rng vs wr.heap.size) (rng wr.heap.size u7w.heap.size) (.slice au k cu) (coresI g (ps.take k)) [.slice gau nc.1.1.1.length gcu, .slice gbu nc.1.1.2.length gdu, .slice hau nc.1.2.1.length hcu, .int .i64 nc.1.2.2.1, .int .i64 nc.1.2.2.2.1, .int .i64 nc.1.2.2.2.2.1.1, .int .i64 nc.1.2.2.2.2.1.2.1, .slice iau nc.1.2.2.2.2.1.2.2.length icu, .slice jau nc.1.2.2.2.2.2.length jcu] nc.1 1 rfl _ rfl rfl O.1 C.1 (rng_dis (.inl (by omega))) (fun q hq => hq.1) (fun q hq => by have := hq.1; omega) (by omega) ?c1 ?c2 ?c3 ?_)
    case c1 => intro q hq; simp at hq; rcases hq with rfl | rfl | rfl | rfl | rfl | rfl | rfl | rfl | rfl <;> rfl
    case c2 => rw [HTL.out]; unfold maxLen; omega
    case c3 => rw [HTL.out]; omega
    clear Gc0 Gc1 Gc2 Gc3 Glt Rc0 Rc1 Rc2 Rc3 Rc4 Rc5 Rc6 Rc7 Rc8 Rc9 Rc10 Rc11 Rc12 Rlt Fc0 Fc1 Fc2 Fc3 Fc4 Fc5 Fc6 Fc7 Fc8 Fc9 Fc10 Fc11 Fc12 Flt Ff0 Ff1 Ff2 Ff3 Ff4 Ff5 Ff6 Ff7 Ff8 Ff9 Ff10 Ff11 Ff12 Ec0 Ec1 Ec2 Ec3 Ec4 Ec5 Ec6 Ec7 Ec8 Elt
    intro g' cap' w2 N1 N2
    try rw [HTL.out] at N1
    try rw [HTL.out]
    rw [HTK.out] at N1
    have G2 := row_by (B := vs) G N2 (fun q hq => hq.1) (by omega)
    have R2 := row_by (B := vs) R N2 (fun q hq => hq.1) (by omega)
    have F2 := row_by (B := vs) F N2 (fun q hq => hq.1) (by omega)
    have H2 : Owned houseR hlo hhi w2 _ _ := ⟨own_chg H.1 N2 ((rng_dis (.inl (by omega))).sub (Sub.refl _) old_sub), Nat.le_trans H.2 N2.size⟩
    have BB2 : Below w.heap.size w w2 := below_by B (by omega) N2 (fun q hq => by have := hq.1; omega)
    have sz2 := N2.size
    have HE : Hid (NfI w b9 vs hlo hhi g ps ha hb hc hd (.int .i64 ((k + 1 : Nat) : Int)) (setCs w2 b9 6 [.slice (some ⟨g', 0, none⟩) (k + 1) cap'])) := ⟨k + 1, some ⟨g', 0, none⟩, cap', by omega, rfl, row_otherCs (g := b9) (o := 6) (vs := [.slice (some ⟨g', 0, none⟩) (k + 1) cap']) G2 (by omega), row_otherCs (g := b9) (o := 6) (vs := [.slice (some ⟨g', 0, none⟩) (k + 1) cap']) R2 (by omega), row_setCs (g := b9) [.slice (some ⟨g', 0, none⟩) (k + 1) cap'] 6 F2, owned_setCs (g := b9) (o := 6) (vs := [.slice (some ⟨g', 0, none⟩) (k + 1) cap']) H2 (by omega), (by have q := owned_setCs (R := coresR) (g := b9) (o := 6) (vs := [.slice (some ⟨g', 0, none⟩) (k + 1) cap']) (⟨N1, Nat.le_refl _⟩ : Owned coresR vs w2.heap.size w2 _ _) (by omega); rw [setCs_size]; exact q), below_setCs0 (g := b9) (o := 6) (vs := [.slice (some ⟨g', 0, none⟩) (k + 1) cap']) BB2 (by omega), by rw [setCs_size]; omega⟩
    obtain ⟨y0, y1, y2, y3, y4, y5, y6, y7, y8, y9, y10, y11, y12⟩ := cells_fabric F2
    obtain ⟨f0, f1, f2, f3, f4, f5, f6, f7, f8, f9, f10, f11, f12⟩ := froz_fabric F2
    have y2lt := (Array.getElem?_eq_some_iff.1 F2).1
    clear G2 R2 F2 H2 BB2 N1 N2 G R F H O C E B
    go_wp2
    go_roundw
    case rel => exact HE.out
    case measure => simp [intOf]; omega
   ·have hkn : k = ps.length := by omega
    subst hkn
    rw [List.take_length] at O
    obtain ⟨Gc0, Gc1, Gc2, Gc3⟩ := cells_4 G
    have Glt := (Array.getElem?_eq_some_iff.1 G).1
    obtain ⟨Rc0, Rc1, Rc2, Rc3, Rc4, Rc5, Rc6, Rc7, Rc8, Rc9, Rc10, Rc11, Rc12⟩ := cells_fabric R
    have Rlt := (Array.getElem?_eq_some_iff.1 R).1
    obtain ⟨Fc0, Fc1, Fc2, Fc3, Fc4, Fc5, Fc6, Fc7, Fc8, Fc9, Fc10, Fc11, Fc12⟩ := cells_fabric F
    have Flt := (Array.getElem?_eq_some_iff.1 F).1
    go_wp2_with fail
    clear Gc0 Gc1 Gc2 Gc3 Glt Rc0 Rc1 Rc2 Rc3 Rc4 Rc5 Rc6 Rc7 Rc8 Rc9 Rc10 Rc11 Rc12 Rlt Fc0 Fc1 Fc2 Fc3 Fc4 Fc5 Fc6 Fc7 Fc8 Fc9 Fc10 Fc11 Fc12 Flt
    refine (implNewDma_z ds da dc _ hdb (HSD.out _ B) hdn HDM.out).mono ?_
    rintro e u9w ⟨na, nd, ra, rc, rfl, mm⟩
    have D := owned_made (R := dmaR) mm
    have mb := mm.2
    have tu9w : wr.heap.size ≤ u9w.heap.size := mb.size
    replace B := below_step B mb
    replace G := row_keep mb G
    replace R := row_keep mb R
    replace F := row_keep mb F
    replace H := owned_next H mb
    replace O := owned_next O mb
    clear mb mm
    obtain ⟨Gc0, Gc1, Gc2, Gc3⟩ := cells_4 G
    have Glt := (Array.getElem?_eq_some_iff.1 G).1
    obtain ⟨Rc0, Rc1, Rc2, Rc3, Rc4, Rc5, Rc6, Rc7, Rc8, Rc9, Rc10, Rc11, Rc12⟩ := cells_fabric R
    have Rlt := (Array.getElem?_eq_some_iff.1 R).1
    obtain ⟨Rf0, Rf1, Rf2, Rf3, Rf4, Rf5, Rf6, Rf7, Rf8, Rf9, Rf10, Rf11, Rf12⟩ := froz_fabric R
    obtain ⟨Fc0, Fc1, Fc2, Fc3, Fc4, Fc5, Fc6, Fc7, Fc8, Fc9, Fc10, Fc11, Fc12⟩ := cells_fabric F
    have Flt := (Array.getElem?_eq_some_iff.1 F).1
    obtain ⟨Ff0, Ff1, Ff2, Ff3, Ff4, Ff5, Ff6, Ff7, Ff8, Ff9, Ff10, Ff11, Ff12⟩ := froz_fabric F
    have HK : Hid _ := And.intro R (And.intro F (And.intro H (And.intro O (And.intro D (B)))))
    clear G R F H O D B
    go_wp2
    clear Gc0 Gc1 Gc2 Gc3 Glt Rc0 Rc1 Rc2 Rc3 Rc4 Rc5 Rc6 Rc7 Rc8 Rc9 Rc10 Rc11 Rc12 Rlt Rf0 Rf1 Rf2 Rf3 Rf4 Rf5 Rf6 Rf7 Rf8 Rf9 Rf10 Rf11 Rf12 Fc0 Fc1 Fc2 Fc3 Fc4 Fc5 Fc6 Fc7 Fc8 Fc9 Fc10 Fc11 Fc12 Flt Ff0 Ff1 Ff2 Ff3 Ff4 Ff5 Ff6 Ff7 Ff8 Ff9 Ff10 Ff11 Ff12
    obtain ⟨R, F, H, O, D, B⟩ := HK.out
    have R2 : ((((u9w.setCell ⟨b9, 7, none⟩ (.slice na ds.length nd)).setCell ⟨b9, 8, none⟩ (.int .i64 0)).setCell ⟨b9, 9, none⟩ (.bool false)).setCell ⟨b9, 10, none⟩ (.slice ra 0 rc)).heap[w.heap.size + 1]? = some (.cells #[.int .i64 0, .int .i64 0, .int .i64 0, .int .i64 0, .slice none 0 0, .slice none 0 0, .slice none 0 0, .slice none 0 0, .int .i64 0, .bool false, .slice none 0 0, .slice none 0 0, .slice none 0 0] 49 (0, 0)) := row_otherCs (g := b9) (o := 7) (vs := [.slice na ds.length nd, .int .i64 0, .bool false, .slice ra 0 rc]) R (by omega)
    obtain ⟨r0, r1, r2, r3, r4, r5, r6, r7, r8, r9, r10, r11, r12⟩ := cells_fabric (put_fabric (y0 := .int .i64 g.1) (y1 := .int .i64 g.2.1) (y2 := .int .i64 g.2.2.1) (y3 := .int .i64 g.2.2.2) (y4 := .slice ha (newHouseI g.2.2.2).1.1.length hc) (y5 := .slice hb (newHouseI g.2.2.2).1.2.length hd) (y6 := .slice au ps.length cu) (y7 := .slice na ds.length nd) (y8 := .int .i64 0) (y9 := .bool false) (y10 := .slice ra 0 rc) (y11 := .slice none 0 0) (y12 := .slice none 0 0) R2)
    have FM := made_fab (w := w) (d := (ds, 0, false, [])) HI.out (owned_setCs (g := w.heap.size + 1) (o := 0) (vs := [.int .i64 g.1, .int .i64 g.2.1, .int .i64 g.2.2.1, .int .i64 g.2.2.2, .slice ha (newHouseI g.2.2.2).1.1.length hc, .slice hb (newHouseI g.2.2.2).1.2.length hd, .slice au ps.length cu, .slice na ds.length nd, .int .i64 0, .bool false, .slice ra 0 rc, .slice none 0 0, .slice none 0 0]) (owned_setCs (g := b9) (o := 7) (vs := [.slice na ds.length nd, .int .i64 0, .bool false, .slice ra 0 rc]) H (by omega)) (by omega)) (owned_setCs (g := w.heap.size + 1) (o := 0) (vs := [.int .i64 g.1, .int .i64 g.2.1, .int .i64 g.2.2.1, .int .i64 g.2.2.2, .slice ha (newHouseI g.2.2.2).1.1.length hc, .slice hb (newHouseI g.2.2.2).1.2.length hd, .slice au ps.length cu, .slice na ds.length nd, .int .i64 0, .bool false, .slice ra 0 rc, .slice none 0 0, .slice none 0 0]) (owned_setCs (g := b9) (o := 7) (vs := [.slice na ds.length nd, .int .i64 0, .bool false, .slice ra 0 rc]) O (by omega)) (by omega)) (owned_setCs (g := w.heap.size + 1) (o := 0) (vs := [.int .i64 g.1, .int .i64 g.2.1, .int .i64 g.2.2.1, .int .i64 g.2.2.2, .slice ha (newHouseI g.2.2.2).1.1.length hc, .slice hb (newHouseI g.2.2.2).1.2.length hd, .slice au ps.length cu, .slice na ds.length nd, .int .i64 0, .bool false, .slice ra 0 rc, .slice none 0 0, .slice none 0 0]) (owned_setCs (g := b9) (o := 7) (vs := [.slice na ds.length nd, .int .i64 0, .bool false, .slice ra 0 rc]) D (by omega)) (by omega)) (below_setCs0 (g := w.heap.size + 1) (o := 0) (vs := [.int .i64 g.1, .int .i64 g.2.1, .int .i64 g.2.2.1, .int .i64 g.2.2.2, .slice ha (newHouseI g.2.2.2).1.1.length hc, .slice hb (newHouseI g.2.2.2).1.2.length hd, .slice au ps.length cu, .slice na ds.length nd, .int .i64 0, .bool false, .slice ra 0 rc, .slice none 0 0, .slice none 0 0]) (below_setCs0 (g := b9) (o := 7) (vs := [.slice na ds.length nd, .int .i64 0, .bool false, .slice ra 0 rc]) B (by omega)) (by omega)) (by omega) (by omega) (by omega) (by omega) (by omega) (by omega)
    exact bodyPost_ret (v := .tuple #[.agg #[.int .i64 g.1, .int .i64 g.2.1, .int .i64 g.2.2.1, .int .i64 g.2.2.2, .slice ha (newHouseI g.2.2.2).1.1.length hc, .slice hb (newHouseI g.2.2.2).1.2.length hd, .slice au ps.length cu, .slice na ds.length nd, .int .i64 0, .bool false, .slice ra 0 rc, .slice none 0 0, .slice none 0 0], .int .i64 0]) (by simp [results, Tryz.results16, go_sem, r0, r1, r2, r3, r4, r5, r6, r7, r8, r9, r10, r11, r12]) rfl ⟨[.int .i64 g.1, .int .i64 g.2.1, .int .i64 g.2.2.1, .int .i64 g.2.2.2, .slice ha (newHouseI g.2.2.2).1.1.length hc, .slice hb (newHouseI g.2.2.2).1.2.length hd, .slice au ps.length cu, .slice na ds.length nd, .int .i64 0, .bool false, .slice ra 0 rc, .slice none 0 0, .slice none 0 0], rfl, FM⟩
 ·have zk : (kp != 0) = true := by simp [hz]
  have HZ : Hid (¬ fabC g ps ds = 0) := by unfold Hid; rw [EK.out]; exact hz
  rw [new_no1 HZ.out, EK.out]
  clear hz
  go_enter Tryz.func16, Tryz.ntmps16
  go_upto_region 1 with fail
  have G := heap_at w (.cells #[.int .i64 g.1, .int .i64 g.2.1, .int .i64 g.2.2.1, .int .i64 g.2.2.2] 38)
  have bz := box_below w (.cells #[.int .i64 g.1, .int .i64 g.2.1, .int .i64 g.2.2.1, .int .i64 g.2.2.2] 38)
  have zG := alloc_len w (.cells #[.int .i64 g.1, .int .i64 g.2.1, .int .i64 g.2.2.1, .int .i64 g.2.2.2] 38)
  replace B := below_step B bz
  clear bz
  generalize w.alloc (.cells #[.int .i64 g.1, .int .i64 g.2.1, .int .i64 g.2.2.1, .int .i64 g.2.2.2] 38) = u1w at B G zG ⊢
  have zGa := Nat.le_of_eq zG
  have zGb := Nat.le_of_eq zG.symm
  clear zG
  have R := heap_at u1w (.cells #[.int .i64 0, .int .i64 0, .int .i64 0, .int .i64 0, .slice none 0 0, .slice none 0 0, .slice none 0 0, .slice none 0 0, .int .i64 0, .bool false, .slice none 0 0, .slice none 0 0, .slice none 0 0] 49)
  have bz := box_below u1w (.cells #[.int .i64 0, .int .i64 0, .int .i64 0, .int .i64 0, .slice none 0 0, .slice none 0 0, .slice none 0 0, .slice none 0 0, .int .i64 0, .bool false, .slice none 0 0, .slice none 0 0, .slice none 0 0] 49)
  have zR := alloc_len u1w (.cells #[.int .i64 0, .int .i64 0, .int .i64 0, .int .i64 0, .slice none 0 0, .slice none 0 0, .slice none 0 0, .slice none 0 0, .int .i64 0, .bool false, .slice none 0 0, .slice none 0 0, .slice none 0 0] 49)
  rw [show u1w.heap.size = w.heap.size + 1 from by omega] at R
  replace B := below_step B bz
  replace G := row_keep bz G
  clear bz
  generalize u1w.alloc (.cells #[.int .i64 0, .int .i64 0, .int .i64 0, .int .i64 0, .slice none 0 0, .slice none 0 0, .slice none 0 0, .slice none 0 0, .int .i64 0, .bool false, .slice none 0 0, .slice none 0 0, .slice none 0 0] 49) = u2w at B G R zR ⊢
  have zRa := Nat.le_of_eq zR
  have zRb := Nat.le_of_eq zR.symm
  clear zR
  obtain ⟨Gc0, Gc1, Gc2, Gc3⟩ := cells_4 G
  have Glt := (Array.getElem?_eq_some_iff.1 G).1
  obtain ⟨Rc0, Rc1, Rc2, Rc3, Rc4, Rc5, Rc6, Rc7, Rc8, Rc9, Rc10, Rc11, Rc12⟩ := cells_fabric R
  have Rlt := (Array.getElem?_eq_some_iff.1 R).1
  go_wp2_with fail
  clear Gc0 Gc1 Gc2 Gc3 Glt Rc0 Rc1 Rc2 Rc3 Rc4 Rc5 Rc6 Rc7 Rc8 Rc9 Rc10 Rc11 Rc12 Rlt
  refine (HFC.out _ B).mono ?_
  rintro e u3w ⟨rfl, bq⟩
  have tu3w : u2w.heap.size ≤ u3w.heap.size := bq.size
  replace B := below_step B bq
  replace G := row_keep bq G
  replace R := row_keep bq R
  clear bq
  obtain ⟨Gc0, Gc1, Gc2, Gc3⟩ := cells_4 G
  have Glt := (Array.getElem?_eq_some_iff.1 G).1
  obtain ⟨Rc0, Rc1, Rc2, Rc3, Rc4, Rc5, Rc6, Rc7, Rc8, Rc9, Rc10, Rc11, Rc12⟩ := cells_fabric R
  have Rlt := (Array.getElem?_eq_some_iff.1 R).1
  obtain ⟨Rf0, Rf1, Rf2, Rf3, Rf4, Rf5, Rf6, Rf7, Rf8, Rf9, Rf10, Rf11, Rf12⟩ := froz_fabric R
  have HK : Hid _ := And.intro R B
  clear G R B
  go_wp2
  clear Gc0 Gc1 Gc2 Gc3 Glt Rc0 Rc1 Rc2 Rc3 Rc4 Rc5 Rc6 Rc7 Rc8 Rc9 Rc10 Rc11 Rc12 Rlt Rf0 Rf1 Rf2 Rf3 Rf4 Rf5 Rf6 Rf7 Rf8 Rf9 Rf10 Rf11 Rf12
  obtain ⟨r0, r1, r2, r3, r4, r5, r6, r7, r8, r9, r10, r11, r12⟩ := cells_fabric (put_fabric (y0 := .int .i64 0) (y1 := .int .i64 0) (y2 := .int .i64 0) (y3 := .int .i64 0) (y4 := .slice none 0 0) (y5 := .slice none 0 0) (y6 := .slice none 0 0) (y7 := .slice none 0 0) (y8 := .int .i64 0) (y9 := .bool false) (y10 := .slice none 0 0) (y11 := .slice none 0 0) (y12 := .slice none 0 0) HK.out.1)
  exact bodyPost_ret (v := .tuple #[.agg #[.int .i64 0, .int .i64 0, .int .i64 0, .int .i64 0, .slice none 0 0, .slice none 0 0, .slice none 0 0, .slice none 0 0, .int .i64 0, .bool false, .slice none 0 0, .slice none 0 0, .slice none 0 0], .int .i64 kp]) (by simp [results, Tryz.results16, go_sem, r0, r1, r2, r3, r4, r5, r6, r7, r8, r9, r10, r11, r12]) rfl ⟨[.int .i64 0, .int .i64 0, .int .i64 0, .int .i64 0, .slice none 0 0, .slice none 0 0, .slice none 0 0, .slice none 0 0, .int .i64 0, .bool false, .slice none 0 0, .slice none 0 0, .slice none 0 0], rfl, own_zeroF _ _, below_setCs0 (g := w.heap.size + 1) (o := 0) (vs := [.int .i64 0, .int .i64 0, .int .i64 0, .int .i64 0, .slice none 0 0, .slice none 0 0, .slice none 0 0, .slice none 0 0, .int .i64 0, .bool false, .slice none 0 0, .slice none 0 0, .slice none 0 0]) HK.out.2 (by omega)⟩
end Go.Proofs.YthnfkacboijneaaGreatDoor
