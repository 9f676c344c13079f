import Derived.Test.YthnfkacboijneaaGreatDoorP32BadP
import Derived.Test.YthnfkacboijneaaGreatDoorP09OpL
import Derived.Test.YthnfkacboijneaaGreatDoorP17UEnt
import Derived.Test.YthnfkacboijneaaGreatDoorP05Boxes
import Derived.Test.YthnfkacboijneaaGreatDoorP04Mems
import Derived.Test.YthnfkacboijneaaGreatDoorP21Change
import Derived.Test.YthnfkacboijneaaGreatDoorP15Entries
import Derived.Deep.RegionHeld3
import Derived.BigRegion
namespace Go.Proofs.YthnfkacboijneaaGreatDoor
open Go.ChangeShapes Go.WideShapes Go.ChangeAt Go.RowKit
theorem prs_get {zs : List Int} {n i : Nat} (h : i < n) : (prs zs n)[i]? = some (pr zs i) := by simp [prs, h]
def newM (n : Int) : List (List Int) := if betw n 1 16 then List.replicate n.toNat [0, 0] else []
theorem prs_zero (n : Nat) : prs (List.replicate (n * 2) 0) n = List.replicate n [0, 0] := by
 apply List.ext_getElem?
 intro i
 by_cases hi : i < n
 ·rw [prs_get hi, List.getElem?_replicate, if_pos hi]
  simp [pr, List.getD_eq_getElem?_getD, show i * 2 < n * 2 by omega, show i * 2 + 1 < n * 2 by omega]
 ·rw [List.getElem?_eq_none (by rw [prs_len]; omega), List.getElem?_eq_none (by simp; omega)]
set_option maxHeartbeats 400000 in
theorem implNewMemory_any (n : Int) (w : World) :
    Calls Tryz.prog 130 #[.int .i64 n] w fun e w' => ∃ v, e = .returned v ∧ MadeM w w' v (newM n) := by
 cases hn : betw n 1 16
 ·have HN : newM n = [] := by unfold newM; rw [hn]; rfl
  rw [HN]
  go_enter Tryz.func130, Tryz.ntmps130
  go_wp2_with (go_at_call 129; refine (linesOk_any _ _).mono ?_; rintro e w' ⟨rfl, rfl⟩)
  go_ret
  exact ⟨_, rfl, madeM_none _ _ rfl⟩
 ·obtain ⟨j, rfl, hj⟩ : ∃ j : Nat, n = j ∧ j ≤ 16 := by simp [betw] at hn; exact ⟨n.toNat, by omega, by omega⟩
  have HN : newM (j : Int) = prs (List.replicate (j * 2) 0) j := by unfold newM; rw [hn, prs_zero]; rfl
  rw [HN]
  clear HN
  have HZ : Hid ((List.replicate (j * 2) (0 : Int)).length = j * 2) := List.length_replicate
  go_enter Tryz.func130, Tryz.ntmps130
  go_wp2_with (go_at_call 129; refine (linesOk_any _ _).mono ?_; rintro e w' ⟨rfl, hw'⟩; rw [hw']; clear hw' w')
  refine (newRow_any _ _ hj).mono ?_
  rintro e w1 ⟨v, rfl, g, c, rfl, l1, l1', o1, b1⟩
  generalize hzs : List.replicate (j * 2) (0 : Int) = zs at o1 HZ ⊢
  have HE : Hid (List.replicate (j * 2) (0 : Int) = zs) := hzs
  clear hzs
  go_wp2_with fail
  refine (memory_any _ g c j zs _ o1 HZ.out hj).mono ?_
  rintro e w2 ⟨v, rfl, mm⟩
  rw [← HE.out] at mm
  go_wp2
  go_ret
  exact ⟨_, rfl, madeM_step b1 mm⟩
theorem app_own {B k g c : Nat} {W w1 : World} {v v' : Value} {rs : List Rw} {xs : List Int} (hown : W.ownsRow B 79 1 v k (rs.map Rw.v)) (hin : Inn B W.heap.size W (rs ++ [⟨g, c, xs⟩]))
    (hown' : w1.ownsRow B 79 1 v' (k + 1) (rs.map Rw.v ++ [.slice (some ⟨g, 0, none⟩) xs.length c])) (hgrow : W.grownBy w1 v.ownBlock) :
    w1.ownsRow B 79 1 v' (k + 1) ((rs ++ [(⟨g, c, xs⟩ : Rw)]).map Rw.v) ∧ Inn B w1.heap.size w1 (rs ++ [(⟨g, c, xs⟩ : Rw)]) := by
 refine ⟨by rw [List.map_append]; exact hown', ?_⟩
 refine inn_mono (inn_block hin fun i r hr => ?_) hgrow.size
 have o := (hin.1 i r hr).1
 refine hgrow.block _ (owni_lt o).2 ?_
 rcases hown.2 with ⟨rfl, _⟩ | ⟨G, cap, cur, rfl, hb, hh, rest⟩
 ·simp [Value.ownBlock]
 ·obtain ⟨c2, h2⟩ := own_type o
  simp only [Value.ownBlock, ne_eq, Option.some.injEq]
  intro e
  rw [e, hh] at h2
  simp at h2
theorem shape_of {w : World} {B : Nat} {e : TypeId} {v : Value} {n : Nat} {xs : List Value} (h : w.ownsRow B e 1 v n xs) (hv : v ≠ .slice none 0 0) :
    ∃ g cap, v = .slice (some ⟨g, 0, none⟩) n cap ∧ B ≤ g ∧ g < w.heap.size := by
 rcases h.2 with ⟨rfl, _⟩ | ⟨g, cap, cur, rfl, hb, hg, _⟩
 ·exact absurd rfl hv
 ·exact ⟨g, cap, rfl, hb, (Array.getElem?_eq_some_iff.1 hg).1⟩
theorem rep_push {rs : List Rw} {k g c : Nat} {xs : List Int} (h : rs.map Rw.xs = List.replicate k xs) : (rs ++ [(⟨g, c, xs⟩ : Rw)]).map Rw.xs = List.replicate (k + 1) xs := by
 rw [List.map_append, h, List.replicate_succ']
 rfl
set_option maxHeartbeats 1000000 in
theorem l4New_any (n : Nat) (w : World) (hn : n ≤ 1000) :
    Calls Tryz.prog 121 #[.int .i64 n] w fun e w' => ∃ v, e = .returned v ∧ MadeM w w' v (List.replicate n [0, 0]) := by
 obtain ⟨i0, hi0, hz0, hz1, hz2⟩ := info_parts Tryz.infoS
 go_enter Tryz.func121, Tryz.ntmps121
 go_wp2
 go_loopw [3, 4] (fun v i wr => ∃ k : Nat, k ≤ n ∧ i = .int .i64 k ∧ v ≠ .slice none 0 0 ∧ ∃ rs : List Rw, rs.map Rw.xs = List.replicate k [0, 0] ∧ wr.ownsRow w.heap.size 79 1 v k (rs.map Rw.v) ∧ Inn w.heap.size wr.heap.size wr rs ∧ Below w.heap.size w wr)
  (fun _ i _ => n - (intOf i).toNat)
 case atStart => exact ⟨0, by omega, rfl, by simp, [], rfl, World.ownsRow_lit _ #[] 0 (Nat.le_refl _) (Nat.zero_le _) rfl, inn_nil _ _ _, (Below.refl _ _).alloc (Nat.le_refl _) _⟩
 case round =>
  obtain ⟨k, hk, rfl, hv, rs, hrs, hown, hin, hb⟩ := hrel
  have hsz := hb.size
  by_cases hlt : k < n
  ·have hlt' : (k : Int) < (n : Int) := by omega
   have O := owni_less (owni_lit wr #[.int .i64 0, .int .i64 0] [0, 0] rfl (by unfold maxLen; simp)) hsz
   have IN := inn_push (hi' := wr.heap.size + 1) (inn_below hin ((Below.refl wr.heap.size wr).alloc (Nat.le_refl _) (.cells #[.int .i64 0, .int .i64 0] 2)) (Nat.le_refl _)) O (Nat.le_refl _) (Nat.lt_succ_self _)
   have HI : Hid _ := IN
   have HO := World.ownsRow.alloc hown (.cells #[.int .i64 0, .int .i64 0] 2)
   have HB : Hid _ := hb
   have HP : Hid _ := hrs
   clear O IN hin hb hrs
   go_wp2_with (at_builtin; refine wpList_append_own _ rfl _ _ 24 rfl w.heap.size 79 i0 (.slice none 0 0) 1 24 Tryz.underlying24 hi0 hz0 hz1 hz2 rfl (by decide) _ _ _ rfl (HO.alloc _) ⟨_, 0, none⟩ 1 1 [.slice (some ⟨wr.heap.size, 0, none⟩) 2 2] rfl rfl ?c1 ?c2 ?c3 ?c4 ?c5 ?_)
   case c1 =>
    intro j u hj
    match j, hj with
    | 0, hj => simp at hj; subst hj; simp [Addr.add]
   case c2 => intro u hu; simp at hu; subst hu; rfl
   case c3 => unfold maxLen; omega
   case c4 => omega
   case c5 => simp; omega
   ·intro v' w1 hown' hgrow hnil
    have hv' : v' ≠ .slice none 0 0 := hnil
    have AO := app_own (rs := rs) (g := wr.heap.size) (c := 2) (xs := [0, 0]) (HO.alloc _) (inn_mono (inn_below HI.out ((Below.refl _ _).alloc (Nat.le_refl _) _) (by simp)) (by simp)) hown' hgrow
    have HA : Hid _ := AO
    have BB := ((HB.out.alloc hsz (.cells #[.int .i64 0, .int .i64 0] 2)).alloc (by simp; omega) _).grown hgrow (by simp; omega) (fun j hj => (hown.lt j hj).1)
    have HQ : Hid _ := rep_push (g := wr.heap.size) (c := 2) HP.out
    clear hown' hgrow hown hnil AO
    go_wp2
    go_roundw
    case rel => exact ⟨k + 1, by omega, by go_num, hv', _, HQ.out, HA.out.1, HA.out.2, BB⟩
    case measure => simp [intOf]; omega
  ·have hkl : k = n := by omega
   subst hkl
   obtain ⟨g, cap, rfl, hg1, hg2⟩ := shape_of hown hv
   have MM : MadeM w wr (.slice (some ⟨g, 0, none⟩) k cap) (List.replicate k [0, 0]) := ⟨g, cap, by rw [List.length_replicate], hg1, hg2, ⟨rs, hrs, by rw [List.length_replicate]; exact hown, hg2, hin⟩, hb⟩
   clear hown hin hb
   go_wp2
   go_ret
   exact ⟨_, rfl, MM⟩
set_option linter.unusedVariables false
theorem bd_ent : Bd entM 8 := bd_prod bd_int (bd_prod bd_int (bd_prod bd_bool (bd_prod bd_int (bd_prod bd_int (bd_prod bd_int (bd_prod bd_int (bd_sl bd_int)))))))
theorem bv_house : Bv houseM 9 := bv_prod (bv_sl (bd_sl bd_int)) (bv_sl bd_ent)
def mems (s : Int) : Nat → List Int
 | 0 => []
 | k + 1 => if inB s k then mems s k ++ [(k : Int)] else mems s k
theorem run_append_zero {P : Program} {w : World} (base : Nat) (t ty e : TypeId) (i : TypeInfo) (size : Nat) (ht : P.underlying t = some (.slice e)) (hi : P.info? e = some i) (c : Nat)
    (v : Value) (n : Nat) (xs : List Value) (hown : w.ownsRow base e size v n xs) : (Builtin.append_ #[t, t] ty #[v, .slice none 0 c]).run P w = .ok v w := by
 rcases hown.2 with ⟨rfl, rfl⟩ | ⟨g, cap, cur, rfl, _, _, hnc, _⟩
 ·simp [Builtin.append_, run_underlying ht, sizeOf, typeInfo, hi, Builtin.lenOf, Builtin.firstCells]
 ·simp [Builtin.append_, run_underlying ht, sizeOf, typeInfo, hi, Builtin.lenOf, Builtin.firstCells, hnc, storeCells]
theorem wpList_append_zero {P : Program} {w : World} {ops : Array Oper} {rest : List Oper} {o : Oper} {a : Act} {Q : Exit → Act → World → Prop} (hgd : o.guard = none) (s x : Operand) (t : TypeId)
    (ho : o.op = .call { callee := .builtin .append, args := #[s, x], argTypes := #[t, t] })
    (base : Nat) (e : TypeId) (i : TypeInfo) (size : Nat) (ht : P.underlying t = some (.slice e)) (hi : P.info? e = some i) (c : Nat)
    (v : Value) (n : Nat) (xs : List Value) (hs : a.eval s = v) (hown : w.ownsRow base e size v n xs) (hx : a.eval x = .slice none 0 c)
    (h : wpList P ops Q rest (a.put o.dst v) w) : wpList P ops Q (o :: rest) a w := by
 refine wpList_plain hgd fun K hK => ?_
 have hrun := run_append_zero (P := P) (w := w) base t o.type e i size ht hi c v n xs hown
 unfold Oper.wp
 simp [execOp, ho, resolve, invoke, builtin, hs, hx, hrun, Result.andThen]
 exact hK _ _ h
theorem made_nothing (w : World) : MadeR intsR w (w.alloc (.cells #[] 2)) [.slice (some ⟨w.heap.size, 0, none⟩) 0 0] [] := by
 refine ⟨⟨_, [], fun _ => False, rfl, World.ownsRow_lit (base := 0) (e := 2) (size := 1) w #[] 0 (Nat.zero_le _) (Nat.zero_le _) rfl, fun g hg => ?_, fun _ h => h.elim, rfl⟩, box_below w _⟩
 simp [Value.ownBlock] at hg
 subst hg
 exact ⟨⟨Nat.le_refl _, by simp⟩, fun h => h⟩
set_option maxHeartbeats 1000000 in
theorem l1Copy_nil (cap : Nat) (w : World) : Calls Tryz.prog 194 #[.slice none 0 cap] w fun e w' => ∃ v, e = .returned v ∧ MadeR intsR w w' [v] [] := by
 obtain ⟨i0, hi, hz0, hz1, hz2⟩ := info_parts Tryz.infoI
 have hown : (w.alloc (.cells #[] 2)).ownsRow w.heap.size 2 1 (.slice (some ⟨w.heap.size, 0, none⟩) 0 0) 0 [] := World.ownsRow_lit _ #[] 0 (Nat.le_refl _) (Nat.zero_le _) rfl
 go_enter Tryz.func194, Tryz.ntmps194
 go_wp2_with (at_builtin; refine wpList_append_zero rfl _ _ 79 rfl w.heap.size 2 i0 1 Tryz.underlying79 hi cap _ _ _ rfl hown rfl ?_)
 go_ret
 exact ⟨_, rfl, made_nothing w⟩
theorem l1Copy_rep (a : Option Addr) (xs : List Int) (cap : Nat) (w : World) (h : SlRd intR w a xs) (hm : xs.length ≤ 1048576) :
    Calls Tryz.prog 194 #[.slice a xs.length cap] w fun e w' => ∃ v, e = .returned v ∧ MadeR intsR w w' [v] xs := by
 cases a with
 | some ad => exact (l1Copy_any ad xs cap w (reads_of h) hm).mono fun e w' ⟨v, h1, h2⟩ => ⟨v, h1, madeR_ints h2 (in64_of h)⟩
 | none =>
  rcases h with rfl | ⟨b, off, rows, ha, _⟩
  ·exact l1Copy_nil cap w
  ·cases ha
def newE : EntryD := (-1, 0, false, 0, 0, 0, 0, [])
theorem own_zero (w : World) (S : Foot) : intsR.own w S [.slice none 0 0] [] := ⟨_, [], fun _ => False, rfl, World.ownsRow_nil _ _ _ _, fun g hg => by simp [Value.ownBlock] at hg, fun _ h => h.elim, rfl⟩
theorem i64_0 : In64 0 := by constructor <;> decide
theorem i64_m : In64 (-1) := by constructor <;> decide
theorem implNewEntry_any (w : World) : Calls Tryz.prog 131 #[] w fun e w' => e = .returned (.agg #[.int .i64 (-1), .int .i64 0, .bool false, .int .i64 0, .int .i64 0, .int .i64 0, .int .i64 0, .slice none 0 0]) ∧ Below w.heap.size w w' := by
 have HB : Hid _ := box_below w
 go_enter Tryz.func131, Tryz.ntmps131
 go_wp2
 refine bodyPost_ret (v := .agg #[.int .i64 (-1), .int .i64 0, .bool false, .int .i64 0, .int .i64 0, .int .i64 0, .int .i64 0, .slice none 0 0]) (by simp [results, Tryz.results131, go_sem]) rfl ⟨rfl, HB.out _⟩
theorem specNewEntry_any (w : World) : Calls Tryz.prog 122 #[] w fun e w' => e = .returned (.agg #[.int .i64 (-1), .int .i64 0, .bool false, .int .i64 0, .int .i64 0, .int .i64 0, .int .i64 0, .slice none 0 0]) ∧ Below w.heap.size w w' := by
 have HB : Hid _ := box_below w
 go_enter Tryz.func122, Tryz.ntmps122
 go_wp2
 refine bodyPost_ret (v := .agg #[.int .i64 (-1), .int .i64 0, .bool false, .int .i64 0, .int .i64 0, .int .i64 0, .int .i64 0, .slice none 0 0]) (by simp [results, Tryz.results122, go_sem]) rfl ⟨rfl, HB.out _⟩
end Go.Proofs.YthnfkacboijneaaGreatDoor
