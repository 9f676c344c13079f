
/- SpecCopy. -/
import Derived.Test.YthbclkpmgcfdnaaGreatDoorJStoreEnd4UForm
import Derived.Test.YthbclkpmgcfdnaaGreatDoorJWayCopy3CloneOps
import Derived.Test.YthbclkpmgcfdnaaGreatDoorFindW
import Derived.Test.YthbclkpmgcfdnaaGreatDoorJPuts2CopyFacts
import Derived.Deep.DeepCutAuto
/- A copy of a store, of the specification. Conditions: lists that read as told, of lengths that a machine can hold. -/
namespace Go.Proofs.YthbclkpmgcfdnaaGreatDoor
open Go.ChangeShapes Go.WideShapes Go.ChangeAt Go.RowKit
set_option linter.unusedVariables false

set_option maxRecDepth 8000 in
set_option maxHeartbeats 4000000 in
theorem l6Copy_any (a b : Option Addr) (c : CacheD) (cap cp : Nat) (w : World) (h1 : SlRd waysR w a c.1) (h2 : SlRd intR w b c.2) (m1 : c.1.length ≤ 1048576) (m2 : c.2.length ≤ 1048576) (m3 : ∀ row ∈ c.1, row.length ≤ 1048576 ∧ ∀ u ∈ row, u.2.2.length ≤ 1048576) :
    Calls Tryz.prog 122 #[.agg #[.slice a c.1.length cap, .slice b c.2.length cp]] w fun e w' => ∃ av cv bv dv, e = .returned (.agg #[.slice av c.1.length cv, .slice bv c.2.length dv]) ∧ MadeR cacheR w w' [.slice av c.1.length cv, .slice bv c.2.length dv] c := by
  have H1 : Hid (∀ W, Below w.heap.size w W → SlRd waysR W a c.1) := fun W hb => slrd_keep h1 fun k hk => hb.block k hk
  have H2 : Hid (∀ W, Below w.heap.size w W → SlRd intR W b c.2) := fun W hb => slrd_keep h2 fun k hk => hb.block k hk
  have M3 : Hid _ := m3
  clear h1 h2 m3
  go_enter Tryz.func122, Tryz.ntmps122
  go_wp2_with fail
  have B0 := below_step (box_below w (.cells #[.slice a c.1.length cap, .slice b c.2.length cp] 27)) (box_below _ (.cells #[.slice none 0 0, .slice none 0 0] 27))
  have X0 := heap_on (.cells #[.slice none 0 0, .slice none 0 0] 27) (heap_at w (.cells #[.slice a c.1.length cap, .slice b c.2.length cp] 27))
  have Y0 := heap_at (w.alloc (.cells #[.slice a c.1.length cap, .slice b c.2.length cp] 27)) (.cells #[.slice none 0 0, .slice none 0 0] 27)
  have e2 : ((w.alloc (.cells #[.slice a c.1.length cap, .slice b c.2.length cp] 27)).alloc (.cells #[.slice none 0 0, .slice none 0 0] 27)).heap.size = w.heap.size + 2 := by simp
  rw [alloc_len] at Y0
  generalize (w.alloc (.cells #[.slice a c.1.length cap, .slice b c.2.length cp] 27)).alloc (.cells #[.slice none 0 0, .slice none 0 0] 27) = W0 at B0 X0 Y0 e2 ⊢
  refine (l1Copy_rep b c.2 cp _ (H2.out _ B0) m2).mono ?_
  rintro e w1 ⟨v, rfl, mm⟩
  obtain ⟨bv, dv, rfl⟩ := slown_val mm.1
  clear H2
  have t2 := mm.2.size
  have B1 := below_step (below_step B0 mm.2) (box_below w1 (.cells #[.slice none 0 0, .slice bv c.2.length dv] 27))
  have X1 := heap_on (.cells #[.slice none 0 0, .slice bv c.2.length dv] 27) (row_keep mm.2 X0)
  have Y1 := heap_on (.cells #[.slice none 0 0, .slice bv c.2.length dv] 27) (row_keep mm.2 Y0)
  have C1 := heap_at w1 (.cells #[.slice none 0 0, .slice bv c.2.length dv] 27)
  have T1 := own_box (.cells #[.slice none 0 0, .slice bv c.2.length dv] 27) mm.1
  rw [e2] at T1
  have e3 : (w1.alloc (.cells #[.slice none 0 0, .slice bv c.2.length dv] 27)).heap.size = w1.heap.size + 1 := by simp
  have HC : Hid _ := And.intro B1 (And.intro X1 (And.intro Y1 (And.intro C1 T1)))
  obtain ⟨g0, g1⟩ := cell_two (row_keep mm.2 X0)
  clear B0 X0 Y0 mm B1 X1 Y1 C1 T1
  go_wp2
  clear g0 g1
  obtain ⟨B1, X1, Y1, C1, T1⟩ := HC.out
  clear HC
  generalize w1.alloc (.cells #[.slice none 0 0, .slice bv c.2.length dv] 27) = W1 at B1 X1 Y1 C1 T1 e3 ⊢
  go_loopw [4] (fun q wr => ∃ k : Nat, k ≤ c.1.length ∧ q = .int .i64 k ∧ ∃ av cv, setsR.own wr (rng (w1.heap.size + 1) wr.heap.size) [.slice av k cv] (c.1.take k) ∧ wr.heap[w1.heap.size]? = some (.cells #[.slice av k cv, .slice bv c.2.length dv] 27 (0, 0)) ∧ wr.heap[w.heap.size + 1]? = some (.cells #[.slice none 0 0, .slice none 0 0] 27) ∧ wr.heap[w.heap.size]? = some (.cells #[.slice a c.1.length cap, .slice b c.2.length cp] 27) ∧ intsR.own wr (rng (w.heap.size + 2) w1.heap.size) [.slice bv c.2.length dv] c.2 ∧ Below w.heap.size w wr ∧ w1.heap.size + 1 ≤ wr.heap.size)
    (fun q _ => c.1.length - (intOf q).toNat)
  case atStart => exact ⟨0, Nat.zero_le _, rfl, none, 0, ⟨_, [], fun _ => False, rfl, World.ownsRow_nil _ _ _ _, fun g hg => by simp [Value.ownBlock] at hg, fun _ h => h.elim, rfl⟩, C1, Y1, X1, T1, B1, by omega⟩
  case round =>
    clear B1 X1 Y1 C1 T1 e3
    obtain ⟨wo, rfl⟩ : ∃ wo, wo = wr := ⟨_, rfl⟩
    obtain ⟨k, hk, rfl, av, cv, O, C, R, X, T, B, Lz⟩ := hrel
    by_cases hlt : k < c.1.length
    · have hlt' : (k : Int) < (c.1.length : Int) := by omega
      have htk : (c.1.take k).length = k := by rw [List.length_take]; omega
      obtain ⟨row, hrow⟩ : ∃ row, c.1[k]? = some row := ⟨_, List.getElem?_eq_getElem hlt⟩
      obtain ⟨b0, o0, aj, cj, rfl, k2, -, -, hrd⟩ := set_at (H1.out _ B) hrow
      obtain ⟨hrl, hul⟩ := M3.out row (List.mem_of_getElem? hrow)
      have HRD : Hid (∀ W, Below wo.heap.size wo W → SlRd wayR W aj row) := fun W hb => slrd_next hrd hb
      have HT : Hid (c.1.take k ++ [row] = c.1.take (k + 1)) := by unfold Hid; rw [List.take_add_one, hrow]; rfl
      have HUL : Hid _ := hul
      obtain ⟨p0, p1⟩ := cell_two X
      have p2 := (Array.getElem?_eq_some_iff.1 X).1
      have HF : Hid _ := And.intro O (And.intro C (And.intro R (And.intro X (And.intro T B))))
      have HK2 : Hid (∀ W, Below wo.heap.size wo W → W.cell? ⟨b0, o0 + k, none⟩ = some (.slice aj row.length cj) ∧ W.cell? ⟨w.heap.size, 0, none⟩ = some (.slice (some ⟨b0, o0, none⟩) c.1.length cap)) := fun W hb => ⟨cell_keep hb k2 (cell_lt k2), (cell_two (row_keep hb X)).1⟩
      have MN := made_none (e := 30) (R := wayR) wo
      clear O C R X T B hrd hul hrow
      go_wp2
      clear k2 p0 p1 p2
      go_loopw [5, 6] (fun r i wi => ∃ j : Nat, j ≤ row.length ∧ i = .int .i64 j ∧ ∃ au cu, r = .slice au j cu ∧ MadeR waysR wo wi [.slice au j cu] (row.take j)) (fun _ i _ => row.length - (intOf i).toNat)
      case atStart => exact ⟨0, Nat.zero_le _, rfl, _, _, rfl, MN⟩
      case round =>
        clear MN
        obtain ⟨j, hj, rfl, au, cu, rfl, M⟩ := hrel
        obtain ⟨k2, p0⟩ := HK2.out _ M.2
        by_cases hlt2 : j < row.length
        · have hlt2' : (j : Int) < (row.length : Int) := by omega
          have htj : (row.take j).length = j := by rw [List.length_take]; omega
          obtain ⟨u, hu⟩ : ∃ u, row[j]? = some u := ⟨_, List.getElem?_eq_getElem hlt2⟩
          obtain ⟨bj, oj, cs, rfl, hrdu, hcell⟩ := slrd_at (HRD.out _ M.2) hu
          obtain ⟨ad, cpw, rfl, i1, i2, -, -, hd3⟩ := way_rd hrdu
          have k4 := hcell 0 _ rfl
          have k5 := hcell 1 _ rfl
          have k6 := hcell 2 _ rfl
          rw [show oj + (j * wayR.size + 0) = oj + j * 3 from rfl] at k4
          rw [show oj + (j * wayR.size + 1) = oj + j * 3 + 1 from rfl] at k5
          rw [show oj + (j * wayR.size + 2) = oj + j * 3 + 2 from rfl] at k6
          have HT2 : Hid (row.take j ++ [u] = row.take (j + 1)) := by unfold Hid; rw [List.take_add_one, hu]; rfl
          have HLN : Hid (u.2.2.length ≤ 1048576) := HUL.out u (List.mem_of_getElem? hu)
          have HD : Hid (In64 u.1 ∧ In64 u.2.1 ∧ SlRd intR wr ad u.2.2) := ⟨i1, i2, hd3⟩
          clear hu hrdu hcell i1 i2 hd3
          obtain ⟨ul, us, ud⟩ := u
          simp only at k4 k5 k6 HLN HD
          obtain ⟨i0, hi, hz0, hz1, hz2⟩ := info_parts Tryz.infoWay
          have HM0 : Hid _ := M
          clear M
          go_wp2_with fail
          refine (l6CopyWay_any ul us ud ad cpw _ HD.out.1 HD.out.2.1 HD.out.2.2 HLN.out).mono ?_
          rintro e w9 ⟨ae, ce, rfl, mm⟩
          have M := HM0.out
          clear HM0 k2 p0 k4 k5 k6
          obtain ⟨rows0, hr0, hrl0⟩ := slown_row M.1
          rw [htj] at hr0
          have hrA : (w9.alloc (.cells #[.int .i64 ul, .int .i64 us, .slice ae ud.length ce] 30)).ownsRow wo.heap.size 30 3 (.slice au j cu) j rows0 := orow_keep hr0 fun g hg => by
            obtain ⟨cur, hh⟩ := row_block hr0 hg
            have hl := (Array.getElem?_eq_some_iff.1 hh).1
            rw [Below.heap_alloc _ _ _ (Nat.lt_of_lt_of_le hl mm.2.size), mm.2.block _ hl]
          have hbs : wo.heap.size ≤ (w9.alloc (.cells #[.int .i64 ul, .int .i64 us, .slice ae ud.length ce] 30)).heap.size := by have := M.2.size; have := mm.2.size; simp; omega
          have HM : Hid _ := And.intro M (And.intro mm hr0)
          clear M mm hr0 hrl0
          go_wp2_with (at_builtin; refine wpList_append_own _ rfl _ _ 107 rfl wo.heap.size 30 i0 (.agg #[.int .i64 0, .int .i64 0, .slice none 0 0]) 3 40 Tryz.underlying107 hi hz0 hz1 hz2 rfl (by decide) _ _ _ rfl hrA ⟨w9.heap.size, 0, none⟩ 1 1 [.int .i64 ul, .int .i64 us, .slice ae ud.length ce] rfl rfl ?c1 ?c2 ?c3 ?c4 ?c5 ?_)
          case c1 => exact cells_new3 w9 _ _ _ _
          case c2 => intro u hu; simp at hu; rcases hu with rfl | rfl | rfl <;> rfl
          case c3 => unfold maxLen; omega
          case c4 => omega
          case c5 => exact hbs
          intro v' w2 hown' hgrow hnil
          obtain ⟨g', cap', rfl⟩ := owns_shape hown'
          obtain ⟨M, mm, hr0⟩ := HM.out
          have NM := app_made (e := 30) (R := wayR) (by decide) M mm (by rw [htj]; exact hr0) (by rw [htj]; exact hown') hgrow
          rw [HT2.out] at NM
          have HNM : Hid _ := NM
          clear M mm hr0 NM hown' hgrow hnil hrA HM hbs
          go_wp2
          go_roundw
          case rel => exact ⟨j + 1, by omega, by go_num, _, _, rfl, HNM.out⟩
          case measure => simp [intOf]; omega
        · have hjm : j = row.length := by omega
          subst hjm
          rw [List.take_length] at M
          obtain ⟨O, C, R, X, T, B⟩ := HF.out
          have lb := M.2
          obtain ⟨i0, hi, hz0, hz1, hz2⟩ := info_parts Tryz.infoWayS
          obtain ⟨rows0, hr0, hrl0⟩ := slown_row O
          rw [htk] at hr0
          have hr00 := row_base (base' := 0) hr0 (fun _ _ => Nat.zero_le _)
          have hrA : (wr.alloc (.cells #[.slice au row.length cu] 107)).ownsRow 0 107 1 (.slice av k cv) k rows0 := orow_keep hr00 fun g hg => by
            obtain ⟨cur, hh⟩ := row_block hr0 hg
            have hl := (Array.getElem?_eq_some_iff.1 hh).1
            rw [Below.heap_alloc _ _ _ (Nat.lt_of_lt_of_le hl lb.size), lb.block _ hl]
          obtain ⟨x0, x1⟩ := cell_two (row_keep lb C)
          have x2 := (Array.getElem?_eq_some_iff.1 (row_keep lb C)).1
          have HH : Hid _ := And.intro M (And.intro O (And.intro C (And.intro R (And.intro X (And.intro T (And.intro B hr00))))))
          clear M O C R X T B hr0 hr00 hrl0 HF lb
          go_wp2_with (at_builtin; refine wpList_append_own_at _ rfl _ _ 24 rfl 0 107 i0 (.slice none 0 0) 1 24 Tryz.underlying24 hi hz0 hz1 hz2 rfl (by decide) _ _ _ rfl hrA ⟨wr.heap.size, 0, none⟩ 1 1 [.slice au row.length cu] rfl rfl ?c1 ?c2 ?c3 ?c4 ?c5 ?_)
          case c1 => exact cells_new1 wr _ _
          case c2 => intro u hu; simp at hu; rw [hu]; rfl
          case c3 => unfold maxLen; omega
          case c4 => omega
          case c5 => exact Nat.zero_le _
          intro v' w2 hown' hgrow hnil hblk
          obtain ⟨g', cap', rfl⟩ := owns_shape hown'
          obtain ⟨M, O, C, R, X, T, B, hr00⟩ := HH.out
          obtain ⟨NO, NC⟩ := appR_any (e := 107) (R := waysR) (by decide) O M (fun rows hr' => by rw [rows_unique hr' (by rw [htk]; exact hr00), htk]; exact hown') hgrow (hblk.imp id fun h => ⟨_, h, by have := M.2.size; omega⟩)
          rw [HT.out] at NO
          have z0 := NC.size
          have nS : ∀ x, x < w1.heap.size + 1 → ¬ Old wo (rng (w1.heap.size + 1) wo.heap.size) x := fun x hx h => by have := h.1.1; omega
          have C2 := (NC.block _ (by omega) (nS w1.heap.size (by omega))).trans C
          have R2 := (NC.block _ (by omega) (nS (w.heap.size + 1) (by omega))).trans R
          have X2 := (NC.block _ (by omega) (nS w.heap.size (by omega))).trans X
          have T2 := own_chg T NC (fun x h1 h2 => nS x (by have := h1.2; omega) h2)
          have B2 := NC.below B (fun x h => by have := h.1.1; omega) (by omega)
          have N2 : setsR.own w2 (rng (w1.heap.size + 1) w2.heap.size) [.slice (some ⟨g', 0, none⟩) (k + 1) cap'] (c.1.take (k + 1)) := setsR.own_mono (own_old NO) fun x hx => ⟨by rcases hx.1 with h | h; exact h.1.1; omega, hx.2⟩
          obtain ⟨f0, f1⟩ := cells_froz2 C2
          obtain ⟨y0, y1⟩ := cell_two C2
          have y2 := (Array.getElem?_eq_some_iff.1 C2).1
          have HK : Hid _ := And.intro N2 (And.intro C2 (And.intro R2 (And.intro X2 (And.intro T2 B2))))
          clear M O C R X T B hr00 hrA HH hown' hgrow hnil hblk NO NC nS N2 C2 R2 X2 T2 B2 x0 x1 x2 k2 p0
          go_wp2
          go_roundw
          case rel =>
            obtain ⟨N2, C2, R2, X2, T2, B2⟩ := HK.out
            refine ⟨k + 1, by omega, by go_num, _, _, ?_, heap_setCell_same _ _ 0 _ _ _ C2, heap_setC R2 (by omega), heap_setC X2 (by omega), own_setC T2 (fun h => by have := h.2; omega), below_setC B2 (by omega), by simp; omega⟩
            have := own_setC (g := w1.heap.size) (o := 0) (v := .slice (some ⟨g', 0, none⟩) (k + 1) cap') N2 (fun h => by have := h.1; omega)
            simpa using this
          case measure => simp [intOf]; omega
    · have hkn : k = c.1.length := by omega
      subst hkn
      rw [List.take_length] at O
      obtain ⟨y0, y1⟩ := cell_two C
      obtain ⟨x0, x1⟩ := cell_two X
      obtain ⟨f0, f1⟩ := cells_froz2 R
      obtain ⟨p0, p1⟩ := cell_two R
      have HK : Hid _ := And.intro O (And.intro R (And.intro T B))
      clear O C R X T B
      go_wp2
      obtain ⟨O, R, T, B⟩ := HK.out
      have V1 := put2 (a := .slice av c.1.length cv) (b := .slice bv c.2.length dv) R
      obtain ⟨r0, r1⟩ := cell_two V1
      refine bodyPost_ret (v := .agg #[.slice av c.1.length cv, .slice bv c.2.length dv]) (by simp [results, Tryz.results122, go_sem, r0, r1]) rfl ⟨av, cv, bv, dv, rfl, own_cache (S1 := rng (w1.heap.size + 1) wo.heap.size) (S2 := rng (w.heap.size + 2) w1.heap.size) ?_ ?_ (rng_sub (by omega) (by simp)) (rng_sub (by omega) (by simp; omega)) (rng_dis (.inr (by omega))), ?_⟩
      · exact own_setC (own_setC O (fun h => by have := h.1; omega)) (fun h => by have := h.1; omega)
      · exact own_setC (own_setC T (fun h => by have := h.1; omega)) (fun h => by have := h.1; omega)
      · exact below_setC (below_setC B (by omega)) (by omega)
end Go.Proofs.YthbclkpmgcfdnaaGreatDoor
/- A way dropped out of a store, by the specification: through a pointer to a store that is owned, and as a whole. No condition but a right store. -/
namespace Go.Proofs.YthbclkpmgcfdnaaGreatDoor
open Go.ChangeShapes Go.WideShapes Go.ChangeAt Go.RowKit
set_option linter.unusedVariables false
noncomputable def dropI (c : CacheD) (line : Int) : CacheD × Bool := dropC isL treeB c line
theorem drop_none {c : CacheD} {line : Int} (hok : OkC isL treeB c) (h : atC c line = none) : dropI c line = (c, false) := by
  unfold dropI dropC
  rw [okB_iff.2 hok, h]
  rfl
theorem drop_some {c : CacheD} {line : Int} {i : Nat} (hok : OkC isL treeB c) (h : atC c line = some i) : dropI c line = ((c.1.set (setNo c line) ((rowFor c line).set i emptyW), c.2), true) := by
  unfold dropI dropC
  rw [okB_iff.2 hok, h]
  rfl
theorem sets_rd {w : World} {S : Foot} {u : Value} {cs : List (List WayD)} (h : setsR.own w S [u] cs) : ∃ a cap, u = .slice a cs.length cap ∧ SlRd waysR w a cs := by
  obtain ⟨a, cap, e, h1, h2, h3⟩ := setsR.own_rd h
  simp only [List.cons.injEq, and_true] at e
  exact ⟨a, cap, e, h3⟩
theorem cells_at2 {w : World} {g : Nat} {bc : Array Value} {bt : TypeId} {u v : Value} (h0 : bc[0]? = some u) (h1 : bc[1]? = some v) (h : w.heap[g]? = some (.cells bc bt (0, 0))) : w.cell? ⟨g, 0, none⟩ = some u ∧ w.cell? ⟨g, 1, none⟩ = some v :=
  ⟨by rw [cell_of_row w g 0 _ bt (0, 0) h]; exact h0, by rw [cell_of_row w g 1 _ bt (0, 0) h]; exact h1⟩
set_option maxRecDepth 8000 in
set_option maxHeartbeats 4000000 in
theorem l6Drop_at (gb cp : Nat) (S : Foot) (u : Value) (v0 : Option Addr) (c : CacheD) (line : Int) (w : World) (hok : OkC isL treeB c) (bc : Array Value) (bt : TypeId) (hb0 : bc[0]? = some u) (hb1 : bc[1]? = some (.slice v0 c.2.length cp)) (hbox : w.heap[gb]? = some (.cells bc bt (0, 0))) (hnb : ¬ S gb) (h : setsR.own w S [u] c.1) :
    Calls Tryz.prog 126 #[.pointer (some ⟨gb, 0, none⟩), .int .i64 line] w fun e w' => e = .returned (.bool (dropI c line).2) ∧
      setsR.own w' (fun k => Old w S k ∨ (w.heap.size ≤ k ∧ k < w'.heap.size)) [u] (dropI c line).1.1 ∧ (dropI c line).1.2 = c.2 ∧ Chg (Old w S) w w' := by
  obtain ⟨a, cap, rfl, hrd⟩ := sets_rd h
  have HAT := specAt_any a v0 c cap cp line w hok hrd
  obtain ⟨x0, x1⟩ := cells_at2 hb0 hb1 hbox
  cases hat : atC c line with
  | none =>
    rw [hat] at HAT
    rw [drop_none hok hat]
    have HH : Hid _ := h
    clear h hrd
    go_enter Tryz.func126, Tryz.ntmps126
    go_wp2_with fail
    refine HAT.mono ?_
    rintro e w1 ⟨rfl, b1⟩
    have hneg : idxI none < 0 := by decide
    go_wp2
    go_ret
    have hs := b1.size
    exact ⟨rfl, setsR.own_mono (setsR.own_keep (own_old HH.out) (keeps_below b1)) (fun k hk => .inl hk), trivial, chg_below b1⟩
  | some fi =>
    obtain ⟨hl0, uw, huw, hul⟩ := at_some hat
    obtain ⟨hp, hget, hne0, hr4, hset, hsl⟩ := ok_row hok line
    have hfl := (List.getElem?_eq_some_iff.1 huw).1
    obtain ⟨g, cap', g2, cap2, e0, hcell, hSg, hSg2, hne, hgl, hg2l, -⟩ := own_put_at (own_old h) hget huw
    simp only [Value.slice.injEq, true_and] at e0
    obtain ⟨rfl, rfl⟩ := e0
    rw [hat] at HAT
    rw [drop_some hok hat]
    have hfi : ((fi : Nat) : Int) < ((rowFor c line).length : Int) := by omega
    have hsl1 : ((setNo c line : Nat) : Int) < (c.1.length : Int) := by omega
    have hset' : line % (c.1.length : Int) = ((setNo c line : Nat) : Int) := hset.symm
    have hz : (c.1.length : Int) ≠ 0 := by omega
    have hz2 : ((c.1.length : Int) == 0) = false := beq_false_of_ne hz
    have hz3 : ¬ (c.1.length = 0) := by omega
    have hz4 : ¬ (c.1 = []) := fun e => by rw [e] at hz3; exact hz3 rfl
    have ht3 : Int.tmod line (c.1.length : Int) = ((setNo c line : Nat) : Int) := by rw [Int.tmod_eq_emod_of_nonneg hl0, hset']
    have hidx : idxI (some fi) = (fi : Int) := rfl
    rw [hidx] at HAT
    have hfi0 : ¬ ((fi : Int) < 0) := by omega
    have HH : Hid _ := own_old h
    have HG : Hid _ := And.intro hget huw
    have hbl := (Array.getElem?_eq_some_iff.1 hbox).1
    have n0 : gb ≠ g2 := fun e => hnb (e ▸ hSg2.1)
    have HS : Hid (Old w S g2) := hSg2
    have HQ : Hid _ := And.intro hbox hcell
    clear h hrd hget huw hat hset hul hp hne0 hSg hSg2 hnb hok hcell
    generalize rowFor c line = row at *
    generalize setNo c line = sn at *
    go_enter Tryz.func126, Tryz.ntmps126
    go_wp2_with fail
    refine HAT.mono ?_
    rintro e w1 ⟨rfl, b1⟩
    clear HAT x0 x1
    have X1 := row_keep b1 HQ.out.1
    obtain ⟨x0, x1⟩ := cells_at2 hb0 hb1 X1
    have q0 := cell_keep b1 HQ.out.2 hgl
    have HB : Hid _ := b1
    have HX : Hid _ := X1
    have hs1 := b1.size
    clear b1 X1
    go_wp2
    have H' : setsR.own w1.drew (Old w S) [.slice (some ⟨g, 0, none⟩) c.1.length cap] c.1 := setsR.own_keep HH.out (keeps_below HB.out.drew)
    obtain ⟨g', cap', g2', cap2', e1, hcell', -, -, -, -, -, st8⟩ := own_put_at H' HG.out.1 HG.out.2
    simp only [Value.slice.injEq, Option.some.injEq, Addr.mk.injEq, and_true, true_and] at e1
    obtain ⟨rfl, -⟩ := e1
    have hcq : w1.drew.cell? ⟨g, sn, none⟩ = some (.slice (some ⟨g2, 0, none⟩) row.length cap2) := q0
    rw [hcq] at hcell'
    simp only [Option.some.injEq, Value.slice.injEq, Addr.mk.injEq, and_true, true_and] at hcell'
    obtain ⟨rfl, -⟩ := hcell'
    have ST : Hid _ := st8
    clear H' st8 hcq
    go_cut [13, 14, 15, 16, 17, 18, 19, 20, 21, 22, 23, 24, 25, 26, 27, 28] (fun _ _ _ _ _ _ _ _ _ _ _ _ _ _ _ _ wx => setsR.own wx (fun k => Old w S k ∨ (w.heap.size ≤ k ∧ k < wx.heap.size)) [.slice (some ⟨g, 0, none⟩) c.1.length cap] (c.1.set sn (row.set fi emptyW)) ∧ Chg (Old w S) w wx)
    case first =>
      go_region_held3 (fun wx => wx.cell? ⟨gb, 0, none⟩ = some (.slice (some ⟨g, 0, none⟩) c.1.length cap) ∧ wx.cell? ⟨g, sn, none⟩ = some (.slice (some ⟨g2, 0, none⟩) row.length cap2)) (first | (go_keep; done) | (exact ⟨set3_cell n0 x0', set3_cell hne q0'⟩)) (first | (go_at_call 69; refine (l6Empty_any _).mono ?_; rintro e w9 ⟨av, cv, rfl, mm⟩; obtain ⟨⟨cur, hcur, hcs⟩, OW, CH⟩ := ST.out w9 _ _ _ _ mm; have X := row_keep (w := w1.drew) mm.2 HX.out; obtain ⟨x0', x1'⟩ := cells_at2 hb0 hb1 X; have q0' := cell_keep (w := w1.drew) mm.2 (by exact q0) (Nat.lt_of_lt_of_le hgl hs1); have c0 : w9.cell? ⟨g2, fi * 3, none⟩ = cur[fi * 3]? := cell_of_row w9 g2 (fi * 3) _ _ (0, 0) hcur; have c1 : w9.cell? ⟨g2, fi * 3 + 1, none⟩ = cur[fi * 3 + 1]? := cell_of_row w9 g2 (fi * 3 + 1) _ _ (0, 0) hcur; have c2 : w9.cell? ⟨g2, fi * 3 + 2, none⟩ = cur[fi * 3 + 2]? := cell_of_row w9 g2 (fi * 3 + 2) _ _ (0, 0) hcur; rw [Array.getElem?_eq_getElem (by omega)] at c0 c1 c2; have f0' := frozen_of_row w9 g2 (fi * 3) _ _ hcur; have f1' := frozen_of_row w9 g2 (fi * 3 + 1) _ _ hcur; have f2' := frozen_of_row w9 g2 (fi * 3 + 2) _ _ hcur; have mms : w1.heap.size ≤ w9.heap.size := mm.2.size))
      all_goals
        go_wp2_with fail
        go_meet
        refine ⟨setsR.own_mono OW ?_, ?_⟩
        · rintro k (h | h)
          · exact .inl h.1
          · exact .inr ⟨by have : w1.heap.size ≤ k := h.1; omega, by have := h.2; have e := set3_size (w := w9) (g := g2) (o := fi * 3) (x := .int .i64 (-1)) (y := .int .i64 0) (z := .slice av 0 cv); unfold set3 at e; omega⟩
        · have a1 : Chg (Old w S) w w1.drew := chg_below HB.out.drew
          exact a1.trans (CH.mono fun k hk => by have e : k = g2 := hk; rw [e]; exact HS.out)
    case rest =>
      have HC : Hid _ := hcut
      clear hcut
      go_wp2
      go_ret
      exact ⟨rfl, HC.out.1, trivial, HC.out.2⟩
theorem drop_bad {c : CacheD} {line : Int} (h : okB isL treeB c = false) : dropI c line = (([], []), false) := by
  unfold dropI dropC
  rw [h]
  rfl
theorem ok_small {c : CacheD} (h : OkC isL treeB c) : c.1.length ≤ 4 ∧ c.2.length ≤ 4 ∧ ∀ row ∈ c.1, row.length ≤ 1048576 ∧ ∀ u ∈ row, u.2.2.length ≤ 1048576 := by
  have h' := h
  obtain ⟨h1, h2, m, hm, h3⟩ := h
  unfold pow3 at h1 hm
  refine ⟨by omega, by omega, fun row hr => ?_⟩
  obtain ⟨s, hs⟩ := List.getElem?_of_mem hr
  refine ⟨by have := (h3 s row hs).1; omega, fun u hu => ?_⟩
  obtain ⟨j, hj⟩ := List.getElem?_of_mem hu
  have := ok_len h' hs hj
  omega

end Go.Proofs.YthbclkpmgcfdnaaGreatDoor
