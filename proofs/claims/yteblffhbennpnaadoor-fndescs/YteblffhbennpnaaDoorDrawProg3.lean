
/- The draws of programs and descs, and of a layout and a list of descs: they read as some, and nothing that was there turns. Conditions: the bytes are at most 2^61. -/
import Derived.Test.YteblffhbennpnaaDoorDrawProg2
import Derived.Test.YteblffhbennpnaaDoorZeros
namespace Go.Proofs.YteblffhbennpnaaDoor
open Go.ChangeShapes Go.WideShapes Go.ChangeAt Go.RowKit
set_option linter.unusedVariables false

def WorkP (w : World) (e : Ending) (w' : World) : Prop :=
  ∃ (ps : List (List OpD)) (a : Option Addr) (cap : Nat) (ds : List DescD) (b : Option Addr) (cp : Nat), e = .returned (.tuple #[.slice a ps.length cap, .slice b ds.length cp]) ∧ ps.length ≤ cap ∧ cap ≤ maxLen ∧ ps.length ≤ 4 ∧ (∀ p ∈ ps, p.length ≤ 5) ∧ ds.length ≤ 5 ∧ SlRd opsR w' a ps ∧ SlRd descR w' b ds ∧ Below w.heap.size w w'
def DescP (w : World) (e : Ending) (w' : World) : Prop :=
  ∃ (cc cs cy cl : Int) (xs : List DescD) (a : Option Addr) (cap : Nat), e = .returned (.tuple #[.agg #[.int .i64 cc, .int .i64 cs, .int .i64 cy, .int .i64 cl], .slice a xs.length cap]) ∧ xs.length ≤ 31 ∧ (∀ u ∈ xs, u.2.2.2.length ≤ 3) ∧ SlRd descR w' a xs ∧ Below w.heap.size w w'
theorem sl_rd {α : Type} {e : TypeId} {R : Rep α} {w : World} {S : Foot} {a : Option Addr} {cap : Nat} {xs : List α} (h : (slR e R).own w S [.slice a xs.length cap] xs) : SlRd R w a xs ∧ xs.length ≤ cap ∧ cap ≤ maxLen := by
  obtain ⟨a', cap', e, h1, h2, h3⟩ := (slR e R).own_rd h
  simp only [List.cons.injEq, Value.slice.injEq, and_true, true_and] at e
  rw [e.1, e.2]
  exact ⟨h3, h1, h2⟩
theorem one_s (a : Option Addr) (n c : Nat) : ∀ u ∈ ([.slice a n c] : List Value), u.oneCell' = true := by
  intro u hu
  simp at hu
  subst hu
  rfl
theorem all5_push {xs : List (List OpD)} {x : List OpD} (h : ∀ u ∈ xs, u.length ≤ 5) (hx : x.length ≤ 5) : ∀ u ∈ xs ++ [x], u.length ≤ 5 := by
  intro u hu
  rcases List.mem_append.1 hu with hu | hu
  · exact h u hu
  · simp at hu; subst hu; exact hx
theorem all3_set {xs : List DescD} {x : DescD} {k : Nat} (h : ∀ u ∈ xs, u.2.2.2.length ≤ 3) (hx : x.2.2.2.length ≤ 3) : ∀ u ∈ xs.set k x, u.2.2.2.length ≤ 3 := by
  intro u hu
  rcases List.mem_or_eq_of_mem_set hu with hu | hu
  · exact h u hu
  · rw [hu]; exact hx
theorem drew_put {α : Type} {R : Rep α} {B g G o : Nat} {w wr : World} {cs cs' : List Value} {x x' : α} {v : Value} (h : DrewR R B g w wr cs x) (ho : R.own (wr.setCell ⟨G, o, none⟩ v) (rng w.heap.size wr.heap.size) cs' x') (hG : w.heap.size ≤ G) (hg : g < w.heap.size) : DrewR R B g w (wr.setCell ⟨G, o, none⟩ v) cs' x' :=
  ⟨R.own_mono ho (rng_sub (Nat.le_refl _) (by simp)), cur_chg (S := fun b => b = G) h.cur chg_set (fun k hk => by have := h.cur.1; omega) (by have := h.cur.1; have := h.chg.size; omega), chg_via h.chg chg_set hG⟩
theorem desc_set1 {w : World} {c : List Value} {x : DescD} {y : Int} (hy : In64 y) (hr : descR.rd w c x) : ∀ W T, descR.own W T c x → descR.own W T (c.set 1 (.int .i64 y)) (x.1, y, x.2.2.1, x.2.2.2) := by
  intro W T ho
  obtain ⟨v, rfl, i1, i2, h⟩ := desc_own ho
  exact own_desc hy i2 h
theorem desc_set2 {w : World} {c : List Value} {x : DescD} {y : Int} (hy : In64 y) (hr : descR.rd w c x) : ∀ W T, descR.own W T c x → descR.own W T (c.set 2 (.int .i64 y)) (x.1, x.2.1, y, x.2.2.2) := by
  intro W T ho
  obtain ⟨v, rfl, i1, i2, h⟩ := desc_own ho
  exact own_desc i1 hy h
theorem desc_set3 {w W : World} {U : Foot} {c : List Value} {x : DescD} {d : List Int} {u : Value} (ho : intsR.own W U [u] d) (hr : descR.rd w c x) : descR.own W U (c.set 3 u) (x.1, x.2.1, x.2.2.1, d) := by
  obtain ⟨a, cap, rfl, i1, i2, -⟩ := desc_rd hr
  exact own_desc i1 i2 ho
theorem Tryd.infoOpsD : (Tryd.prog.info? 34).map (fun i => (i.zero, i.size, i.bytes)) = some (some (.slice none 0 0), 1, 24) := by kernel_rfl
set_option maxRecDepth 20000 in
set_option maxHeartbeats 8000000 in
theorem drawWork_any (a9 : Option Addr) (len cap9 : Nat) (zs : List Int) (w : World) (hr : Row8 w a9 len zs) :
    Calls Tryd.prog 9 #[.slice a9 len cap9] w fun e w' => WorkP w e w' := by
  obtain ⟨i0, hi, hz0, hz1, hz2⟩ := info_parts Tryd.infoOpsD
  go_enter Tryd.func9, Tryd.ntmps9
  go_wp2_with fail
  refine (l1New_any _ _ _ zs _ hr).mono ?_
  rintro e w1 ⟨rfl, hc1, hb1⟩
  have hcl := cur_lt hc1
  have HB : Hid _ := hb1
  have HD0 : Hid _ := drew_none (R := opsR) (e := 34) hc1 (Chg.refl _ w1)
  generalize hgg : w.heap.size = gg at hc1 hcl HD0 ⊢
  have hgw : w.heap.size ≤ gg := by omega
  have C0 := HD0.out.cur
  clear hr hc1 hb1 hgg
  go_wp2_with fail
  refine (l1Below_small gg gg 5 _ C0 (by omega) (by omega)).mono ?_
  rintro e w2 ⟨n, rfl, n0, n1, C1, g1⟩
  have HD1 : Hid _ := drew_grown HD0.out g1 C1 hcl
  obtain ⟨N, rfl⟩ : ∃ N : Nat, n = (N : Int) := ⟨n.toNat, by omega⟩
  clear C0 C1 g1 HD0
  go_wp2
  go_loopw [5, 6] (fun v i wr => ∃ (k : Nat) (ps : List (List OpD)) (a : Option Addr) (cap : Nat), i = .int .i64 k ∧ v = .slice a ps.length cap ∧ ps.length + k = N ∧ (∀ u ∈ ps, u.length ≤ 5) ∧ DrewR opssR gg gg w1 wr [.slice a ps.length cap] ps) (fun _ i _ => (intOf i).toNat)
  case atStart => exact ⟨N, [], _, _, rfl, rfl, by simp, by simp, HD1.out⟩
  case round =>
    obtain ⟨k, ps, a, cap, rfl, rfl, hk, h5, D⟩ := hrel
    have C := D.cur
    by_cases hlt : 0 < k
    · have hlt' : (0 : Int) < (k : Int) := by omega
      have HD : Hid _ := And.intro h5 D
      clear D h5
      go_wp2_with fail
      refine (l11DrawOps_any gg gg 4 6 _ C (by omega) (by omega) (by omega) (by omega)).mono ?_
      rintro e w3 ⟨xs, xa, xc, rfl, hx6, Y⟩
      have HY : Hid _ := Y
      clear Y C
      go_wp2_with (at_builtin; refine wpList_drew rfl _ _ 30 rfl opsR 34 i0 _ 24 Tryd.underlying30 hi hz0 hz1 hz2 rfl (by decide) (by decide) gg gg _ ps [.slice xa xs.length xc] xs _ rfl _ rfl (by simp) HD.out.2 HY.out hcl (one_s _ _ _) (by unfold maxLen; omega) (by omega) ?_)
      intro g' cap' w4 D4
      have HE : Hid _ := And.intro (all5_push HD.out.1 (x := xs) (by omega)) D4
      clear D4 HD HY
      go_wp2
      go_roundw
      case rel => exact ⟨k - 1, ps ++ [xs], _, _, by go_num, by rw [List.length_append]; rfl, by rw [List.length_append]; show ps.length + 1 + (k - 1) = N; omega, HE.out.1, by rw [List.length_append]; exact HE.out.2⟩
      case measure => simp [intOf]; omega
    · have hk0 : k = 0 := by omega
      subst hk0
      have HD : Hid _ := And.intro h5 D
      clear D h5
      go_wp2_with fail
      refine (l11DrawDescs_any gg gg 4 6 _ C (by omega) (by omega) (by omega) (by omega)).mono ?_
      rintro e w3 ⟨ds, b, cp, rfl, hd6, hd3, E⟩
      have k1 := own_chg HD.out.2.own E.chg (fun j hj e => by have := hj.1; omega)
      have k2 := sl_rd k1
      have k3 := sl_rd E.own
      have k4 : Below w.heap.size w w3 := E.chg.below (HD.out.2.chg.below HB.out (fun j hj => by omega) (by have := HB.out.size; omega)) (fun j hj => by omega) (by have := HB.out.size; have := HD.out.2.chg.size; omega)
      have HF : Hid _ := And.intro k2 (And.intro k3 (And.intro k4 HD.out.1))
      clear k1 k2 k3 k4 E HD C hd3
      go_wp2
      go_ret2
      obtain ⟨k2, k3, k4, h5⟩ := HF.out
      exact ⟨ps, a, cap, ds, b, cp, rfl, k2.2.1, k2.2.2, by omega, h5, by omega, k2.1, k3.1, k4⟩
set_option maxRecDepth 20000 in
set_option maxHeartbeats 8000000 in
theorem drawDescCode_any (a9 : Option Addr) (len cap9 : Nat) (zs : List Int) (w : World) (hr : Row8 w a9 len zs) :
    Calls Tryd.prog 7 #[.slice a9 len cap9] w fun e w' => DescP w e w' := by
  obtain ⟨i0, hi, hz0, hz1, hz2⟩ := info_parts Tryd.infoDescD
  have X := heap_at w (.cells #[.int .i64 0, .int .i64 0, .int .i64 0, .int .i64 0] 25)
  have B := box_below w (.cells #[.int .i64 0, .int .i64 0, .int .i64 0, .int .i64 0] 25)
  have hr0 := row8_boxP hr (.cells #[.int .i64 0, .int .i64 0, .int .i64 0, .int .i64 0] 25)
  have e0 : (w.alloc (.cells #[.int .i64 0, .int .i64 0, .int .i64 0, .int .i64 0] 25)).heap.size ≥ w.heap.size + 1 := by simp
  go_enter Tryd.func7, Tryd.ntmps7
  go_wp2_with fail
  generalize w.alloc (.cells #[.int .i64 0, .int .i64 0, .int .i64 0, .int .i64 0] 25) = W0 at X B hr0 e0 ⊢
  refine (l1New_any _ _ _ zs _ hr0).mono ?_
  rintro e w1 ⟨rfl, hc1, hb1⟩
  replace X := row_keep hb1 X
  replace B := below_step B hb1
  have hcl := cur_lt hc1
  generalize hgg : W0.heap.size = gg at hc1 e0 hcl ⊢
  have HX : Hid _ := And.intro X B
  clear hb1 hr0 hr X B hgg
  go_wp2_with fail
  refine (l2DrawAny_any gg gg w1 hc1).mono ?_
  rintro e w2 ⟨cc, cs, cy, cl, rfl, hc2, hg2⟩
  obtain ⟨X, B⟩ := HX.out
  have ch2 := chg_grown (S := fun b => b = gg) hg2 rfl
  have z2 := ch2.size
  have X3 := heap_on (.cells #[.int .i64 cc, .int .i64 cs, .int .i64 cy, .int .i64 cl] 25) ((ch2.block _ (Array.getElem?_eq_some_iff.1 X).1 (by omega)).trans X)
  have Y3 := heap_at w2 (.cells #[.int .i64 cc, .int .i64 cs, .int .i64 cy, .int .i64 cl] 25)
  have B3 := below_step (ch2.below B (fun k hk => by omega) (by omega)) (box_below w2 (.cells #[.int .i64 cc, .int .i64 cs, .int .i64 cy, .int .i64 cl] 25))
  have C3 := cur_alloc hc2 (.cells #[.int .i64 cc, .int .i64 cs, .int .i64 cy, .int .i64 cl] 25)
  have z3 : w2.heap.size < (w2.alloc (.cells #[.int .i64 cc, .int .i64 cs, .int .i64 cy, .int .i64 cl] 25)).heap.size := by simp
  have HH : Hid _ := And.intro X3 (And.intro Y3 (And.intro B3 z3))
  clear X B HX ch2 hc1 hc2 hg2 X3 Y3 B3 z3
  go_wp2_with fail
  generalize w2.alloc (.cells #[.int .i64 cc, .int .i64 cs, .int .i64 cy, .int .i64 cl] 25) = W3 at HH C3 ⊢
  refine (l11DrawDescs_any gg gg 4 6 W3 C3 (by omega) (by omega) (by omega) (by omega)).mono ?_
  rintro e w4 ⟨xs, a, cap, rfl, hxs8, h3, D4⟩
  obtain ⟨X3, Y3, B3, z3⟩ := HH.out
  generalize w2.heap.size = cb at Y3 z3 z2 ⊢
  have D : DP descsR gg w W3 w4 cb cc cs cy cl (.slice a xs.length cap) xs := ⟨D4, X3, Y3, B3, by omega, by omega, z3⟩
  clear D4 X3 Y3 B3 HH C3 z2 z3 e0 hcl
  have hxs : xs.length ≤ 6 := by omega
  have H3 : Hid _ := h3
  clear hxs8 h3
  by_cases hn : xs.length = 0
  · have hn1 : ¬ ((0 : Int) < (xs.length : Int)) := by omega
    clear hn
    have C := D.drew.cur
    go_wp2_with fail
    refine (l1Once_small gg gg 20 _ C (by omega) (by omega)).mono ?_
    rintro e wt ⟨b2, rfl, Ct, gt⟩
    replace D := dp_grown D gt Ct
    clear C Ct gt
    cases b2
    · skip
      obtain ⟨q0, q1, q2, q3⟩ := cells_4 (dp_box D)
      obtain ⟨x0, x1, x2, x3⟩ := cells_4 (dp_res D)
      obtain ⟨f0, f1, f2, f3⟩ := froz_4 (dp_res D)
      have HD : Hid _ := D
      have hlt := D.lt
      clear D
      go_wp2
      obtain ⟨r0, r1, r2, r3⟩ := cells_4 (put_4p (y0 := .int .i64 cc) (y1 := .int .i64 cs) (y2 := .int .i64 cy) (y3 := .int .i64 cl) (dp_res HD.out))
      have c7 : Chg (fun b => b = w.heap.size) wt ((((wt.setCell ⟨w.heap.size, 0, none⟩ (.int .i64 cc)).setCell ⟨w.heap.size, 1, none⟩ (.int .i64 cs)).setCell ⟨w.heap.size, 2, none⟩ (.int .i64 cy)).setCell ⟨w.heap.size, 3, none⟩ (.int .i64 cl)) := (((chg_set).trans chg_set).trans chg_set).trans chg_set
      obtain ⟨k1, k2⟩ := dp_end HD.out c7
      exact bodyPost_ret (v := .tuple #[.agg #[.int .i64 cc, .int .i64 cs, .int .i64 cy, .int .i64 cl], .slice a xs.length cap]) (by simp [results, Tryd.results7, go_sem, r0, r1, r2, r3]) rfl ⟨cc, cs, cy, cl, xs, a, cap, rfl, by omega, H3.out, (sl_rd k1).1, k2⟩
    · have C := D.drew.cur
      have HD0 : Hid _ := D
      clear D H3 hxs
      go_wp2_with fail
      refine (l1Below_small gg gg 2 _ C (by omega) (by omega)).mono ?_
      rintro e wz ⟨z, rfl, z0, z1, Cz, gz⟩
      have D0 := dp_grown HD0.out gz Cz
      obtain ⟨Z, rfl⟩ : ∃ Z : Nat, z = (Z : Int) := ⟨z.toNat, by omega⟩
      have MZ := made_structs (e := 38) (R := descR) wz [.bool false, .int .i64 0, .int .i64 0, .slice none 0 0] (false, 0, 0, []) (30 + Z) rfl (by decide) (fun W => own_desc (small64 (by omega) (by omega)) (small64 (by omega) (by omega)) ⟨_, [], fun _ => False, rfl, World.ownsRow_nil _ _ _ _, fun g hg => by simp [Value.ownBlock] at hg, fun _ h => h.elim, rfl⟩) (by unfold maxLen; omega)
      have DZ : DrewR descsR gg gg W3 _ _ _ := ⟨descsR.own_mono MZ.1 (rng_sub D0.drew.chg.size (Nat.le_refl _)), cur_alloc D0.drew.cur _, D0.drew.chg.trans (chg_below MZ.2)⟩
      have hmk := run_make_wide (P := Tryd.prog) 26 38 (.agg #[.bool false, .int .i64 0, .int .i64 0, .slice none 0 0]) 4 48 Tryd.underlying26 Tryd.infoDescD (30 + Z) (by omega) (by omega)
      have D : DP descsR gg w W3 (wz.alloc (.cells (madeCells #[.bool false, .int .i64 0, .int .i64 0, .slice none 0 0] ((30 + Z) * 4)) 38)) cb cc cs cy cl (.slice (some ⟨wz.heap.size, 0, none⟩) (30 + Z) (30 + Z)) (List.replicate (30 + Z) (false, 0, 0, [])) := dp_with D0 DZ
      obtain ⟨q0, q1, q2, q3⟩ := cells_4 (dp_box D)
      obtain ⟨x0, x1, x2, x3⟩ := cells_4 (dp_res D)
      obtain ⟨f0, f1, f2, f3⟩ := froz_4 (dp_res D)
      have hlt := D.lt
      have HDZ : Hid _ := D
      clear D DZ MZ D0 HD0 C Cz gz
      rw [show ((30 + Z : Nat) : Int) = 30 + (Z : Int) by omega] at hmk
      go_wp2
      have D := HDZ.out
      have hZ : 30 + Z ≤ 31 := by omega
      generalize hWZ : wz.alloc (.cells (madeCells #[.bool false, .int .i64 0, .int .i64 0, .slice none 0 0] ((30 + Z) * 4)) 38) = WZ at D ⊢
      obtain ⟨r0, r1, r2, r3⟩ := cells_4 (put_4p (y0 := .int .i64 cc) (y1 := .int .i64 cs) (y2 := .int .i64 cy) (y3 := .int .i64 cl) (dp_res D))
      have c7 : Chg (fun b => b = w.heap.size) WZ ((((WZ.setCell ⟨w.heap.size, 0, none⟩ (.int .i64 cc)).setCell ⟨w.heap.size, 1, none⟩ (.int .i64 cs)).setCell ⟨w.heap.size, 2, none⟩ (.int .i64 cy)).setCell ⟨w.heap.size, 3, none⟩ (.int .i64 cl)) := (((chg_set).trans chg_set).trans chg_set).trans chg_set
      obtain ⟨k1, k2⟩ := dp_end D c7
      have e9 : (List.replicate (30 + Z) ((false, 0, 0, []) : DescD)).length = 30 + Z := List.length_replicate
      refine bodyPost_ret (v := .tuple #[.agg #[.int .i64 cc, .int .i64 cs, .int .i64 cy, .int .i64 cl], .slice (some ⟨wz.heap.size, 0, none⟩) (30 + Z) (30 + Z)]) (by simp [results, Tryd.results7, go_sem, r0, r1, r2, r3]) rfl ⟨cc, cs, cy, cl, List.replicate (30 + Z) (false, 0, 0, []), some ⟨wz.heap.size, 0, none⟩, 30 + Z, by rw [e9], by rw [e9]; exact hZ, fun u hu => by rw [List.eq_of_mem_replicate hu]; simp, (sl_rd (cap := 30 + Z) (by rw [e9]; exact k1)).1, k2⟩
  · have hn1 : (0 : Int) < (xs.length : Int) := by omega
    clear hn
    have C := D.drew.cur
    go_wp2_with fail
    refine (l1Once_small gg gg 4 _ C (by omega) (by omega)).mono ?_
    rintro e w5 ⟨b, rfl, C5, g5⟩
    replace D := dp_grown D g5 C5
    clear C C5 g5
    cases b
    · skip
      have C := D.drew.cur
      go_wp2_with fail
      refine (l1Once_small gg gg 20 _ C (by omega) (by omega)).mono ?_
      rintro e wt ⟨b2, rfl, Ct, gt⟩
      replace D := dp_grown D gt Ct
      clear C Ct gt
      cases b2
      · skip
        obtain ⟨q0, q1, q2, q3⟩ := cells_4 (dp_box D)
        obtain ⟨x0, x1, x2, x3⟩ := cells_4 (dp_res D)
        obtain ⟨f0, f1, f2, f3⟩ := froz_4 (dp_res D)
        have HD : Hid _ := D
        have hlt := D.lt
        clear D
        go_wp2
        obtain ⟨r0, r1, r2, r3⟩ := cells_4 (put_4p (y0 := .int .i64 cc) (y1 := .int .i64 cs) (y2 := .int .i64 cy) (y3 := .int .i64 cl) (dp_res HD.out))
        have c7 : Chg (fun b => b = w.heap.size) wt ((((wt.setCell ⟨w.heap.size, 0, none⟩ (.int .i64 cc)).setCell ⟨w.heap.size, 1, none⟩ (.int .i64 cs)).setCell ⟨w.heap.size, 2, none⟩ (.int .i64 cy)).setCell ⟨w.heap.size, 3, none⟩ (.int .i64 cl)) := (((chg_set).trans chg_set).trans chg_set).trans chg_set
        obtain ⟨k1, k2⟩ := dp_end HD.out c7
        exact bodyPost_ret (v := .tuple #[.agg #[.int .i64 cc, .int .i64 cs, .int .i64 cy, .int .i64 cl], .slice a xs.length cap]) (by simp [results, Tryd.results7, go_sem, r0, r1, r2, r3]) rfl ⟨cc, cs, cy, cl, xs, a, cap, rfl, by omega, H3.out, (sl_rd k1).1, k2⟩
      · have C := D.drew.cur
        have HD0 : Hid _ := D
        clear D H3 hxs
        go_wp2_with fail
        refine (l1Below_small gg gg 2 _ C (by omega) (by omega)).mono ?_
        rintro e wz ⟨z, rfl, z0, z1, Cz, gz⟩
        have D0 := dp_grown HD0.out gz Cz
        obtain ⟨Z, rfl⟩ : ∃ Z : Nat, z = (Z : Int) := ⟨z.toNat, by omega⟩
        have MZ := made_structs (e := 38) (R := descR) wz [.bool false, .int .i64 0, .int .i64 0, .slice none 0 0] (false, 0, 0, []) (30 + Z) rfl (by decide) (fun W => own_desc (small64 (by omega) (by omega)) (small64 (by omega) (by omega)) ⟨_, [], fun _ => False, rfl, World.ownsRow_nil _ _ _ _, fun g hg => by simp [Value.ownBlock] at hg, fun _ h => h.elim, rfl⟩) (by unfold maxLen; omega)
        have DZ : DrewR descsR gg gg W3 _ _ _ := ⟨descsR.own_mono MZ.1 (rng_sub D0.drew.chg.size (Nat.le_refl _)), cur_alloc D0.drew.cur _, D0.drew.chg.trans (chg_below MZ.2)⟩
        have hmk := run_make_wide (P := Tryd.prog) 26 38 (.agg #[.bool false, .int .i64 0, .int .i64 0, .slice none 0 0]) 4 48 Tryd.underlying26 Tryd.infoDescD (30 + Z) (by omega) (by omega)
        have D : DP descsR gg w W3 (wz.alloc (.cells (madeCells #[.bool false, .int .i64 0, .int .i64 0, .slice none 0 0] ((30 + Z) * 4)) 38)) cb cc cs cy cl (.slice (some ⟨wz.heap.size, 0, none⟩) (30 + Z) (30 + Z)) (List.replicate (30 + Z) (false, 0, 0, [])) := dp_with D0 DZ
        obtain ⟨q0, q1, q2, q3⟩ := cells_4 (dp_box D)
        obtain ⟨x0, x1, x2, x3⟩ := cells_4 (dp_res D)
        obtain ⟨f0, f1, f2, f3⟩ := froz_4 (dp_res D)
        have hlt := D.lt
        have HDZ : Hid _ := D
        clear D DZ MZ D0 HD0 C Cz gz
        rw [show ((30 + Z : Nat) : Int) = 30 + (Z : Int) by omega] at hmk
        go_wp2
        have D := HDZ.out
        have hZ : 30 + Z ≤ 31 := by omega
        generalize hWZ : wz.alloc (.cells (madeCells #[.bool false, .int .i64 0, .int .i64 0, .slice none 0 0] ((30 + Z) * 4)) 38) = WZ at D ⊢
        obtain ⟨r0, r1, r2, r3⟩ := cells_4 (put_4p (y0 := .int .i64 cc) (y1 := .int .i64 cs) (y2 := .int .i64 cy) (y3 := .int .i64 cl) (dp_res D))
        have c7 : Chg (fun b => b = w.heap.size) WZ ((((WZ.setCell ⟨w.heap.size, 0, none⟩ (.int .i64 cc)).setCell ⟨w.heap.size, 1, none⟩ (.int .i64 cs)).setCell ⟨w.heap.size, 2, none⟩ (.int .i64 cy)).setCell ⟨w.heap.size, 3, none⟩ (.int .i64 cl)) := (((chg_set).trans chg_set).trans chg_set).trans chg_set
        obtain ⟨k1, k2⟩ := dp_end D c7
        have e9 : (List.replicate (30 + Z) ((false, 0, 0, []) : DescD)).length = 30 + Z := List.length_replicate
        refine bodyPost_ret (v := .tuple #[.agg #[.int .i64 cc, .int .i64 cs, .int .i64 cy, .int .i64 cl], .slice (some ⟨wz.heap.size, 0, none⟩) (30 + Z) (30 + Z)]) (by simp [results, Tryd.results7, go_sem, r0, r1, r2, r3]) rfl ⟨cc, cs, cy, cl, List.replicate (30 + Z) (false, 0, 0, []), some ⟨wz.heap.size, 0, none⟩, 30 + Z, by rw [e9], by rw [e9]; exact hZ, fun u hu => by rw [List.eq_of_mem_replicate hu]; simp, (sl_rd (cap := 30 + Z) (by rw [e9]; exact k1)).1, k2⟩
    · have C := D.drew.cur
      go_wp2_with fail
      refine (l1Below_small gg gg (xs.length : Int) _ C hn1 (by omega)).mono ?_
      rintro e w6 ⟨ix, rfl, ix0, ix1, C6, g6⟩
      replace D := dp_grown D g6 C6
      clear C C6 g6
      obtain ⟨K, rfl⟩ : ∃ K : Nat, ix = (K : Int) := ⟨ix.toNat, by omega⟩
      have hK : K < xs.length := by omega
      obtain ⟨x, hx⟩ : ∃ x, xs[K]? = some x := ⟨_, List.getElem?_eq_getElem hK⟩
      obtain ⟨G, capG, Sj, Tj, cj, hv, -, -⟩ := elem_focus D.drew.own hx
      simp only [Value.slice.injEq, true_and] at hv
      obtain ⟨rfl, rfl⟩ := hv
      have C := D.drew.cur
      go_wp2_with fail
      refine (l1Below_small gg gg 3 _ C (by omega) (by omega)).mono ?_
      rintro e w7 ⟨kd, rfl, kd0, kd1, C7, g7⟩
      replace D := dp_grown D g7 C7
      clear C C7 g7
      have hG : W3.heap.size ≤ G := by
        obtain ⟨g2, c2, S2, T2, cj2, hv2, hS2, -⟩ := elem_focus D.drew.own hx
        simp only [Value.slice.injEq, Option.some.injEq, Addr.mk.injEq, and_true, true_and] at hv2
        obtain ⟨rfl, rfl⟩ := hv2
        exact hS2.1
      have hg3 : gg < W3.heap.size := by have := D.lt; omega
      obtain rfl | rfl | rfl : kd = 0 ∨ kd = 1 ∨ kd = 2 := by omega
      · have hgs := cur_lt D.drew.cur
        have C := cur_alloc D.drew.cur (.cells #[.int .i64 (-1), .int .i64 15, .int .i64 16] 2)
        have HD : Hid _ := dp_with D (drew_alloc D.drew (.cells #[.int .i64 (-1), .int .i64 15, .int .i64 16] 2) hg3)
        clear D
        go_wp2_with fail
        refine (l1Below_small gg gg 3 _ C (by omega) (by omega)).mono ?_
        rintro e w8 ⟨kz, rfl, kz0, kz1, C8, g8⟩
        obtain ⟨y, hy, hy64⟩ := lit_cellP (n := 3) g8 hgs kz kz0 kz1 (by
          intro j hj
          obtain rfl | rfl | rfl : j = 0 ∨ j = 1 ∨ j = 2 := by omega
          all_goals exact ⟨_, rfl, by decide, by decide⟩)
        have D := dp_grown HD.out g8 C8
        clear C C8 g8 HD
        obtain ⟨G1, cap1, Sj, Tj, cj, hv, -, ob, -⟩ := elem_focus D.drew.own hx
        simp only [Value.slice.injEq, Option.some.injEq, Addr.mk.injEq, and_true, true_and] at hv
        obtain ⟨rfl, rfl⟩ := hv
        obtain ⟨vd, rfl, -, -, -⟩ := desc_own ob.own
        have y0 := at_cell0 ob.lies
        have y1 := at_cell ob.lies 1 rfl
        have y2 := at_cell ob.lies 2 rfl
        have y3 := at_cell ob.lies 3 rfl
        have t1 := at_froz ob.lies 1
        have t2 := at_froz ob.lies 2
        have t3 := at_froz ob.lies 3
        rw [show K * descR.size = K * 4 from rfl] at y0 y1 y2 y3 t1 t2 t3
        have O9 := elem_set (i := 1) (v := .int .i64 y) D.drew.own hx (by decide) (fun c hr => desc_set1 hy64 hr)
        have E := dp_with D (drew_put D.drew O9 hG hg3)
        have HE : Hid _ := And.intro E (all3_set (k := K) H3.out (x := (x.1, y, x.2.2.1, x.2.2.2)) (H3.out x (List.mem_of_getElem? hx)))
        have C := E.drew.cur
        clear D E O9 ob H3
        go_wp2_with fail
        obtain ⟨D, h3⟩ := HE.out
        replace D : DP descsR gg w W3 (w8.setCell ⟨G, K * 4 + 1, none⟩ (.int .i64 y)) cb cc cs cy cl (.slice (some ⟨G, 0, none⟩) xs.length cap) (xs.set K (x.1, y, x.2.2.1, x.2.2.2)) := D
        clear HE y0 y1 y2 y3 t1 t2 t3 C
        generalize w8.setCell ⟨G, K * 4 + 1, none⟩ (.int .i64 y) = W9 at D ⊢
        have hx9 : (xs.set K (x.1, y, x.2.2.1, x.2.2.2)).length ≤ 6 := by rw [List.length_set]; exact hxs
        rw [show xs.length = (xs.set K (x.1, y, x.2.2.1, x.2.2.2)).length from (List.length_set ..).symm] at D
        rw [show xs.length = (xs.set K (x.1, y, x.2.2.1, x.2.2.2)).length from (List.length_set ..).symm]
        generalize xs.set K (x.1, y, x.2.2.1, x.2.2.2) = xs at D h3 hx9 ⊢
        generalize (some (⟨G, 0, none⟩ : Addr)) = a at D ⊢
        have H3 : Hid _ := h3
        have hxs := hx9
        clear h3 hx9
        have C := D.drew.cur
        skip
        refine (l1Once_small gg gg 20 _ C (by omega) (by omega)).mono ?_
        rintro e wt ⟨b2, rfl, Ct, gt⟩
        replace D := dp_grown D gt Ct
        clear C Ct gt
        cases b2
        · skip
          obtain ⟨q0, q1, q2, q3⟩ := cells_4 (dp_box D)
          obtain ⟨x0, x1, x2, x3⟩ := cells_4 (dp_res D)
          obtain ⟨f0, f1, f2, f3⟩ := froz_4 (dp_res D)
          have HD : Hid _ := D
          have hlt := D.lt
          clear D
          go_wp2
          obtain ⟨r0, r1, r2, r3⟩ := cells_4 (put_4p (y0 := .int .i64 cc) (y1 := .int .i64 cs) (y2 := .int .i64 cy) (y3 := .int .i64 cl) (dp_res HD.out))
          have c7 : Chg (fun b => b = w.heap.size) wt ((((wt.setCell ⟨w.heap.size, 0, none⟩ (.int .i64 cc)).setCell ⟨w.heap.size, 1, none⟩ (.int .i64 cs)).setCell ⟨w.heap.size, 2, none⟩ (.int .i64 cy)).setCell ⟨w.heap.size, 3, none⟩ (.int .i64 cl)) := (((chg_set).trans chg_set).trans chg_set).trans chg_set
          obtain ⟨k1, k2⟩ := dp_end HD.out c7
          exact bodyPost_ret (v := .tuple #[.agg #[.int .i64 cc, .int .i64 cs, .int .i64 cy, .int .i64 cl], .slice a xs.length cap]) (by simp [results, Tryd.results7, go_sem, r0, r1, r2, r3]) rfl ⟨cc, cs, cy, cl, xs, a, cap, rfl, by omega, H3.out, (sl_rd k1).1, k2⟩
        · have C := D.drew.cur
          have HD0 : Hid _ := D
          clear D H3 hxs
          go_wp2_with fail
          refine (l1Below_small gg gg 2 _ C (by omega) (by omega)).mono ?_
          rintro e wz ⟨z, rfl, z0, z1, Cz, gz⟩
          have D0 := dp_grown HD0.out gz Cz
          obtain ⟨Z, rfl⟩ : ∃ Z : Nat, z = (Z : Int) := ⟨z.toNat, by omega⟩
          have MZ := made_structs (e := 38) (R := descR) wz [.bool false, .int .i64 0, .int .i64 0, .slice none 0 0] (false, 0, 0, []) (30 + Z) rfl (by decide) (fun W => own_desc (small64 (by omega) (by omega)) (small64 (by omega) (by omega)) ⟨_, [], fun _ => False, rfl, World.ownsRow_nil _ _ _ _, fun g hg => by simp [Value.ownBlock] at hg, fun _ h => h.elim, rfl⟩) (by unfold maxLen; omega)
          have DZ : DrewR descsR gg gg W3 _ _ _ := ⟨descsR.own_mono MZ.1 (rng_sub D0.drew.chg.size (Nat.le_refl _)), cur_alloc D0.drew.cur _, D0.drew.chg.trans (chg_below MZ.2)⟩
          have hmk := run_make_wide (P := Tryd.prog) 26 38 (.agg #[.bool false, .int .i64 0, .int .i64 0, .slice none 0 0]) 4 48 Tryd.underlying26 Tryd.infoDescD (30 + Z) (by omega) (by omega)
          have D : DP descsR gg w W3 (wz.alloc (.cells (madeCells #[.bool false, .int .i64 0, .int .i64 0, .slice none 0 0] ((30 + Z) * 4)) 38)) cb cc cs cy cl (.slice (some ⟨wz.heap.size, 0, none⟩) (30 + Z) (30 + Z)) (List.replicate (30 + Z) (false, 0, 0, [])) := dp_with D0 DZ
          obtain ⟨q0, q1, q2, q3⟩ := cells_4 (dp_box D)
          obtain ⟨x0, x1, x2, x3⟩ := cells_4 (dp_res D)
          obtain ⟨f0, f1, f2, f3⟩ := froz_4 (dp_res D)
          have hlt := D.lt
          have HDZ : Hid _ := D
          clear D DZ MZ D0 HD0 C Cz gz
          rw [show ((30 + Z : Nat) : Int) = 30 + (Z : Int) by omega] at hmk
          go_wp2
          have D := HDZ.out
          have hZ : 30 + Z ≤ 31 := by omega
          generalize hWZ : wz.alloc (.cells (madeCells #[.bool false, .int .i64 0, .int .i64 0, .slice none 0 0] ((30 + Z) * 4)) 38) = WZ at D ⊢
          obtain ⟨r0, r1, r2, r3⟩ := cells_4 (put_4p (y0 := .int .i64 cc) (y1 := .int .i64 cs) (y2 := .int .i64 cy) (y3 := .int .i64 cl) (dp_res D))
          have c7 : Chg (fun b => b = w.heap.size) WZ ((((WZ.setCell ⟨w.heap.size, 0, none⟩ (.int .i64 cc)).setCell ⟨w.heap.size, 1, none⟩ (.int .i64 cs)).setCell ⟨w.heap.size, 2, none⟩ (.int .i64 cy)).setCell ⟨w.heap.size, 3, none⟩ (.int .i64 cl)) := (((chg_set).trans chg_set).trans chg_set).trans chg_set
          obtain ⟨k1, k2⟩ := dp_end D c7
          have e9 : (List.replicate (30 + Z) ((false, 0, 0, []) : DescD)).length = 30 + Z := List.length_replicate
          refine bodyPost_ret (v := .tuple #[.agg #[.int .i64 cc, .int .i64 cs, .int .i64 cy, .int .i64 cl], .slice (some ⟨wz.heap.size, 0, none⟩) (30 + Z) (30 + Z)]) (by simp [results, Tryd.results7, go_sem, r0, r1, r2, r3]) rfl ⟨cc, cs, cy, cl, List.replicate (30 + Z) (false, 0, 0, []), some ⟨wz.heap.size, 0, none⟩, 30 + Z, by rw [e9], by rw [e9]; exact hZ, fun u hu => by rw [List.eq_of_mem_replicate hu]; simp, (sl_rd (cap := 30 + Z) (by rw [e9]; exact k1)).1, k2⟩
      · have C := D.drew.cur
        have HD : Hid _ := D
        clear D
        go_wp2_with fail
        refine (l1From_small gg gg (-1) 6 _ C (by omega) (by omega) (by omega) (by omega)).mono ?_
        rintro e w8 ⟨y, rfl, yy0, yy1, C8, g8⟩
        have hy64 : In64 y := small64 (by omega) (by omega)
        have D := dp_grown HD.out g8 C8
        clear C C8 g8 HD
        obtain ⟨G1, cap1, Sj, Tj, cj, hv, -, ob, -⟩ := elem_focus D.drew.own hx
        simp only [Value.slice.injEq, Option.some.injEq, Addr.mk.injEq, and_true, true_and] at hv
        obtain ⟨rfl, rfl⟩ := hv
        obtain ⟨vd, rfl, -, -, -⟩ := desc_own ob.own
        have y0 := at_cell0 ob.lies
        have y1 := at_cell ob.lies 1 rfl
        have y2 := at_cell ob.lies 2 rfl
        have y3 := at_cell ob.lies 3 rfl
        have t1 := at_froz ob.lies 1
        have t2 := at_froz ob.lies 2
        have t3 := at_froz ob.lies 3
        rw [show K * descR.size = K * 4 from rfl] at y0 y1 y2 y3 t1 t2 t3
        have O9 := elem_set (i := 2) (v := .int .i64 y) D.drew.own hx (by decide) (fun c hr => desc_set2 hy64 hr)
        have E := dp_with D (drew_put D.drew O9 hG hg3)
        have HE : Hid _ := And.intro E (all3_set (k := K) H3.out (x := (x.1, x.2.1, y, x.2.2.2)) (H3.out x (List.mem_of_getElem? hx)))
        clear D E O9 ob H3
        go_wp2_with fail
        obtain ⟨D, h3⟩ := HE.out
        replace D : DP descsR gg w W3 (w8.setCell ⟨G, K * 4 + 2, none⟩ (.int .i64 y)) cb cc cs cy cl (.slice (some ⟨G, 0, none⟩) xs.length cap) (xs.set K (x.1, x.2.1, y, x.2.2.2)) := D
        clear HE y0 y1 y2 y3 t1 t2 t3
        generalize w8.setCell ⟨G, K * 4 + 2, none⟩ (.int .i64 y) = W9 at D ⊢
        have hx9 : (xs.set K (x.1, x.2.1, y, x.2.2.2)).length ≤ 6 := by rw [List.length_set]; exact hxs
        rw [show xs.length = (xs.set K (x.1, x.2.1, y, x.2.2.2)).length from (List.length_set ..).symm] at D
        rw [show xs.length = (xs.set K (x.1, x.2.1, y, x.2.2.2)).length from (List.length_set ..).symm]
        generalize xs.set K (x.1, x.2.1, y, x.2.2.2) = xs at D h3 hx9 ⊢
        generalize (some (⟨G, 0, none⟩ : Addr)) = a at D ⊢
        have H3 : Hid _ := h3
        have hxs := hx9
        clear h3 hx9
        have C := D.drew.cur
        skip
        refine (l1Once_small gg gg 20 _ C (by omega) (by omega)).mono ?_
        rintro e wt ⟨b2, rfl, Ct, gt⟩
        replace D := dp_grown D gt Ct
        clear C Ct gt
        cases b2
        · skip
          obtain ⟨q0, q1, q2, q3⟩ := cells_4 (dp_box D)
          obtain ⟨x0, x1, x2, x3⟩ := cells_4 (dp_res D)
          obtain ⟨f0, f1, f2, f3⟩ := froz_4 (dp_res D)
          have HD : Hid _ := D
          have hlt := D.lt
          clear D
          go_wp2
          obtain ⟨r0, r1, r2, r3⟩ := cells_4 (put_4p (y0 := .int .i64 cc) (y1 := .int .i64 cs) (y2 := .int .i64 cy) (y3 := .int .i64 cl) (dp_res HD.out))
          have c7 : Chg (fun b => b = w.heap.size) wt ((((wt.setCell ⟨w.heap.size, 0, none⟩ (.int .i64 cc)).setCell ⟨w.heap.size, 1, none⟩ (.int .i64 cs)).setCell ⟨w.heap.size, 2, none⟩ (.int .i64 cy)).setCell ⟨w.heap.size, 3, none⟩ (.int .i64 cl)) := (((chg_set).trans chg_set).trans chg_set).trans chg_set
          obtain ⟨k1, k2⟩ := dp_end HD.out c7
          exact bodyPost_ret (v := .tuple #[.agg #[.int .i64 cc, .int .i64 cs, .int .i64 cy, .int .i64 cl], .slice a xs.length cap]) (by simp [results, Tryd.results7, go_sem, r0, r1, r2, r3]) rfl ⟨cc, cs, cy, cl, xs, a, cap, rfl, by omega, H3.out, (sl_rd k1).1, k2⟩
        · have C := D.drew.cur
          have HD0 : Hid _ := D
          clear D H3 hxs
          go_wp2_with fail
          refine (l1Below_small gg gg 2 _ C (by omega) (by omega)).mono ?_
          rintro e wz ⟨z, rfl, z0, z1, Cz, gz⟩
          have D0 := dp_grown HD0.out gz Cz
          obtain ⟨Z, rfl⟩ : ∃ Z : Nat, z = (Z : Int) := ⟨z.toNat, by omega⟩
          have MZ := made_structs (e := 38) (R := descR) wz [.bool false, .int .i64 0, .int .i64 0, .slice none 0 0] (false, 0, 0, []) (30 + Z) rfl (by decide) (fun W => own_desc (small64 (by omega) (by omega)) (small64 (by omega) (by omega)) ⟨_, [], fun _ => False, rfl, World.ownsRow_nil _ _ _ _, fun g hg => by simp [Value.ownBlock] at hg, fun _ h => h.elim, rfl⟩) (by unfold maxLen; omega)
          have DZ : DrewR descsR gg gg W3 _ _ _ := ⟨descsR.own_mono MZ.1 (rng_sub D0.drew.chg.size (Nat.le_refl _)), cur_alloc D0.drew.cur _, D0.drew.chg.trans (chg_below MZ.2)⟩
          have hmk := run_make_wide (P := Tryd.prog) 26 38 (.agg #[.bool false, .int .i64 0, .int .i64 0, .slice none 0 0]) 4 48 Tryd.underlying26 Tryd.infoDescD (30 + Z) (by omega) (by omega)
          have D : DP descsR gg w W3 (wz.alloc (.cells (madeCells #[.bool false, .int .i64 0, .int .i64 0, .slice none 0 0] ((30 + Z) * 4)) 38)) cb cc cs cy cl (.slice (some ⟨wz.heap.size, 0, none⟩) (30 + Z) (30 + Z)) (List.replicate (30 + Z) (false, 0, 0, [])) := dp_with D0 DZ
          obtain ⟨q0, q1, q2, q3⟩ := cells_4 (dp_box D)
          obtain ⟨x0, x1, x2, x3⟩ := cells_4 (dp_res D)
          obtain ⟨f0, f1, f2, f3⟩ := froz_4 (dp_res D)
          have hlt := D.lt
          have HDZ : Hid _ := D
          clear D DZ MZ D0 HD0 C Cz gz
          rw [show ((30 + Z : Nat) : Int) = 30 + (Z : Int) by omega] at hmk
          go_wp2
          have D := HDZ.out
          have hZ : 30 + Z ≤ 31 := by omega
          generalize hWZ : wz.alloc (.cells (madeCells #[.bool false, .int .i64 0, .int .i64 0, .slice none 0 0] ((30 + Z) * 4)) 38) = WZ at D ⊢
          obtain ⟨r0, r1, r2, r3⟩ := cells_4 (put_4p (y0 := .int .i64 cc) (y1 := .int .i64 cs) (y2 := .int .i64 cy) (y3 := .int .i64 cl) (dp_res D))
          have c7 : Chg (fun b => b = w.heap.size) WZ ((((WZ.setCell ⟨w.heap.size, 0, none⟩ (.int .i64 cc)).setCell ⟨w.heap.size, 1, none⟩ (.int .i64 cs)).setCell ⟨w.heap.size, 2, none⟩ (.int .i64 cy)).setCell ⟨w.heap.size, 3, none⟩ (.int .i64 cl)) := (((chg_set).trans chg_set).trans chg_set).trans chg_set
          obtain ⟨k1, k2⟩ := dp_end D c7
          have e9 : (List.replicate (30 + Z) ((false, 0, 0, []) : DescD)).length = 30 + Z := List.length_replicate
          refine bodyPost_ret (v := .tuple #[.agg #[.int .i64 cc, .int .i64 cs, .int .i64 cy, .int .i64 cl], .slice (some ⟨wz.heap.size, 0, none⟩) (30 + Z) (30 + Z)]) (by simp [results, Tryd.results7, go_sem, r0, r1, r2, r3]) rfl ⟨cc, cs, cy, cl, List.replicate (30 + Z) (false, 0, 0, []), some ⟨wz.heap.size, 0, none⟩, 30 + Z, by rw [e9], by rw [e9]; exact hZ, fun u hu => by rw [List.eq_of_mem_replicate hu]; simp, (sl_rd (cap := 30 + Z) (by rw [e9]; exact k1)).1, k2⟩
      · have C := D.drew.cur
        have HD : Hid _ := D
        clear D
        go_wp2_with fail
        refine (l3DrawAny_rep gg gg _ C).mono ?_
        rintro e w8 ⟨vl, ls, rfl, hl3, hl64, gl, cpl, rfl, gl1, OL, C8, g8⟩
        have hgl := (owni_lt OL).2
        have hs8 := g8.size
        have O7 := own_chg HD.out.drew.own (chg_grown (S := fun b => b = gg) g8 rfl) (fun j hj e => by have := hj.1; omega)
        have OU : intsR.own w8 (fun k => k = gl) [.slice (some ⟨gl, 0, none⟩) ls.length cpl] ls := own_of OL rfl hl64
        have O9 := elem_put (i := 3) (v := .slice (some ⟨gl, 0, none⟩) ls.length cpl) (U := fun k => k = gl) O7 hx (by decide) (fun k h1 h2 => by have := h2.2; omega) (fun c hr => desc_set3 OU hr)
        have D := dp_grown HD.out g8 C8
        have O8 := descsR.own_mono O9 (T := rng W3.heap.size w8.heap.size) (fun k hk => by
          rcases hk with hk | hk
          · exact ⟨hk.1, by have := hk.2; omega⟩
          · exact ⟨by have := HD.out.drew.chg.size; omega, by omega⟩)
        clear C C8 g8 HD O9 O7 OU OL
        obtain ⟨G1, cap1, Sj, Tj, cj, hv, -, ob, -⟩ := elem_focus D.drew.own hx
        simp only [Value.slice.injEq, Option.some.injEq, Addr.mk.injEq, and_true, true_and] at hv
        obtain ⟨rfl, rfl⟩ := hv
        obtain ⟨vd, rfl, -, -, -⟩ := desc_own ob.own
        have y0 := at_cell0 ob.lies
        have y1 := at_cell ob.lies 1 rfl
        have y2 := at_cell ob.lies 2 rfl
        have y3 := at_cell ob.lies 3 rfl
        have t1 := at_froz ob.lies 1
        have t2 := at_froz ob.lies 2
        have t3 := at_froz ob.lies 3
        rw [show K * descR.size = K * 4 from rfl] at y0 y1 y2 y3 t1 t2 t3
        have E := dp_with D (drew_put D.drew O8 hG hg3)
        have O9 := O8
        clear O8
        have HE : Hid _ := And.intro E (all3_set (k := K) H3.out (x := (x.1, x.2.1, x.2.2.1, ls)) (hl3))
        clear D E O9 ob H3
        go_wp2_with fail
        obtain ⟨D, h3⟩ := HE.out
        replace D : DP descsR gg w W3 (w8.setCell ⟨G, K * 4 + 3, none⟩ (.slice (some ⟨gl, 0, none⟩) ls.length cpl)) cb cc cs cy cl (.slice (some ⟨G, 0, none⟩) xs.length cap) (xs.set K (x.1, x.2.1, x.2.2.1, ls)) := D
        clear HE y0 y1 y2 y3 t1 t2 t3
        generalize w8.setCell ⟨G, K * 4 + 3, none⟩ (.slice (some ⟨gl, 0, none⟩) ls.length cpl) = W9 at D ⊢
        have hx9 : (xs.set K (x.1, x.2.1, x.2.2.1, ls)).length ≤ 6 := by rw [List.length_set]; exact hxs
        rw [show xs.length = (xs.set K (x.1, x.2.1, x.2.2.1, ls)).length from (List.length_set ..).symm] at D
        rw [show xs.length = (xs.set K (x.1, x.2.1, x.2.2.1, ls)).length from (List.length_set ..).symm]
        generalize xs.set K (x.1, x.2.1, x.2.2.1, ls) = xs at D h3 hx9 ⊢
        generalize (some (⟨G, 0, none⟩ : Addr)) = a at D ⊢
        have H3 : Hid _ := h3
        have hxs := hx9
        clear h3 hx9
        have C := D.drew.cur
        skip
        refine (l1Once_small gg gg 20 _ C (by omega) (by omega)).mono ?_
        rintro e wt ⟨b2, rfl, Ct, gt⟩
        replace D := dp_grown D gt Ct
        clear C Ct gt
        cases b2
        · skip
          obtain ⟨q0, q1, q2, q3⟩ := cells_4 (dp_box D)
          obtain ⟨x0, x1, x2, x3⟩ := cells_4 (dp_res D)
          obtain ⟨f0, f1, f2, f3⟩ := froz_4 (dp_res D)
          have HD : Hid _ := D
          have hlt := D.lt
          clear D
          go_wp2
          obtain ⟨r0, r1, r2, r3⟩ := cells_4 (put_4p (y0 := .int .i64 cc) (y1 := .int .i64 cs) (y2 := .int .i64 cy) (y3 := .int .i64 cl) (dp_res HD.out))
          have c7 : Chg (fun b => b = w.heap.size) wt ((((wt.setCell ⟨w.heap.size, 0, none⟩ (.int .i64 cc)).setCell ⟨w.heap.size, 1, none⟩ (.int .i64 cs)).setCell ⟨w.heap.size, 2, none⟩ (.int .i64 cy)).setCell ⟨w.heap.size, 3, none⟩ (.int .i64 cl)) := (((chg_set).trans chg_set).trans chg_set).trans chg_set
          obtain ⟨k1, k2⟩ := dp_end HD.out c7
          exact bodyPost_ret (v := .tuple #[.agg #[.int .i64 cc, .int .i64 cs, .int .i64 cy, .int .i64 cl], .slice a xs.length cap]) (by simp [results, Tryd.results7, go_sem, r0, r1, r2, r3]) rfl ⟨cc, cs, cy, cl, xs, a, cap, rfl, by omega, H3.out, (sl_rd k1).1, k2⟩
        · have C := D.drew.cur
          have HD0 : Hid _ := D
          clear D H3 hxs
          go_wp2_with fail
          refine (l1Below_small gg gg 2 _ C (by omega) (by omega)).mono ?_
          rintro e wz ⟨z, rfl, z0, z1, Cz, gz⟩
          have D0 := dp_grown HD0.out gz Cz
          obtain ⟨Z, rfl⟩ : ∃ Z : Nat, z = (Z : Int) := ⟨z.toNat, by omega⟩
          have MZ := made_structs (e := 38) (R := descR) wz [.bool false, .int .i64 0, .int .i64 0, .slice none 0 0] (false, 0, 0, []) (30 + Z) rfl (by decide) (fun W => own_desc (small64 (by omega) (by omega)) (small64 (by omega) (by omega)) ⟨_, [], fun _ => False, rfl, World.ownsRow_nil _ _ _ _, fun g hg => by simp [Value.ownBlock] at hg, fun _ h => h.elim, rfl⟩) (by unfold maxLen; omega)
          have DZ : DrewR descsR gg gg W3 _ _ _ := ⟨descsR.own_mono MZ.1 (rng_sub D0.drew.chg.size (Nat.le_refl _)), cur_alloc D0.drew.cur _, D0.drew.chg.trans (chg_below MZ.2)⟩
          have hmk := run_make_wide (P := Tryd.prog) 26 38 (.agg #[.bool false, .int .i64 0, .int .i64 0, .slice none 0 0]) 4 48 Tryd.underlying26 Tryd.infoDescD (30 + Z) (by omega) (by omega)
          have D : DP descsR gg w W3 (wz.alloc (.cells (madeCells #[.bool false, .int .i64 0, .int .i64 0, .slice none 0 0] ((30 + Z) * 4)) 38)) cb cc cs cy cl (.slice (some ⟨wz.heap.size, 0, none⟩) (30 + Z) (30 + Z)) (List.replicate (30 + Z) (false, 0, 0, [])) := dp_with D0 DZ
          obtain ⟨q0, q1, q2, q3⟩ := cells_4 (dp_box D)
          obtain ⟨x0, x1, x2, x3⟩ := cells_4 (dp_res D)
          obtain ⟨f0, f1, f2, f3⟩ := froz_4 (dp_res D)
          have hlt := D.lt
          have HDZ : Hid _ := D
          clear D DZ MZ D0 HD0 C Cz gz
          rw [show ((30 + Z : Nat) : Int) = 30 + (Z : Int) by omega] at hmk
          go_wp2
          have D := HDZ.out
          have hZ : 30 + Z ≤ 31 := by omega
          generalize hWZ : wz.alloc (.cells (madeCells #[.bool false, .int .i64 0, .int .i64 0, .slice none 0 0] ((30 + Z) * 4)) 38) = WZ at D ⊢
          obtain ⟨r0, r1, r2, r3⟩ := cells_4 (put_4p (y0 := .int .i64 cc) (y1 := .int .i64 cs) (y2 := .int .i64 cy) (y3 := .int .i64 cl) (dp_res D))
          have c7 : Chg (fun b => b = w.heap.size) WZ ((((WZ.setCell ⟨w.heap.size, 0, none⟩ (.int .i64 cc)).setCell ⟨w.heap.size, 1, none⟩ (.int .i64 cs)).setCell ⟨w.heap.size, 2, none⟩ (.int .i64 cy)).setCell ⟨w.heap.size, 3, none⟩ (.int .i64 cl)) := (((chg_set).trans chg_set).trans chg_set).trans chg_set
          obtain ⟨k1, k2⟩ := dp_end D c7
          have e9 : (List.replicate (30 + Z) ((false, 0, 0, []) : DescD)).length = 30 + Z := List.length_replicate
          refine bodyPost_ret (v := .tuple #[.agg #[.int .i64 cc, .int .i64 cs, .int .i64 cy, .int .i64 cl], .slice (some ⟨wz.heap.size, 0, none⟩) (30 + Z) (30 + Z)]) (by simp [results, Tryd.results7, go_sem, r0, r1, r2, r3]) rfl ⟨cc, cs, cy, cl, List.replicate (30 + Z) (false, 0, 0, []), some ⟨wz.heap.size, 0, none⟩, 30 + Z, by rw [e9], by rw [e9]; exact hZ, fun u hu => by rw [List.eq_of_mem_replicate hu]; simp, (sl_rd (cap := 30 + Z) (by rw [e9]; exact k1)).1, k2⟩
end Go.Proofs.YteblffhbennpnaaDoor
