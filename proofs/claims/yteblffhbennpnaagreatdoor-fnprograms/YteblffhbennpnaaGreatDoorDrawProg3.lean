
/- The draws of programs and descs, and of a layout and a list of descs: they read as some, and nothing that was there turns. Conditions: the bytes are at most 2^61. -/
import Derived.Test.YteblffhbennpnaaGreatDoorDrawProg2
import Derived.Test.YteblffhbennpnaaGreatDoorZeros
namespace Go.Proofs.YteblffhbennpnaaGreatDoor
open Go.ChangeShapes Go.WideShapes Go.ChangeAt Go.RowKit
set_option linter.unusedVariables false

def WorkP (w : World) (e : Ending) (w' : World) : Prop :=
  ∃ (ps : List (List OpD)) (a : Option Addr) (cap : Nat) (ds : List DescD) (b : Option Addr) (cp : Nat), e = .returned (.tuple #[.slice a ps.length cap, .slice b ds.length cp]) ∧ ps.length ≤ cap ∧ cap ≤ maxLen ∧ ps.length ≤ 4 ∧ (∀ p ∈ ps, p.length ≤ 5) ∧ ds.length ≤ 5 ∧ SlRd opsR w' a ps ∧ SlRd descR w' b ds ∧ Below w.heap.size w w'
def DescP (w : World) (e : Ending) (w' : World) : Prop :=
  ∃ (cc cs cy cl : Int) (xs : List DescD) (a : Option Addr) (cap : Nat), e = .returned (.tuple #[.agg #[.int .i64 cc, .int .i64 cs, .int .i64 cy, .int .i64 cl], .slice a xs.length cap]) ∧ xs.length ≤ 31 ∧ (∀ u ∈ xs, u.2.2.2.length ≤ 3) ∧ SlRd descR w' a xs ∧ Below w.heap.size w w'
theorem sl_rd {α : Type} {e : TypeId} {R : Rep α} {w : World} {S : Foot} {a : Option Addr} {cap : Nat} {xs : List α} (h : (slR e R).own w S [.slice a xs.length cap] xs) : SlRd R w a xs ∧ xs.length ≤ cap ∧ cap ≤ maxLen := by
  obtain ⟨a', cap', e, h1, h2, h3⟩ := (slR e R).own_rd h
  simp only [List.cons.injEq, Value.slice.injEq, and_true, true_and] at e
  rw [e.1, e.2]
  exact ⟨h3, h1, h2⟩
theorem one_s (a : Option Addr) (n c : Nat) : ∀ u ∈ ([.slice a n c] : List Value), u.oneCell' = true := by
  intro u hu
  simp at hu
  subst hu
  rfl
theorem all5_push {xs : List (List OpD)} {x : List OpD} (h : ∀ u ∈ xs, u.length ≤ 5) (hx : x.length ≤ 5) : ∀ u ∈ xs ++ [x], u.length ≤ 5 := by
  intro u hu
  rcases List.mem_append.1 hu with hu | hu
  · exact h u hu
  · simp at hu; subst hu; exact hx
theorem all3_set {xs : List DescD} {x : DescD} {k : Nat} (h : ∀ u ∈ xs, u.2.2.2.length ≤ 3) (hx : x.2.2.2.length ≤ 3) : ∀ u ∈ xs.set k x, u.2.2.2.length ≤ 3 := by
  intro u hu
  rcases List.mem_or_eq_of_mem_set hu with hu | hu
  · exact h u hu
  · rw [hu]; exact hx
theorem drew_put {α : Type} {R : Rep α} {B g G o : Nat} {w wr : World} {cs cs' : List Value} {x x' : α} {v : Value} (h : DrewR R B g w wr cs x) (ho : R.own (wr.setCell ⟨G, o, none⟩ v) (rng w.heap.size wr.heap.size) cs' x') (hG : w.heap.size ≤ G) (hg : g < w.heap.size) : DrewR R B g w (wr.setCell ⟨G, o, none⟩ v) cs' x' :=
  ⟨R.own_mono ho (rng_sub (Nat.le_refl _) (by simp)), cur_chg (S := fun b => b = G) h.cur chg_set (fun k hk => by have := h.cur.1; omega) (by have := h.cur.1; have := h.chg.size; omega), chg_via h.chg chg_set hG⟩
theorem desc_set1 {w : World} {c : List Value} {x : DescD} {y : Int} (hy : In64 y) (hr : descR.rd w c x) : ∀ W T, descR.own W T c x → descR.own W T (c.set 1 (.int .i64 y)) (x.1, y, x.2.2.1, x.2.2.2) := by
  intro W T ho
  obtain ⟨v, rfl, i1, i2, h⟩ := desc_own ho
  exact own_desc hy i2 h
theorem desc_set2 {w : World} {c : List Value} {x : DescD} {y : Int} (hy : In64 y) (hr : descR.rd w c x) : ∀ W T, descR.own W T c x → descR.own W T (c.set 2 (.int .i64 y)) (x.1, x.2.1, y, x.2.2.2) := by
  intro W T ho
  obtain ⟨v, rfl, i1, i2, h⟩ := desc_own ho
  exact own_desc i1 hy h
theorem desc_set3 {w W : World} {U : Foot} {c : List Value} {x : DescD} {d : List Int} {u : Value} (ho : intsR.own W U [u] d) (hr : descR.rd w c x) : descR.own W U (c.set 3 u) (x.1, x.2.1, x.2.2.1, d) := by
  obtain ⟨a, cap, rfl, i1, i2, -⟩ := desc_rd hr
  exact own_desc i1 i2 ho
theorem Tryz.infoOpsD : (Tryz.prog.info? 26).map (fun i => (i.zero, i.size, i.bytes)) = some (some (.slice none 0 0), 1, 24) := by kernel_rfl
set_option maxRecDepth 20000 in
set_option maxHeartbeats 8000000 in
theorem drawWork_any (a9 : Option Addr) (len cap9 : Nat) (zs : List Int) (w : World) (hr : Row8 w a9 len zs) :
    Calls Tryz.prog 9 #[.slice a9 len cap9] w fun e w' => WorkP w e w' := by
  obtain ⟨i0, hi, hz0, hz1, hz2⟩ := info_parts Tryz.infoOpsD
  go_enter Tryz.func9, Tryz.ntmps9
  go_wp2_with fail
  refine (l1New_any _ _ _ zs _ hr).mono ?_
  rintro e w1 ⟨rfl, hc1, hb1⟩
  have hcl := cur_lt hc1
  have HB : Hid _ := hb1
  have HD0 : Hid _ := drew_none (R := opsR) (e := 26) hc1 (Chg.refl _ w1)
  generalize hgg : w.heap.size = gg at hc1 hcl HD0 ⊢
  have hgw : w.heap.size ≤ gg := by omega
  have C0 := HD0.out.cur
  clear hr hc1 hb1 hgg
  go_wp2_with fail
  refine (l1Below_small gg gg 5 _ C0 (by omega) (by omega)).mono ?_
  rintro e w2 ⟨n, rfl, n0, n1, C1, g1⟩
  have HD1 : Hid _ := drew_grown HD0.out g1 C1 hcl
  obtain ⟨N, rfl⟩ : ∃ N : Nat, n = (N : Int) := ⟨n.toNat, by omega⟩
  clear C0 C1 g1 HD0
  go_wp2
  go_loopw [5, 6] (fun v i wr => ∃ (k : Nat) (ps : List (List OpD)) (a : Option Addr) (cap : Nat), i = .int .i64 k ∧ v = .slice a ps.length cap ∧ ps.length + k = N ∧ (∀ u ∈ ps, u.length ≤ 5) ∧ DrewR opssR gg gg w1 wr [.slice a ps.length cap] ps) (fun _ i _ => (intOf i).toNat)
  case atStart => exact ⟨N, [], _, _, rfl, rfl, by simp, by simp, HD1.out⟩
  case round =>
    obtain ⟨k, ps, a, cap, rfl, rfl, hk, h5, D⟩ := hrel
    have C := D.cur
    by_cases hlt : 0 < k
    · have hlt' : (0 : Int) < (k : Int) := by omega
      have HD : Hid _ := And.intro h5 D
      clear D h5
      go_wp2_with fail
      refine (l11DrawOps_any gg gg 4 6 _ C (by omega) (by omega) (by omega) (by omega)).mono ?_
      rintro e w3 ⟨xs, xa, xc, rfl, hx6, Y⟩
      have HY : Hid _ := Y
      clear Y C
      go_wp2_with (at_builtin; refine wpList_drew rfl _ _ 33 rfl opsR 26 i0 _ 24 Tryz.underlying33 hi hz0 hz1 hz2 rfl (by decide) (by decide) gg gg _ ps [.slice xa xs.length xc] xs _ rfl _ rfl (by simp) HD.out.2 HY.out hcl (one_s _ _ _) (by unfold maxLen; omega) (by omega) ?_)
      intro g' cap' w4 D4
      have HE : Hid _ := And.intro (all5_push HD.out.1 (x := xs) (by omega)) D4
      clear D4 HD HY
      go_wp2
      go_roundw
      case rel => exact ⟨k - 1, ps ++ [xs], _, _, by go_num, by rw [List.length_append]; rfl, by rw [List.length_append]; show ps.length + 1 + (k - 1) = N; omega, HE.out.1, by rw [List.length_append]; exact HE.out.2⟩
      case measure => simp [intOf]; omega
    · have hk0 : k = 0 := by omega
      subst hk0
      have HD : Hid _ := And.intro h5 D
      clear D h5
      go_wp2_with fail
      refine (l11DrawDescs_any gg gg 4 6 _ C (by omega) (by omega) (by omega) (by omega)).mono ?_
      rintro e w3 ⟨ds, b, cp, rfl, hd6, hd3, E⟩
      have k1 := own_chg HD.out.2.own E.chg (fun j hj e => by have := hj.1; omega)
      have k2 := sl_rd k1
      have k3 := sl_rd E.own
      have k4 : Below w.heap.size w w3 := E.chg.below (HD.out.2.chg.below HB.out (fun j hj => by omega) (by have := HB.out.size; omega)) (fun j hj => by omega) (by have := HB.out.size; have := HD.out.2.chg.size; omega)
      have HF : Hid _ := And.intro k2 (And.intro k3 (And.intro k4 HD.out.1))
      clear k1 k2 k3 k4 E HD C hd3
      go_wp2
      go_ret2
      obtain ⟨k2, k3, k4, h5⟩ := HF.out
      exact ⟨ps, a, cap, ds, b, cp, rfl, k2.2.1, k2.2.2, by omega, h5, by omega, k2.1, k3.1, k4⟩
end Go.Proofs.YteblffhbennpnaaGreatDoor
