import Derived.Test.YtoihjejenjcokaaGreatDoorP00Box
import Derived.Test.YtoihjejenjcokaaGreatDoorP14WayCopy
import Derived.Test.YtoihjejenjcokaaGreatDoorP15AppAny
import Derived.Test.YtoihjejenjcokaaGreatDoorP18SpecCopy
namespace Go.Proofs.YtoihjejenjcokaaGreatDoor
open Go.RowKit
set_option linter.unusedVariables false
theorem zIA {α : Type} {M : Mk α} {K : Nat} : ∀ {xs : List α}, (∀ x ∈ xs, M.bk x ≤ K) → zBz M xs ≤ xs.length * K
 | [], _ => by simp [zBz]
 | x :: xs, h => by
  have h1 := zIA (xs := xs) (fun y hy => h y (List.mem_cons_of_mem _ hy))
  have h2 := h x (List.mem_cons_self ..)
  have h3 : zBz M (x :: xs) = M.bk x + zBz M xs := by simp [zBz]
  rw [h3, List.length_cons, Nat.add_mul]
  omega
theorem ok_bk {c : zAu} (h : OkC isL zAJ c) : zBb.bk c ≤ 1000 := by
 have h' := h
 obtain ⟨h1, h2, m, hm, h3⟩ := h
 unfold zIU at h1 hm
 have hw : ∀ row ∈ c.1, zBr.bk row ≤ 12 := fun row hr => by
  obtain ⟨s, hs⟩ := List.getElem?_of_mem hr
  have hl := (h3 s row hs).1
  have hu : ∀ u ∈ row, zBE.bk u ≤ 2 := fun u hu => by
   obtain ⟨j, hj⟩ := List.getElem?_of_mem hu
   have h5 := zMS h' hs hj
   have h6 : zBE.bk u = 0 + (0 + (u.2.2.length + zBz zBx u.2.2)) := rfl
   have h7 := zHD u.2.2
   omega
  have h8 := zIA hu
  have h9 : zBr.bk row = row.length + zBz zBE row := rfl
  have h10 : row.length * 2 ≤ 8 := by omega
  omega
 have h8 := zIA hw
 have hbk : zBb.bk c = zEU.bk c.1 + zBn.bk c.2 := rfl
 have h6 : zEU.bk c.1 = c.1.length + zBz zBr c.1 := rfl
 have h7 : zBn.bk c.2 = c.2.length + zBz zBx c.2 := rfl
 have h9 := zHD c.2
 have h10 : c.1.length * 12 ≤ 48 := by omega
 omega
open Go.ChangeShapes Go.WideShapes Go.ChangeAt Go.RowKit Go.Shelf
noncomputable def zB1 (c : zAu) (u : zAU) : zAu × Bool := zME isL zAJ zCU c u
theorem fill_bad {c : zAu} {u : zAU} (h : okB isL zAJ c = false) : zB1 c u = (([], []), false) := by
 unfold zB1 zME
 rw [h]
 rfl
theorem zFz {c : zAu} {u : zAU} (hok : OkC isL zAJ c) (h : zBi isL u = false) : zB1 c u = (c, false) := by
 unfold zB1 zME
 rw [zCK.2 hok, h]
 rfl
theorem zDp {c : zAu} {u : zAU} (hok : OkC isL zAJ c) (h : zB2 c u.1 = none) : zB1 c u = (c, false) := by
 unfold zB1 zME
 rw [zCK.2 hok, h]
 cases zBi isL u <;> rfl
theorem zDW {c : zAu} {u : zAU} {i : Nat} (hok : OkC isL zAJ c) (hf : zBi isL u = true) (h : zB2 c u.1 = some i) : zB1 c u = (zCq zCU c u i, true) := by
 unfold zB1 zME
 rw [zCK.2 hok, h, hf]
 rfl
theorem put_lt {c : zAu} {line : Int} {i : Nat} (h : zB2 c line = some i) : ∃ u, (zAm c line)[i]? = some u := by
 unfold zB2 at h
 split at h
 ·rename_i j hj
  cases h
  obtain ⟨-, u, hu, -⟩ := zD1 hj
  exact ⟨u, hu⟩
 ·obtain ⟨u, hu, -⟩ := zGk h
  exact ⟨u, hu⟩
theorem zJx {t : Int} {m fi : Nat} (W : World) (h : zAJ t m = true) (hf : fi < m) : Calls Tryz.prog 110 #[.int .i64 t, .int .i64 (m : Int), .int .i64 (fi : Int)] W fun e w' => e = .returned (.int .i64 (zCU t m fi)) ∧ w' = W := by
 simp only [zAJ, decide_eq_true_eq] at h
 rcases h with ⟨h1, rfl⟩ | ⟨h1, a, b⟩ | ⟨h1, a, b⟩
 ·rw [h1]
  exact zKc 0 _ W
 ·rw [h1]
  exact zKd t _ W (by omega) (by omega)
 ·rw [h1]
  exact zKe t _ W (by omega) (by omega)
set_option maxRecDepth 8000 in
set_option maxHeartbeats 8000000 in
theorem zN2 (gb cp : Nat) (S S2 : zAX) (u : Value) (v0 : Option Addr) (c : zAu) (l st : Int) (d : List Int) (ad : Option Addr) (cpw : Nat) (w : World) (hok : OkC isL zAJ c) (bc : Array Value) (bt : TypeId) (hb0 : bc[0]? = some u) (hb1 : bc[1]? = some (.slice v0 c.2.length cp)) (hbox : w.heap[gb]? = some (.cells bc bt (0, 0))) (hnb : ¬ S gb) (hnb2 : ¬ S2 gb) (hdis : Dis S S2) (h : zBu.own w S [u] c.1) (h2 : zA5.own w S2 [.slice v0 c.2.length cp] c.2)
    (i1 : zBk l) (i2 : zBk st) (hd : zBh zBC w ad d) (hdl : d.length ≤ 1048576) :
    Calls Tryz.prog 87 #[.pointer (some ⟨gb, 0, none⟩), .agg #[.int .i64 l, .int .i64 st, .slice ad d.length cpw]] w fun e w' => e = .returned (.bool (zB1 c (l, st, d)).2) ∧
     zBu.own w' (fun k => Old w S k ∨ (w.heap.size ≤ k ∧ k < w'.heap.size)) [u] (zB1 c (l, st, d)).1.1 ∧ zA5.own w' S2 [.slice v0 c.2.length cp] (zB1 c (l, st, d)).1.2 ∧ Chg (fun k => Old w S k ∨ S2 k) w w' := by
 obtain ⟨a, cap, rfl, hrd⟩ := zIu h
 have hgl := (Array.getElem?_eq_some_iff.1 hbox).1
 have HF : Hid (∀ W, Below w.heap.size w W → Calls Tryz.prog 53 #[.agg #[.int .i64 l, .int .i64 st, .slice ad d.length cpw]] W fun e w' => e = .returned (.bool (zBi isL (l, st, d))) ∧ Below W.heap.size W w') := fun W hb => zE6 l st d ad cpw W (zA7 hd fun k hk => hb.block k hk)
 have Y := zAy w (.cells #[.int .i64 l, .int .i64 st, .slice ad d.length cpw] 39)
 have B := zAf w (.cells #[.int .i64 l, .int .i64 st, .slice ad d.length cpw] 39)
 cases hfl : zBi isL (l, st, d)
 ·rw [hfl] at HF
  rw [zFz hok hfl]
  have HH : Hid _ := And.intro h h2
  clear h h2 hrd hd
  go_enter Tryz.func87, Tryz.ntmps87
  go_wp2_with fail
  generalize w.alloc (.cells #[.int .i64 l, .int .i64 st, .slice ad d.length cpw] 39) = W0 at Y B ⊢
  refine (HF.out _ B).mono ?_
  rintro e w1 ⟨rfl, b1⟩
  replace B := zAb B b1
  clear b1 HF Y
  go_wp2
  go_ret
  exact ⟨rfl, zBu.own_mono (zBu.own_keep (zBM HH.out.1) (zAh B)) (fun k hk => .inl hk), zA5.own_keep HH.out.2 (zAh B), zA9 B⟩
 ·rw [hfl] at HF
  have hl15 := zBY hfl
  simp only at hl15
  have HAT : Hid (∀ W, Below w.heap.size w W → Calls Tryz.prog 54 #[.agg #[.slice a c.1.length cap, .slice v0 c.2.length cp], .int .i64 l] W fun e w' => e = .returned (.int .i64 (zGc (atC c l))) ∧ Below W.heap.size W w') := fun W hb => zFD a v0 c cap cp l W hok (zA7 hrd fun k hk => hb.block k hk)
  obtain ⟨at0, hat0⟩ : ∃ x, x = zGc (atC c l) := ⟨_, rfl⟩
  rw [← hat0] at HAT
  have HA0 : Hid (at0 = zGc (atC c l)) := hat0
  clear hat0
  obtain ⟨hp, hget, hne0, hr4, hset, hsl⟩ := zDy hok l
  obtain ⟨t1, t2, t3, t4, t5, t6, t7⟩ := zKi hok l
  have hsl1 : ((zAF c l : Nat) : Int) < (c.1.length : Int) := by omega
  have hsl2 : ((zAF c l : Nat) : Int) < (c.2.length : Int) := by omega
  have hset' : l % (c.1.length : Int) = ((zAF c l : Nat) : Int) := hset.symm
  have hz : (c.1.length : Int) ≠ 0 := by omega
  have hz2 : ((c.1.length : Int) == 0) = false := beq_false_of_ne hz
  have hz3 : ¬ (c.1.length = 0) := by omega
  have hz4 : ¬ (c.1 = []) := fun e => by rw [e] at hz3; exact hz3 rfl
  have ht3 : Int.tmod l (c.1.length : Int) = ((zAF c l : Nat) : Int) := by rw [Int.tmod_eq_emod_of_nonneg (by omega), hset']
  obtain ⟨b0, o0, aj, cj, rfl, hcell, -, -, hrr⟩ := zDj hrd hget
  have HC : Hid (∀ W, Below w.heap.size w W → W.cell? ⟨b0, o0 + zAF c l, none⟩ = some (.slice aj (zAm c l).length cj)) := fun W hb => zAd hb hcell (zAi hcell)
  have HRR : Hid (∀ W, Below w.heap.size w W → zBh zAS W aj (zAm c l)) := fun W hb => zA7 hrr fun k hk => hb.block k hk
  have HBX : Hid (∀ W, Below w.heap.size w W → W.heap[gb]? = some (.cells bc bt (0, 0))) := fun W hb => zAa hb hbox
  have HPN : Hid (∀ k, atC c l = some k → zB2 c l = some k) := fun k hk => by unfold zB2; rw [hk]
  have HPM : Hid (atC c l = none → zB2 c l = (zAm c l).findIdx? zB7) := fun hk => by unfold zB2; rw [hk]; rfl
  clear hcell hrr hset hp hne0
  have HH : Hid _ := And.intro h (And.intro h2 (And.intro hd (And.intro i1 i2)))
  have HG : Hid _ := And.intro hget (And.intro t2 (And.intro t3 t1))
  have HOK : Hid _ := hok
  have HNB : Hid _ := And.intro hnb (And.intro hnb2 hdis)
  clear h h2 hrd hd hget t1 t2 t3 t4 t5 t7 hok hnb hnb2 hdis hbox i1 i2
  go_enter Tryz.func87, Tryz.ntmps87
  go_wp2_with fail
  generalize w.alloc (.cells #[.int .i64 l, .int .i64 st, .slice ad d.length cpw] 39) = W0 at Y B ⊢
  refine (HF.out _ B).mono ?_
  rintro e w1 ⟨rfl, b1⟩
  replace B := zAb B b1
  replace Y := zAa b1 Y
  clear b1 HF
  obtain ⟨y0, y1, y2⟩ := zAg Y
  obtain ⟨x0, x1⟩ := zDD hb0 hb1 (HBX.out _ B)
  go_wp2
  go_quiet (fail)
  have B2 : Below w.heap.size w (w1.drewN nq) := zGi B nq
  have Y2 : (w1.drewN nq).heap[w.heap.size]? = some (.cells #[.int .i64 l, .int .i64 st, .slice ad d.length cpw] 39 (0, 0)) := Y
  clear y0 y1 y2 x0 x1 B Y
  generalize w1.drewN nq = w2 at B2 Y2 ⊢
  obtain ⟨y0, y1, y2⟩ := zAg Y2
  obtain ⟨x0, x1⟩ := zDD hb0 hb1 (HBX.out _ B2)
  go_wp2
  have n0 : ∀ n' : Cls (fun wx => Below w2.heap.size w2 wx), n'.w.cell? ⟨gb, 0, none⟩ = some (.slice (some ⟨b0, o0, none⟩) c.1.length cap) := fun n' => zAd n'.h x0 (zAi x0)
  have n1 : ∀ n' : Cls (fun wx => Below w2.heap.size w2 wx), n'.w.cell? ⟨gb, 1, none⟩ = some (.slice v0 c.2.length cp) := fun n' => zAd n'.h x1 (zAi x1)
  have n2 : ∀ n' : Cls (fun wx => Below w2.heap.size w2 wx), n'.w.cell? ⟨w.heap.size, 0, none⟩ = some (.int .i64 l) := fun n' => zAd n'.h y0 (zAi y0)
  have HATc : Hid (∀ n' : Cls (fun wx => Below w2.heap.size w2 wx), Calls Tryz.prog 54 #[.agg #[.slice (some ⟨b0, o0, none⟩) c.1.length cap, .slice v0 c.2.length cp], .int .i64 l] n'.w fun e w' => e = .returned (.int .i64 at0) ∧ Below n'.w.heap.size n'.w w') := fun n' => HAT.out _ (zAb B2 n'.h)
  clear x0 x1 y0 y1 y2
  refine zA8 (fun wx => Below w2.heap.size w2 wx) (by kernel_rfl) (by kernel_rfl) ((Below.refl _ w2).drew) ?_
  intro hne
  repeat (quiet_step (first | (go_at_call 54; exact zAz (HATc.out _) (fun w' hc bb => zAb hc bb))))
  refine wpQuiet_nil ?_
  intro w3 b3
  clear n0 n1 n2 hne HAT HATc
  have B := zAb B2 b3
  have Y := zAa b3 Y2
  clear B2 Y2 b3
  go_upto_block 0 with fail
  go_cut [6] from 7 to 52 (fun q wx => q = .int .i64 (zGc (zB2 c l)) ∧ Below w.heap.size w wx ∧ wx.heap[w.heap.size]? = some (.cells #[.int .i64 l, .int .i64 st, .slice ad d.length cpw] 39 (0, 0)))
  case first =>
   go_wp2
   go_loopw [6, 7] (fun q i wr => ∃ k : Nat, k ≤ (zAm c l).length ∧ i = .int .i64 k ∧ ((q = .int .i64 (-1) ∧ atC c l = none ∧ ∀ j v, j < k → (zAm c l)[j]? = some v → zB7 v = false) ∨ ∃ f : Nat, q = .int .i64 f ∧ zB2 c l = some f) ∧ Below w.heap.size w wr ∧ wr.heap[w.heap.size]? = some (.cells #[.int .i64 l, .int .i64 st, .slice ad d.length cpw] 39 (0, 0))) (fun _ i _ => (zAm c l).length - (intOf i).toNat)
   case atStart =>
    refine ⟨0, Nat.zero_le _, rfl, ?_, B, Y⟩
    cases hat : atC c l with
    | none => exact .inl ⟨by rw [HA0.out, hat]; rfl, rfl, fun j v hj => by omega⟩
    | some f => exact .inr ⟨f, by rw [HA0.out, hat]; rfl, HPN.out f hat⟩
   case round =>
    clear B Y
    obtain ⟨k, hk, rfl, hq, B, Y⟩ := hrel
    obtain ⟨x0, x1⟩ := zDD hb0 hb1 (HBX.out _ B)
    have g0 := HC.out _ B
    rcases hq with ⟨rfl, hnone, hno⟩ | ⟨f, rfl, hpf⟩
    ·by_cases hlt : k < (zAm c l).length
     ·have hlt' : (k : Int) < ((zAm c l).length : Int) := by omega
      obtain ⟨v, hv⟩ : ∃ v, (zAm c l)[k]? = some v := ⟨_, List.getElem?_eq_getElem hlt⟩
      obtain ⟨bk, ok, cs, rfl, hrd, hcell⟩ := zBG (HRR.out _ B) hv
      obtain ⟨av, cpv, rfl, -, -, hd1, hd2, -⟩ := zAL hrd
      have y0 := hcell 0 _ rfl
      have y1 := hcell 1 _ rfl
      have y2 := hcell 2 _ rfl
      rw [show ok + (k * zAS.size + 0) = ok + k * 3 from rfl] at y0
      rw [show ok + (k * zAS.size + 1) = ok + k * 3 + 1 from rfl] at y1
      rw [show ok + (k * zAS.size + 2) = ok + k * 3 + 2 from rfl] at y2
      have HVV : Hid ((zAm c l)[k]? = some v) := hv
      obtain ⟨vl, vs, vd⟩ := v
      simp only at y0 y1 y2 hd1
      have hd4 : vd.length ≤ maxLen := Nat.le_trans hd1 hd2
      clear hcell hrd hv hd1 hd2
      have HE := zDP vl vs av vd.length cpv wr hd4
      rw [zHA (vl, vs, vd)] at HE
      cases hcl : zB7 (vl, vs, vd)
      ·rw [hcl] at HE
       go_wp2_with fail
       refine HE.mono ?_
       rintro e w2 ⟨rfl, b2⟩
       replace B := zAb B b2
       replace Y := zAa b2 Y
       clear b2 HE x0 x1 y0 y1 y2 g0
       go_wp2
       go_roundw
       case rel =>
        refine ⟨k + 1, by omega, by go_num, .inl ⟨rfl, hnone, fun j v hj hv => ?_⟩, B, Y⟩
        by_cases he : j < k
        ·exact hno j v he hv
        ·have : j = k := by omega
         subst this
         rw [HVV.out] at hv
         cases hv
         exact hcl
       case measure => simp [intOf]; omega
      ·rw [hcl] at HE
       have HPK : Hid (zB2 c l = some k) := by unfold Hid; rw [HPM.out hnone]; exact zJc HVV.out hcl hno
       go_wp2_with fail
       refine HE.mono ?_
       rintro e w2 ⟨rfl, b2⟩
       replace B := zAb B b2
       replace Y := zAa b2 Y
       clear b2 HE x0 x1 y0 y1 y2 g0
       go_wp2
       go_roundw
       case rel => exact ⟨k + 1, by omega, by go_num, .inr ⟨k, rfl, HPK.out⟩, B, Y⟩
       case measure => simp [intOf]; omega
     ·have hlt' : ¬ (k : Int) < ((zAm c l).length : Int) := by omega
      have HPK : Hid (zB2 c l = none) := by unfold Hid; rw [HPM.out hnone]; exact zJd fun j v hv => hno j v (by have := (List.getElem?_eq_some_iff.1 hv).1; omega) hv
      go_wp2
      go_meet
      exact ⟨by rw [HPK.out]; rfl, B, Y⟩
    ·have hf0 : ¬ ((f : Int) < 0) := by omega
     by_cases hlt : k < (zAm c l).length
     ·have hlt' : (k : Int) < ((zAm c l).length : Int) := by omega
      go_wp2
      go_meet
      exact ⟨by rw [hpf]; rfl, B, Y⟩
     ·have hlt' : ¬ (k : Int) < ((zAm c l).length : Int) := by omega
      go_wp2
      go_meet
      exact ⟨by rw [hpf]; rfl, B, Y⟩
  case rest =>
   clear B Y
   obtain ⟨rfl, B, Y⟩ := hcut
   cases hpn : zB2 c l with
   | none =>
    have HFN : Hid (zB1 c (l, st, d) = (c, false)) := zDp (u := (l, st, d)) HOK.out hpn
    have hneg : zGc none < 0 := by decide
    go_wp2
    go_ret
    rw [HFN.out]
    exact ⟨rfl, zBu.own_mono (zBu.own_keep (zBM HH.out.1) (zAh B)) (fun k hk => .inl hk), zA5.own_keep HH.out.2.1 (zAh B), zA9 B⟩
   | some fi =>
    have HFA : Hid (zB1 c (l, st, d) = (zCq zCU c (l, st, d) fi, true)) := zDW HOK.out hfl hpn
    have hidx : zGc (some fi) = (fi : Int) := rfl
    rw [hidx]
    have hfi0 : ¬ ((fi : Int) < 0) := by omega
    obtain ⟨uw, huw⟩ := put_lt hpn
    have hfrow := (List.getElem?_eq_some_iff.1 huw).1
    have hfi : ((fi : Nat) : Int) < ((zAm c l).length : Int) := by omega
    obtain ⟨g, cap', g2, cap2, e0, hcell, hSg, hSg2, hneg2, hgl9, hg2l, -⟩ := zCN (zBM HH.out.1) HG.out.1 huw
    simp only [Value.slice.injEq, Option.some.injEq, Addr.mk.injEq, and_true, true_and] at e0
    obtain ⟨⟨rfl, rfl⟩, rfl⟩ := e0
    have HUW : Hid _ := huw
    have HS : Hid (Old w S g2) := hSg2
    have n0 : gb ≠ g2 := fun e => HNB.out.1 (e ▸ hSg2.1)
    have n1 : w.heap.size ≠ g2 := by have := hSg2.2; omega
    have HQ : Hid (w.cell? ⟨b0, zAF c l, none⟩ = some (.slice (some ⟨g2, 0, none⟩) (zAm c l).length cap2)) := hcell
    have HB : Hid _ := B
    have HY : Hid _ := Y
    clear hcell huw hSg hSg2 hpn HPN HPM HA0 HRR HC
    obtain ⟨x0, x1⟩ := zDD hb0 hb1 (HBX.out _ B)
    obtain ⟨y0, y1, y2⟩ := zAg Y
    have q0 := zAd B HQ.out hgl9
    have hs1 := B.size
    have lw := (Array.getElem?_eq_some_iff.1 Y).1
    clear B Y
    go_wp2
    have H' : zBu.own wc.drew (Old w S) [.slice (some ⟨b0, 0, none⟩) c.1.length cap] c.1 := zBu.own_keep (zBM HH.out.1) (zAh HB.out.drew)
    obtain ⟨g', cap', g2', cap2', e1, hcell', -, -, -, -, -, st8⟩ := zCN H' HG.out.1 HUW.out
    simp only [Value.slice.injEq, Option.some.injEq, Addr.mk.injEq, and_true, true_and] at e1
    obtain ⟨rfl, -⟩ := e1
    have hcq : wc.drew.cell? ⟨b0, zAF c l, none⟩ = some (.slice (some ⟨g2, 0, none⟩) (zAm c l).length cap2) := q0
    rw [hcq] at hcell'
    simp only [Option.some.injEq, Value.slice.injEq, Addr.mk.injEq, and_true, true_and] at hcell'
    obtain ⟨rfl, -⟩ := hcell'
    have ST : Hid _ := st8
    clear H' st8 hcq
    go_cut [55, 56, 57, 58, 59, 60, 61, 62, 63, 64, 65] (fun _ _ _ _ _ _ _ _ _ _ _ wx => zBu.own wx (fun k => Old w S k ∨ (w.heap.size ≤ k ∧ k < wx.heap.size)) [.slice (some ⟨b0, 0, none⟩) c.1.length cap] (c.1.set (zAF c l) ((zAm c l).set fi (l, st, d))) ∧ Chg (Old w S) w wx)
    case first =>
     go_region_held3 (fun wx => wx.cell? ⟨gb, 0, none⟩ = some (.slice (some ⟨b0, 0, none⟩) c.1.length cap) ∧ wx.cell? ⟨b0, zAF c l, none⟩ = some (.slice (some ⟨g2, 0, none⟩) (zAm c l).length cap2) ∧ wx.cell? ⟨w.heap.size, 0, none⟩ = some (.int .i64 l) ∧ wx.cell? ⟨w.heap.size, 1, none⟩ = some (.int .i64 st) ∧ wx.cell? ⟨w.heap.size, 2, none⟩ = some (.slice ad d.length cpw)) (first | (go_keep; done) | (exact ⟨zCf n0 x0', zCf hneg2 q0', zCf n1 y0', zCf n1 y1', zCf n1 y2'⟩)) (first | (go_at_call 56; refine (zDT l st d ad cpw _ HH.out.2.2.2.1 HH.out.2.2.2.2 (zA7 HH.out.2.2.1 fun k hk => HB.out.drew.block k hk) hdl).mono ?_; rintro e w9 ⟨av, cv, rfl, mm⟩; obtain ⟨⟨cur, hcur, hcs⟩, OW, CH⟩ := ST.out w9 _ _ _ _ mm; have X := zAa (w := wc.drew) mm.2 (HBX.out _ HB.out.drew); obtain ⟨x0', x1'⟩ := zDD hb0 hb1 X; have Y9 := zAa (w := wc.drew) mm.2 HY.out; obtain ⟨y0', y1', y2'⟩ := zAg Y9; have q0' := zAd (w := wc.drew) mm.2 (by exact q0) (Nat.lt_of_lt_of_le hgl9 hs1); have c0 : w9.cell? ⟨g2, fi * 3, none⟩ = cur[fi * 3]? := cell_of_row w9 g2 (fi * 3) _ _ (0, 0) hcur; have c1 : w9.cell? ⟨g2, fi * 3 + 1, none⟩ = cur[fi * 3 + 1]? := cell_of_row w9 g2 (fi * 3 + 1) _ _ (0, 0) hcur; have c2 : w9.cell? ⟨g2, fi * 3 + 2, none⟩ = cur[fi * 3 + 2]? := cell_of_row w9 g2 (fi * 3 + 2) _ _ (0, 0) hcur; rw [Array.getElem?_eq_getElem (by omega)] at c0 c1 c2; have f0' := frozen_of_row w9 g2 (fi * 3) _ _ hcur; have f1' := frozen_of_row w9 g2 (fi * 3 + 1) _ _ hcur; have f2' := frozen_of_row w9 g2 (fi * 3 + 2) _ _ hcur; have mms : wc.heap.size ≤ w9.heap.size := mm.2.size))
     all_goals
      go_wp2_with fail
      go_meet
      refine ⟨zBu.own_mono OW ?_, ?_⟩
      ·rintro k (h | h)
       ·exact .inl h.1
       ·exact .inr ⟨by have : wc.heap.size ≤ k := h.1; omega, by have := h.2; have e := zFp (w := w9) (g := g2) (o := fi * 3) (x := .int .i64 l) (y := .int .i64 st) (z := .slice av d.length cv); unfold zEs at e; omega⟩
      ·have a1 : Chg (Old w S) w wc.drew := zA9 HB.out.drew
       exact a1.trans (CH.mono fun k hk => by have e : k = g2 := hk; rw [e]; exact HS.out)
    case rest =>
     clear x0 x1 y0 y1 y2 q0 ST HY HB n0 n1 hs1 lw
     obtain ⟨O1, CH⟩ := hcut
     have zc := CH.size
     obtain ⟨gt, cpt, ev, hSt, hgtl, -, -⟩ := zIw HH.out.2.1 HG.out.2.1
     simp only [Value.slice.injEq, true_and] at ev
     obtain ⟨rfl, rfl⟩ := ev
     have XB : wc.heap[gb]? = some (.cells bc bt (0, 0)) := (CH.block gb hgl (fun h => HNB.out.1 h.1)).trans (HBX.out w (Below.refl _ _))
     have O2 := zAO HH.out.2.1 CH (fun x h1 h2 => HNB.out.2.2 x h2.1 h1)
     obtain ⟨gt', cpt', ev, -, -, htc, step⟩ := zIw O2 HG.out.2.1
     simp only [Value.slice.injEq, Option.some.injEq, Addr.mk.injEq, and_true, true_and] at ev
     obtain ⟨rfl, rfl⟩ := ev
     have hr0 : (c.1.set (zAF c l) ((zAm c l).set fi (l, st, d)))[zAF c l]? = some ((zAm c l).set fi (l, st, d)) := by rw [List.getElem?_set_self hsl]
     have hr1 : ((zAm c l).set fi (l, st, d))[fi]? = some (l, st, d) := by rw [List.getElem?_set_self hfrow]
     obtain ⟨g3, cap3, g4, cap4, e3, hrc, -, -, -, hb0l, -, -⟩ := zCN O1 hr0 hr1
     simp only [Value.slice.injEq, Option.some.injEq, Addr.mk.injEq, and_true] at e3
     obtain ⟨rfl, -, -⟩ := e3
     rw [List.length_set] at hrc
     have hm := HG.out.2.2.2
     have HT : Hid (∀ W, Calls Tryz.prog 110 #[.int .i64 (zBs c l), .int .i64 ((zAm c l).length : Int), .int .i64 (fi : Int)] W fun e w' => e = .returned (.int .i64 (zCU (zBs c l) (zAm c l).length fi)) ∧ w' = W) := fun W => zJx W (by rw [hm]; exact HG.out.2.2.1) hfrow
     have hy : zBk (zCU (zBs c l) (zAm c l).length fi) := zJp (zMW (by rw [hm]; exact HG.out.2.2.1) (by omega) (by omega))
     have HFB : Hid (zB1 c (l, st, d) = ((c.1.set (zAF c l) ((zAm c l).set fi (l, st, d)), c.2.set (zAF c l) (zCU (zBs c l) (zAm c l).length fi)), true)) := HFA.out
     clear HFA hm
     generalize zCU (zBs c l) (zAm c l).length fi = y at HT hy HFB
     generalize zBs c l = tr at HT htc step
     have ST : Hid _ := step
     have HO : Hid _ := And.intro O1 CH
     obtain ⟨x0, x1⟩ := zDD hb0 hb1 XB
     have m0 : ∀ n' : Cls (fun wx => Below wc.heap.size wc wx), n'.w.cell? ⟨gb, 0, none⟩ = some (.slice (some ⟨b0, 0, none⟩) c.1.length cap) := fun n' => zAd n'.h x0 (zAi x0)
     have m1 : ∀ n' : Cls (fun wx => Below wc.heap.size wc wx), n'.w.cell? ⟨gb, 1, none⟩ = some (.slice (some ⟨gt, 0, none⟩) c.2.length cp) := fun n' => zAd n'.h x1 (zAi x1)
     have m2 : ∀ n' : Cls (fun wx => Below wc.heap.size wc wx), n'.w.cell? ⟨b0, zAF c l, none⟩ = some (.slice (some ⟨g4, 0, none⟩) (zAm c l).length cap4) := fun n' => zAd n'.h hrc hb0l
     have m3 : ∀ n' : Cls (fun wx => Below wc.heap.size wc wx), n'.w.cell? ⟨gt, zAF c l, none⟩ = some (.int .i64 tr) := fun n' => zAd n'.h htc (zAi htc)
     clear x0 x1 XB step O1 CH O2 htc hrc hr0 hr1 HBX HH HG HOK HQ HUW
     go_wp2
     refine zGE (fun wx => Below wc.heap.size wc wx) (by kernel_rfl) (by kernel_rfl) (by kernel_rfl) (by simp) ((Below.refl _ wc).drew) ?_
     intro hne
     dsimp only [List.dropLast, zFo]
     repeat (quiet_step (first | (go_at_call 110; exact zAT (HT.out _))))
     refine wpQuiet_nil ?_
     intro wx b2
     clear m0 m1 m2 m3 hne HT
     obtain ⟨r0, r1, r2, r3⟩ := ST.out wx y b2 hy
     have HR : Hid _ := And.intro r2 r3
     clear r2 r3 ST
     unfold Oper.wp
     go_simp
     go_wp2
     go_ret
     rw [HFB.out]
     obtain ⟨O1, CH⟩ := HO.out
     refine ⟨rfl, zBu.own_mono (zAl (zBu.own_keep O1 (zAh b2)) ?_) ?_, HR.out.1, Chg.trans (CH.mono fun k hk => .inl hk) (HR.out.2.mono fun k hk => .inr ?_)⟩
     ·rintro (h | h)
      ·exact HNB.out.2.2 _ h.1 hSt
      ·have := h.1
       omega
     ·rintro k (h | h)
      ·exact .inl h
      ·have := b2.size
       exact .inr ⟨h.1, by have := h.2; simp; omega⟩
     ·have e : k = gt := hk
      rw [e]
      exact hSt
end Go.Proofs.YtoihjejenjcokaaGreatDoor
