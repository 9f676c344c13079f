import Derived.Test.YthnfkacboijneaaGreatDoorP26CoresL
import Derived.Test.YthnfkacboijneaaGreatDoorP24Draw
import Derived.Test.YthnfkacboijneaaGreatDoorP05Boxes
namespace Go.Proofs.YthnfkacboijneaaGreatDoor
set_option maxHeartbeats 8000000
set_option maxRecDepth 20000
open Go.ChangeShapes Go.WideShapes Go.ChangeAt Go.RowKit
set_option linter.unusedVariables false
set_option linter.unusedSimpArgs false
theorem lot_c : lot = 4398046511104 := rfl
theorem mkSets_u : MkC 142 setsR setsM cell1 := by
 intro S cs x k w h h0 hm hb
 obtain ⟨v, rfl⟩ := own_cell h
 have e := lot_c
 have e2 : setsM.cV x = slcnt waysM x := rfl
 have e3 : setsM.bk x = x.length + sumbk waysM x := rfl
 exact markWaySS_rep S v k x w h0 (by omega) (by omega) (by omega) h
theorem hdSets_u : HdC 145 setsR setsM cell1 := by
 rintro cs x k w ⟨a, cap, rfl, l1, l2, l3⟩ h0 hm hb
 have e := lot_c
 have e2 : setsM.cV x = slcnt waysM x := rfl
 have e3 : setsM.bk x = x.length + sumbk waysM x := rfl
 have := heldWaySS_rep a cap k x w h0 (by omega) (by omega) (by omega) l3
 rw [show x.length = (setsM.mV k x).length from (slmark_len _ _ _).symm] at this
 exact this.mono fun e w' ⟨q, r⟩ => ⟨q, be_eq r⟩
theorem in64_c {k : Int} (h0 : 0 ≤ k) (h1 : k ≤ 1152921504606846976) : In64 k := by constructor <;> omega
theorem set_keep {F : Foot} {w : World} {g o : Nat} {v : Value} (hF : ¬ F g) : Keeps F w (w.setCell ⟨g, o, none⟩ v) := fun k hk _ => heap_setCell_other w ⟨g, o, none⟩ k v (fun e => hF (by have e' : k = g := e; rw [← e']; exact hk))
theorem own_set {α : Type} {R : Rep α} {F : Foot} {w : World} {g o : Nat} {v : Value} {cs : List Value} {x : α} (h : R.own w F cs x) (hF : ¬ F g) : R.own (w.setCell ⟨g, o, none⟩ v) F cs x := R.own_keep h (set_keep hF)
theorem keeps_trans {F : Foot} {a b c : World} (h : Keeps F a b) (k : Keeps F b c) (hs : a.heap.size ≤ b.heap.size) : Keeps F a c := fun j hj hl => (k j hj (Nat.lt_of_lt_of_le hl hs)).trans (h j hj hl)
theorem keeps_chg {F S : Foot} {a b : World} (h : Chg S a b) (d : Dis S F) : Keeps F a b := fun j hj hl => h.block j hl (fun hs => d j hs hj)
theorem chg_in {S : Foot} {g o n : Nat} {w w' : World} (h : Turn g o n S w w') (T : Foot) (hs : Sub S T) (hg : T g) : Chg T w w' := h.chg.mono (fun k hk => hk.elim (hs k) (fun e => by rw [e]; exact hg))
theorem core_mE (kk : Int) (x : CoreD) : coreM.mE kk x = ((setsM.mV (kk) x.1.1, intsM.mV (kk + (setsM.cV x.1.1 : Int)) x.1.2), opsM.mV (kk + (setsM.cV x.1.1 : Int) + (intsM.cV x.1.2 : Int)) x.2.1, kk + (setsM.cV x.1.1 : Int) + (intsM.cV x.1.2 : Int) + (opsM.cV x.2.1 : Int), kk + (setsM.cV x.1.1 : Int) + (intsM.cV x.1.2 : Int) + (opsM.cV x.2.1 : Int) + 1, (kk + (setsM.cV x.1.1 : Int) + (intsM.cV x.1.2 : Int) + (opsM.cV x.2.1 : Int) + 1 + 1, kk + (setsM.cV x.1.1 : Int) + (intsM.cV x.1.2 : Int) + (opsM.cV x.2.1 : Int) + 1 + 1 + 1, intsM.mV (kk + (setsM.cV x.1.1 : Int) + (intsM.cV x.1.2 : Int) + (opsM.cV x.2.1 : Int) + 1 + 1 + 1 + 1) x.2.2.2.2.1.2.2), intsM.mV (kk + (setsM.cV x.1.1 : Int) + (intsM.cV x.1.2 : Int) + (opsM.cV x.2.1 : Int) + 1 + 1 + 1 + 1 + (intsM.cV x.2.2.2.2.1.2.2 : Int)) x.2.2.2.2.2) := by
 have : coreM.mE kk x = ((setsM.mE kk x.1.1, intsM.mE (kk + (setsM.cE x.1.1 : Int)) x.1.2), (opsM.mE (kk + ((setsM.cE x.1.1 + intsM.cE x.1.2 : Nat) : Int)) x.2.1, (intM.mE (kk + ((setsM.cE x.1.1 + intsM.cE x.1.2 : Nat) : Int) + (opsM.cE x.2.1 : Int)) x.2.2.1, (intM.mE (kk + ((setsM.cE x.1.1 + intsM.cE x.1.2 : Nat) : Int) + (opsM.cE x.2.1 : Int) + ((1 : Nat) : Int)) x.2.2.2.1, (wayM.mE (kk + ((setsM.cE x.1.1 + intsM.cE x.1.2 : Nat) : Int) + (opsM.cE x.2.1 : Int) + ((1 : Nat) : Int) + ((1 : Nat) : Int)) x.2.2.2.2.1, intsM.mE (kk + ((setsM.cE x.1.1 + intsM.cE x.1.2 : Nat) : Int) + (opsM.cE x.2.1 : Int) + ((1 : Nat) : Int) + ((1 : Nat) : Int) + (wayM.cE x.2.2.2.2.1 : Int)) x.2.2.2.2.2))))) := rfl
 rw [this]
 have hw : wayM.cE x.2.2.2.2.1 = 1 + (1 + intsM.cV x.2.2.2.2.1.2.2) := rfl
 have ha : setsM.cE x.1.1 = setsM.cV x.1.1 := rfl
 have hb2 : intsM.cE x.1.2 = intsM.cV x.1.2 := rfl
 have hp : opsM.cE x.2.1 = opsM.cV x.2.1 := rfl
 have g1 : kk + ((setsM.cE x.1.1 + intsM.cE x.1.2 : Nat) : Int) = kk + (setsM.cV x.1.1 : Int) + (intsM.cV x.1.2 : Int) := by rw [ha, hb2]; omega
 rw [g1, hw, hp, ha]
 have hm9 : ∀ L : Int, wayM.mE L x.2.2.2.2.1 = (L, L + ((1 : Nat) : Int), intsM.mV (L + ((1 : Nat) : Int) + ((1 : Nat) : Int)) x.2.2.2.2.1.2.2) := fun L => rfl
 rw [hm9]
 refine congr (congrArg Prod.mk rfl) (congr (congrArg Prod.mk rfl) (congr (congrArg Prod.mk rfl) (congr (congrArg Prod.mk rfl) (congr (congrArg Prod.mk rfl) ?_))))
 change slmark intM _ _ = slmark intM _ _
 congr 1
 omega
theorem markCoreS_nil (k : Int) (w : World) :
    Calls Tryz.prog 70 #[.slice none 0 0, .int .i64 k] w fun e' w' => e' = .returned (.int .i64 k) ∧ w' = w := by
 go_enter Tryz.func70, Tryz.ntmps70
 go_wp2
 refine wp_loop_rounds 1 ?_
 rw [rounds_succ]
 go_wp2
 go_ret
 exact ⟨rfl, rfl⟩
theorem mkCores_u : MkC 70 coresR coresM cell1 := by
 intro S cs xs k w h h0 hm hb
 obtain ⟨v, rfl⟩ := own_cell h
 have el : lot = 4398046511104 := rfl
 have e2 : coresM.cV xs = slcnt coreM xs := rfl
 have e3 : coresM.bk xs = xs.length + sumbk coreM xs := rfl
 rw [e2] at hm ⊢
 rw [e3] at hb
 change Calls Tryz.prog 70 #[v, .int .i64 k] w _
 rcases slown_form h with ⟨rfl, rfl⟩ | ⟨G, cap, rfl, hG⟩
 ·exact (markCoreS_nil k w).mono fun e w' ⟨e1, e2⟩ => ⟨by simpa [slcnt] using e1, by rw [e2]; exact h, by rw [e2]; exact Chg.refl _ _⟩
 have hln : xs.length ≤ 4398046511104 := by omega
 have HB : Hid (xs.length + sumbk coreM xs ≤ lot) := hb
 have HM : Hid (k + (slcnt coreM xs : Int) ≤ (lot : Int)) := hm
 clear hb hm e2 e3 el
 go_enter Tryz.func70, Tryz.ntmps70
 go_wp2
 go_loopw [1, 5] (fun q i wr => ∃ j : Nat, j ≤ xs.length ∧ i = .int .i64 j ∧ q = .int .i64 (k + slcnt coreM (xs.take j)) ∧ coresR.own wr S [.slice (some ⟨G, 0, none⟩) xs.length cap] (pmark coreM k xs j) ∧ Chg S w wr)
  (fun _ i _ => xs.length - (intOf i).toNat)
 case atStart => exact ⟨0, Nat.zero_le _, rfl, by simp [slcnt], by rw [pmark_zero]; exact h, Chg.refl _ _⟩
 case round =>
  obtain ⟨j, hj, rfl, rfl, ho, hs⟩ := hrel
  by_cases hlt : j < xs.length
  ·have hlt' : (j : Int) < (xs.length : Int) := by omega
   obtain ⟨x, hx⟩ : ∃ x, xs[j]? = some x := ⟨_, List.getElem?_eq_getElem hlt⟩
   have hT : slcnt coreM (xs.take j) + coreM.cE x ≤ slcnt coreM xs := slcnt_get (M := coreM) hx
   have HT : Hid (slcnt coreM (xs.take (j + 1)) = slcnt coreM (xs.take j) + coreM.cE x) := slcnt_step (M := coreM) hx
   have hbx := sumbk_ge coreM xs hx
   have HPS : Hid _ := pmark_step (M := coreM) (k := k) hx
   obtain ⟨g, cap', Sj, T, c, hv, hSg, ob, s1, s2, hd, n2, back⟩ := elem_focus ho (pmark_at hx)
   simp only [Value.slice.injEq, Option.some.injEq, Addr.mk.injEq, and_true] at hv
   obtain ⟨rfl, -, rfl⟩ := hv
   obtain ⟨hat, hown, hout⟩ := ob
   obtain ⟨v0, v1, v2, v5, v6, v7, v8, S0, S1, S4, S5, rfl, i2, i3, o0, o1, o4, o5, t0, t1, t4, t5, d01, d04, d05, d14, d15, d45⟩ := core_own hown
   obtain ⟨u0, u1, Sa, Sb, ec, oa, ob, ta, tb, dab⟩ := cache_own o0
   simp only [List.cons.injEq, and_true] at ec
   obtain ⟨rfl, rfl⟩ := ec
   obtain ⟨u7, ec, i5, i6, od⟩ := way_own o4
   simp only [List.cons.injEq, and_true] at ec
   obtain ⟨rfl, rfl, rfl⟩ := ec
   have op := o1
   have ot := o5
   clear o0 o4 hown o1 o5
   have HD : Hid (Dis Sa Sb ∧ Dis Sa S1 ∧ Dis Sa S4 ∧ Dis Sa S5 ∧ Dis Sb S1 ∧ Dis Sb S4 ∧ Dis Sb S5 ∧ Dis S1 S4 ∧ Dis S1 S5 ∧ Dis S4 S5) := ⟨dab, d01.sub ta (Sub.refl _), d04.sub ta (Sub.refl _), d05.sub ta (Sub.refl _), d01.sub tb (Sub.refl _), d04.sub tb (Sub.refl _), d05.sub tb (Sub.refl _), d14, d15, d45⟩
   have HS : Hid (Sub Sa Sj ∧ Sub Sb Sj ∧ Sub S1 Sj ∧ Sub S4 Sj ∧ Sub S5 Sj) := ⟨ta.trans t0, tb.trans t0, t1, t4, t5⟩
   have HN : Hid (¬ Sa G ∧ ¬ Sb G ∧ ¬ S1 G ∧ ¬ S4 G ∧ ¬ S5 G) := ⟨fun q => hout (t0 _ (ta _ q)), fun q => hout (t0 _ (tb _ q)), fun q => hout (t1 _ q), fun q => hout (t4 _ q), fun q => hout (t5 _ q)⟩
   have HI : Hid (Sub Sj S ∧ Sub T S ∧ Dis Sj T ∧ ¬ T G ∧ S G ∧ ¬ Sj G) := ⟨s1, s2, hd, n2, hSg, hout⟩
   have HK : Hid _ := back
   clear dab d01 d04 d05 d14 d15 d45 ta tb t0 t1 t4 t5 s1 s2 hd n2 back hout i2 i3 i5 i6
   have HO : Hid (Chg S w wr) := hs
   have TU : Turn G (j * coreR.size) coreR.size Sj wr wr := Turn.refl _ _ _ _ _
   have KT : Keeps T wr wr := fun _ _ _ => rfl
   generalize hkk : k + (slcnt coreM (xs.take j) : Int) = kk at HPS ⊢
   have el : lot = 4398046511104 := rfl
   have hmm := HM.out
   have hbb := HB.out
   have hkk0 : 0 ≤ kk := by omega
   have hcE : coreM.cE x = (setsM.cV x.1.1 + intsM.cV x.1.2) + (opsM.cV x.2.1 + (1 + (1 + ((1 + (1 + intsM.cV x.2.2.2.2.1.2.2)) + intsM.cV x.2.2.2.2.2)))) := rfl
   have hbk : coreM.bk x = (setsM.bk x.1.1 + intsM.bk x.1.2) + (opsM.bk x.2.1 + (0 + (0 + ((0 + (0 + intsM.bk x.2.2.2.2.1.2.2)) + intsM.bk x.2.2.2.2.2)))) := rfl
   have Ca : Hid (∀ (W : World) (L : Int), setsR.own W Sa [v0] x.1.1 → 0 ≤ L → L + (setsM.cV x.1.1 : Int) ≤ (lot : Int) → Calls Tryz.prog 142 #[v0, .int .i64 L] W fun e w' => e = .returned (.int .i64 (L + (setsM.cV x.1.1 : Int))) ∧ setsR.own w' Sa [v0] (setsM.mV L x.1.1) ∧ Chg Sa W w') := fun W L ho hl hl2 => mkSets_u Sa [v0] x.1.1 L W ho hl hl2 (by omega)
   have Cb : Hid (∀ (W : World) (L : Int), intsR.own W Sb [v1] x.1.2 → 0 ≤ L → L + (intsM.cV x.1.2 : Int) ≤ (lot : Int) → Calls Tryz.prog 68 #[v1, .int .i64 L] W fun e w' => e = .returned (.int .i64 (L + (intsM.cV x.1.2 : Int))) ∧ intsR.own w' Sb [v1] (intsM.mV L x.1.2) ∧ Chg Sb W w') := fun W L ho hl hl2 => mkInts_u Sb [v1] x.1.2 L W ho hl hl2 (by omega)
   have Cp : Hid (∀ (W : World) (L : Int), opsR.own W S1 [v2] x.2.1 → 0 ≤ L → L + (opsM.cV x.2.1 : Int) ≤ (lot : Int) → Calls Tryz.prog 67 #[v2, .int .i64 L] W fun e w' => e = .returned (.int .i64 (L + (opsM.cV x.2.1 : Int))) ∧ opsR.own w' S1 [v2] (opsM.mV L x.2.1) ∧ Chg S1 W w') := fun W L ho hl hl2 => mkOps_u S1 [v2] x.2.1 L W ho hl hl2 (by omega)
   have Cd : Hid (∀ (W : World) (L : Int), intsR.own W S4 [v7] x.2.2.2.2.1.2.2 → 0 ≤ L → L + (intsM.cV x.2.2.2.2.1.2.2 : Int) ≤ (lot : Int) → Calls Tryz.prog 68 #[v7, .int .i64 L] W fun e w' => e = .returned (.int .i64 (L + (intsM.cV x.2.2.2.2.1.2.2 : Int))) ∧ intsR.own w' S4 [v7] (intsM.mV L x.2.2.2.2.1.2.2) ∧ Chg S4 W w') := fun W L ho hl hl2 => mkInts_u S4 [v7] x.2.2.2.2.1.2.2 L W ho hl hl2 (by omega)
   have Ct : Hid (∀ (W : World) (L : Int), intsR.own W S5 [v8] x.2.2.2.2.2 → 0 ≤ L → L + (intsM.cV x.2.2.2.2.2 : Int) ≤ (lot : Int) → Calls Tryz.prog 68 #[v8, .int .i64 L] W fun e w' => e = .returned (.int .i64 (L + (intsM.cV x.2.2.2.2.2 : Int))) ∧ intsR.own w' S5 [v8] (intsM.mV L x.2.2.2.2.2) ∧ Chg S5 W w') := fun W L ho hl hl2 => mkInts_u S5 [v8] x.2.2.2.2.2 L W ho hl hl2 (by omega)
   have HMV : Hid (coreM.mE kk x = ((setsM.mV (kk) x.1.1, intsM.mV (kk + (setsM.cV x.1.1 : Int)) x.1.2), opsM.mV (kk + (setsM.cV x.1.1 : Int) + (intsM.cV x.1.2 : Int)) x.2.1, kk + (setsM.cV x.1.1 : Int) + (intsM.cV x.1.2 : Int) + (opsM.cV x.2.1 : Int), kk + (setsM.cV x.1.1 : Int) + (intsM.cV x.1.2 : Int) + (opsM.cV x.2.1 : Int) + 1, (kk + (setsM.cV x.1.1 : Int) + (intsM.cV x.1.2 : Int) + (opsM.cV x.2.1 : Int) + 1 + 1, kk + (setsM.cV x.1.1 : Int) + (intsM.cV x.1.2 : Int) + (opsM.cV x.2.1 : Int) + 1 + 1 + 1, intsM.mV (kk + (setsM.cV x.1.1 : Int) + (intsM.cV x.1.2 : Int) + (opsM.cV x.2.1 : Int) + 1 + 1 + 1 + 1) x.2.2.2.2.1.2.2), intsM.mV (kk + (setsM.cV x.1.1 : Int) + (intsM.cV x.1.2 : Int) + (opsM.cV x.2.1 : Int) + 1 + 1 + 1 + 1 + (intsM.cV x.2.2.2.2.1.2.2 : Int)) x.2.2.2.2.2)) := core_mE kk x
   rw [hcE] at hT HT
   rw [hbk] at hbx
   have HJ : Hid (coreR.size = 9) := rfl
   clear hcE hbk ho hs
   generalize hna : setsM.cV x.1.1 = na at Ca HMV hT HT
   generalize hnb : intsM.cV x.1.2 = nb at Cb HMV hT HT
   generalize hnp : opsM.cV x.2.1 = np at Cp HMV hT HT
   generalize hnd : intsM.cV x.2.2.2.2.1.2.2 = nd at Cd HMV hT HT
   generalize hnt : intsM.cV x.2.2.2.2.2 = nt at Ct HMV hT HT
   have hsum : kk + (na : Int) + (nb : Int) + (np : Int) + (nd : Int) + (nt : Int) + 4 ≤ 4398046511104 := by omega
   have HKK := hkk
   clear hkk hmm hbb hT hbx el
   rw [HJ.out] at hat
   have x0 := at_cell0 hat
   have x1 := at_cell hat 1 rfl
   have x2 := at_cell hat 2 rfl
   have x3 := at_cell hat 3 rfl
   have x4 := at_cell hat 4 rfl
   have x5 := at_cell hat 5 rfl
   have x6 := at_cell hat 6 rfl
   have x7 := at_cell hat 7 rfl
   have x8 := at_cell hat 8 rfl
   have glt := at_lt hat
   have HZ : Hid _ := And.intro hat (And.intro TU (And.intro KT (And.intro oa (And.intro ob (And.intro op (And.intro od ot))))))
   clear hat TU KT oa ob op od ot
   go_wp2_with fail
   clear x0 x1 x2 x3 x4 x5 x6 x7 x8 glt
   obtain ⟨hat, TU, KT, oa, ob, op, od, ot⟩ := HZ.out
   clear HZ
   refine (Ca.out _ (kk) oa (by omega) (by rw [lot_c]; omega)).mono ?_
   rintro e W0 ⟨rfl, oa, cq⟩
   replace ob := own_chg ob cq (Dis.symm HD.out.1)
   replace op := own_chg op cq (Dis.symm HD.out.2.1)
   replace od := own_chg od cq (Dis.symm HD.out.2.2.1)
   replace ot := own_chg ot cq (Dis.symm HD.out.2.2.2.1)
   replace KT := keeps_trans KT (keeps_chg cq (HI.out.2.2.1.sub HS.out.1 (Sub.refl _))) TU.chg.size
   replace TU := TU.trans (turn_chg (cq.mono HS.out.1) HI.out.2.2.2.2.2 (at_lt hat)) (fun _ h => .inl h)
   replace hat := at_chg hat cq HN.out.1
   clear cq
   have x0 := at_cell0 hat
   have x1 := at_cell hat 1 rfl
   have x2 := at_cell hat 2 rfl
   have x3 := at_cell hat 3 rfl
   have x4 := at_cell hat 4 rfl
   have x5 := at_cell hat 5 rfl
   have x6 := at_cell hat 6 rfl
   have x7 := at_cell hat 7 rfl
   have x8 := at_cell hat 8 rfl
   have glt := at_lt hat
   have HZ : Hid _ := And.intro hat (And.intro TU (And.intro KT (And.intro oa (And.intro ob (And.intro op (And.intro od ot))))))
   clear hat TU KT oa ob op od ot
   go_wp2_with fail
   clear x0 x1 x2 x3 x4 x5 x6 x7 x8 glt
   obtain ⟨hat, TU, KT, oa, ob, op, od, ot⟩ := HZ.out
   clear HZ
   refine (Cb.out _ (kk + (na : Int)) ob (by omega) (by rw [lot_c]; omega)).mono ?_
   rintro e W1 ⟨rfl, ob, cq⟩
   replace oa := own_chg oa cq HD.out.1
   replace op := own_chg op cq (Dis.symm HD.out.2.2.2.2.1)
   replace od := own_chg od cq (Dis.symm HD.out.2.2.2.2.2.1)
   replace ot := own_chg ot cq (Dis.symm HD.out.2.2.2.2.2.2.1)
   replace KT := keeps_trans KT (keeps_chg cq (HI.out.2.2.1.sub HS.out.2.1 (Sub.refl _))) TU.chg.size
   replace TU := TU.trans (turn_chg (cq.mono HS.out.2.1) HI.out.2.2.2.2.2 (at_lt hat)) (fun _ h => .inl h)
   replace hat := at_chg hat cq HN.out.2.1
   clear cq
   have x0 := at_cell0 hat
   have x1 := at_cell hat 1 rfl
   have x2 := at_cell hat 2 rfl
   have x3 := at_cell hat 3 rfl
   have x4 := at_cell hat 4 rfl
   have x5 := at_cell hat 5 rfl
   have x6 := at_cell hat 6 rfl
   have x7 := at_cell hat 7 rfl
   have x8 := at_cell hat 8 rfl
   have glt := at_lt hat
   have HZ : Hid _ := And.intro hat (And.intro TU (And.intro KT (And.intro oa (And.intro ob (And.intro op (And.intro od ot))))))
   clear hat TU KT oa ob op od ot
   go_wp2_with fail
   clear x0 x1 x2 x3 x4 x5 x6 x7 x8 glt
   obtain ⟨hat, TU, KT, oa, ob, op, od, ot⟩ := HZ.out
   clear HZ
   refine (Cp.out _ (kk + (na : Int) + (nb : Int)) op (by omega) (by rw [lot_c]; omega)).mono ?_
   rintro e W2 ⟨rfl, op, cq⟩
   replace oa := own_chg oa cq HD.out.2.1
   replace ob := own_chg ob cq HD.out.2.2.2.2.1
   replace od := own_chg od cq (Dis.symm HD.out.2.2.2.2.2.2.2.1)
   replace ot := own_chg ot cq (Dis.symm HD.out.2.2.2.2.2.2.2.2.1)
   replace KT := keeps_trans KT (keeps_chg cq (HI.out.2.2.1.sub HS.out.2.2.1 (Sub.refl _))) TU.chg.size
   replace TU := TU.trans (turn_chg (cq.mono HS.out.2.2.1) HI.out.2.2.2.2.2 (at_lt hat)) (fun _ h => .inl h)
   replace hat := at_chg hat cq HN.out.2.2.1
   clear cq
   have x0 := at_cell0 hat
   have x1 := at_cell hat 1 rfl
   have x2 := at_cell hat 2 rfl
   have x3 := at_cell hat 3 rfl
   have x4 := at_cell hat 4 rfl
   have x5 := at_cell hat 5 rfl
   have x6 := at_cell hat 6 rfl
   have x7 := at_cell hat 7 rfl
   have x8 := at_cell hat 8 rfl
   have f0 := at_froz0 hat
   have f1 := at_froz hat 1
   have f2 := at_froz hat 2
   have f3 := at_froz hat 3
   have f4 := at_froz hat 4
   have f5 := at_froz hat 5
   have f6 := at_froz hat 6
   have f7 := at_froz hat 7
   have f8 := at_froz hat 8
   have glt := at_lt hat
   have HZ : Hid _ := And.intro hat (And.intro TU (And.intro KT (And.intro oa (And.intro ob (And.intro op (And.intro od ot))))))
   clear hat TU KT oa ob op od ot
   go_upto_region 8 with fail
   clear x0 x1 x2 x3 x4 x5 x6 x7 x8 f0 f1 f2 f3 f4 f5 f6 f7 f8 glt
   obtain ⟨hat, TU, KT, oa, ob, op, od, ot⟩ := HZ.out
   clear HZ
   replace oa := own_set (g := G) (o := j * 9 + 3) (v := .int .i64 (kk + (na : Int) + (nb : Int) + (np : Int))) oa HN.out.1
   replace ob := own_set (g := G) (o := j * 9 + 3) (v := .int .i64 (kk + (na : Int) + (nb : Int) + (np : Int))) ob HN.out.2.1
   replace op := own_set (g := G) (o := j * 9 + 3) (v := .int .i64 (kk + (na : Int) + (nb : Int) + (np : Int))) op HN.out.2.2.1
   replace od := own_set (g := G) (o := j * 9 + 3) (v := .int .i64 (kk + (na : Int) + (nb : Int) + (np : Int))) od HN.out.2.2.2.1
   replace ot := own_set (g := G) (o := j * 9 + 3) (v := .int .i64 (kk + (na : Int) + (nb : Int) + (np : Int))) ot HN.out.2.2.2.2
   replace KT := keeps_trans KT (set_keep (g := G) (o := j * 9 + 3) (v := .int .i64 (kk + (na : Int) + (nb : Int) + (np : Int))) HI.out.2.2.2.1) TU.chg.size
   replace TU := TU.trans (turn_set (G := G) (off := j * coreR.size) (n := coreR.size) (S := Sj) (v := .int .i64 (kk + (na : Int) + (nb : Int) + (np : Int))) (show 3 < coreR.size by decide)) (fun _ h => .inl h)
   rw [HJ.out] at TU
   replace hat : At _ _ G (j * 9) [v0, v1, v2, .int .i64 (kk + (na : Int) + (nb : Int) + (np : Int)), .int .i64 x.2.2.2.1, .int .i64 x.2.2.2.2.1.1, .int .i64 x.2.2.2.2.1.2.1, v7, v8] := at_set hat 3 (.int .i64 (kk + (na : Int) + (nb : Int) + (np : Int))) rfl
   generalize W2.setCell ⟨G, j * 9 + 3, none⟩ (.int .i64 (kk + (na : Int) + (nb : Int) + (np : Int))) = W3 at hat TU KT oa ob op od ot ⊢
   have x0 := at_cell0 hat
   have x1 := at_cell hat 1 rfl
   have x2 := at_cell hat 2 rfl
   have x3 := at_cell hat 3 rfl
   have x4 := at_cell hat 4 rfl
   have x5 := at_cell hat 5 rfl
   have x6 := at_cell hat 6 rfl
   have x7 := at_cell hat 7 rfl
   have x8 := at_cell hat 8 rfl
   have f0 := at_froz0 hat
   have f1 := at_froz hat 1
   have f2 := at_froz hat 2
   have f3 := at_froz hat 3
   have f4 := at_froz hat 4
   have f5 := at_froz hat 5
   have f6 := at_froz hat 6
   have f7 := at_froz hat 7
   have f8 := at_froz hat 8
   have glt := at_lt hat
   have HZ : Hid _ := And.intro hat (And.intro TU (And.intro KT (And.intro oa (And.intro ob (And.intro op (And.intro od ot))))))
   clear hat TU KT oa ob op od ot
   go_upto_region 10 with fail
   clear x0 x1 x2 x3 x4 x5 x6 x7 x8 f0 f1 f2 f3 f4 f5 f6 f7 f8 glt
   obtain ⟨hat, TU, KT, oa, ob, op, od, ot⟩ := HZ.out
   clear HZ
   replace oa := own_set (g := G) (o := j * 9 + 4) (v := .int .i64 (kk + (na : Int) + (nb : Int) + (np : Int) + 1)) oa HN.out.1
   replace ob := own_set (g := G) (o := j * 9 + 4) (v := .int .i64 (kk + (na : Int) + (nb : Int) + (np : Int) + 1)) ob HN.out.2.1
   replace op := own_set (g := G) (o := j * 9 + 4) (v := .int .i64 (kk + (na : Int) + (nb : Int) + (np : Int) + 1)) op HN.out.2.2.1
   replace od := own_set (g := G) (o := j * 9 + 4) (v := .int .i64 (kk + (na : Int) + (nb : Int) + (np : Int) + 1)) od HN.out.2.2.2.1
   replace ot := own_set (g := G) (o := j * 9 + 4) (v := .int .i64 (kk + (na : Int) + (nb : Int) + (np : Int) + 1)) ot HN.out.2.2.2.2
   replace KT := keeps_trans KT (set_keep (g := G) (o := j * 9 + 4) (v := .int .i64 (kk + (na : Int) + (nb : Int) + (np : Int) + 1)) HI.out.2.2.2.1) TU.chg.size
   replace TU := TU.trans (turn_set (G := G) (off := j * coreR.size) (n := coreR.size) (S := Sj) (v := .int .i64 (kk + (na : Int) + (nb : Int) + (np : Int) + 1)) (show 4 < coreR.size by decide)) (fun _ h => .inl h)
   rw [HJ.out] at TU
   replace hat : At _ _ G (j * 9) [v0, v1, v2, .int .i64 (kk + (na : Int) + (nb : Int) + (np : Int)), .int .i64 (kk + (na : Int) + (nb : Int) + (np : Int) + 1), .int .i64 x.2.2.2.2.1.1, .int .i64 x.2.2.2.2.1.2.1, v7, v8] := at_set hat 4 (.int .i64 (kk + (na : Int) + (nb : Int) + (np : Int) + 1)) rfl
   generalize W3.setCell ⟨G, j * 9 + 4, none⟩ (.int .i64 (kk + (na : Int) + (nb : Int) + (np : Int) + 1)) = W4 at hat TU KT oa ob op od ot ⊢
   have x0 := at_cell0 hat
   have x1 := at_cell hat 1 rfl
   have x2 := at_cell hat 2 rfl
   have x3 := at_cell hat 3 rfl
   have x4 := at_cell hat 4 rfl
   have x5 := at_cell hat 5 rfl
   have x6 := at_cell hat 6 rfl
   have x7 := at_cell hat 7 rfl
   have x8 := at_cell hat 8 rfl
   have f0 := at_froz0 hat
   have f1 := at_froz hat 1
   have f2 := at_froz hat 2
   have f3 := at_froz hat 3
   have f4 := at_froz hat 4
   have f5 := at_froz hat 5
   have f6 := at_froz hat 6
   have f7 := at_froz hat 7
   have f8 := at_froz hat 8
   have glt := at_lt hat
   have HZ : Hid _ := And.intro hat (And.intro TU (And.intro KT (And.intro oa (And.intro ob (And.intro op (And.intro od ot))))))
   clear hat TU KT oa ob op od ot
   go_upto_region 12 with fail
   clear x0 x1 x2 x3 x4 x5 x6 x7 x8 f0 f1 f2 f3 f4 f5 f6 f7 f8 glt
   obtain ⟨hat, TU, KT, oa, ob, op, od, ot⟩ := HZ.out
   clear HZ
   replace oa := own_set (g := G) (o := j * 9 + 5) (v := .int .i64 (kk + (na : Int) + (nb : Int) + (np : Int) + 1 + 1)) oa HN.out.1
   replace ob := own_set (g := G) (o := j * 9 + 5) (v := .int .i64 (kk + (na : Int) + (nb : Int) + (np : Int) + 1 + 1)) ob HN.out.2.1
   replace op := own_set (g := G) (o := j * 9 + 5) (v := .int .i64 (kk + (na : Int) + (nb : Int) + (np : Int) + 1 + 1)) op HN.out.2.2.1
   replace od := own_set (g := G) (o := j * 9 + 5) (v := .int .i64 (kk + (na : Int) + (nb : Int) + (np : Int) + 1 + 1)) od HN.out.2.2.2.1
   replace ot := own_set (g := G) (o := j * 9 + 5) (v := .int .i64 (kk + (na : Int) + (nb : Int) + (np : Int) + 1 + 1)) ot HN.out.2.2.2.2
   replace KT := keeps_trans KT (set_keep (g := G) (o := j * 9 + 5) (v := .int .i64 (kk + (na : Int) + (nb : Int) + (np : Int) + 1 + 1)) HI.out.2.2.2.1) TU.chg.size
   replace TU := TU.trans (turn_set (G := G) (off := j * coreR.size) (n := coreR.size) (S := Sj) (v := .int .i64 (kk + (na : Int) + (nb : Int) + (np : Int) + 1 + 1)) (show 5 < coreR.size by decide)) (fun _ h => .inl h)
   rw [HJ.out] at TU
   replace hat : At _ _ G (j * 9) [v0, v1, v2, .int .i64 (kk + (na : Int) + (nb : Int) + (np : Int)), .int .i64 (kk + (na : Int) + (nb : Int) + (np : Int) + 1), .int .i64 (kk + (na : Int) + (nb : Int) + (np : Int) + 1 + 1), .int .i64 x.2.2.2.2.1.2.1, v7, v8] := at_set hat 5 (.int .i64 (kk + (na : Int) + (nb : Int) + (np : Int) + 1 + 1)) rfl
   generalize W4.setCell ⟨G, j * 9 + 5, none⟩ (.int .i64 (kk + (na : Int) + (nb : Int) + (np : Int) + 1 + 1)) = W5 at hat TU KT oa ob op od ot ⊢
   have x0 := at_cell0 hat
   have x1 := at_cell hat 1 rfl
   have x2 := at_cell hat 2 rfl
   have x3 := at_cell hat 3 rfl
   have x4 := at_cell hat 4 rfl
   have x5 := at_cell hat 5 rfl
   have x6 := at_cell hat 6 rfl
   have x7 := at_cell hat 7 rfl
   have x8 := at_cell hat 8 rfl
   have f0 := at_froz0 hat
   have f1 := at_froz hat 1
   have f2 := at_froz hat 2
   have f3 := at_froz hat 3
   have f4 := at_froz hat 4
   have f5 := at_froz hat 5
   have f6 := at_froz hat 6
   have f7 := at_froz hat 7
   have f8 := at_froz hat 8
   have glt := at_lt hat
   have HZ : Hid _ := And.intro hat (And.intro TU (And.intro KT (And.intro oa (And.intro ob (And.intro op (And.intro od ot))))))
   clear hat TU KT oa ob op od ot
   go_upto_region 14 with fail
   clear x0 x1 x2 x3 x4 x5 x6 x7 x8 f0 f1 f2 f3 f4 f5 f6 f7 f8 glt
   obtain ⟨hat, TU, KT, oa, ob, op, od, ot⟩ := HZ.out
   clear HZ
   replace oa := own_set (g := G) (o := j * 9 + 6) (v := .int .i64 (kk + (na : Int) + (nb : Int) + (np : Int) + 1 + 1 + 1)) oa HN.out.1
   replace ob := own_set (g := G) (o := j * 9 + 6) (v := .int .i64 (kk + (na : Int) + (nb : Int) + (np : Int) + 1 + 1 + 1)) ob HN.out.2.1
   replace op := own_set (g := G) (o := j * 9 + 6) (v := .int .i64 (kk + (na : Int) + (nb : Int) + (np : Int) + 1 + 1 + 1)) op HN.out.2.2.1
   replace od := own_set (g := G) (o := j * 9 + 6) (v := .int .i64 (kk + (na : Int) + (nb : Int) + (np : Int) + 1 + 1 + 1)) od HN.out.2.2.2.1
   replace ot := own_set (g := G) (o := j * 9 + 6) (v := .int .i64 (kk + (na : Int) + (nb : Int) + (np : Int) + 1 + 1 + 1)) ot HN.out.2.2.2.2
   replace KT := keeps_trans KT (set_keep (g := G) (o := j * 9 + 6) (v := .int .i64 (kk + (na : Int) + (nb : Int) + (np : Int) + 1 + 1 + 1)) HI.out.2.2.2.1) TU.chg.size
   replace TU := TU.trans (turn_set (G := G) (off := j * coreR.size) (n := coreR.size) (S := Sj) (v := .int .i64 (kk + (na : Int) + (nb : Int) + (np : Int) + 1 + 1 + 1)) (show 6 < coreR.size by decide)) (fun _ h => .inl h)
   rw [HJ.out] at TU
   replace hat : At _ _ G (j * 9) [v0, v1, v2, .int .i64 (kk + (na : Int) + (nb : Int) + (np : Int)), .int .i64 (kk + (na : Int) + (nb : Int) + (np : Int) + 1), .int .i64 (kk + (na : Int) + (nb : Int) + (np : Int) + 1 + 1), .int .i64 (kk + (na : Int) + (nb : Int) + (np : Int) + 1 + 1 + 1), v7, v8] := at_set hat 6 (.int .i64 (kk + (na : Int) + (nb : Int) + (np : Int) + 1 + 1 + 1)) rfl
   generalize W5.setCell ⟨G, j * 9 + 6, none⟩ (.int .i64 (kk + (na : Int) + (nb : Int) + (np : Int) + 1 + 1 + 1)) = W6 at hat TU KT oa ob op od ot ⊢
   have x0 := at_cell0 hat
   have x1 := at_cell hat 1 rfl
   have x2 := at_cell hat 2 rfl
   have x3 := at_cell hat 3 rfl
   have x4 := at_cell hat 4 rfl
   have x5 := at_cell hat 5 rfl
   have x6 := at_cell hat 6 rfl
   have x7 := at_cell hat 7 rfl
   have x8 := at_cell hat 8 rfl
   have glt := at_lt hat
   have HZ : Hid _ := And.intro hat (And.intro TU (And.intro KT (And.intro oa (And.intro ob (And.intro op (And.intro od ot))))))
   clear hat TU KT oa ob op od ot
   go_wp2_with fail
   clear x0 x1 x2 x3 x4 x5 x6 x7 x8 glt
   obtain ⟨hat, TU, KT, oa, ob, op, od, ot⟩ := HZ.out
   clear HZ
   refine (Cd.out _ (kk + (na : Int) + (nb : Int) + (np : Int) + 1 + 1 + 1 + 1) od (by omega) (by rw [lot_c]; omega)).mono ?_
   rintro e W7 ⟨rfl, od, cq⟩
   replace oa := own_chg oa cq HD.out.2.2.1
   replace ob := own_chg ob cq HD.out.2.2.2.2.2.1
   replace op := own_chg op cq HD.out.2.2.2.2.2.2.2.1
   replace ot := own_chg ot cq (Dis.symm HD.out.2.2.2.2.2.2.2.2.2)
   replace KT := keeps_trans KT (keeps_chg cq (HI.out.2.2.1.sub HS.out.2.2.2.1 (Sub.refl _))) TU.chg.size
   replace TU := TU.trans (turn_chg (cq.mono HS.out.2.2.2.1) HI.out.2.2.2.2.2 (at_lt hat)) (fun _ h => .inl h)
   replace hat := at_chg hat cq HN.out.2.2.2.1
   clear cq
   have x0 := at_cell0 hat
   have x1 := at_cell hat 1 rfl
   have x2 := at_cell hat 2 rfl
   have x3 := at_cell hat 3 rfl
   have x4 := at_cell hat 4 rfl
   have x5 := at_cell hat 5 rfl
   have x6 := at_cell hat 6 rfl
   have x7 := at_cell hat 7 rfl
   have x8 := at_cell hat 8 rfl
   have glt := at_lt hat
   have HZ : Hid _ := And.intro hat (And.intro TU (And.intro KT (And.intro oa (And.intro ob (And.intro op (And.intro od ot))))))
   clear hat TU KT oa ob op od ot
   go_wp2_with fail
   clear x0 x1 x2 x3 x4 x5 x6 x7 x8 glt
   obtain ⟨hat, TU, KT, oa, ob, op, od, ot⟩ := HZ.out
   clear HZ
   refine (Ct.out _ (kk + (na : Int) + (nb : Int) + (np : Int) + 1 + 1 + 1 + 1 + (nd : Int)) ot (by omega) (by rw [lot_c]; omega)).mono ?_
   rintro e W8 ⟨rfl, ot, cq⟩
   replace oa := own_chg oa cq HD.out.2.2.2.1
   replace ob := own_chg ob cq HD.out.2.2.2.2.2.2.1
   replace op := own_chg op cq HD.out.2.2.2.2.2.2.2.2.1
   replace od := own_chg od cq HD.out.2.2.2.2.2.2.2.2.2
   replace KT := keeps_trans KT (keeps_chg cq (HI.out.2.2.1.sub HS.out.2.2.2.2 (Sub.refl _))) TU.chg.size
   replace TU := TU.trans (turn_chg (cq.mono HS.out.2.2.2.2) HI.out.2.2.2.2.2 (at_lt hat)) (fun _ h => .inl h)
   replace hat := at_chg hat cq HN.out.2.2.2.2
   clear cq
   have hnew := own_core (w := W8) (S := Sj) (x := ((setsM.mV (kk) x.1.1, intsM.mV (kk + (na : Int)) x.1.2), opsM.mV (kk + (na : Int) + (nb : Int)) x.2.1, kk + (na : Int) + (nb : Int) + (np : Int), kk + (na : Int) + (nb : Int) + (np : Int) + 1, (kk + (na : Int) + (nb : Int) + (np : Int) + 1 + 1, kk + (na : Int) + (nb : Int) + (np : Int) + 1 + 1 + 1, intsM.mV (kk + (na : Int) + (nb : Int) + (np : Int) + 1 + 1 + 1 + 1) x.2.2.2.2.1.2.2), intsM.mV (kk + (na : Int) + (nb : Int) + (np : Int) + 1 + 1 + 1 + 1 + (nd : Int)) x.2.2.2.2.2)) (show In64 (kk + (na : Int) + (nb : Int) + (np : Int)) from in64_c (by omega) (by omega)) (show In64 (kk + (na : Int) + (nb : Int) + (np : Int) + 1) from in64_c (by omega) (by omega)) (own_cache (S := fun q => Sa q ∨ Sb q) oa ob (fun _ h => .inl h) (fun _ h => .inr h) HD.out.1) op (own_way (show In64 (kk + (na : Int) + (nb : Int) + (np : Int) + 1 + 1) from in64_c (by omega) (by omega)) (show In64 (kk + (na : Int) + (nb : Int) + (np : Int) + 1 + 1 + 1) from in64_c (by omega) (by omega)) od) ot (fun q h => h.elim (HS.out.1 q) (HS.out.2.1 q)) HS.out.2.2.1 HS.out.2.2.2.1 HS.out.2.2.2.2 (fun q h k => h.elim (fun u => HD.out.2.1 q u k) (fun u => HD.out.2.2.2.2.1 q u k)) (fun q h k => h.elim (fun u => HD.out.2.2.1 q u k) (fun u => HD.out.2.2.2.2.2.1 q u k)) (fun q h k => h.elim (fun u => HD.out.2.2.2.1 q u k) (fun u => HD.out.2.2.2.2.2.2.1 q u k)) HD.out.2.2.2.2.2.2.2.1 HD.out.2.2.2.2.2.2.2.2.1 HD.out.2.2.2.2.2.2.2.2.2
   have hlist := HK.out W8 _ _ Sj S ⟨hat, hnew, HI.out.2.2.2.2.2⟩ TU.row KT HI.out.2.2.1 HI.out.2.2.2.2.1 HI.out.1 HI.out.2.1
   rw [← HMV.out, HPS.out] at hlist
   have HE : Hid (coresR.own W8 S [.slice (some ⟨G, 0, none⟩) xs.length cap] (pmark coreM k xs (j + 1)) ∧ Chg S w W8) := ⟨hlist, HO.out.trans (chg_in TU S HI.out.1 HI.out.2.2.2.2.1)⟩
   clear hnew hlist hat TU KT oa ob op od ot HK HI HS HN HD HPS HMV HO Ca Cb Cp Cd Ct
   go_wp2
   go_roundw
   case rel => exact ⟨j + 1, by omega, by go_num, by rw [HT.out]; congr 1; omega, HE.out.1, HE.out.2⟩
   case measure => simp [intOf]; omega
  ·have hjn : j = xs.length := by omega
   subst hjn
   rw [List.take_length]
   rw [pmark_all] at ho
   go_wp2
   go_ret
   exact ⟨rfl, ho, hs⟩
theorem hdCores_u : HdC 75 coresR coresM cell1 := by
 rintro cs xs k w ⟨a, cap, rfl, l1, l2, l3⟩ h0 hm hb
 have hml : (coresM.mV k xs).length = xs.length := slmark_len _ _ _
 have el : lot = 4398046511104 := rfl
 have e2 : coresM.cV xs = slcnt coreM xs := rfl
 have e3 : coresM.bk xs = xs.length + sumbk coreM xs := rfl
 rw [e2] at hm ⊢
 rw [e3] at hb
 change Calls Tryz.prog 75 #[.slice a (coresM.mV k xs).length cap, .int .i64 k] w _
 rw [hml]
 have hln : xs.length ≤ 4398046511104 := by omega
 have HB : Hid (xs.length + sumbk coreM xs ≤ lot) := hb
 have HM : Hid (k + (slcnt coreM xs : Int) ≤ (lot : Int)) := hm
 have HL : Hid (∀ W, Below w.heap.size w W → SlRd coreR W a (slmark coreM k xs)) := fun W hb => slrd_next l3 hb
 clear hb hm e2 e3 el l1 l2 l3 hml
 go_enter Tryz.func75, Tryz.ntmps75
 go_wp2
 go_loopw [1, 5] (fun q i wr => ∃ j : Nat, j ≤ xs.length ∧ i = .int .i64 j ∧ q = .int .i64 (k + slcnt coreM (xs.take j)) ∧ Below w.heap.size w wr)
  (fun _ i _ => xs.length - (intOf i).toNat)
 case atStart => exact ⟨0, Nat.zero_le _, rfl, by simp [slcnt], Below.refl _ _⟩
 case round =>
  obtain ⟨j, hj, rfl, rfl, BB⟩ := hrel
  by_cases hlt : j < xs.length
  ·have hlt' : (j : Int) < (xs.length : Int) := by omega
   obtain ⟨x, hx⟩ : ∃ x, xs[j]? = some x := ⟨_, List.getElem?_eq_getElem hlt⟩
   have hT : slcnt coreM (xs.take j) + coreM.cE x ≤ slcnt coreM xs := slcnt_get (M := coreM) hx
   have HT : Hid (slcnt coreM (xs.take (j + 1)) = slcnt coreM (xs.take j) + coreM.cE x) := slcnt_step (M := coreM) hx
   have hbx := sumbk_ge coreM xs hx
   obtain ⟨bb, off, cs, rfl, hrd, hcell⟩ := slrd_at (HL.out _ BB) (slmark_at (M := coreM) (k := k) hx)
   generalize hkk : k + (slcnt coreM (xs.take j) : Int) = kk at hrd ⊢
   have el : lot = 4398046511104 := rfl
   have hmm := HM.out
   have hbb := HB.out
   have hkk0 : 0 ≤ kk := by omega
   have hcE : coreM.cE x = (setsM.cV x.1.1 + intsM.cV x.1.2) + (opsM.cV x.2.1 + (1 + (1 + ((1 + (1 + intsM.cV x.2.2.2.2.1.2.2)) + intsM.cV x.2.2.2.2.2)))) := rfl
   have hbk : coreM.bk x = (setsM.bk x.1.1 + intsM.bk x.1.2) + (opsM.bk x.2.1 + (0 + (0 + ((0 + (0 + intsM.bk x.2.2.2.2.1.2.2)) + intsM.bk x.2.2.2.2.2)))) := rfl
   rw [core_mE] at hrd
   rw [hcE] at hT HT
   rw [hbk] at hbx
   obtain ⟨v0, v1, v2, v5, v6, v7, v8, rfl, r0, r1, -, -, r4, r5⟩ := core_rd hrd
   obtain ⟨a1, p1, b1, q1, ec, g1, g2, g3, g4, ra, rb⟩ := cache_rd r0
   simp only [List.cons.injEq, and_true] at ec
   obtain ⟨ec0, ec1⟩ := ec
   obtain ⟨a4, p4, ec4, -, -, g5, g6, rd4⟩ := way_rd r4
   simp only [List.cons.injEq, and_true] at ec4
   obtain ⟨rfl, rfl, ec7⟩ := ec4
   have Ra : setsR.rd wr [v0] (setsM.mV (kk) x.1.1) := by rw [ec0]; exact ⟨a1, p1, rfl, g1, g2, ra⟩
   have Ca : Hid (∀ (W : World), Below wr.heap.size wr W → Calls Tryz.prog 145 #[v0, .int .i64 (kk)] W fun e w' => e = .returned (.int .i64 (kk + (setsM.cV x.1.1 : Int))) ∧ Below W.heap.size W w') := fun W hb => hdSets_u [v0] x.1.1 (kk) W (rd_next Ra hb) (by omega) (by omega) (by omega)
   have Rb : intsR.rd wr [v1] (intsM.mV (kk + (setsM.cV x.1.1 : Int)) x.1.2) := by rw [ec1]; exact ⟨b1, q1, rfl, g3, g4, rb⟩
   have Cb : Hid (∀ (W : World), Below wr.heap.size wr W → Calls Tryz.prog 146 #[v1, .int .i64 (kk + (setsM.cV x.1.1 : Int))] W fun e w' => e = .returned (.int .i64 (kk + (setsM.cV x.1.1 : Int) + (intsM.cV x.1.2 : Int))) ∧ Below W.heap.size W w') := fun W hb => hdInts_u [v1] x.1.2 (kk + (setsM.cV x.1.1 : Int)) W (rd_next Rb hb) (by omega) (by omega) (by omega)
   have Rp : opsR.rd wr [v2] (opsM.mV (kk + (setsM.cV x.1.1 : Int) + (intsM.cV x.1.2 : Int)) x.2.1) := r1
   have Cp : Hid (∀ (W : World), Below wr.heap.size wr W → Calls Tryz.prog 147 #[v2, .int .i64 (kk + (setsM.cV x.1.1 : Int) + (intsM.cV x.1.2 : Int))] W fun e w' => e = .returned (.int .i64 (kk + (setsM.cV x.1.1 : Int) + (intsM.cV x.1.2 : Int) + (opsM.cV x.2.1 : Int))) ∧ Below W.heap.size W w') := fun W hb => hdOps_u [v2] x.2.1 (kk + (setsM.cV x.1.1 : Int) + (intsM.cV x.1.2 : Int)) W (rd_next Rp hb) (by omega) (by omega) (by omega)
   have Rd : intsR.rd wr [v7] (intsM.mV (kk + (setsM.cV x.1.1 : Int) + (intsM.cV x.1.2 : Int) + (opsM.cV x.2.1 : Int) + 1 + 1 + 1 + 1) x.2.2.2.2.1.2.2) := by rw [ec7]; exact ⟨a4, p4, rfl, g5, g6, rd4⟩
   have Cd : Hid (∀ (W : World), Below wr.heap.size wr W → Calls Tryz.prog 146 #[v7, .int .i64 (kk + (setsM.cV x.1.1 : Int) + (intsM.cV x.1.2 : Int) + (opsM.cV x.2.1 : Int) + 1 + 1 + 1 + 1)] W fun e w' => e = .returned (.int .i64 (kk + (setsM.cV x.1.1 : Int) + (intsM.cV x.1.2 : Int) + (opsM.cV x.2.1 : Int) + 1 + 1 + 1 + 1 + (intsM.cV x.2.2.2.2.1.2.2 : Int))) ∧ Below W.heap.size W w') := fun W hb => hdInts_u [v7] x.2.2.2.2.1.2.2 (kk + (setsM.cV x.1.1 : Int) + (intsM.cV x.1.2 : Int) + (opsM.cV x.2.1 : Int) + 1 + 1 + 1 + 1) W (rd_next Rd hb) (by omega) (by omega) (by omega)
   have Rt : intsR.rd wr [v8] (intsM.mV (kk + (setsM.cV x.1.1 : Int) + (intsM.cV x.1.2 : Int) + (opsM.cV x.2.1 : Int) + 1 + 1 + 1 + 1 + (intsM.cV x.2.2.2.2.1.2.2 : Int)) x.2.2.2.2.2) := r5
   have Ct : Hid (∀ (W : World), Below wr.heap.size wr W → Calls Tryz.prog 146 #[v8, .int .i64 (kk + (setsM.cV x.1.1 : Int) + (intsM.cV x.1.2 : Int) + (opsM.cV x.2.1 : Int) + 1 + 1 + 1 + 1 + (intsM.cV x.2.2.2.2.1.2.2 : Int))] W fun e w' => e = .returned (.int .i64 (kk + (setsM.cV x.1.1 : Int) + (intsM.cV x.1.2 : Int) + (opsM.cV x.2.1 : Int) + 1 + 1 + 1 + 1 + (intsM.cV x.2.2.2.2.1.2.2 : Int) + (intsM.cV x.2.2.2.2.2 : Int))) ∧ Below W.heap.size W w') := fun W hb => hdInts_u [v8] x.2.2.2.2.2 (kk + (setsM.cV x.1.1 : Int) + (intsM.cV x.1.2 : Int) + (opsM.cV x.2.1 : Int) + 1 + 1 + 1 + 1 + (intsM.cV x.2.2.2.2.1.2.2 : Int)) W (rd_next Rt hb) (by omega) (by omega) (by omega)
   have x0 := hcell 0 _ rfl
   rw [show off + (j * coreR.size + 0) = off + j * 9 from rfl] at x0
   have x1 := hcell 1 _ rfl
   rw [show off + (j * coreR.size + 1) = off + j * 9 + 1 from rfl] at x1
   have x2 := hcell 2 _ rfl
   rw [show off + (j * coreR.size + 2) = off + j * 9 + 2 from rfl] at x2
   have x3 := hcell 3 _ rfl
   rw [show off + (j * coreR.size + 3) = off + j * 9 + 3 from rfl] at x3
   have x4 := hcell 4 _ rfl
   rw [show off + (j * coreR.size + 4) = off + j * 9 + 4 from rfl] at x4
   have x5 := hcell 5 _ rfl
   rw [show off + (j * coreR.size + 5) = off + j * 9 + 5 from rfl] at x5
   have x6 := hcell 6 _ rfl
   rw [show off + (j * coreR.size + 6) = off + j * 9 + 6 from rfl] at x6
   have x7 := hcell 7 _ rfl
   rw [show off + (j * coreR.size + 7) = off + j * 9 + 7 from rfl] at x7
   have x8 := hcell 8 _ rfl
   rw [show off + (j * coreR.size + 8) = off + j * 9 + 8 from rfl] at x8
   have y3 : wr.cell? ⟨bb, off + j * 9 + 3, none⟩ = some (.int .i64 (kk + (setsM.cV x.1.1 : Int) + (intsM.cV x.1.2 : Int) + (opsM.cV x.2.1 : Int))) := x3
   have y4 : wr.cell? ⟨bb, off + j * 9 + 4, none⟩ = some (.int .i64 (kk + (setsM.cV x.1.1 : Int) + (intsM.cV x.1.2 : Int) + (opsM.cV x.2.1 : Int) + 1)) := x4
   have y5 : wr.cell? ⟨bb, off + j * 9 + 5, none⟩ = some (.int .i64 (kk + (setsM.cV x.1.1 : Int) + (intsM.cV x.1.2 : Int) + (opsM.cV x.2.1 : Int) + 1 + 1)) := x5
   have y6 : wr.cell? ⟨bb, off + j * 9 + 6, none⟩ = some (.int .i64 (kk + (setsM.cV x.1.1 : Int) + (intsM.cV x.1.2 : Int) + (opsM.cV x.2.1 : Int) + 1 + 1 + 1)) := x6
   clear x3 x4 x5 x6 hcE hbk hrd hcell r0 r1 r4 r5 ra rb rd4 g1 g2 g3 g4 g5 g6 ec0 ec1 ec7 Ra Rb Rp Rd Rt hx
   generalize hna : setsM.cV x.1.1 = na at Ca Cb Cp Cd Ct y3 y4 y5 y6 hT HT
   generalize hnb : intsM.cV x.1.2 = nb at Ca Cb Cp Cd Ct y3 y4 y5 y6 hT HT
   generalize hnp : opsM.cV x.2.1 = np at Ca Cb Cp Cd Ct y3 y4 y5 y6 hT HT
   generalize hnd : intsM.cV x.2.2.2.2.1.2.2 = nd at Ca Cb Cp Cd Ct y3 y4 y5 y6 hT HT
   generalize hnt : intsM.cV x.2.2.2.2.2 = nt at Ca Cb Cp Cd Ct y3 y4 y5 y6 hT HT
   have hsum : kk + (na : Int) + (nb : Int) + (np : Int) + (nd : Int) + (nt : Int) + 4 ≤ 4398046511104 := by omega
   have g1 : ¬ (kk + (na : Int) < 0) := by omega
   have g2 : ¬ (kk + (na : Int) + (nb : Int) < 0) := by omega
   have g3 : ¬ (kk + (na : Int) + (nb : Int) + (np : Int) < 0) := by omega
   have g8 : ¬ (kk + (na : Int) + (nb : Int) + (np : Int) + 1 + 1 + 1 + 1 + (nd : Int) < 0) := by omega
   have g9 : ¬ (kk + (na : Int) + (nb : Int) + (np : Int) + 1 + 1 + 1 + 1 + (nd : Int) + (nt : Int) < 0) := by omega
   have HKK : Hid _ := hkk
   clear hkk hmm hbb hT hbx el
   have B1 := Below.refl wr.heap.size wr
   go_wp2_with fail
   refine (Ca.out _ B1).mono ?_
   rintro e Wa ⟨rfl, bq⟩
   replace x0 := cell_keep bq x0 (cell_lt x0)
   replace x1 := cell_keep bq x1 (cell_lt x1)
   replace x2 := cell_keep bq x2 (cell_lt x2)
   replace y3 := cell_keep bq y3 (cell_lt y3)
   replace y4 := cell_keep bq y4 (cell_lt y4)
   replace y5 := cell_keep bq y5 (cell_lt y5)
   replace y6 := cell_keep bq y6 (cell_lt y6)
   replace x7 := cell_keep bq x7 (cell_lt x7)
   replace x8 := cell_keep bq x8 (cell_lt x8)
   replace B1 := below_step B1 bq
   clear bq
   go_wp2_with fail
   refine (Cb.out _ B1).mono ?_
   rintro e Wb ⟨rfl, bq⟩
   replace x0 := cell_keep bq x0 (cell_lt x0)
   replace x1 := cell_keep bq x1 (cell_lt x1)
   replace x2 := cell_keep bq x2 (cell_lt x2)
   replace y3 := cell_keep bq y3 (cell_lt y3)
   replace y4 := cell_keep bq y4 (cell_lt y4)
   replace y5 := cell_keep bq y5 (cell_lt y5)
   replace y6 := cell_keep bq y6 (cell_lt y6)
   replace x7 := cell_keep bq x7 (cell_lt x7)
   replace x8 := cell_keep bq x8 (cell_lt x8)
   replace B1 := below_step B1 bq
   clear bq
   go_wp2_with fail
   refine (Cp.out _ B1).mono ?_
   rintro e Wp ⟨rfl, bq⟩
   replace x0 := cell_keep bq x0 (cell_lt x0)
   replace x1 := cell_keep bq x1 (cell_lt x1)
   replace x2 := cell_keep bq x2 (cell_lt x2)
   replace y3 := cell_keep bq y3 (cell_lt y3)
   replace y4 := cell_keep bq y4 (cell_lt y4)
   replace y5 := cell_keep bq y5 (cell_lt y5)
   replace y6 := cell_keep bq y6 (cell_lt y6)
   replace x7 := cell_keep bq x7 (cell_lt x7)
   replace x8 := cell_keep bq x8 (cell_lt x8)
   replace B1 := below_step B1 bq
   clear bq
   go_wp2_with fail
   refine (Cd.out _ B1).mono ?_
   rintro e Wd ⟨rfl, bq⟩
   replace x0 := cell_keep bq x0 (cell_lt x0)
   replace x1 := cell_keep bq x1 (cell_lt x1)
   replace x2 := cell_keep bq x2 (cell_lt x2)
   replace y3 := cell_keep bq y3 (cell_lt y3)
   replace y4 := cell_keep bq y4 (cell_lt y4)
   replace y5 := cell_keep bq y5 (cell_lt y5)
   replace y6 := cell_keep bq y6 (cell_lt y6)
   replace x7 := cell_keep bq x7 (cell_lt x7)
   replace x8 := cell_keep bq x8 (cell_lt x8)
   replace B1 := below_step B1 bq
   clear bq
   go_wp2_with fail
   refine (Ct.out _ B1).mono ?_
   rintro e Wt ⟨rfl, bq⟩
   replace x0 := cell_keep bq x0 (cell_lt x0)
   replace x1 := cell_keep bq x1 (cell_lt x1)
   replace x2 := cell_keep bq x2 (cell_lt x2)
   replace y3 := cell_keep bq y3 (cell_lt y3)
   replace y4 := cell_keep bq y4 (cell_lt y4)
   replace y5 := cell_keep bq y5 (cell_lt y5)
   replace y6 := cell_keep bq y6 (cell_lt y6)
   replace x7 := cell_keep bq x7 (cell_lt x7)
   replace x8 := cell_keep bq x8 (cell_lt x8)
   replace B1 := below_step B1 bq
   clear bq
   replace BB := below_step BB B1
   clear x0 x1 x2 y3 y4 y5 y6 x7 x8 Ca Cb Cp Cd Ct B1
   go_wp2
   go_roundw
   case rel => exact ⟨j + 1, by omega, by go_num, by rw [HT.out]; have := HKK.out; congr 1; omega, BB⟩
   case measure => simp [intOf]; omega
  ·have hjn : j = xs.length := by omega
   subst hjn
   rw [List.take_length]
   go_wp2
   go_ret
   exact ⟨rfl, BB⟩
end Go.Proofs.YthnfkacboijneaaGreatDoor
