import Derived.Test.YtmdhblhdfcocjaaGreatDoorP00Box
import Derived.Test.YtmdhblhdfcocjaaGreatDoorP18
namespace Go.Proofs.YtmdhblhdfcocjaaGreatDoor
open Go.RowKit
set_option linter.unusedVariables false
theorem zI9 {α : Type} {M : Mk α} {K : Nat} : ∀ {xs : List α}, (∀ x ∈ xs, M.bk x ≤ K) → zBz M xs ≤ xs.length * K
 | [], _ => by simp [zBz]
 | x :: xs, h => by
  have h1 := zI9 (xs := xs) (fun y hy => h y (List.mem_cons_of_mem _ hy));have h2 := h x (List.mem_cons_self ..);have a : zBz M (x :: xs) = M.bk x + zBz M xs := by simp [zBz]
  rw [a, List.length_cons, Nat.add_mul];omega
theorem ok_bk {c : zAu} (h : OkC isL zAI c) : zAZ.bk c ≤ 1000 := by
 have v := h;obtain ⟨r, h2, m, g, p⟩ := h;unfold zIT at r g;have l : ∀ row ∈ c.1, zBr.bk row ≤ 12 := fun row hr => by
  obtain ⟨s, d⟩ := List.getElem?_of_mem hr;have hl := (p s row d).1;have b : ∀ u ∈ row, zBE.bk u ≤ 2 := fun u b => by
   obtain ⟨j, n⟩ := List.getElem?_of_mem b;have h5 := zMS v d n;have f : zBE.bk u = 0 + (0 + (u.2.2.length + zBz zBx u.2.2)) := rfl;have o := zHD u.2.2;omega
  have k := zI9 b;have i : zBr.bk row = row.length + zBz zBE row := rfl;have a : row.length * 2 ≤ 8 := by omega
  omega
 have k := zI9 l;have q : zAZ.bk c = zEU.bk c.1 + zBn.bk c.2 := rfl;have f : zEU.bk c.1 = c.1.length + zBz zBr c.1 := rfl;have o : zBn.bk c.2 = c.2.length + zBz zBx c.2 := rfl;have i := zHD c.2;have a : c.1.length * 12 ≤ 48 := by omega
 omega
open Go.ChangeShapes Go.WideShapes Go.ChangeAt Go.RowKit Go.Shelf
noncomputable def zB2 (c : zAu) (u : zAT) : zAu × Bool := zME isL zAI zCU c u
theorem fill_bad {c : zAu} {u : zAT} (h : okB isL zAI c = false) : zB2 c u = (([], []), false) := by
 unfold zB2 zME;rw [h];rfl
theorem zFz {c : zAu} {u : zAT} (hok : OkC isL zAI c) (h : zBj isL u = false) : zB2 c u = (c, false) := by
 unfold zB2 zME;rw [zCK.2 hok, h];rfl
theorem zDp {c : zAu} {u : zAT} (hok : OkC isL zAI c) (h : zB1 c u.1 = none) : zB2 c u = (c, false) := by
 unfold zB2 zME;rw [zCK.2 hok, h];cases zBj isL u <;> rfl
theorem zDW {c : zAu} {u : zAT} {i : Nat} (hok : OkC isL zAI c) (hf : zBj isL u = true) (h : zB1 c u.1 = some i) : zB2 c u = (zCq zCU c u i, true) := by
 unfold zB2 zME;rw [zCK.2 hok, h, hf];rfl
theorem put_lt {c : zAu} {line : Int} {i : Nat} (h : zB1 c line = some i) : ∃ u, (zAm c line)[i]? = some u := by
 unfold zB1 at h;split at h
 ·rename_i j hj
  cases h;obtain ⟨-, u, a, -⟩ := zD1 hj;exact ⟨u, a⟩
 ·obtain ⟨u, a, -⟩ := zGj h;exact ⟨u, a⟩
theorem zJw {t : Int} {m fi : Nat} (W : World) (h : zAI t m = true) (hf : fi < m) : Calls Tryz.prog 110 #[nI t, nI (m : Int), nI (fi : Int)] W fun e w' => e = .returned (nI (zCU t m fi)) ∧ w' = W := by
 simp only [zAI, decide_eq_true_eq] at h;rcases h with ⟨c, rfl⟩ | ⟨c, a, b⟩ | ⟨c, a, b⟩
 ·rw [c];exact zKc 0 _ W
 ·rw [c];exact zKd t _ W (by omega) (by omega)
 ·rw [c];exact zKe t _ W (by omega) (by omega)
set_option maxRecDepth 8000 in
set_option maxHeartbeats 8000000 in
theorem zN2 (gb cp : Nat) (S S2 : zAW) (u : Value) (v0 : Option Addr) (c : zAu) (l st : Int) (d : List Int) (ad : Option Addr) (cpw : Nat) (w : World) (hok : OkC isL zAI c) (bc : Array Value) (bt : TypeId) (hb0 : bc[0]? = some u) (hb1 : bc[1]? = some (sL v0 c.2.length cp)) (hbox : w.heap[gb]? = some (.cells bc bt (0, 0))) (hnb : ¬ S gb) (hnb2 : ¬ S2 gb) (hdis : Dis S S2) (h : zBu.own w S [u] c.1) (h2 : zA5.own w S2 [sL v0 c.2.length cp] c.2)
    (i1 : zBk l) (i2 : zBk st) (hd : zBg zBC w ad d) (hdl : d.length ≤ 1048576) :
    Calls Tryz.prog 87 #[.pointer (some ⟨gb, 0, none⟩), .agg #[nI l, nI st, sL ad d.length cpw]] w fun e w' => e = .returned (.bool (zB2 c (l, st, d)).2) ∧
     zBu.own w' (fun k => Old w S k ∨ (w.heap.size ≤ k ∧ k < w'.heap.size)) [u] (zB2 c (l, st, d)).1.1 ∧ zA5.own w' S2 [sL v0 c.2.length cp] (zB2 c (l, st, d)).1.2 ∧ Chg (fun k => Old w S k ∨ S2 k) w w' := by
 obtain ⟨a, D, rfl, C⟩ := zIt h;have IB := (ltH hbox);have HF : Hid _ := fun (W : World) (hb : Bl w W) => zE6 l st d ad cpw W (zA7 hd fun k m => hb.block k m);have Y := zAy w (.cells #[nI l, nI st, sL ad d.length cpw] 39);have B := zAf w (.cells #[nI l, nI st, sL ad d.length cpw] 39);cases N : zBj isL (l, st, d)
 ·rw [N] at HF;rw [zFz hok N];have H : Hid _ := aI h h2;clear h h2 C hd;go_enter Tryz.func87, Tryz.ntmps87;go_wp2_with fail
  generalize w.alloc (.cells #[nI l, nI st, sL ad d.length cpw] 39) = W0 at Y B ⊢;refine (HF.out _ B).mono ?_;rintro e w1 ⟨rfl, b1⟩;replace B := zAb B b1;clear b1 HF Y;go_wp2;go_ret
  exact ⟨rfl, zBu.own_mono (zBu.own_keep (zBM H.out.1) (zAh B)) (fun k m => .inl m), zA5.own_keep H.out.2 (zAh B), zA9 B⟩
 ·rw [N] at HF;have eB := zBX N;simp only at eB
  have DA : Hid _ := fun (W : World) (hb : Bl w W) => zFD a v0 c D cp l W hok (zA7 C fun k m => hb.block k m);obtain ⟨LA, T⟩ : ∃ x, x = zGn (atC c l) := ⟨_, rfl⟩;rw [← T] at DA;have vA : Hid (LA = zGn (atC c l)) := T;clear T;obtain ⟨hp, M, YA, sD, lA, RB⟩ := zDy hok l;obtain ⟨t1, t2, t3, t4, t5, t6, t7⟩ := zKi hok l;have iC : ((zAE c l : Nat) : Int) < (c.1.length : Int) := by omega
  have dC : ((zAE c l : Nat) : Int) < (c.2.length : Int) := by omega
  have sA : l % (c.1.length : Int) = ((zAE c l : Nat) : Int) := lA.symm;have hz : (c.1.length : Int) ≠ 0 := by omega
  have cD : ((c.1.length : Int) == 0) = false := beq_false_of_ne hz;have bB : ¬ (c.1.length = 0) := by omega
  have NC : ¬ (c.1 = []) := fun e => by rw [e] at bB; exact bB rfl
  have VC : Int.tmod l (c.1.length : Int) = ((zAE c l : Nat) : Int) := by rw [Int.tmod_eq_emod_of_nonneg (by omega), sA]
  obtain ⟨V, o0, aj, cj, rfl, b, -, -, jB⟩ := zDj C M;have HC : Hid (∀ W, Bl w W → W.cell? ⟨V, o0 + zAE c l, none⟩ = some (sL aj (zAm c l).length cj)) := fun W hb => zAd hb b (zAi b);have XA : Hid (∀ W, Bl w W → zBg zAR W aj (zAm c l)) := fun W hb => zA7 jB fun k m => hb.block k m;have A : Hid (∀ W, Bl w W → W.heap[gb]? = some (.cells bc bt (0, 0))) := fun W hb => zAa hb hbox;have dB : Hid (∀ k, atC c l = some k → zB1 c l = some k) := fun k m => by unfold zB1; rw [m]
  have BA : Hid (atC c l = none → zB1 c l = (zAm c l).findIdx? zBA) := fun m => by unfold zB1; rw [m]; rfl
  clear b jB lA hp YA;have H : Hid _ := aI h (aI h2 (aI hd (aI i1 i2)));have HG : Hid _ := aI M (aI t2 (aI t3 t1));have oA : Hid _ := hok;have fA : Hid _ := aI hnb (aI hnb2 hdis);clear h h2 C hd M t1 t2 t3 t4 t5 t7 hok hnb hnb2 hdis hbox i1 i2;go_enter Tryz.func87, Tryz.ntmps87;go_wp2_with fail
  generalize w.alloc (.cells #[nI l, nI st, sL ad d.length cpw] 39) = W0 at Y B ⊢;refine (HF.out _ B).mono ?_;rintro e w1 ⟨rfl, b1⟩;replace B := zAb B b1;replace Y := zAa b1 Y;clear b1 HF;obtain ⟨J, Z, y2⟩ := zAg Y;obtain ⟨G, E⟩ := zDD hb0 hb1 (A.out _ B);go_wp2;go_quiet (fail)
  have B2 : Bl w (w1.drewN nq) := zGh B nq;have Y2 : (w1.drewN nq).heap[w.heap.size]? = some (.cells #[nI l, nI st, sL ad d.length cpw] 39 (0, 0)) := Y;clear J Z y2 G E B Y;generalize w1.drewN nq = w2 at B2 Y2 ⊢;obtain ⟨J, Z, y2⟩ := zAg Y2;obtain ⟨G, E⟩ := zDD hb0 hb1 (A.out _ B2);go_wp2;have n0 : ∀ n' : Cls (fun wx => Bl w2 wx), n'.w.cell? ⟨gb, 0, none⟩ = some (sL (some ⟨V, o0, none⟩) c.1.length D) := fun n' => zAd n'.h G (zAi G);have n1 : ∀ n' : Cls (fun wx => Bl w2 wx), n'.w.cell? ⟨gb, 1, none⟩ = some (sL v0 c.2.length cp) := fun n' => zAd n'.h E (zAi E);have n2 : ∀ n' : Cls (fun wx => Bl w2 wx), n'.w.cell? ⟨w.heap.size, 0, none⟩ = some (nI l) := fun n' => zAd n'.h J (zAi J);have kA : Hid (∀ n' : Cls (fun wx => Bl w2 wx), Calls Tryz.prog 54 #[.agg #[sL (some ⟨V, o0, none⟩) c.1.length D, sL v0 c.2.length cp], nI l] n'.w fun e w' => e = .returned (nI LA) ∧ Below n'.w.heap.size n'.w w') := fun n' => DA.out _ (zAb B2 n'.h);clear G E J Z y2;refine zA8 (fun wx => Bl w2 wx) (by kernel_rfl) (by kernel_rfl) ((Below.refl _ w2).drew) ?_;intro CA;repeat (quiet_step (first | (go_at_call 54; exact zAz (kA.out _) (fun w' hc bb => zAb hc bb))))
  refine wpQuiet_nil ?_;intro w3 b3;clear n0 n1 n2 CA DA kA;have B := zAb B2 b3;have Y := zAa b3 Y2;clear B2 Y2 b3;go_upto_block 0 with fail
  go_cut [6] from 7 to 52 (fun q wx => q = nI (zGn (zB1 c l)) ∧ Bl w wx ∧ wx.heap[w.heap.size]? = some (.cells #[nI l, nI st, sL ad d.length cpw] 39 (0, 0)))
  case first =>
   go_wp2;go_loopw [6, 7] (fun q i wr => ∃ k : Nat, k ≤ (zAm c l).length ∧ i = nI k ∧ ((q = nI (-1) ∧ atC c l = none ∧ ∀ j v, j < k → (zAm c l)[j]? = some v → zBA v = false) ∨ ∃ f : Nat, q = nI f ∧ zB1 c l = some f) ∧ Bl w wr ∧ wr.heap[w.heap.size]? = some (.cells #[nI l, nI st, sL ad d.length cpw] 39 (0, 0))) (fun _ i _ => (zAm c l).length - (intOf i).toNat)
   case atStart =>
    refine ⟨0, Nat.zero_le _, rfl, ?_, B, Y⟩;cases EA : atC c l with
    | none => exact .inl ⟨by rw [vA.out, EA]; rfl, rfl, fun j v hj => by omega⟩
    | some f => exact .inr ⟨f, by rw [vA.out, EA]; rfl, dB.out f EA⟩
   case round =>
    clear B Y;obtain ⟨k, m, rfl, hq, B, Y⟩ := hrel;obtain ⟨G, E⟩ := zDD hb0 hb1 (A.out _ B);have g0 := HC.out _ B;rcases hq with ⟨rfl, s, yA⟩ | ⟨f, rfl, RA⟩
    ·by_cases aB : k < (zAm c l).length
     ·have L : (k : Int) < ((zAm c l).length : Int) := by omega
      obtain ⟨v, hv⟩ : ∃ v, (zAm c l)[k]? = some v := ⟨_, List.getElem?_eq_getElem aB⟩;obtain ⟨bk, ok, cs, rfl, C, b⟩ := zBG (XA.out _ B) hv;obtain ⟨av, TB, rfl, -, -, FA, oB, -⟩ := zAK C;have J := b 0 _ rfl;have Z := b 1 _ rfl;have y2 := b 2 _ rfl;rw [show ok + (k * zAR.size + 0) = ok + k * 3 from rfl] at J;rw [show ok + (k * zAR.size + 1) = ok + k * 3 + 1 from rfl] at Z;rw [show ok + (k * zAR.size + 2) = ok + k * 3 + 2 from rfl] at y2;have VA : Hid ((zAm c l)[k]? = some v) := hv;obtain ⟨vl, vs, vd⟩ := v;simp only at J Z y2 FA
      have FB : vd.length ≤ maxLen := Nat.le_trans FA oB;clear b C hv FA oB;have HE := zDP vl vs av vd.length TB wr FB;rw [zHA (vl, vs, vd)] at HE;cases dA : zBA (vl, vs, vd)
      ·rw [dA] at HE;go_wp2_with fail
       refine HE.mono ?_;rintro e w2 ⟨rfl, O⟩;replace B := zAb B O;replace Y := zAa O Y;clear O HE G E J Z y2 g0;go_wp2;go_roundw
       case rel =>
        refine ⟨k + 1, by omega, by go_num, .inl ⟨rfl, s, fun j v hj hv => ?_⟩, B, Y⟩;by_cases he : j < k
        ·exact yA j v he hv
        ·have : j = k := by omega
         subst this;rw [VA.out] at hv;cases hv;exact dA
       case measure => simp [intOf]; omega
      ·rw [dA] at HE;have zA : Hid (zB1 c l = some k) := by unfold Hid; rw [BA.out s]; exact zJb VA.out dA yA
       go_wp2_with fail
       refine HE.mono ?_;rintro e w2 ⟨rfl, O⟩;replace B := zAb B O;replace Y := zAa O Y;clear O HE G E J Z y2 g0;go_wp2;go_roundw
       case rel => exact ⟨k + 1, by omega, by go_num, .inr ⟨k, rfl, zA.out⟩, B, Y⟩
       case measure => simp [intOf]; omega
     ·have L : ¬ (k : Int) < ((zAm c l).length : Int) := by omega
      have zA : Hid (zB1 c l = none) := by unfold Hid; rw [BA.out s]; exact zJc fun j v hv => yA j v (by have := (List.getElem?_eq_some_iff.1 hv).1; omega) hv
      go_wp2;go_meet
      exact ⟨by rw [zA.out]; rfl, B, Y⟩
    ·have nD : ¬ ((f : Int) < 0) := by omega
     by_cases aB : k < (zAm c l).length
     ·have L : (k : Int) < ((zAm c l).length : Int) := by omega
      go_wp2;go_meet
      exact ⟨by rw [RA]; rfl, B, Y⟩
     ·have L : ¬ (k : Int) < ((zAm c l).length : Int) := by omega
      go_wp2;go_meet
      exact ⟨by rw [RA]; rfl, B, Y⟩
  case rest =>
   clear B Y;obtain ⟨rfl, B, Y⟩ := hcut;cases iA : zB1 c l with
   | none =>
    have NB : Hid (zB2 c (l, st, d) = (c, false)) := zDp (u := (l, st, d)) oA.out iA;have kC : zGn none < 0 := by decide
    go_wp2;go_ret
    rw [NB.out];exact ⟨rfl, zBu.own_mono (zBu.own_keep (zBM H.out.1) (zAh B)) (fun k m => .inl m), zA5.own_keep H.out.2.1 (zAh B), zA9 B⟩
   | some fi =>
    have qB : Hid (zB2 c (l, st, d) = (zCq zCU c (l, st, d) fi, true)) := zDW oA.out N iA;have MA : zGn (some fi) = (fi : Int) := rfl;rw [MA];have AC : ¬ ((fi : Int) < 0) := by omega
    obtain ⟨uw, cA⟩ := put_lt iA;have R := (List.getElem?_eq_some_iff.1 cA).1;have dD : ((fi : Nat) : Int) < ((zAm c l).length : Int) := by omega
    obtain ⟨g, KA, r, K, e0, b, UB, F, rA, nA, gC, -⟩ := zCN (zBM H.out.1) HG.out.1 cA;simp only [Value.slice.injEq, Option.some.injEq, Addr.mk.injEq, and_true, true_and] at e0;obtain ⟨⟨rfl, rfl⟩, rfl⟩ := e0;have fB : Hid _ := cA;have HS : Hid (Old w S r) := F;have n0 : gb ≠ r := fun e => fA.out.1 (e ▸ F.1);have n1 : w.heap.size ≠ r := by have := F.2; omega
    have HQ : Hid (w.cell? ⟨V, zAE c l, none⟩ = some (sL (some ⟨r, 0, none⟩) (zAm c l).length K)) := b;have HB : Hid _ := B;have HY : Hid _ := Y;clear b cA UB F iA dB BA vA XA HC;obtain ⟨G, E⟩ := zDD hb0 hb1 (A.out _ B);obtain ⟨J, Z, y2⟩ := zAg Y;have q0 := zAd B HQ.out nA;have ZA := B.size;have lw := (ltH Y);clear B Y;go_wp2;have H' : zBu.own wc.drew (Old w S) [sL (some ⟨V, 0, none⟩) c.1.length D] c.1 := zBu.own_keep (zBM H.out.1) (zAh HB.out.drew);obtain ⟨g', KA, YC, MB, e1, p, -, -, -, -, -, TA⟩ := zCN H' HG.out.1 fB.out;simp only [Value.slice.injEq, Option.some.injEq, Addr.mk.injEq, and_true, true_and] at e1;obtain ⟨rfl, -⟩ := e1;have SA : wc.drew.cell? ⟨V, zAE c l, none⟩ = some (sL (some ⟨r, 0, none⟩) (zAm c l).length K) := q0;rw [SA] at p;simp only [Option.some.injEq, Value.slice.injEq, Addr.mk.injEq, and_true, true_and] at p;obtain ⟨rfl, -⟩ := p;have ST : Hid _ := TA;clear H' TA SA;go_cut [55, 56, 57, 58, 59, 60, 61, 62, 63, 64, 65] (fun _ _ _ _ _ _ _ _ _ _ _ wx => zBu.own wx (fun k => Old w S k ∨ (w.heap.size ≤ k ∧ k < wx.heap.size)) [sL (some ⟨V, 0, none⟩) c.1.length D] (c.1.set (zAE c l) ((zAm c l).set fi (l, st, d))) ∧ Chg (Old w S) w wx)
    case first =>
     go_region_held3 (fun wx => wx.cell? ⟨gb, 0, none⟩ = some (sL (some ⟨V, 0, none⟩) c.1.length D) ∧ wx.cell? ⟨V, zAE c l, none⟩ = some (sL (some ⟨r, 0, none⟩) (zAm c l).length K) ∧ wx.cell? ⟨w.heap.size, 0, none⟩ = some (nI l) ∧ wx.cell? ⟨w.heap.size, 1, none⟩ = some (nI st) ∧ wx.cell? ⟨w.heap.size, 2, none⟩ = some (sL ad d.length cpw)) (first | (go_keep; done) | (exact ⟨zCf n0 YB, zCf rA KB, zCf n1 LB, zCf n1 EB, zCf n1 VB⟩)) (first | (go_at_call 56; refine (zDT l st d ad cpw _ H.out.2.2.2.1 H.out.2.2.2.2 (zA7 H.out.2.2.1 fun k m => HB.out.drew.block k m) hdl).mono ?_; rintro e I ⟨av, cv, rfl, mm⟩; obtain ⟨⟨pA, n, yD⟩, OW, CH⟩ := ST.out I _ _ _ _ mm; have X := zAa (w := wc.drew) mm.2 (A.out _ HB.out.drew); obtain ⟨YB, SC⟩ := zDD hb0 hb1 X; have Y9 := zAa (w := wc.drew) mm.2 HY.out; obtain ⟨LB, EB, VB⟩ := zAg Y9; have KB := zAd (w := wc.drew) mm.2 (by exact q0) (Nat.lt_of_lt_of_le nA ZA); have c0 : I.cell? ⟨r, fi * 3, none⟩ = pA[fi * 3]? := cell_of_row I r (fi * 3) _ _ (0, 0) n; have c1 : I.cell? ⟨r, fi * 3 + 1, none⟩ = pA[fi * 3 + 1]? := cell_of_row I r (fi * 3 + 1) _ _ (0, 0) n; have c2 : I.cell? ⟨r, fi * 3 + 2, none⟩ = pA[fi * 3 + 2]? := cell_of_row I r (fi * 3 + 2) _ _ (0, 0) n; rw [Array.getElem?_eq_getElem (by omega)] at c0 c1 c2; have lD := frozen_of_row I r (fi * 3) _ _ n; have oD := frozen_of_row I r (fi * 3 + 1) _ _ n; have LC := frozen_of_row I r (fi * 3 + 2) _ _ n; have gD : wc.heap.size ≤ I.heap.size := mm.2.size))
     all_goals
      go_wp2_with fail
      go_meet
      refine ⟨zBu.own_mono OW ?_, ?_⟩
      ·rintro k (h | h)
       ·exact .inl h.1
       ·exact .inr ⟨by have : wc.heap.size ≤ k := h.1; omega, by have := h.2; have e := zFp (w := I) (g := r) (o := fi * 3) (x := nI l) (y := nI st) (z := sL av d.length cv); unfold zEr at e; omega⟩
      ·have a1 : Chg (Old w S) w wc.drew := zA9 HB.out.drew;exact a1.trans (CH.mono fun k m => by have e : k = r := m; rw [e]; exact HS.out)
    case rest =>
     clear G E J Z y2 q0 ST HY HB n0 n1 ZA lw;obtain ⟨O1, CH⟩ := hcut;have zc := CH.size;obtain ⟨gt, OC, ev, kB, pC, -, -⟩ := zIv H.out.2.1 HG.out.2.1;simp only [Value.slice.injEq, true_and] at ev;obtain ⟨rfl, rfl⟩ := ev;have XB : wc.heap[gb]? = some (.cells bc bt (0, 0)) := (CH.block gb IB (fun h => fA.out.1 h.1)).trans (A.out w (Below.refl _ _));have O2 := zAN H.out.2.1 CH (fun x h1 h2 => fA.out.2.2 x h2.1 h1);obtain ⟨aD, BC, ev, -, -, gA, U⟩ := zIv O2 HG.out.2.1;simp only [Value.slice.injEq, Option.some.injEq, Addr.mk.injEq, and_true, true_and] at ev;obtain ⟨rfl, rfl⟩ := ev;have nB : (c.1.set (zAE c l) ((zAm c l).set fi (l, st, d)))[zAE c l]? = some ((zAm c l).set fi (l, st, d)) := by rw [List.getElem?_set_self RB]
     have iB : ((zAm c l).set fi (l, st, d))[fi]? = some (l, st, d) := by rw [List.getElem?_set_self R]
     obtain ⟨g3, lC, g4, UA, e3, qA, -, -, -, rB, -, -⟩ := zCN O1 nB iB;simp only [Value.slice.injEq, Option.some.injEq, Addr.mk.injEq, and_true] at e3;obtain ⟨rfl, -, -⟩ := e3;rw [List.length_set] at qA;have hm := HG.out.2.2.2;have HT : Hid (∀ W, Calls Tryz.prog 110 #[nI (zBs c l), nI ((zAm c l).length : Int), nI (fi : Int)] W fun e w' => e = .returned (nI (zCU (zBs c l) (zAm c l).length fi)) ∧ w' = W) := fun W => zJw W (by rw [hm]; exact HG.out.2.2.1) R;have hy : zBk (zCU (zBs c l) (zAm c l).length fi) := zJo (zMW (by rw [hm]; exact HG.out.2.2.1) (by omega) (by omega));have cB : Hid (zB2 c (l, st, d) = ((c.1.set (zAE c l) ((zAm c l).set fi (l, st, d)), c.2.set (zAE c l) (zCU (zBs c l) (zAm c l).length fi)), true)) := qB.out;clear qB hm;generalize zCU (zBs c l) (zAm c l).length fi = y at HT hy cB;generalize zBs c l = tr at HT gA U;have ST : Hid _ := U;have HO : Hid _ := aI O1 CH;obtain ⟨G, E⟩ := zDD hb0 hb1 XB;have m0 : ∀ n' : Cls (fun wx => Bl wc wx), n'.w.cell? ⟨gb, 0, none⟩ = some (sL (some ⟨V, 0, none⟩) c.1.length D) := fun n' => zAd n'.h G (zAi G);have m1 : ∀ n' : Cls (fun wx => Bl wc wx), n'.w.cell? ⟨gb, 1, none⟩ = some (sL (some ⟨gt, 0, none⟩) c.2.length cp) := fun n' => zAd n'.h E (zAi E);have m2 : ∀ n' : Cls (fun wx => Bl wc wx), n'.w.cell? ⟨V, zAE c l, none⟩ = some (sL (some ⟨g4, 0, none⟩) (zAm c l).length UA) := fun n' => zAd n'.h qA rB;have m3 : ∀ n' : Cls (fun wx => Bl wc wx), n'.w.cell? ⟨gt, zAE c l, none⟩ = some (nI tr) := fun n' => zAd n'.h gA (zAi gA);clear G E XB U O1 CH O2 gA qA nB iB A H HG oA HQ fB;go_wp2;refine zGE (fun wx => Bl wc wx) (by kernel_rfl) (by kernel_rfl) (by kernel_rfl) (by simp) ((Below.refl _ wc).drew) ?_;intro CA;dsimp only [List.dropLast, zFo]
     repeat (quiet_step (first | (go_at_call 110; exact zAS (HT.out _))))
     refine wpQuiet_nil ?_;intro wx O;clear m0 m1 m2 m3 CA HT;obtain ⟨r0, r1, r2, r3⟩ := ST.out wx y O hy;have HR : Hid _ := aI r2 r3;clear r2 r3 ST;unfold Oper.wp;go_simp
     go_wp2;go_ret
     rw [cB.out];obtain ⟨O1, CH⟩ := HO.out;refine ⟨rfl, zBu.own_mono (zAl (zBu.own_keep O1 (zAh O)) ?_) ?_, HR.out.1, Chg.trans (CH.mono fun k m => .inl m) (HR.out.2.mono fun k m => .inr ?_)⟩
     ·rintro (h | h)
      ·exact fA.out.2.2 _ h.1 kB
      ·have := h.1;omega
     ·rintro k (h | h)
      ·exact .inl h
      ·have := O.size;exact .inr ⟨h.1, by have := h.2; simp; omega⟩
     ·have e : k = gt := m;rw [e];exact kB
end Go.Proofs.YtmdhblhdfcocjaaGreatDoor
