import Derived.Test.YtmdhblhdfcocjaaGreatDoorP00Box
import Derived.Test.YtmdhblhdfcocjaaGreatDoorP18
namespace Go.Proofs.YtmdhblhdfcocjaaGreatDoor
open Go.RowKit
set_option linter.unusedVariables false
theorem zIA {α : Type} {M : Mk α} {K : Nat} : ∀ {xs : List α}, (∀ x ∈ xs, M.bk x ≤ K) → zBz M xs ≤ xs.length * K
 | [], _ => by simp [zBz]
 | x :: xs, h => by
  have h1 := zIA (xs := xs) (fun y hy => h y (List.mem_cons_of_mem _ hy));have h2 := h x (List.mem_cons_self ..);have a : zBz M (x :: xs) = M.bk x + zBz M xs := by simp [zBz]
  rw [a, List.length_cons, Nat.add_mul];omega
theorem ok_bk {c : zAu} (h : OkC isL zAJ c) : zBa.bk c ≤ 1000 := by
 have v := h;obtain ⟨o, h2, m, p, g⟩ := h;unfold zIT at o p;have l : ∀ row ∈ c.1, zBr.bk row ≤ 12 := fun row hr => by
  obtain ⟨s, d⟩ := List.getElem?_of_mem hr;have hl := (g s row d).1;have b : ∀ u ∈ row, zBE.bk u ≤ 2 := fun u b => by
   obtain ⟨j, r⟩ := List.getElem?_of_mem b;have h5 := zMS v d r;have f : zBE.bk u = 0 + (0 + (u.2.2.length + zBz zBx u.2.2)) := rfl;have k := zHE u.2.2;omega
  have i := zIA b;have q : zBr.bk row = row.length + zBz zBE row := rfl;have a : row.length * 2 ≤ 8 := by omega
  omega
 have i := zIA l;have n : zBa.bk c = zEU.bk c.1 + zBn.bk c.2 := rfl;have f : zEU.bk c.1 = c.1.length + zBz zBr c.1 := rfl;have k : zBn.bk c.2 = c.2.length + zBz zBx c.2 := rfl;have q := zHE c.2;have a : c.1.length * 12 ≤ 48 := by omega
 omega
open Go.ChangeShapes Go.WideShapes Go.ChangeAt Go.RowKit Go.Shelf
noncomputable def zB2 (c : zAu) (u : zAT) : zAu × Bool := zME isL zAJ zCU c u
theorem fill_bad {c : zAu} {u : zAT} (h : okB isL zAJ c = false) : zB2 c u = (([], []), false) := by
 unfold zB2 zME;rw [h];rfl
theorem zFz {c : zAu} {u : zAT} (hok : OkC isL zAJ c) (h : zBh isL u = false) : zB2 c u = (c, false) := by
 unfold zB2 zME;rw [zCK.2 hok, h];rfl
theorem zDp {c : zAu} {u : zAT} (hok : OkC isL zAJ c) (h : zB1 c u.1 = none) : zB2 c u = (c, false) := by
 unfold zB2 zME;rw [zCK.2 hok, h];cases zBh isL u <;> rfl
theorem zDW {c : zAu} {u : zAT} {i : Nat} (hok : OkC isL zAJ c) (hf : zBh isL u = true) (h : zB1 c u.1 = some i) : zB2 c u = (zCq zCU c u i, true) := by
 unfold zB2 zME;rw [zCK.2 hok, h, hf];rfl
theorem put_lt {c : zAu} {line : Int} {i : Nat} (h : zB1 c line = some i) : ∃ u, (zAm c line)[i]? = some u := by
 unfold zB1 at h;split at h
 ·rename_i j hj
  cases h;obtain ⟨-, u, a, -⟩ := zD1 hj;exact ⟨u, a⟩
 ·obtain ⟨u, a, -⟩ := zGk h;exact ⟨u, a⟩
theorem zJw {t : Int} {m fi : Nat} (W : World) (h : zAJ t m = true) (hf : fi < m) : Calls Tryz.prog 110 #[nI t, nI (m : Int), nI (fi : Int)] W fun e w' => e = .returned (nI (zCU t m fi)) ∧ w' = W := by
 simp only [zAJ, decide_eq_true_eq] at h;rcases h with ⟨c, rfl⟩ | ⟨c, a, b⟩ | ⟨c, a, b⟩
 ·rw [c];exact zKc 0 _ W
 ·rw [c];exact zKd t _ W (by omega) (by omega)
 ·rw [c];exact zKe t _ W (by omega) (by omega)
set_option maxRecDepth 8000 in
set_option maxHeartbeats 8000000 in
theorem zN2 (gb cp : Nat) (S S2 : zAW) (u : Value) (v0 : Option Addr) (c : zAu) (l st : Int) (d : List Int) (ad : Option Addr) (cpw : Nat) (w : World) (hok : OkC isL zAJ c) (bc : Array Value) (bt : TypeId) (hb0 : bc[0]? = some u) (hb1 : bc[1]? = some (sL v0 c.2.length cp)) (hbox : w.heap[gb]? = some (.cells bc bt (0, 0))) (hnb : ¬ S gb) (hnb2 : ¬ S2 gb) (hdis : Dis S S2) (h : zBu.own w S [u] c.1) (h2 : zA5.own w S2 [sL v0 c.2.length cp] c.2)
    (i1 : zBk l) (i2 : zBk st) (hd : zBg zBC w ad d) (hdl : d.length ≤ 1048576) :
    Calls Tryz.prog 87 #[.pointer (some ⟨gb, 0, none⟩), .agg #[nI l, nI st, sL ad d.length cpw]] w fun e w' => e = .returned (.bool (zB2 c (l, st, d)).2) ∧
     zBu.own w' (fun k => Old w S k ∨ (w.heap.size ≤ k ∧ k < w'.heap.size)) [u] (zB2 c (l, st, d)).1.1 ∧ zA5.own w' S2 [sL v0 c.2.length cp] (zB2 c (l, st, d)).1.2 ∧ Chg (fun k => Old w S k ∨ S2 k) w w' := by
 obtain ⟨a, s, rfl, C⟩ := zIu h;have NB := (ltH hbox);have HF : Hid (∀ W, Bl w W → Calls Tryz.prog 53 #[.agg #[nI l, nI st, sL ad d.length cpw]] W fun e w' => e = .returned (.bool (zBh isL (l, st, d))) ∧ Bl W w') := fun W hb => zE6 l st d ad cpw W (zA7 hd fun k m => hb.block k m);have Y := zAx w (.cells #[nI l, nI st, sL ad d.length cpw] 39);have B := zAf w (.cells #[nI l, nI st, sL ad d.length cpw] 39);cases L : zBh isL (l, st, d)
 ·rw [L] at HF;rw [zFz hok L];have H : Hid _ := aI h h2;clear h h2 C hd;go_enter Tryz.func87, Tryz.ntmps87;go_wp2_with fail
  generalize w.alloc (.cells #[nI l, nI st, sL ad d.length cpw] 39) = W0 at Y B ⊢;refine (HF.out _ B).mono ?_;rintro e w1 ⟨rfl, b1⟩;replace B := zAb B b1;clear b1 HF Y;go_wp2;go_ret
  exact ⟨rfl, zBu.own_mono (zBu.own_keep (zBM H.out.1) (zAh B)) (fun k m => .inl m), zA5.own_keep H.out.2 (zAh B), zA9 B⟩
 ·rw [L] at HF;have gB := zBY L;simp only at gB
  have vA : Hid (∀ W, Bl w W → Calls Tryz.prog 54 #[.agg #[sL a c.1.length s, sL v0 c.2.length cp], nI l] W fun e w' => e = .returned (nI (zGc (atC c l))) ∧ Bl W w') := fun W hb => zFD a v0 c s cp l W hok (zA7 C fun k m => hb.block k m);obtain ⟨jB, O⟩ : ∃ x, x = zGc (atC c l) := ⟨_, rfl⟩;rw [← O] at vA;have qA : Hid (jB = zGc (atC c l)) := O;clear O;obtain ⟨hp, N, fB, TC, nA, OB⟩ := zDy hok l;obtain ⟨t1, t2, t3, t4, t5, t6, t7⟩ := zKi hok l;have aC : ((zAE c l : Nat) : Int) < (c.1.length : Int) := by omega
  have AC : ((zAE c l : Nat) : Int) < (c.2.length : Int) := by omega
  have CA : l % (c.1.length : Int) = ((zAE c l : Nat) : Int) := nA.symm;have hz : (c.1.length : Int) ≠ 0 := by omega
  have YC : ((c.1.length : Int) == 0) = false := beq_false_of_ne hz;have RA : ¬ (c.1.length = 0) := by omega
  have JC : ¬ (c.1 = []) := fun e => by rw [e] at RA; exact RA rfl
  have vD : Int.tmod l (c.1.length : Int) = ((zAE c l : Nat) : Int) := by rw [Int.tmod_eq_emod_of_nonneg (by omega), CA]
  obtain ⟨U, o0, aj, cj, rfl, b, -, -, ZA⟩ := zDj C N;have HC : Hid (∀ W, Bl w W → W.cell? ⟨U, o0 + zAE c l, none⟩ = some (sL aj (zAm c l).length cj)) := fun W hb => zAd hb b (zAi b);have pB : Hid (∀ W, Bl w W → zBg zAR W aj (zAm c l)) := fun W hb => zA7 ZA fun k m => hb.block k m;have D : Hid (∀ W, Bl w W → W.heap[gb]? = some (.cells bc bt (0, 0))) := fun W hb => zAa hb hbox;have cB : Hid (∀ k, atC c l = some k → zB1 c l = some k) := fun k m => by unfold zB1; rw [m]
  have zA : Hid (atC c l = none → zB1 c l = (zAm c l).findIdx? zB7) := fun m => by unfold zB1; rw [m]; rfl
  clear b ZA nA hp fB;have H : Hid _ := aI h (aI h2 (aI hd (aI i1 i2)));have HG : Hid _ := aI N (aI t2 (aI t3 t1));have BA : Hid _ := hok;have dA : Hid _ := aI hnb (aI hnb2 hdis);clear h h2 C hd N t1 t2 t3 t4 t5 t7 hok hnb hnb2 hdis hbox i1 i2;go_enter Tryz.func87, Tryz.ntmps87;go_wp2_with fail
  generalize w.alloc (.cells #[nI l, nI st, sL ad d.length cpw] 39) = W0 at Y B ⊢;refine (HF.out _ B).mono ?_;rintro e w1 ⟨rfl, b1⟩;replace B := zAb B b1;replace Y := zAa b1 Y;clear b1 HF;obtain ⟨J, y1, Z⟩ := zAg Y;obtain ⟨F, G⟩ := zDD hb0 hb1 (D.out _ B);go_wp2;go_quiet (fail)
  have B2 : Bl w (w1.drewN nq) := zGi B nq;have Y2 : (w1.drewN nq).heap[w.heap.size]? = some (.cells #[nI l, nI st, sL ad d.length cpw] 39 (0, 0)) := Y;clear J y1 Z F G B Y;generalize w1.drewN nq = w2 at B2 Y2 ⊢;obtain ⟨J, y1, Z⟩ := zAg Y2;obtain ⟨F, G⟩ := zDD hb0 hb1 (D.out _ B2);go_wp2;have n0 : ∀ n' : Cls (fun wx => Bl w2 wx), n'.w.cell? ⟨gb, 0, none⟩ = some (sL (some ⟨U, o0, none⟩) c.1.length s) := fun n' => zAd n'.h F (zAi F);have n1 : ∀ n' : Cls (fun wx => Bl w2 wx), n'.w.cell? ⟨gb, 1, none⟩ = some (sL v0 c.2.length cp) := fun n' => zAd n'.h G (zAi G);have n2 : ∀ n' : Cls (fun wx => Bl w2 wx), n'.w.cell? ⟨w.heap.size, 0, none⟩ = some (nI l) := fun n' => zAd n'.h J (zAi J);have kA : Hid (∀ n' : Cls (fun wx => Bl w2 wx), Calls Tryz.prog 54 #[.agg #[sL (some ⟨U, o0, none⟩) c.1.length s, sL v0 c.2.length cp], nI l] n'.w fun e w' => e = .returned (nI jB) ∧ Below n'.w.heap.size n'.w w') := fun n' => vA.out _ (zAb B2 n'.h);clear F G J y1 Z;refine zA8 (fun wx => Bl w2 wx) (by kernel_rfl) (by kernel_rfl) ((Below.refl _ w2).drew) ?_;intro pA;repeat (quiet_step (first | (go_at_call 54; exact zAz (kA.out _) (fun w' hc bb => zAb hc bb))))
  refine wpQuiet_nil ?_;intro w3 b3;clear n0 n1 n2 pA vA kA;have B := zAb B2 b3;have Y := zAa b3 Y2;clear B2 Y2 b3;go_upto_block 0 with fail
  go_cut [6] from 7 to 52 (fun q wx => q = nI (zGc (zB1 c l)) ∧ Bl w wx ∧ wx.heap[w.heap.size]? = some (.cells #[nI l, nI st, sL ad d.length cpw] 39 (0, 0)))
  case first =>
   go_wp2;go_loopw [6, 7] (fun q i wr => ∃ k : Nat, k ≤ (zAm c l).length ∧ i = nI k ∧ ((q = nI (-1) ∧ atC c l = none ∧ ∀ j v, j < k → (zAm c l)[j]? = some v → zB7 v = false) ∨ ∃ f : Nat, q = nI f ∧ zB1 c l = some f) ∧ Bl w wr ∧ wr.heap[w.heap.size]? = some (.cells #[nI l, nI st, sL ad d.length cpw] 39 (0, 0))) (fun _ i _ => (zAm c l).length - (intOf i).toNat)
   case atStart =>
    refine ⟨0, Nat.zero_le _, rfl, ?_, B, Y⟩;cases yA : atC c l with
    | none => exact .inl ⟨by rw [qA.out, yA]; rfl, rfl, fun j v hj => by omega⟩
    | some f => exact .inr ⟨f, by rw [qA.out, yA]; rfl, cB.out f yA⟩
   case round =>
    clear B Y;obtain ⟨k, m, rfl, hq, B, Y⟩ := hrel;obtain ⟨F, G⟩ := zDD hb0 hb1 (D.out _ B);have g0 := HC.out _ B;rcases hq with ⟨rfl, A, rA⟩ | ⟨f, rfl, kB⟩
    ·by_cases dB : k < (zAm c l).length
     ·have M : (k : Int) < ((zAm c l).length : Int) := by omega
      obtain ⟨v, hv⟩ : ∃ v, (zAm c l)[k]? = some v := ⟨_, List.getElem?_eq_getElem dB⟩;obtain ⟨bk, ok, cs, rfl, C, b⟩ := zBG (pB.out _ B) hv;obtain ⟨av, BB, rfl, -, -, DA, iB, -⟩ := zAL C;have J := b 0 _ rfl;have y1 := b 1 _ rfl;have Z := b 2 _ rfl;rw [show ok + (k * zAR.size + 0) = ok + k * 3 from rfl] at J;rw [show ok + (k * zAR.size + 1) = ok + k * 3 + 1 from rfl] at y1;rw [show ok + (k * zAR.size + 2) = ok + k * 3 + 2 from rfl] at Z;have bB : Hid ((zAm c l)[k]? = some v) := hv;obtain ⟨vl, vs, vd⟩ := v;simp only at J y1 Z DA
      have UB : vd.length ≤ maxLen := Nat.le_trans DA iB;clear b C hv DA iB;have HE := zDP vl vs av vd.length BB wr UB;rw [zHB (vl, vs, vd)] at HE;cases gA : zB7 (vl, vs, vd)
      ·rw [gA] at HE;go_wp2_with fail
       refine HE.mono ?_;rintro e w2 ⟨rfl, V⟩;replace B := zAb B V;replace Y := zAa V Y;clear V HE F G J y1 Z g0;go_wp2;go_roundw
       case rel =>
        refine ⟨k + 1, by omega, by go_num, .inl ⟨rfl, A, fun j v hj hv => ?_⟩, B, Y⟩;by_cases he : j < k
        ·exact rA j v he hv
        ·have : j = k := by omega
         subst this;rw [bB.out] at hv;cases hv;exact gA
       case measure => simp [intOf]; omega
      ·rw [gA] at HE;have FA : Hid (zB1 c l = some k) := by unfold Hid; rw [zA.out A]; exact zJb bB.out gA rA
       go_wp2_with fail
       refine HE.mono ?_;rintro e w2 ⟨rfl, V⟩;replace B := zAb B V;replace Y := zAa V Y;clear V HE F G J y1 Z g0;go_wp2;go_roundw
       case rel => exact ⟨k + 1, by omega, by go_num, .inr ⟨k, rfl, FA.out⟩, B, Y⟩
       case measure => simp [intOf]; omega
     ·have M : ¬ (k : Int) < ((zAm c l).length : Int) := by omega
      have FA : Hid (zB1 c l = none) := by unfold Hid; rw [zA.out A]; exact zJc fun j v hv => rA j v (by have := (List.getElem?_eq_some_iff.1 hv).1; omega) hv
      go_wp2;go_meet
      exact ⟨by rw [FA.out]; rfl, B, Y⟩
    ·have iD : ¬ ((f : Int) < 0) := by omega
     by_cases dB : k < (zAm c l).length
     ·have M : (k : Int) < ((zAm c l).length : Int) := by omega
      go_wp2;go_meet
      exact ⟨by rw [kB]; rfl, B, Y⟩
     ·have M : ¬ (k : Int) < ((zAm c l).length : Int) := by omega
      go_wp2;go_meet
      exact ⟨by rw [kB]; rfl, B, Y⟩
  case rest =>
   clear B Y;obtain ⟨rfl, B, Y⟩ := hcut;cases cA : zB1 c l with
   | none =>
    have KB : Hid (zB2 c (l, st, d) = (c, false)) := zDp (u := (l, st, d)) BA.out cA;have DC : zGc none < 0 := by decide
    go_wp2;go_ret
    rw [KB.out];exact ⟨rfl, zBu.own_mono (zBu.own_keep (zBM H.out.1) (zAh B)) (fun k m => .inl m), zA5.own_keep H.out.2.1 (zAh B), zA9 B⟩
   | some fi =>
    have mB : Hid (zB2 c (l, st, d) = (zCq zCU c (l, st, d) fi, true)) := zDW BA.out L cA;have aB : zGc (some fi) = (fi : Int) := rfl;rw [aB];have vC : ¬ ((fi : Int) < 0) := by omega
    obtain ⟨uw, fA⟩ := put_lt cA;have T := (List.getElem?_eq_some_iff.1 fA).1;have RC : ((fi : Nat) : Int) < ((zAm c l).length : Int) := by omega
    obtain ⟨g, qB, r, R, e0, b, TB, E, oA, jA, pC, -⟩ := zCN (zBM H.out.1) HG.out.1 fA;simp only [Value.slice.injEq, Option.some.injEq, Addr.mk.injEq, and_true, true_and] at e0;obtain ⟨⟨rfl, rfl⟩, rfl⟩ := e0;have rB : Hid _ := fA;have HS : Hid (Old w S r) := E;have n0 : gb ≠ r := fun e => dA.out.1 (e ▸ E.1);have n1 : w.heap.size ≠ r := by have := E.2; omega
    have HQ : Hid (w.cell? ⟨U, zAE c l, none⟩ = some (sL (some ⟨r, 0, none⟩) (zAm c l).length R)) := b;have HB : Hid _ := B;have HY : Hid _ := Y;clear b fA TB E cA cB zA qA pB HC;obtain ⟨F, G⟩ := zDD hb0 hb1 (D.out _ B);obtain ⟨J, y1, Z⟩ := zAg Y;have q0 := zAd B HQ.out jA;have KA := B.size;have lw := (ltH Y);clear B Y;go_wp2;have H' : zBu.own wc.drew (Old w S) [sL (some ⟨U, 0, none⟩) c.1.length s] c.1 := zBu.own_keep (zBM H.out.1) (zAh HB.out.drew);obtain ⟨g', qB, jD, RB, e1, p, -, -, -, -, -, YA⟩ := zCN H' HG.out.1 rB.out;simp only [Value.slice.injEq, Option.some.injEq, Addr.mk.injEq, and_true, true_and] at e1;obtain ⟨rfl, -⟩ := e1;have XA : wc.drew.cell? ⟨U, zAE c l, none⟩ = some (sL (some ⟨r, 0, none⟩) (zAm c l).length R) := q0;rw [XA] at p;simp only [Option.some.injEq, Value.slice.injEq, Addr.mk.injEq, and_true, true_and] at p;obtain ⟨rfl, -⟩ := p;have ST : Hid _ := YA;clear H' YA XA;go_cut [55, 56, 57, 58, 59, 60, 61, 62, 63, 64, 65] (fun _ _ _ _ _ _ _ _ _ _ _ wx => zBu.own wx (fun k => Old w S k ∨ (w.heap.size ≤ k ∧ k < wx.heap.size)) [sL (some ⟨U, 0, none⟩) c.1.length s] (c.1.set (zAE c l) ((zAm c l).set fi (l, st, d))) ∧ Chg (Old w S) w wx)
    case first =>
     go_region_held3 (fun wx => wx.cell? ⟨gb, 0, none⟩ = some (sL (some ⟨U, 0, none⟩) c.1.length s) ∧ wx.cell? ⟨U, zAE c l, none⟩ = some (sL (some ⟨r, 0, none⟩) (zAm c l).length R) ∧ wx.cell? ⟨w.heap.size, 0, none⟩ = some (nI l) ∧ wx.cell? ⟨w.heap.size, 1, none⟩ = some (nI st) ∧ wx.cell? ⟨w.heap.size, 2, none⟩ = some (sL ad d.length cpw)) (first | (go_keep; done) | (exact ⟨zCf n0 SB, zCf oA MB, zCf n1 FB, zCf n1 CB, zCf n1 JB⟩)) (first | (go_at_call 56; refine (zDT l st d ad cpw _ H.out.2.2.2.1 H.out.2.2.2.2 (zA7 H.out.2.2.1 fun k m => HB.out.drew.block k m) hdl).mono ?_; rintro e I ⟨av, cv, rfl, mm⟩; obtain ⟨⟨EA, n, NC⟩, OW, CH⟩ := ST.out I _ _ _ _ mm; have X := zAa (w := wc.drew) mm.2 (D.out _ HB.out.drew); obtain ⟨SB, ZC⟩ := zDD hb0 hb1 X; have Y9 := zAa (w := wc.drew) mm.2 HY.out; obtain ⟨FB, CB, JB⟩ := zAg Y9; have MB := zAd (w := wc.drew) mm.2 (by exact q0) (Nat.lt_of_lt_of_le jA KA); have c0 : I.cell? ⟨r, fi * 3, none⟩ = EA[fi * 3]? := cell_of_row I r (fi * 3) _ _ (0, 0) n; have c1 : I.cell? ⟨r, fi * 3 + 1, none⟩ = EA[fi * 3 + 1]? := cell_of_row I r (fi * 3 + 1) _ _ (0, 0) n; have c2 : I.cell? ⟨r, fi * 3 + 2, none⟩ = EA[fi * 3 + 2]? := cell_of_row I r (fi * 3 + 2) _ _ (0, 0) n; rw [Array.getElem?_eq_getElem (by omega)] at c0 c1 c2; have cD := frozen_of_row I r (fi * 3) _ _ n; have MC := frozen_of_row I r (fi * 3 + 1) _ _ n; have dD := frozen_of_row I r (fi * 3 + 2) _ _ n; have AD : wc.heap.size ≤ I.heap.size := mm.2.size))
     all_goals
      go_wp2_with fail
      go_meet
      refine ⟨zBu.own_mono OW ?_, ?_⟩
      ·rintro k (h | h)
       ·exact .inl h.1
       ·exact .inr ⟨by have : wc.heap.size ≤ k := h.1; omega, by have := h.2; have e := zFp (w := I) (g := r) (o := fi * 3) (x := nI l) (y := nI st) (z := sL av d.length cv); unfold zEs at e; omega⟩
      ·have a1 : Chg (Old w S) w wc.drew := zA9 HB.out.drew;exact a1.trans (CH.mono fun k m => by have e : k = r := m; rw [e]; exact HS.out)
    case rest =>
     clear F G J y1 Z q0 ST HY HB n0 n1 KA lw;obtain ⟨O1, CH⟩ := hcut;have zc := CH.size;obtain ⟨gt, LC, ev, VA, jC, -, -⟩ := zIw H.out.2.1 HG.out.2.1;simp only [Value.slice.injEq, true_and] at ev;obtain ⟨rfl, rfl⟩ := ev;have XB : wc.heap[gb]? = some (.cells bc bt (0, 0)) := (CH.block gb NB (fun h => dA.out.1 h.1)).trans (D.out w (Below.refl _ _));have O2 := zAN H.out.2.1 CH (fun x h1 h2 => dA.out.2.2 x h2.1 h1);obtain ⟨pD, kC, ev, -, -, eA, K⟩ := zIw O2 HG.out.2.1;simp only [Value.slice.injEq, Option.some.injEq, Addr.mk.injEq, and_true, true_and] at ev;obtain ⟨rfl, rfl⟩ := ev;have TA : (c.1.set (zAE c l) ((zAm c l).set fi (l, st, d)))[zAE c l]? = some ((zAm c l).set fi (l, st, d)) := by rw [List.getElem?_set_self OB]
     have MA : ((zAm c l).set fi (l, st, d))[fi]? = some (l, st, d) := by rw [List.getElem?_set_self T]
     obtain ⟨g3, EC, g4, UA, e3, sA, -, -, -, lB, -, -⟩ := zCN O1 TA MA;simp only [Value.slice.injEq, Option.some.injEq, Addr.mk.injEq, and_true] at e3;obtain ⟨rfl, -, -⟩ := e3;rw [List.length_set] at sA;have hm := HG.out.2.2.2;have HT : Hid (∀ W, Calls Tryz.prog 110 #[nI (zBs c l), nI ((zAm c l).length : Int), nI (fi : Int)] W fun e w' => e = .returned (nI (zCU (zBs c l) (zAm c l).length fi)) ∧ w' = W) := fun W => zJw W (by rw [hm]; exact HG.out.2.2.1) T;have hy : zBk (zCU (zBs c l) (zAm c l).length fi) := zJo (zMW (by rw [hm]; exact HG.out.2.2.1) (by omega) (by omega));have NA : Hid (zB2 c (l, st, d) = ((c.1.set (zAE c l) ((zAm c l).set fi (l, st, d)), c.2.set (zAE c l) (zCU (zBs c l) (zAm c l).length fi)), true)) := mB.out;clear mB hm;generalize zCU (zBs c l) (zAm c l).length fi = y at HT hy NA;generalize zBs c l = tr at HT eA K;have ST : Hid _ := K;have HO : Hid _ := aI O1 CH;obtain ⟨F, G⟩ := zDD hb0 hb1 XB;have m0 : ∀ n' : Cls (fun wx => Bl wc wx), n'.w.cell? ⟨gb, 0, none⟩ = some (sL (some ⟨U, 0, none⟩) c.1.length s) := fun n' => zAd n'.h F (zAi F);have m1 : ∀ n' : Cls (fun wx => Bl wc wx), n'.w.cell? ⟨gb, 1, none⟩ = some (sL (some ⟨gt, 0, none⟩) c.2.length cp) := fun n' => zAd n'.h G (zAi G);have m2 : ∀ n' : Cls (fun wx => Bl wc wx), n'.w.cell? ⟨U, zAE c l, none⟩ = some (sL (some ⟨g4, 0, none⟩) (zAm c l).length UA) := fun n' => zAd n'.h sA lB;have m3 : ∀ n' : Cls (fun wx => Bl wc wx), n'.w.cell? ⟨gt, zAE c l, none⟩ = some (nI tr) := fun n' => zAd n'.h eA (zAi eA);clear F G XB K O1 CH O2 eA sA TA MA D H HG BA HQ rB;go_wp2;refine zGE (fun wx => Bl wc wx) (by kernel_rfl) (by kernel_rfl) (by kernel_rfl) (by simp) ((Below.refl _ wc).drew) ?_;intro pA;dsimp only [List.dropLast, zFo]
     repeat (quiet_step (first | (go_at_call 110; exact zAS (HT.out _))))
     refine wpQuiet_nil ?_;intro wx V;clear m0 m1 m2 m3 pA HT;obtain ⟨r0, r1, r2, r3⟩ := ST.out wx y V hy;have HR : Hid _ := aI r2 r3;clear r2 r3 ST;unfold Oper.wp;go_simp
     go_wp2;go_ret
     rw [NA.out];obtain ⟨O1, CH⟩ := HO.out;refine ⟨rfl, zBu.own_mono (zAl (zBu.own_keep O1 (zAh V)) ?_) ?_, HR.out.1, Chg.trans (CH.mono fun k m => .inl m) (HR.out.2.mono fun k m => .inr ?_)⟩
     ·rintro (h | h)
      ·exact dA.out.2.2 _ h.1 VA
      ·have := h.1;omega
     ·rintro k (h | h)
      ·exact .inl h
      ·have := V.size;exact .inr ⟨h.1, by have := h.2; simp; omega⟩
     ·have e : k = gt := m;rw [e];exact VA
end Go.Proofs.YtmdhblhdfcocjaaGreatDoor
