import Derived.Test.YtmdhblhdfcocjaaGreatDoorP00Box
import Derived.Test.YtmdhblhdfcocjaaGreatDoorP18
namespace Go.Proofs.YtmdhblhdfcocjaaGreatDoor
open Go.RowKit
set_option linter.unusedVariables false
theorem zIB {α : Type} {M : Mk α} {K : Nat} : ∀ {xs : List α}, (∀ x ∈ xs, M.bk x ≤ K) → zBz M xs ≤ xs.length * K
 | [], _ => by simp [zBz]
 | x :: xs, h => by
  have h1 := zIB (xs := xs) (fun y hy => h y (List.mem_cons_of_mem _ hy));have h2 := h x (List.mem_cons_self ..);have a : zBz M (x :: xs) = M.bk x + zBz M xs := by simp [zBz]
  rw [a, List.length_cons, Nat.add_mul];omega
theorem ok_bk {c : zAu} (h : OkC isL zAJ c) : zBa.bk c ≤ 1000 := by
 have f := h;obtain ⟨n, h2, m, k, g⟩ := h;unfold zIU at n k;have i : ∀ row ∈ c.1, zBr.bk row ≤ 12 := fun row hr => by
  obtain ⟨s, d⟩ := List.getElem?_of_mem hr;have hl := (g s row d).1;have b : ∀ u ∈ row, zBE.bk u ≤ 2 := fun u b => by
   obtain ⟨j, p⟩ := List.getElem?_of_mem b;have h5 := zMS f d p;have r : zBE.bk u = 0 + (0 + (u.2.2.length + zBz zBx u.2.2)) := rfl;have o := zHE u.2.2;omega
  have l := zIB b;have v : zBr.bk row = row.length + zBz zBE row := rfl;have a : row.length * 2 ≤ 8 := by omega
  omega
 have l := zIB i;have q : zBa.bk c = zEU.bk c.1 + zBn.bk c.2 := rfl;have r : zEU.bk c.1 = c.1.length + zBz zBr c.1 := rfl;have o : zBn.bk c.2 = c.2.length + zBz zBx c.2 := rfl;have v := zHE c.2;have a : c.1.length * 12 ≤ 48 := by omega
 omega
open Go.ChangeShapes Go.WideShapes Go.ChangeAt Go.RowKit Go.Shelf
noncomputable def zB1 (c : zAu) (u : zAT) : zAu × Bool := zME isL zAJ zCU c u
theorem fill_bad {c : zAu} {u : zAT} (h : okB isL zAJ c = false) : zB1 c u = (([], []), false) := by
 unfold zB1 zME;rw [h];rfl
theorem zFz {c : zAu} {u : zAT} (hok : OkC isL zAJ c) (h : zBi isL u = false) : zB1 c u = (c, false) := by
 unfold zB1 zME;rw [zCK.2 hok, h];rfl
theorem zDp {c : zAu} {u : zAT} (hok : OkC isL zAJ c) (h : zB2 c u.1 = none) : zB1 c u = (c, false) := by
 unfold zB1 zME;rw [zCK.2 hok, h];cases zBi isL u <;> rfl
theorem zDW {c : zAu} {u : zAT} {i : Nat} (hok : OkC isL zAJ c) (hf : zBi isL u = true) (h : zB2 c u.1 = some i) : zB1 c u = (zCq zCU c u i, true) := by
 unfold zB1 zME;rw [zCK.2 hok, h, hf];rfl
theorem put_lt {c : zAu} {line : Int} {i : Nat} (h : zB2 c line = some i) : ∃ u, (zAm c line)[i]? = some u := by
 unfold zB2 at h;split at h
 ·rename_i j hj
  cases h;obtain ⟨-, u, a, -⟩ := zD1 hj;exact ⟨u, a⟩
 ·obtain ⟨u, a, -⟩ := zGk h;exact ⟨u, a⟩
theorem zJx {t : Int} {m fi : Nat} (W : World) (h : zAJ t m = true) (hf : fi < m) : Calls Tryz.prog 110 #[.int .i64 t, .int .i64 (m : Int), .int .i64 (fi : Int)] W fun e w' => e = .returned (.int .i64 (zCU t m fi)) ∧ w' = W := by
 simp only [zAJ, decide_eq_true_eq] at h;rcases h with ⟨c, rfl⟩ | ⟨c, a, b⟩ | ⟨c, a, b⟩
 ·rw [c];exact zKc 0 _ W
 ·rw [c];exact zKd t _ W (by omega) (by omega)
 ·rw [c];exact zKe t _ W (by omega) (by omega)
set_option maxRecDepth 8000 in
set_option maxHeartbeats 8000000 in
theorem zN2 (gb cp : Nat) (S S2 : zAW) (u : Value) (v0 : Option Addr) (c : zAu) (l st : Int) (d : List Int) (ad : Option Addr) (cpw : Nat) (w : World) (hok : OkC isL zAJ c) (bc : Array Value) (bt : TypeId) (hb0 : bc[0]? = some u) (hb1 : bc[1]? = some (.slice v0 c.2.length cp)) (hbox : w.heap[gb]? = some (.cells bc bt (0, 0))) (cB : ¬ S gb) (nA : ¬ S2 gb) (kA : Dis S S2) (h : zBu.own w S [u] c.1) (h2 : zA5.own w S2 [.slice v0 c.2.length cp] c.2)
    (i1 : zBk l) (i2 : zBk st) (hd : zBg zBC w ad d) (hdl : d.length ≤ 1048576) :
    Calls Tryz.prog 87 #[.pointer (some ⟨gb, 0, none⟩), .agg #[.int .i64 l, .int .i64 st, .slice ad d.length cpw]] w fun e w' => e = .returned (.bool (zB1 c (l, st, d)).2) ∧
     zBu.own w' (fun k => Old w S k ∨ (w.heap.size ≤ k ∧ k < w'.heap.size)) [u] (zB1 c (l, st, d)).1.1 ∧ zA5.own w' S2 [.slice v0 c.2.length cp] (zB1 c (l, st, d)).1.2 ∧ Chg (fun k => Old w S k ∨ S2 k) w w' := by
 obtain ⟨a, r, rfl, A⟩ := zIv h;have IB := (ltH hbox);have HF : Hid (∀ W, Below w.heap.size w W → Calls Tryz.prog 53 #[.agg #[.int .i64 l, .int .i64 st, .slice ad d.length cpw]] W fun e w' => e = .returned (.bool (zBi isL (l, st, d))) ∧ Below W.heap.size W w') := fun W hb => zE6 l st d ad cpw W (zA7 hd fun k m => hb.block k m);have Y := zAx w (.cells #[.int .i64 l, .int .i64 st, .slice ad d.length cpw] 39);have B := zAf w (.cells #[.int .i64 l, .int .i64 st, .slice ad d.length cpw] 39);cases T : zBi isL (l, st, d)
 ·rw [T] at HF;rw [zFz hok T];have H : Hid _ := And.intro h h2;clear h h2 A hd;go_enter Tryz.func87, Tryz.ntmps87;go_wp2_with fail
  generalize w.alloc (.cells #[.int .i64 l, .int .i64 st, .slice ad d.length cpw] 39) = W0 at Y B ⊢;refine (HF.out _ B).mono ?_;rintro e w1 ⟨rfl, b1⟩;replace B := zAb B b1;clear b1 HF Y;go_wp2;go_ret
  exact ⟨rfl, zBu.own_mono (zBu.own_keep (zBM H.out.1) (zAh B)) (fun k m => .inl m), zA5.own_keep H.out.2 (zAh B), zA9 B⟩
 ·rw [T] at HF;have kB := zBY T;simp only at kB
  have FA : Hid (∀ W, Below w.heap.size w W → Calls Tryz.prog 54 #[.agg #[.slice a c.1.length r, .slice v0 c.2.length cp], .int .i64 l] W fun e w' => e = .returned (.int .i64 (zGc (atC c l))) ∧ Below W.heap.size W w') := fun W hb => zFD a v0 c r cp l W hok (zA7 A fun k m => hb.block k m);obtain ⟨yB, L⟩ : ∃ x, x = zGc (atC c l) := ⟨_, rfl⟩;rw [← L] at FA;have GA : Hid (yB = zGc (atC c l)) := L;clear L;obtain ⟨hp, M, fB, VC, mA, aC⟩ := zDy hok l;obtain ⟨t1, t2, t3, t4, t5, t6, t7⟩ := zKi hok l;have iC : ((zAE c l : Nat) : Int) < (c.1.length : Int) := by omega
  have kC : ((zAE c l : Nat) : Int) < (c.2.length : Int) := by omega
  have yA : l % (c.1.length : Int) = ((zAE c l : Nat) : Int) := mA.symm;have hz : (c.1.length : Int) ≠ 0 := by omega
  have GD : ((c.1.length : Int) == 0) = false := beq_false_of_ne hz;have aB : ¬ (c.1.length = 0) := by omega
  have lD : ¬ (c.1 = []) := fun e => by rw [e] at aB; exact aB rfl
  have ZC : Int.tmod l (c.1.length : Int) = ((zAE c l : Nat) : Int) := by rw [Int.tmod_eq_emod_of_nonneg (by omega), yA]
  obtain ⟨R, o0, aj, cj, rfl, b, -, -, dB⟩ := zDj A M;have HC : Hid (∀ W, Below w.heap.size w W → W.cell? ⟨R, o0 + zAE c l, none⟩ = some (.slice aj (zAm c l).length cj)) := fun W hb => zAd hb b (zAi b);have gB : Hid (∀ W, Below w.heap.size w W → zBg zAR W aj (zAm c l)) := fun W hb => zA7 dB fun k m => hb.block k m;have C : Hid (∀ W, Below w.heap.size w W → W.heap[gb]? = some (.cells bc bt (0, 0))) := fun W hb => zAa hb hbox;have lB : Hid (∀ k, atC c l = some k → zB2 c l = some k) := fun k m => by unfold zB2; rw [m]
  have BA : Hid (atC c l = none → zB2 c l = (zAm c l).findIdx? zB7) := fun m => by unfold zB2; rw [m]; rfl
  clear b dB mA hp fB;have H : Hid _ := And.intro h (And.intro h2 (And.intro hd (And.intro i1 i2)));have HG : Hid _ := And.intro M (And.intro t2 (And.intro t3 t1));have vA : Hid _ := hok;have iA : Hid _ := And.intro cB (And.intro nA kA);clear h h2 A hd M t1 t2 t3 t4 t5 t7 hok cB nA kA hbox i1 i2;go_enter Tryz.func87, Tryz.ntmps87;go_wp2_with fail
  generalize w.alloc (.cells #[.int .i64 l, .int .i64 st, .slice ad d.length cpw] 39) = W0 at Y B ⊢;refine (HF.out _ B).mono ?_;rintro e w1 ⟨rfl, b1⟩;replace B := zAb B b1;replace Y := zAa b1 Y;clear b1 HF;obtain ⟨K, y1, y2⟩ := zAg Y;obtain ⟨G, F⟩ := zDD hb0 hb1 (C.out _ B);go_wp2;go_quiet (fail)
  have B2 : Below w.heap.size w (w1.drewN nq) := zGi B nq;have Y2 : (w1.drewN nq).heap[w.heap.size]? = some (.cells #[.int .i64 l, .int .i64 st, .slice ad d.length cpw] 39 (0, 0)) := Y;clear K y1 y2 G F B Y;generalize w1.drewN nq = I at B2 Y2 ⊢;obtain ⟨K, y1, y2⟩ := zAg Y2;obtain ⟨G, F⟩ := zDD hb0 hb1 (C.out _ B2);go_wp2;have n0 : ∀ n' : Cls (fun wx => Below I.heap.size I wx), n'.w.cell? ⟨gb, 0, none⟩ = some (.slice (some ⟨R, o0, none⟩) c.1.length r) := fun n' => zAd n'.h G (zAi G);have n1 : ∀ n' : Cls (fun wx => Below I.heap.size I wx), n'.w.cell? ⟨gb, 1, none⟩ = some (.slice v0 c.2.length cp) := fun n' => zAd n'.h F (zAi F);have n2 : ∀ n' : Cls (fun wx => Below I.heap.size I wx), n'.w.cell? ⟨w.heap.size, 0, none⟩ = some (.int .i64 l) := fun n' => zAd n'.h K (zAi K);have lA : Hid (∀ n' : Cls (fun wx => Below I.heap.size I wx), Calls Tryz.prog 54 #[.agg #[.slice (some ⟨R, o0, none⟩) c.1.length r, .slice v0 c.2.length cp], .int .i64 l] n'.w fun e w' => e = .returned (.int .i64 yB) ∧ Below n'.w.heap.size n'.w w') := fun n' => FA.out _ (zAb B2 n'.h);clear G F K y1 y2;refine zA8 (fun wx => Below I.heap.size I wx) (by kernel_rfl) (by kernel_rfl) ((Below.refl _ I).drew) ?_;intro HA;repeat (quiet_step (first | (go_at_call 54; exact zAz (lA.out _) (fun w' hc bb => zAb hc bb))))
  refine wpQuiet_nil ?_;intro w3 b3;clear n0 n1 n2 HA FA lA;have B := zAb B2 b3;have Y := zAa b3 Y2;clear B2 Y2 b3;go_upto_block 0 with fail
  go_cut [6] from 7 to 52 (fun q wx => q = .int .i64 (zGc (zB2 c l)) ∧ Below w.heap.size w wx ∧ wx.heap[w.heap.size]? = some (.cells #[.int .i64 l, .int .i64 st, .slice ad d.length cpw] 39 (0, 0)))
  case first =>
   go_wp2;go_loopw [6, 7] (fun q i wr => ∃ k : Nat, k ≤ (zAm c l).length ∧ i = .int .i64 k ∧ ((q = .int .i64 (-1) ∧ atC c l = none ∧ ∀ j v, j < k → (zAm c l)[j]? = some v → zB7 v = false) ∨ ∃ f : Nat, q = .int .i64 f ∧ zB2 c l = some f) ∧ Below w.heap.size w wr ∧ wr.heap[w.heap.size]? = some (.cells #[.int .i64 l, .int .i64 st, .slice ad d.length cpw] 39 (0, 0))) (fun _ i _ => (zAm c l).length - (intOf i).toNat)
   case atStart =>
    refine ⟨0, Nat.zero_le _, rfl, ?_, B, Y⟩;cases EA : atC c l with
    | none => exact .inl ⟨by rw [GA.out, EA]; rfl, rfl, fun j v hj => by omega⟩
    | some f => exact .inr ⟨f, by rw [GA.out, EA]; rfl, lB.out f EA⟩
   case round =>
    clear B Y;obtain ⟨k, m, rfl, hq, B, Y⟩ := hrel;obtain ⟨G, F⟩ := zDD hb0 hb1 (C.out _ B);have g0 := HC.out _ B;rcases hq with ⟨rfl, D, zA⟩ | ⟨f, rfl, mB⟩
    ·by_cases UA : k < (zAm c l).length
     ·have V : (k : Int) < ((zAm c l).length : Int) := by omega
      obtain ⟨v, hv⟩ : ∃ v, (zAm c l)[k]? = some v := ⟨_, List.getElem?_eq_getElem UA⟩;obtain ⟨bk, ok, cs, rfl, A, b⟩ := zBG (gB.out _ B) hv;obtain ⟨av, KB, rfl, -, -, DA, vB, -⟩ := zAL A;have K := b 0 _ rfl;have y1 := b 1 _ rfl;have y2 := b 2 _ rfl;rw [show ok + (k * zAR.size + 0) = ok + k * 3 from rfl] at K;rw [show ok + (k * zAR.size + 1) = ok + k * 3 + 1 from rfl] at y1;rw [show ok + (k * zAR.size + 2) = ok + k * 3 + 2 from rfl] at y2;have ZA : Hid ((zAm c l)[k]? = some v) := hv;obtain ⟨vl, vs, vd⟩ := v;simp only at K y1 y2 DA
      have dC : vd.length ≤ maxLen := Nat.le_trans DA vB;clear b A hv DA vB;have HE := zDP vl vs av vd.length KB wr dC;rw [zHB (vl, vs, vd)] at HE;cases eA : zB7 (vl, vs, vd)
      ·rw [eA] at HE;go_wp2_with fail
       refine HE.mono ?_;rintro e I ⟨rfl, O⟩;replace B := zAb B O;replace Y := zAa O Y;clear O HE G F K y1 y2 g0;go_wp2;go_roundw
       case rel =>
        refine ⟨k + 1, by omega, by go_num, .inl ⟨rfl, D, fun j v hj hv => ?_⟩, B, Y⟩;by_cases he : j < k
        ·exact zA j v he hv
        ·have : j = k := by omega
         subst this;rw [ZA.out] at hv;cases hv;exact eA
       case measure => simp [intOf]; omega
      ·rw [eA] at HE;have sA : Hid (zB2 c l = some k) := by unfold Hid; rw [BA.out D]; exact zJc ZA.out eA zA
       go_wp2_with fail
       refine HE.mono ?_;rintro e I ⟨rfl, O⟩;replace B := zAb B O;replace Y := zAa O Y;clear O HE G F K y1 y2 g0;go_wp2;go_roundw
       case rel => exact ⟨k + 1, by omega, by go_num, .inr ⟨k, rfl, sA.out⟩, B, Y⟩
       case measure => simp [intOf]; omega
     ·have V : ¬ (k : Int) < ((zAm c l).length : Int) := by omega
      have sA : Hid (zB2 c l = none) := by unfold Hid; rw [BA.out D]; exact zJd fun j v hv => zA j v (by have := (List.getElem?_eq_some_iff.1 hv).1; omega) hv
      go_wp2;go_meet
      exact ⟨by rw [sA.out]; rfl, B, Y⟩
    ·have UC : ¬ ((f : Int) < 0) := by omega
     by_cases UA : k < (zAm c l).length
     ·have V : (k : Int) < ((zAm c l).length : Int) := by omega
      go_wp2;go_meet
      exact ⟨by rw [mB]; rfl, B, Y⟩
     ·have V : ¬ (k : Int) < ((zAm c l).length : Int) := by omega
      go_wp2;go_meet
      exact ⟨by rw [mB]; rfl, B, Y⟩
  case rest =>
   clear B Y;obtain ⟨rfl, B, Y⟩ := hcut;cases fA : zB2 c l with
   | none =>
    have LB : Hid (zB1 c (l, st, d) = (c, false)) := zDp (u := (l, st, d)) vA.out fA;have FC : zGc none < 0 := by decide
    go_wp2;go_ret
    rw [LB.out];exact ⟨rfl, zBu.own_mono (zBu.own_keep (zBM H.out.1) (zAh B)) (fun k m => .inl m), zA5.own_keep H.out.2.1 (zAh B), zA9 B⟩
   | some fi =>
    have zB : Hid (zB1 c (l, st, d) = (zCq zCU c (l, st, d) fi, true)) := zDW vA.out T fA;have RA : zGc (some fi) = (fi : Int) := rfl;rw [RA];have jC : ¬ ((fi : Int) < 0) := by omega
    obtain ⟨uw, jA⟩ := put_lt fA;have Z := (List.getElem?_eq_some_iff.1 jA).1;have FD : ((fi : Nat) : Int) < ((zAm c l).length : Int) := by omega
    obtain ⟨g, SA, s, U, e0, b, bC, E, qA, pA, zC, -⟩ := zCN (zBM H.out.1) HG.out.1 jA;simp only [Value.slice.injEq, Option.some.injEq, Addr.mk.injEq, and_true, true_and] at e0;obtain ⟨⟨rfl, rfl⟩, rfl⟩ := e0;have OA : Hid _ := jA;have HS : Hid (Old w S s) := E;have n0 : gb ≠ s := fun e => iA.out.1 (e ▸ E.1);have n1 : w.heap.size ≠ s := by have := E.2; omega
    have HQ : Hid (w.cell? ⟨R, zAE c l, none⟩ = some (.slice (some ⟨s, 0, none⟩) (zAm c l).length U)) := b;have HB : Hid _ := B;have HY : Hid _ := Y;clear b jA bC E fA lB BA GA gB HC;obtain ⟨G, F⟩ := zDD hb0 hb1 (C.out _ B);obtain ⟨K, y1, y2⟩ := zAg Y;have q0 := zAd B HQ.out pA;have rB := B.size;have lw := (ltH Y);clear B Y;go_wp2;have H' : zBu.own wc.drew (Old w S) [.slice (some ⟨R, 0, none⟩) c.1.length r] c.1 := zBu.own_keep (zBM H.out.1) (zAh HB.out.drew);obtain ⟨g', SA, aD, UB, e1, p, -, -, -, -, -, sB⟩ := zCN H' HG.out.1 OA.out;simp only [Value.slice.injEq, Option.some.injEq, Addr.mk.injEq, and_true, true_and] at e1;obtain ⟨rfl, -⟩ := e1;have qB : wc.drew.cell? ⟨R, zAE c l, none⟩ = some (.slice (some ⟨s, 0, none⟩) (zAm c l).length U) := q0;rw [qB] at p;simp only [Option.some.injEq, Value.slice.injEq, Addr.mk.injEq, and_true, true_and] at p;obtain ⟨rfl, -⟩ := p;have ST : Hid _ := sB;clear H' sB qB;go_cut [55, 56, 57, 58, 59, 60, 61, 62, 63, 64, 65] (fun _ _ _ _ _ _ _ _ _ _ _ wx => zBu.own wx (fun k => Old w S k ∨ (w.heap.size ≤ k ∧ k < wx.heap.size)) [.slice (some ⟨R, 0, none⟩) c.1.length r] (c.1.set (zAE c l) ((zAm c l).set fi (l, st, d))) ∧ Chg (Old w S) w wx)
    case first =>
     go_region_held3 (fun wx => wx.cell? ⟨gb, 0, none⟩ = some (.slice (some ⟨R, 0, none⟩) c.1.length r) ∧ wx.cell? ⟨R, zAE c l, none⟩ = some (.slice (some ⟨s, 0, none⟩) (zAm c l).length U) ∧ wx.cell? ⟨w.heap.size, 0, none⟩ = some (.int .i64 l) ∧ wx.cell? ⟨w.heap.size, 1, none⟩ = some (.int .i64 st) ∧ wx.cell? ⟨w.heap.size, 2, none⟩ = some (.slice ad d.length cpw)) (first | (go_keep; done) | (exact ⟨zCf n0 eC, zCf qA ZB, zCf n1 VB, zCf n1 YB, zCf n1 GB⟩)) (first | (go_at_call 56; refine (zDT l st d ad cpw _ H.out.2.2.2.1 H.out.2.2.2.2 (zA7 H.out.2.2.1 fun k m => HB.out.drew.block k m) hdl).mono ?_; rintro e J ⟨av, cv, rfl, mm⟩; obtain ⟨⟨CA, n, yD⟩, OW, CH⟩ := ST.out J _ _ _ _ mm; have X := zAa (w := wc.drew) mm.2 (C.out _ HB.out.drew); obtain ⟨eC, zD⟩ := zDD hb0 hb1 X; have Y9 := zAa (w := wc.drew) mm.2 HY.out; obtain ⟨VB, YB, GB⟩ := zAg Y9; have ZB := zAd (w := wc.drew) mm.2 (by exact q0) (Nat.lt_of_lt_of_le pA rB); have c0 : J.cell? ⟨s, fi * 3, none⟩ = CA[fi * 3]? := cell_of_row J s (fi * 3) _ _ (0, 0) n; have c1 : J.cell? ⟨s, fi * 3 + 1, none⟩ = CA[fi * 3 + 1]? := cell_of_row J s (fi * 3 + 1) _ _ (0, 0) n; have c2 : J.cell? ⟨s, fi * 3 + 2, none⟩ = CA[fi * 3 + 2]? := cell_of_row J s (fi * 3 + 2) _ _ (0, 0) n; rw [Array.getElem?_eq_getElem (by omega)] at c0 c1 c2; have DD := frozen_of_row J s (fi * 3) _ _ n; have mD := frozen_of_row J s (fi * 3 + 1) _ _ n; have bD := frozen_of_row J s (fi * 3 + 2) _ _ n; have SC : wc.heap.size ≤ J.heap.size := mm.2.size))
     all_goals
      go_wp2_with fail
      go_meet
      refine ⟨zBu.own_mono OW ?_, ?_⟩
      ·rintro k (h | h)
       ·exact .inl h.1
       ·exact .inr ⟨by have : wc.heap.size ≤ k := h.1; omega, by have := h.2; have e := zFp (w := J) (g := s) (o := fi * 3) (x := .int .i64 l) (y := .int .i64 st) (z := .slice av d.length cv); unfold zEs at e; omega⟩
      ·have a1 : Chg (Old w S) w wc.drew := zA9 HB.out.drew;exact a1.trans (CH.mono fun k m => by have e : k = s := m; rw [e]; exact HS.out)
    case rest =>
     clear G F K y1 y2 q0 ST HY HB n0 n1 rB lw;obtain ⟨O1, CH⟩ := hcut;have zc := CH.size;obtain ⟨gt, vD, ev, bB, AC, -, -⟩ := zIx H.out.2.1 HG.out.2.1;simp only [Value.slice.injEq, true_and] at ev;obtain ⟨rfl, rfl⟩ := ev;have XB : wc.heap[gb]? = some (.cells bc bt (0, 0)) := (CH.block gb IB (fun h => iA.out.1 h.1)).trans (C.out w (Below.refl _ _));have O2 := zAN H.out.2.1 CH (fun x h1 h2 => iA.out.2.2 x h2.1 h1);obtain ⟨CD, BC, ev, -, -, dA, N⟩ := zIx O2 HG.out.2.1;simp only [Value.slice.injEq, Option.some.injEq, Addr.mk.injEq, and_true, true_and] at ev;obtain ⟨rfl, rfl⟩ := ev;have oB : (c.1.set (zAE c l) ((zAm c l).set fi (l, st, d)))[zAE c l]? = some ((zAm c l).set fi (l, st, d)) := by rw [List.getElem?_set_self aC]
     have YA : ((zAm c l).set fi (l, st, d))[fi]? = some (l, st, d) := by rw [List.getElem?_set_self Z]
     obtain ⟨g3, IC, g4, XA, e3, rA, -, -, -, jB, -, -⟩ := zCN O1 oB YA;simp only [Value.slice.injEq, Option.some.injEq, Addr.mk.injEq, and_true] at e3;obtain ⟨rfl, -, -⟩ := e3;rw [List.length_set] at rA;have hm := HG.out.2.2.2;have HT : Hid (∀ W, Calls Tryz.prog 110 #[.int .i64 (zBs c l), .int .i64 ((zAm c l).length : Int), .int .i64 (fi : Int)] W fun e w' => e = .returned (.int .i64 (zCU (zBs c l) (zAm c l).length fi)) ∧ w' = W) := fun W => zJx W (by rw [hm]; exact HG.out.2.2.1) Z;have hy : zBk (zCU (zBs c l) (zAm c l).length fi) := zJp (zMW (by rw [hm]; exact HG.out.2.2.1) (by omega) (by omega));have iB : Hid (zB1 c (l, st, d) = ((c.1.set (zAE c l) ((zAm c l).set fi (l, st, d)), c.2.set (zAE c l) (zCU (zBs c l) (zAm c l).length fi)), true)) := zB.out;clear zB hm;generalize zCU (zBs c l) (zAm c l).length fi = y at HT hy iB;generalize zBs c l = tr at HT dA N;have ST : Hid _ := N;have HO : Hid _ := And.intro O1 CH;obtain ⟨G, F⟩ := zDD hb0 hb1 XB;have m0 : ∀ n' : Cls (fun wx => Below wc.heap.size wc wx), n'.w.cell? ⟨gb, 0, none⟩ = some (.slice (some ⟨R, 0, none⟩) c.1.length r) := fun n' => zAd n'.h G (zAi G);have m1 : ∀ n' : Cls (fun wx => Below wc.heap.size wc wx), n'.w.cell? ⟨gb, 1, none⟩ = some (.slice (some ⟨gt, 0, none⟩) c.2.length cp) := fun n' => zAd n'.h F (zAi F);have m2 : ∀ n' : Cls (fun wx => Below wc.heap.size wc wx), n'.w.cell? ⟨R, zAE c l, none⟩ = some (.slice (some ⟨g4, 0, none⟩) (zAm c l).length XA) := fun n' => zAd n'.h rA jB;have m3 : ∀ n' : Cls (fun wx => Below wc.heap.size wc wx), n'.w.cell? ⟨gt, zAE c l, none⟩ = some (.int .i64 tr) := fun n' => zAd n'.h dA (zAi dA);clear G F XB N O1 CH O2 dA rA oB YA C H HG vA HQ OA;go_wp2;refine zGE (fun wx => Below wc.heap.size wc wx) (by kernel_rfl) (by kernel_rfl) (by kernel_rfl) (by simp) ((Below.refl _ wc).drew) ?_;intro HA;dsimp only [List.dropLast, zFo]
     repeat (quiet_step (first | (go_at_call 110; exact zAS (HT.out _))))
     refine wpQuiet_nil ?_;intro wx O;clear m0 m1 m2 m3 HA HT;obtain ⟨r0, r1, r2, r3⟩ := ST.out wx y O hy;have HR : Hid _ := And.intro r2 r3;clear r2 r3 ST;unfold Oper.wp;go_simp
     go_wp2;go_ret
     rw [iB.out];obtain ⟨O1, CH⟩ := HO.out;refine ⟨rfl, zBu.own_mono (zAl (zBu.own_keep O1 (zAh O)) ?_) ?_, HR.out.1, Chg.trans (CH.mono fun k m => .inl m) (HR.out.2.mono fun k m => .inr ?_)⟩
     ·rintro (h | h)
      ·exact iA.out.2.2 _ h.1 bB
      ·have := h.1;omega
     ·rintro k (h | h)
      ·exact .inl h
      ·have := O.size;exact .inr ⟨h.1, by have := h.2; simp; omega⟩
     ·have e : k = gt := m;rw [e];exact bB
end Go.Proofs.YtmdhblhdfcocjaaGreatDoor
