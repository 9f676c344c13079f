import Derived.Test.YtcocbafhcpdheaaGreatDoorT00Box
import Derived.Test.YtcocbafhcpdheaaGreatDoorT22
import Derived.Test.YtcocbafhcpdheaaGreatDoorT23
namespace Go.Proofs.YtcocbafhcpdheaaGreatDoor
set_option maxHeartbeats 8000000
set_option maxRecDepth 20000
open Go.ChangeShapes Go.WideShapes Go.ChangeAt Go.RowKit
set_option linter.unusedVariables false
set_option linter.unusedSimpArgs false
theorem mkFabric_u : MkC 13 zCr zAX zBq := by
 intro S cs x k w h h0 hm hb;obtain ⟨v0, v1, v2, v3, U, R, T, Y, V, Z, b, c, d, S0, S1, S2, S3, S4, S5, rfl, o0, o1, o2, o3, o4, o5, s0, s1, s2, s3, s4, s5, ZA, VA, aB, YA, gB, cB, RA, fB, TA, eB, UA, dB, XA, iB, bB⟩ := zMz h;clear h;rw [zOn] at hm ⊢;rw [show zAX.bk x = 0 + (zAU.bk x.2.1 + (zBj.bk x.2.2.1 + (zEo.bk x.2.2.2.1 + (zCI.bk x.2.2.2.2.1 + zBb.bk x.2.2.2.2.2)))) from rfl] at hb;have el : lot = 4398046511104 := rfl;change Calls Tryz.prog 13 #[.agg #[v0, v1, v2, v3, U, R, T, Y, V, Z, b, c, d], .int .i64 k] w _
 have C1 : Hid (∀ L W, zBF.own W (Old w S1) [U, R] x.2.1 → 0 ≤ L → L + (zAU.cV x.2.1 : Int) ≤ (lot : Int) → Calls Tryz.prog 44 #[.agg #[U, R], .int .i64 L] W fun e w' => e = .returned (.int .i64 (L + (zAU.cV x.2.1 : Int))) ∧ zBF.own w' (Old w S1) [U, R] (zAU.mV L x.2.1) ∧ Chg (Old w S1) W w') := fun L W ho h1 h2 => zNW (Old w S1) [U, R] x.2.1 L W ho h1 h2 (by omega);have C2 : Hid (∀ L W, zC5.own W (Old w S2) [T] x.2.2.1 → 0 ≤ L → L + (zBj.cV x.2.2.1 : Int) ≤ (lot : Int) → Calls Tryz.prog 45 #[T, .int .i64 L] W fun e w' => e = .returned (.int .i64 (L + (zBj.cV x.2.2.1 : Int))) ∧ zC5.own w' (Old w S2) [T] (zBj.mV L x.2.2.1) ∧ Chg (Old w S2) W w') := fun L W ho h1 h2 => zOr (Old w S2) [T] x.2.2.1 L W ho h1 h2 (by omega);have C3 : Hid (∀ L W, zFA.own W (Old w S3) [Y, V, Z, b] x.2.2.2.1 → 0 ≤ L → L + (zEo.cV x.2.2.2.1 : Int) ≤ (lot : Int) → Calls Tryz.prog 46 #[.agg #[Y, V, Z, b], .int .i64 L] W fun e w' => e = .returned (.int .i64 (L + (zEo.cV x.2.2.2.1 : Int))) ∧ zFA.own w' (Old w S3) [Y, V, Z, b] (zEo.mV L x.2.2.2.1) ∧ Chg (Old w S3) W w') := fun L W ho h1 h2 => mkDma_u (Old w S3) [Y, V, Z, b] x.2.2.2.1 L W ho h1 h2 (by omega);have C4 : Hid (∀ L W, zD3.own W (Old w S4) [c] x.2.2.2.2.1 → 0 ≤ L → L + (zCI.cV x.2.2.2.2.1 : Int) ≤ (lot : Int) → Calls Tryz.prog 47 #[c, .int .i64 L] W fun e w' => e = .returned (.int .i64 (L + (zCI.cV x.2.2.2.2.1 : Int))) ∧ zD3.own w' (Old w S4) [c] (zCI.mV L x.2.2.2.2.1) ∧ Chg (Old w S4) W w') := fun L W ho h1 h2 => mkMsgs_u (Old w S4) [c] x.2.2.2.2.1 L W ho h1 h2 (by omega);have C5 : Hid (∀ L W, zC1.own W (Old w S5) [d] x.2.2.2.2.2 → 0 ≤ L → L + (zBb.cV x.2.2.2.2.2 : Int) ≤ (lot : Int) → Calls Tryz.prog 48 #[d, .int .i64 L] W fun e w' => e = .returned (.int .i64 (L + (zBb.cV x.2.2.2.2.2 : Int))) ∧ zC1.own w' (Old w S5) [d] (zBb.mV L x.2.2.2.2.2) ∧ Chg (Old w S5) W w') := fun L W ho h1 h2 => zMp (Old w S5) [d] x.2.2.2.2.2 L W ho h1 h2 (by omega);have X := zAn w (.cells #[v0, v1, v2, v3, U, R, T, Y, V, Z, b, c, d] 50);have hs : w.heap.size < (w.alloc (.cells #[v0, v1, v2, v3, U, R, T, Y, V, Z, b, c, d] 50)).heap.size := by simp
 have N : Chg S (w.alloc (.cells #[v0, v1, v2, v3, U, R, T, Y, V, Z, b, c, d] 50)) (w.alloc (.cells #[v0, v1, v2, v3, U, R, T, Y, V, Z, b, c, d] 50)) := Chg.refl _ _;have FB : ∀ W, Chg S (w.alloc (.cells #[v0, v1, v2, v3, U, R, T, Y, V, Z, b, c, d] 50)) W → Chg S w W := fun W => zEf;have O := zDA (.cells #[v0, v1, v2, v3, U, R, T, Y, V, Z, b, c, d] 50) (zD9 o0);have G := zDA (.cells #[v0, v1, v2, v3, U, R, T, Y, V, Z, b, c, d] 50) (zD9 o1);have I := zDA (.cells #[v0, v1, v2, v3, U, R, T, Y, V, Z, b, c, d] 50) (zD9 o2);have K := zDA (.cells #[v0, v1, v2, v3, U, R, T, Y, V, Z, b, c, d] 50) (zD9 o3);have J := zDA (.cells #[v0, v1, v2, v3, U, R, T, Y, V, Z, b, c, d] 50) (zD9 o4);have H := zDA (.cells #[v0, v1, v2, v3, U, R, T, Y, V, Z, b, c, d] 50) (zD9 o5);have M : ¬ Old w S0 w.heap.size := fun h => by have := h.2; omega
 have D : ¬ Old w S1 w.heap.size := fun h => by have := h.2; omega
 have B : ¬ Old w S2 w.heap.size := fun h => by have := h.2; omega
 have F : ¬ Old w S3 w.heap.size := fun h => by have := h.2; omega
 have E : ¬ Old w S4 w.heap.size := fun h => by have := h.2; omega
 have C : ¬ Old w S5 w.heap.size := fun h => by have := h.2; omega
 have r : Dis (Old w S0) (Old w S1) := ZA.sub zAA zAA;have v : Dis (Old w S0) (Old w S2) := VA.sub zAA zAA;have s : Dis (Old w S0) (Old w S3) := aB.sub zAA zAA;have A : Dis (Old w S0) (Old w S4) := YA.sub zAA zAA;have z : Dis (Old w S0) (Old w S5) := gB.sub zAA zAA;have j : Dis (Old w S1) (Old w S2) := cB.sub zAA zAA;have n : Dis (Old w S1) (Old w S3) := RA.sub zAA zAA;have g : Dis (Old w S1) (Old w S4) := fB.sub zAA zAA;have q : Dis (Old w S1) (Old w S5) := TA.sub zAA zAA;have i : Dis (Old w S2) (Old w S3) := eB.sub zAA zAA;have p : Dis (Old w S2) (Old w S4) := UA.sub zAA zAA;have f : Dis (Old w S2) (Old w S5) := dB.sub zAA zAA;have l : Dis (Old w S3) (Old w S4) := XA.sub zAA zAA;have m : Dis (Old w S3) (Old w S5) := iB.sub zAA zAA;have o : Dis (Old w S4) (Old w S5) := bB.sub zAA zAA;have HD : Hid _ := And.intro r (And.intro v (And.intro s (And.intro A (And.intro z (And.intro j (And.intro n (And.intro g (And.intro q (And.intro i (And.intro p (And.intro f (And.intro l (And.intro m (And.intro o (And.intro M (And.intro D (And.intro B (And.intro F (And.intro E (And.intro C (And.intro s0 (And.intro s1 (And.intro s2 (And.intro s3 (And.intro s4 (s5))))))))))))))))))))))))));have HF : Hid _ := FB;clear FB o0 o1 o2 o3 o4 o5 ZA VA aB YA gB cB RA fB TA eB UA dB XA iB bB r v s A z j n g q i p f l m o M D B F E C s0 s1 s2 s3 s4 s5;have jA : Hid (∀ (P : zA2 → Prop), P (zIC.mV k x.1, zAU.mV (k + ((zIC.cV x.1 : Nat) : Int)) x.2.1, zBj.mV ((k + ((zIC.cV x.1 : Nat) : Int)) + ((zAU.cV x.2.1 : Nat) : Int)) x.2.2.1, zEo.mV (((k + ((zIC.cV x.1 : Nat) : Int)) + ((zAU.cV x.2.1 : Nat) : Int)) + ((zBj.cV x.2.2.1 : Nat) : Int)) x.2.2.2.1, zCI.mV ((((k + ((zIC.cV x.1 : Nat) : Int)) + ((zAU.cV x.2.1 : Nat) : Int)) + ((zBj.cV x.2.2.1 : Nat) : Int)) + ((zEo.cV x.2.2.2.1 : Nat) : Int)) x.2.2.2.2.1, zBb.mV (((((k + ((zIC.cV x.1 : Nat) : Int)) + ((zAU.cV x.2.1 : Nat) : Int)) + ((zBj.cV x.2.2.1 : Nat) : Int)) + ((zEo.cV x.2.2.2.1 : Nat) : Int)) + ((zCI.cV x.2.2.2.2.1 : Nat) : Int)) x.2.2.2.2.2) → P (zAX.mV k x)) := fun P hp => by rw [zOo]; exact hp
 have z0 : ((zIC.cV x.1 : Nat) : Int) = 0 := rfl;rw [z0, Int.add_zero] at jA;clear z0;generalize zAU.cV x.2.1 = n1 at C1 C2 C3 C4 C5 jA hm ⊢;generalize zBj.cV x.2.2.1 = n2 at C2 C3 C4 C5 jA hm ⊢;generalize zEo.cV x.2.2.2.1 = n3 at C3 C4 C5 jA hm ⊢;generalize zCI.cV x.2.2.2.2.1 = n4 at C4 C5 jA hm ⊢;generalize zBb.cV x.2.2.2.2.2 = n5 at C5 jA hm ⊢;go_enter Tryz.func13, Tryz.ntmps13;go_wp2_with fail
 generalize w.alloc (.cells #[v0, v1, v2, v3, U, R, T, Y, V, Z, b, c, d] 50) = W0 at X hs N HF O G I K J H ⊢;refine (C1.out (k) _ G (by omega) (by omega)).mono ?_;rintro e w1 ⟨rfl, G, a⟩;obtain ⟨r, v, s, A, z, j, n, g, q, i, p, f, l, m, o, M, D, B, F, E, C, s0, s1, s2, s3, s4, s5⟩ := HD.out;replace X := (a.block w.heap.size hs D).trans X;replace hs := Nat.lt_of_lt_of_le hs a.size;replace N := N.trans (a.mono (zAA.trans s1));replace O := zAC O a r;replace I := zAC I a (Dis.symm j);replace K := zAC K a (Dis.symm n);replace J := zAC J a (Dis.symm g);replace H := zAC H a (Dis.symm q);clear a C1 r v s A z j n g q i p f l m o M D B F E C s0 s1 s2 s3 s4 s5;obtain ⟨y0, y1, y2, y3, y4, y5, y6, y7, y8, y9, fA, gA, cA⟩ := zAd X;have HS : Hid _ := And.intro N (And.intro O (And.intro G (And.intro I (And.intro K (And.intro J (H))))));clear N O G I K J H;go_wp2_with fail
 clear y0 y1 y2 y3 y4 y5 y6 y7 y8 y9 fA gA cA;obtain ⟨N, O, G, I, K, J, H⟩ := HS.out;clear HS;refine (C2.out (k + (n1 : Int)) _ I (by omega) (by omega)).mono ?_;rintro e w2 ⟨rfl, I, a⟩;obtain ⟨r, v, s, A, z, j, n, g, q, i, p, f, l, m, o, M, D, B, F, E, C, s0, s1, s2, s3, s4, s5⟩ := HD.out;replace X := (a.block w.heap.size hs B).trans X;replace hs := Nat.lt_of_lt_of_le hs a.size;replace N := N.trans (a.mono (zAA.trans s2));replace O := zAC O a v;replace G := zAC G a j;replace K := zAC K a (Dis.symm i);replace J := zAC J a (Dis.symm p);replace H := zAC H a (Dis.symm f);clear a C2 r v s A z j n g q i p f l m o M D B F E C s0 s1 s2 s3 s4 s5;obtain ⟨y0, y1, y2, y3, y4, y5, y6, y7, y8, y9, fA, gA, cA⟩ := zAd X;have HS : Hid _ := And.intro N (And.intro O (And.intro G (And.intro I (And.intro K (And.intro J (H))))));clear N O G I K J H;go_wp2_with fail
 clear y0 y1 y2 y3 y4 y5 y6 y7 y8 y9 fA gA cA;obtain ⟨N, O, G, I, K, J, H⟩ := HS.out;clear HS;refine (C3.out (k + (n1 : Int) + (n2 : Int)) _ K (by omega) (by omega)).mono ?_;rintro e w3 ⟨rfl, K, a⟩;obtain ⟨r, v, s, A, z, j, n, g, q, i, p, f, l, m, o, M, D, B, F, E, C, s0, s1, s2, s3, s4, s5⟩ := HD.out;replace X := (a.block w.heap.size hs F).trans X;replace hs := Nat.lt_of_lt_of_le hs a.size;replace N := N.trans (a.mono (zAA.trans s3));replace O := zAC O a s;replace G := zAC G a n;replace I := zAC I a i;replace J := zAC J a (Dis.symm l);replace H := zAC H a (Dis.symm m);clear a C3 r v s A z j n g q i p f l m o M D B F E C s0 s1 s2 s3 s4 s5;obtain ⟨y0, y1, y2, y3, y4, y5, y6, y7, y8, y9, fA, gA, cA⟩ := zAd X;have HS : Hid _ := And.intro N (And.intro O (And.intro G (And.intro I (And.intro K (And.intro J (H))))));clear N O G I K J H;go_wp2_with fail
 clear y0 y1 y2 y3 y4 y5 y6 y7 y8 y9 fA gA cA;obtain ⟨N, O, G, I, K, J, H⟩ := HS.out;clear HS;refine (C4.out (k + (n1 : Int) + (n2 : Int) + (n3 : Int)) _ J (by omega) (by omega)).mono ?_;rintro e w4 ⟨rfl, J, a⟩;obtain ⟨r, v, s, A, z, j, n, g, q, i, p, f, l, m, o, M, D, B, F, E, C, s0, s1, s2, s3, s4, s5⟩ := HD.out;replace X := (a.block w.heap.size hs E).trans X;replace hs := Nat.lt_of_lt_of_le hs a.size;replace N := N.trans (a.mono (zAA.trans s4));replace O := zAC O a A;replace G := zAC G a g;replace I := zAC I a p;replace K := zAC K a l;replace H := zAC H a (Dis.symm o);clear a C4 r v s A z j n g q i p f l m o M D B F E C s0 s1 s2 s3 s4 s5;obtain ⟨y0, y1, y2, y3, y4, y5, y6, y7, y8, y9, fA, gA, cA⟩ := zAd X;have HS : Hid _ := And.intro N (And.intro O (And.intro G (And.intro I (And.intro K (And.intro J (H))))));clear N O G I K J H;go_wp2_with fail
 clear y0 y1 y2 y3 y4 y5 y6 y7 y8 y9 fA gA cA;obtain ⟨N, O, G, I, K, J, H⟩ := HS.out;clear HS;refine (C5.out (k + (n1 : Int) + (n2 : Int) + (n3 : Int) + (n4 : Int)) _ H (by omega) (by omega)).mono ?_;rintro e w5 ⟨rfl, H, a⟩;obtain ⟨r, v, s, A, z, j, n, g, q, i, p, f, l, m, o, M, D, B, F, E, C, s0, s1, s2, s3, s4, s5⟩ := HD.out;replace X := (a.block w.heap.size hs C).trans X;replace hs := Nat.lt_of_lt_of_le hs a.size;replace N := N.trans (a.mono (zAA.trans s5));replace O := zAC O a z;replace G := zAC G a q;replace I := zAC I a f;replace K := zAC K a m;replace J := zAC J a o;clear a C5 r v s A z j n g q i p f l m o M D B F E C s0 s1 s2 s3 s4 s5;clear X;have HS : Hid _ := And.intro N (And.intro O (And.intro G (And.intro I (And.intro K (And.intro J (H))))));clear N O G I K J H;go_wp2;go_ret
 obtain ⟨N, O, G, I, K, J, H⟩ := HS.out;obtain ⟨r, v, s, A, z, j, n, g, q, i, p, f, l, m, o, M, D, B, F, E, C, s0, s1, s2, s3, s4, s5⟩ := HD.out;exact ⟨zAx (by omega), jA.out (fun y => zCr.own _ S _ y) (zHE (x := (zIC.mV k x.1, zAU.mV (k) x.2.1, zBj.mV (k + (n1 : Int)) x.2.2.1, zEo.mV (k + (n1 : Int) + (n2 : Int)) x.2.2.2.1, zCI.mV (k + (n1 : Int) + (n2 : Int) + (n3 : Int)) x.2.2.2.2.1, zBb.mV (k + (n1 : Int) + (n2 : Int) + (n3 : Int) + (n4 : Int)) x.2.2.2.2.2)) O G I K J H (zAA.trans s0) (zAA.trans s1) (zAA.trans s2) (zAA.trans s3) (zAA.trans s4) (zAA.trans s5) r v s A z j n g q i p f l m o), HF.out _ N⟩
theorem bd_ent : Bd zDv 8 := zAV zBl (zAV zBl (zAV zNh (zAV zBl (zAV zBl (zAV zBl (zAV zBl (zFV zBl)))))))
theorem bv_house : Bv zAU 9 := zDf (zIQ (zFV zBl)) (zIQ bd_ent)
theorem bd_opF : Bd opM 4 := zAV zBl (zAV zBl (zAV zBl zBl))
theorem bd_msgF : Bd zDj 7 := zAV zBl (zAV zBl (zAV zBl (zAV zBl (zAV zBl (zAV (zFV zBl) zBl)))))
theorem bd_coreF : Bd zBt 14 := zAV (zAV (zFV (zFV bd_way)) (zFV zBl)) (zAV (zFV bd_opF) (zAV zBl (zAV zBl (zAV bd_way (zFV zBl)))))
theorem bd_descF : Bd zBA 4 := zAV zNh (zAV zBl (zAV zBl (zFV zBl)))
theorem zOs : Bd zBs 9 := zAV zBl (zAV bd_opF (zAV zBl (zAV zBl (zAV (zFV zBl) zBl))))
theorem bv_cfg : Bv zIC 0 := zDf zIP (zDf zIP (zDf zIP zIP))
theorem bv_dma : Bv zEo 5 := zDf (zIQ bd_descF) (zDf zIP (zDf bv_bool (zIQ (zFV zBl))))
theorem bv_fabric : Bv zAX 44 := zDf bv_cfg (zDf bv_house (zDf (zIQ bd_coreF) (zDf bv_dma (zDf (zIQ bd_msgF) (zIQ zOs)))))
theorem zEW (k : Int) (w : World) : Calls Tryz.prog 160 #[.int .i64 k] w fun e a => e = .returned (.bool (zA8 k 1 16)) ∧ a = w := by
 go_enter Tryz.func160, Tryz.ntmps160;go_wp2_with (go_at_call 76; refine (zAw _ _ _ _).mono ?_; rintro e a ⟨rfl, rfl⟩)
 go_ret
 exact ⟨rfl, rfl⟩
def zBe (c s y l : Int) : Int := if zA8 c 1 4 then (if zET s then (if zET y then (if zA8 l 1 16 then 0 else 4) else 3) else 2) else 1
theorem zCs (c s y l : Int) (w : World) :
    Calls Tryz.prog 89 #[.agg #[.int .i64 c, .int .i64 s, .int .i64 y, .int .i64 l]] w fun e a => e = .returned (.int .i64 (zBe c s y l)) ∧ Below w.heap.size w a := by
 have B := (Below.refl w.heap.size w).alloc (Nat.le_refl _);unfold zBe;cases h1 : zA8 c 1 4 <;> cases h2 : zET s <;> cases h3 : zET y <;> cases h4 : zA8 l 1 16
 all_goals
  go_enter Tryz.func89, Tryz.ntmps89
  go_wp2_with (first
   | (go_at_call 98; refine (zAo _ _ _ _).mono ?_; rintro e a ⟨rfl, rfl⟩)
   | (go_at_call 140; refine (zEj _ _).mono ?_; rintro e a ⟨rfl, rfl⟩))
  go_ret
  exact ⟨rfl, B _⟩
theorem zHq (c s y l : Int) (w : World) :
    Calls Tryz.prog 119 #[.agg #[.int .i64 c, .int .i64 s, .int .i64 y, .int .i64 l], .int .i64 1] w fun e a => e = .returned (.int .i64 (zBe c s y l)) ∧ Below w.heap.size w a := by
 have B := (Below.refl w.heap.size w).alloc (Nat.le_refl _);unfold zBe;cases h1 : zA8 c 1 4 <;> cases h2 : zET s <;> cases h3 : zET y <;> cases h4 : zA8 l 1 16
 all_goals
  go_enter Tryz.func119, Tryz.ntmps119
  go_wp2_with (first
   | (go_at_call 76; refine (zAw _ _ _ _).mono ?_; rintro e a ⟨rfl, rfl⟩)
   | (go_at_call 160; refine (zEW _ _).mono ?_; rintro e a ⟨rfl, rfl⟩)
   | (go_at_call 159; refine (zCB _ _).mono ?_; rintro e a ⟨rfl, rfl⟩))
  go_ret
  exact ⟨rfl, B _⟩
theorem zDc (c s y l : Int) (w : World) :
    Calls Tryz.prog 70 #[.agg #[.int .i64 c, .int .i64 s, .int .i64 y, .int .i64 l]] w fun e a => e = .returned (.int .i64 (zBe c s y l)) ∧ Below w.heap.size w a := by
 have B := (Below.refl w.heap.size w).alloc (Nat.le_refl _);go_enter Tryz.func70, Tryz.ntmps70;go_wp2_with (go_at_call 119; refine (zHq _ _ _ _ _).mono ?_; rintro e a ⟨rfl, b⟩)
 go_ret
 exact ⟨rfl, zAa (B _) b⟩
theorem zFv {c s y l : Int} (h : zBe c s y l = 0) : (1 ≤ l ∧ l ≤ 16) ∧ (s = 1 ∨ s = 2 ∨ s = 4) := by
 unfold zBe at h;cases f : zA8 c 1 4 <;> cases a : zET s <;> cases d : zET y <;> cases b : zA8 l 1 16 <;> simp [f, a, d, b] at h
 simp [zA8] at b
 simp [zET] at a
 exact ⟨b, a⟩
def zEr (c s y l k : Int) : Bool := decide (zBe c s y l = 0 ∧ 0 ≤ k ∧ k < l)
def zFY (c s y l k : Int) : Bool := decide (zBe c s y l = 0 ∧ 0 ≤ k ∧ k < 2 * l)
theorem box_cell {w w1 : World} {cs : Array Value} {t : TypeId} (h : Below (w.alloc (.cells cs t)).heap.size (w.alloc (.cells cs t)) w1) (j : Nat) : w1.cell? ⟨w.heap.size, j, none⟩ = cs[j]? := by
 rw [h.cell (by simp), cell_of_row (w.alloc (.cells cs t)) w.heap.size j cs t (0, 0) (heap_alloc_new w _)]
theorem zCR (c s y l k : Int) (w : World) :
    Calls Tryz.prog 36 #[.agg #[.int .i64 c, .int .i64 s, .int .i64 y, .int .i64 l], .int .i64 k] w fun e g => e = .returned (.bool (zEr c s y l k)) ∧ Below w.heap.size w g := by
 have B := (Below.refl w.heap.size w).alloc (Nat.le_refl _);by_cases a : zBe c s y l = 0
 ·obtain ⟨hl, i⟩ := zFv a;have d : (zBe c s y l == 0) = true := by simp [a]
  have f : Hid (zEr c s y l k = zA8 k 0 (l - 1)) := by
   unfold Hid zEr zA8;simp only [a, true_and];rw [Bool.eq_iff_iff];simp
   omega
  clear a i;go_enter Tryz.func36, Tryz.ntmps36;go_wp2_with fail
  refine (zDc _ _ _ _ _).mono ?_;rintro e j ⟨rfl, b⟩;have m := (box_cell b 3);simp only [List.getElem?_toArray, List.getElem?_cons_succ, List.getElem?_cons_zero] at m;go_wp2_with (go_at_call 76; refine (zAw _ _ _ _).mono ?_; rintro e g ⟨rfl, rfl⟩)
  go_ret
  exact ⟨zAl f.out.symm, zAa (B _) b⟩
 ·have d : (zBe c s y l == 0) = false := by simp [a]
  have f : Hid (zEr c s y l k = false) := by
   unfold Hid zEr;simp [a]
  clear a;go_enter Tryz.func36, Tryz.ntmps36;go_wp2_with (go_at_call 70; refine (zDc _ _ _ _ _).mono ?_; rintro e j ⟨rfl, b⟩)
  go_ret
  exact ⟨zAl f.out.symm, zAa (B _) b⟩
theorem lineB_eq {c s y l a : Int} (h : zBe c s y l = 0) : zEr c s y l a = zA8 a 0 (l - 1) := by
 unfold zEr zA8;simp only [h, true_and];rw [Bool.eq_iff_iff];simp
 omega
theorem zHF (c s y l a : Int) (w : World) (hl : 1 ≤ l ∧ l ≤ 16) :
    Calls Tryz.prog 151 #[.agg #[.int .i64 c, .int .i64 s, .int .i64 y, .int .i64 l], .int .i64 a] w fun e w' => e = .returned (.bool (zA8 a 0 (2 * l - 1))) ∧ Below w.heap.size w w' := by
 have B := (Below.refl w.heap.size w).alloc (Nat.le_refl _);by_cases h1 : 0 ≤ a
 ·by_cases h2 : a < 2 * l
  all_goals
   go_enter Tryz.func151, Tryz.ntmps151;go_wp2;go_ret
   exact ⟨zAl (by unfold zA8; rw [Bool.eq_iff_iff]; simp; omega), B _⟩
 ·go_enter Tryz.func151, Tryz.ntmps151;go_wp2;go_ret
  exact ⟨zAl (by unfold zA8; rw [Bool.eq_iff_iff]; simp; omega), B _⟩
theorem zM2 (c s y l a : Int) (h : 0 ≤ a) : zEr c s y l (a / 2) = zFY c s y l a := by
 unfold zFY zEr;rw [Bool.eq_iff_iff];simp
 intro _;omega
theorem zOt (c s y l a : Int) (h : ¬ 0 ≤ a) : zFY c s y l a = false := by
 unfold zFY;simp
 omega
theorem zGE (c s y l a : Int) (w : World) (hw : 0 ≤ a → wrap64 (a.tdiv 2) = a / 2) :
    Calls Tryz.prog 252 #[.agg #[.int .i64 c, .int .i64 s, .int .i64 y, .int .i64 l], .int .i64 a] w fun e w' => e = .returned (.bool (zFY c s y l a)) ∧ Below w.heap.size w w' := by
 have B := (Below.refl w.heap.size w).alloc (Nat.le_refl _);by_cases b : 0 ≤ a
 ·have H := zM2 c s y l a b;have d : Hid _ := H;have g := hw b;clear H hw;go_enter Tryz.func252, Tryz.ntmps252;go_wp2_with (go_at_call 36; refine (zCR _ _ _ _ _ _).mono ?_; rintro e w1 ⟨rfl, f⟩)
  go_ret
  exact ⟨zAl d.out, zAa (B _) f⟩
 ·have d : Hid _ := zOt c s y l a b;clear hw;go_enter Tryz.func252, Tryz.ntmps252;go_wp2;go_ret
  exact ⟨zAl d.out.symm, B _⟩
theorem zFw {w : World} {cs : List Value} {x : zDy} (h : zBL.rd w cs x) : ∃ (ga : Option Addr) (gc : Nat), cs = [.int .i64 x.1, .int .i64 x.2.1, .int .i64 x.2.2.1, .int .i64 x.2.2.2.1, .int .i64 x.2.2.2.2.1, .slice ga x.2.2.2.2.2.1.length gc, .int .i64 x.2.2.2.2.2.2] := by
 obtain ⟨a, b, e, -⟩ := zFO h;exact ⟨a, b, e⟩
end Go.Proofs.YtcocbafhcpdheaaGreatDoor
