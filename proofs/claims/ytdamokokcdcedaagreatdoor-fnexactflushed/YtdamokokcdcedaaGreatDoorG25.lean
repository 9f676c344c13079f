import Derived.Test.YtdamokokcdcedaaGreatDoorG00Box
import Derived.Test.YtdamokokcdcedaaGreatDoorG23
import Derived.Test.YtdamokokcdcedaaGreatDoorG24
namespace Go.Proofs.YtdamokokcdcedaaGreatDoor
set_option maxHeartbeats 8000000
set_option maxRecDepth 20000
open Go.ChangeShapes Go.WideShapes Go.ChangeAt Go.RowKit
set_option linter.unusedVariables false
set_option linter.unusedSimpArgs false
theorem mkFabric_u : MkC 12 fabricR fabricM aggV := by
 intro S cs x k w h h0 hm hb;obtain ⟨v0, v1, v2, v3, Z, Y, T, V, R, U, d, b, c, S0, S1, S2, S3, S4, S5, rfl, o0, o1, o2, o3, o4, o5, s0, s1, s2, s3, s4, s5, gB, TA, aB, cB, YA, RA, VA, bB, ZA, fB, SA, UA, eB, iB, dB⟩ := fabric_own h;clear h;rw [fabric_cV] at hm ⊢;rw [show fabricM.bk x = 0 + (houseM.bk x.2.1 + (coresM.bk x.2.2.1 + (dmaM.bk x.2.2.2.1 + (msgsM.bk x.2.2.2.2.1 + eventsM.bk x.2.2.2.2.2)))) from rfl] at hb;have el : lot = 4398046511104 := rfl;change Calls Tryz.prog 12 #[.agg #[v0, v1, v2, v3, Z, Y, T, V, R, U, d, b, c], nI k] w _
 have C1 : Hid (∀ L W, houseR.own W (Old w S1) [Z, Y] x.2.1 → 0 ≤ L → L + (houseM.cV x.2.1 : Int) ≤ (lot : Int) → Calls Tryz.prog 46 #[.agg #[Z, Y], nI L] W fun e w' => e = .returned (nI (L + (houseM.cV x.2.1 : Int))) ∧ houseR.own w' (Old w S1) [Z, Y] (houseM.mV L x.2.1) ∧ Chg (Old w S1) W w') := fun L W ho h1 h2 => mkHouse_u (Old w S1) [Z, Y] x.2.1 L W ho h1 h2 (by omega);have C2 : Hid (∀ L W, coresR.own W (Old w S2) [T] x.2.2.1 → 0 ≤ L → L + (coresM.cV x.2.2.1 : Int) ≤ (lot : Int) → Calls Tryz.prog 47 #[T, nI L] W fun e w' => e = .returned (nI (L + (coresM.cV x.2.2.1 : Int))) ∧ coresR.own w' (Old w S2) [T] (coresM.mV L x.2.2.1) ∧ Chg (Old w S2) W w') := fun L W ho h1 h2 => mkCores_u (Old w S2) [T] x.2.2.1 L W ho h1 h2 (by omega);have C3 : Hid (∀ L W, dmaR.own W (Old w S3) [V, R, U, d] x.2.2.2.1 → 0 ≤ L → L + (dmaM.cV x.2.2.2.1 : Int) ≤ (lot : Int) → Calls Tryz.prog 48 #[.agg #[V, R, U, d], nI L] W fun e w' => e = .returned (nI (L + (dmaM.cV x.2.2.2.1 : Int))) ∧ dmaR.own w' (Old w S3) [V, R, U, d] (dmaM.mV L x.2.2.2.1) ∧ Chg (Old w S3) W w') := fun L W ho h1 h2 => mkDma_u (Old w S3) [V, R, U, d] x.2.2.2.1 L W ho h1 h2 (by omega);have C4 : Hid (∀ L W, msgsR.own W (Old w S4) [b] x.2.2.2.2.1 → 0 ≤ L → L + (msgsM.cV x.2.2.2.2.1 : Int) ≤ (lot : Int) → Calls Tryz.prog 49 #[b, nI L] W fun e w' => e = .returned (nI (L + (msgsM.cV x.2.2.2.2.1 : Int))) ∧ msgsR.own w' (Old w S4) [b] (msgsM.mV L x.2.2.2.2.1) ∧ Chg (Old w S4) W w') := fun L W ho h1 h2 => mkMsgs_u (Old w S4) [b] x.2.2.2.2.1 L W ho h1 h2 (by omega);have C5 : Hid (∀ L W, eventsR.own W (Old w S5) [c] x.2.2.2.2.2 → 0 ≤ L → L + (eventsM.cV x.2.2.2.2.2 : Int) ≤ (lot : Int) → Calls Tryz.prog 50 #[c, nI L] W fun e w' => e = .returned (nI (L + (eventsM.cV x.2.2.2.2.2 : Int))) ∧ eventsR.own w' (Old w S5) [c] (eventsM.mV L x.2.2.2.2.2) ∧ Chg (Old w S5) W w') := fun L W ho h1 h2 => mkEvents_u (Old w S5) [c] x.2.2.2.2.2 L W ho h1 h2 (by omega);have X := heap_at w (.cells #[v0, v1, v2, v3, Z, Y, T, V, R, U, d, b, c] 49);have hs : w.heap.size < (w.alloc (.cells #[v0, v1, v2, v3, Z, Y, T, V, R, U, d, b, c] 49)).heap.size := by simp
 have J : Chg S (w.alloc (.cells #[v0, v1, v2, v3, Z, Y, T, V, R, U, d, b, c] 49)) (w.alloc (.cells #[v0, v1, v2, v3, Z, Y, T, V, R, U, d, b, c] 49)) := Chg.refl _ _;have FB : ∀ W, Chg S (w.alloc (.cells #[v0, v1, v2, v3, Z, Y, T, V, R, U, d, b, c] 49)) W → Chg S w W := fun W => chg_from_box;have G := own_box (.cells #[v0, v1, v2, v3, Z, Y, T, V, R, U, d, b, c] 49) (own_old o0);have O := own_box (.cells #[v0, v1, v2, v3, Z, Y, T, V, R, U, d, b, c] 49) (own_old o1);have N := own_box (.cells #[v0, v1, v2, v3, Z, Y, T, V, R, U, d, b, c] 49) (own_old o2);have I := own_box (.cells #[v0, v1, v2, v3, Z, Y, T, V, R, U, d, b, c] 49) (own_old o3);have H := own_box (.cells #[v0, v1, v2, v3, Z, Y, T, V, R, U, d, b, c] 49) (own_old o4);have M := own_box (.cells #[v0, v1, v2, v3, Z, Y, T, V, R, U, d, b, c] 49) (own_old o5);have K : ¬ Old w S0 w.heap.size := fun h => by have := h.2; omega
 have D : ¬ Old w S1 w.heap.size := fun h => by have := h.2; omega
 have B : ¬ Old w S2 w.heap.size := fun h => by have := h.2; omega
 have F : ¬ Old w S3 w.heap.size := fun h => by have := h.2; omega
 have C : ¬ Old w S4 w.heap.size := fun h => by have := h.2; omega
 have E : ¬ Old w S5 w.heap.size := fun h => by have := h.2; omega
 have A : Dis (Old w S0) (Old w S1) := gB.sub old_sub old_sub;have r : Dis (Old w S0) (Old w S2) := TA.sub old_sub old_sub;have v : Dis (Old w S0) (Old w S3) := aB.sub old_sub old_sub;have z : Dis (Old w S0) (Old w S4) := cB.sub old_sub old_sub;have s : Dis (Old w S0) (Old w S5) := YA.sub old_sub old_sub;have j : Dis (Old w S1) (Old w S2) := RA.sub old_sub old_sub;have o : Dis (Old w S1) (Old w S3) := VA.sub old_sub old_sub;have n : Dis (Old w S1) (Old w S4) := bB.sub old_sub old_sub;have m : Dis (Old w S1) (Old w S5) := ZA.sub old_sub old_sub;have f : Dis (Old w S2) (Old w S3) := fB.sub old_sub old_sub;have l : Dis (Old w S2) (Old w S4) := SA.sub old_sub old_sub;have p : Dis (Old w S2) (Old w S5) := UA.sub old_sub old_sub;have q : Dis (Old w S3) (Old w S4) := eB.sub old_sub old_sub;have i : Dis (Old w S3) (Old w S5) := iB.sub old_sub old_sub;have g : Dis (Old w S4) (Old w S5) := dB.sub old_sub old_sub;have HD : Hid _ := aI A (aI r (aI v (aI z (aI s (aI j (aI o (aI n (aI m (aI f (aI l (aI p (aI q (aI i (aI g (aI K (aI D (aI B (aI F (aI C (aI E (aI s0 (aI s1 (aI s2 (aI s3 (aI s4 (s5))))))))))))))))))))))))));have HF : Hid _ := FB;clear FB o0 o1 o2 o3 o4 o5 gB TA aB cB YA RA VA bB ZA fB SA UA eB iB dB A r v z s j o n m f l p q i g K D B F C E s0 s1 s2 s3 s4 s5;have eA : Hid (∀ (P : FabricD → Prop), P (cfgM.mV k x.1, houseM.mV (k + ((cfgM.cV x.1 : Nat) : Int)) x.2.1, coresM.mV ((k + ((cfgM.cV x.1 : Nat) : Int)) + ((houseM.cV x.2.1 : Nat) : Int)) x.2.2.1, dmaM.mV (((k + ((cfgM.cV x.1 : Nat) : Int)) + ((houseM.cV x.2.1 : Nat) : Int)) + ((coresM.cV x.2.2.1 : Nat) : Int)) x.2.2.2.1, msgsM.mV ((((k + ((cfgM.cV x.1 : Nat) : Int)) + ((houseM.cV x.2.1 : Nat) : Int)) + ((coresM.cV x.2.2.1 : Nat) : Int)) + ((dmaM.cV x.2.2.2.1 : Nat) : Int)) x.2.2.2.2.1, eventsM.mV (((((k + ((cfgM.cV x.1 : Nat) : Int)) + ((houseM.cV x.2.1 : Nat) : Int)) + ((coresM.cV x.2.2.1 : Nat) : Int)) + ((dmaM.cV x.2.2.2.1 : Nat) : Int)) + ((msgsM.cV x.2.2.2.2.1 : Nat) : Int)) x.2.2.2.2.2) → P (fabricM.mV k x)) := fun P hp => by rw [fabric_mV]; exact hp
 have z0 : ((cfgM.cV x.1 : Nat) : Int) = 0 := rfl;rw [z0, Int.add_zero] at eA;clear z0;generalize houseM.cV x.2.1 = n1 at C1 C2 C3 C4 C5 eA hm ⊢;generalize coresM.cV x.2.2.1 = n2 at C2 C3 C4 C5 eA hm ⊢;generalize dmaM.cV x.2.2.2.1 = n3 at C3 C4 C5 eA hm ⊢;generalize msgsM.cV x.2.2.2.2.1 = n4 at C4 C5 eA hm ⊢;generalize eventsM.cV x.2.2.2.2.2 = n5 at C5 eA hm ⊢;go_enter Tryz.func12, Tryz.ntmps12;go_wp2_with fail
 generalize w.alloc (.cells #[v0, v1, v2, v3, Z, Y, T, V, R, U, d, b, c] 49) = W0 at X hs J HF G O N I H M ⊢;refine (C1.out (k) _ O (by omega) (by omega)).mono ?_;rintro e w1 ⟨rfl, O, a⟩;obtain ⟨A, r, v, z, s, j, o, n, m, f, l, p, q, i, g, K, D, B, F, C, E, s0, s1, s2, s3, s4, s5⟩ := HD.out;replace X := (a.block w.heap.size hs D).trans X;replace hs := Nat.lt_of_lt_of_le hs a.size;replace J := J.trans (a.mono (old_sub.trans s1));replace G := own_chg G a A;replace N := own_chg N a (Dis.symm j);replace I := own_chg I a (Dis.symm o);replace H := own_chg H a (Dis.symm n);replace M := own_chg M a (Dis.symm m);clear a C1 A r v z s j o n m f l p q i g K D B F C E s0 s1 s2 s3 s4 s5;obtain ⟨y0, y1, y2, y3, y4, y5, y6, y7, y8, y9, gA, bA, dA⟩ := cells_fabric X;have HS : Hid _ := aI J (aI G (aI O (aI N (aI I (aI H (M))))));clear J G O N I H M;go_wp2_with fail
 clear y0 y1 y2 y3 y4 y5 y6 y7 y8 y9 gA bA dA;obtain ⟨J, G, O, N, I, H, M⟩ := HS.out;clear HS;refine (C2.out (k + (n1 : Int)) _ N (by omega) (by omega)).mono ?_;rintro e w2 ⟨rfl, N, a⟩;obtain ⟨A, r, v, z, s, j, o, n, m, f, l, p, q, i, g, K, D, B, F, C, E, s0, s1, s2, s3, s4, s5⟩ := HD.out;replace X := (a.block w.heap.size hs B).trans X;replace hs := Nat.lt_of_lt_of_le hs a.size;replace J := J.trans (a.mono (old_sub.trans s2));replace G := own_chg G a r;replace O := own_chg O a j;replace I := own_chg I a (Dis.symm f);replace H := own_chg H a (Dis.symm l);replace M := own_chg M a (Dis.symm p);clear a C2 A r v z s j o n m f l p q i g K D B F C E s0 s1 s2 s3 s4 s5;obtain ⟨y0, y1, y2, y3, y4, y5, y6, y7, y8, y9, gA, bA, dA⟩ := cells_fabric X;have HS : Hid _ := aI J (aI G (aI O (aI N (aI I (aI H (M))))));clear J G O N I H M;go_wp2_with fail
 clear y0 y1 y2 y3 y4 y5 y6 y7 y8 y9 gA bA dA;obtain ⟨J, G, O, N, I, H, M⟩ := HS.out;clear HS;refine (C3.out (k + (n1 : Int) + (n2 : Int)) _ I (by omega) (by omega)).mono ?_;rintro e w3 ⟨rfl, I, a⟩;obtain ⟨A, r, v, z, s, j, o, n, m, f, l, p, q, i, g, K, D, B, F, C, E, s0, s1, s2, s3, s4, s5⟩ := HD.out;replace X := (a.block w.heap.size hs F).trans X;replace hs := Nat.lt_of_lt_of_le hs a.size;replace J := J.trans (a.mono (old_sub.trans s3));replace G := own_chg G a v;replace O := own_chg O a o;replace N := own_chg N a f;replace H := own_chg H a (Dis.symm q);replace M := own_chg M a (Dis.symm i);clear a C3 A r v z s j o n m f l p q i g K D B F C E s0 s1 s2 s3 s4 s5;obtain ⟨y0, y1, y2, y3, y4, y5, y6, y7, y8, y9, gA, bA, dA⟩ := cells_fabric X;have HS : Hid _ := aI J (aI G (aI O (aI N (aI I (aI H (M))))));clear J G O N I H M;go_wp2_with fail
 clear y0 y1 y2 y3 y4 y5 y6 y7 y8 y9 gA bA dA;obtain ⟨J, G, O, N, I, H, M⟩ := HS.out;clear HS;refine (C4.out (k + (n1 : Int) + (n2 : Int) + (n3 : Int)) _ H (by omega) (by omega)).mono ?_;rintro e w4 ⟨rfl, H, a⟩;obtain ⟨A, r, v, z, s, j, o, n, m, f, l, p, q, i, g, K, D, B, F, C, E, s0, s1, s2, s3, s4, s5⟩ := HD.out;replace X := (a.block w.heap.size hs C).trans X;replace hs := Nat.lt_of_lt_of_le hs a.size;replace J := J.trans (a.mono (old_sub.trans s4));replace G := own_chg G a z;replace O := own_chg O a n;replace N := own_chg N a l;replace I := own_chg I a q;replace M := own_chg M a (Dis.symm g);clear a C4 A r v z s j o n m f l p q i g K D B F C E s0 s1 s2 s3 s4 s5;obtain ⟨y0, y1, y2, y3, y4, y5, y6, y7, y8, y9, gA, bA, dA⟩ := cells_fabric X;have HS : Hid _ := aI J (aI G (aI O (aI N (aI I (aI H (M))))));clear J G O N I H M;go_wp2_with fail
 clear y0 y1 y2 y3 y4 y5 y6 y7 y8 y9 gA bA dA;obtain ⟨J, G, O, N, I, H, M⟩ := HS.out;clear HS;refine (C5.out (k + (n1 : Int) + (n2 : Int) + (n3 : Int) + (n4 : Int)) _ M (by omega) (by omega)).mono ?_;rintro e w5 ⟨rfl, M, a⟩;obtain ⟨A, r, v, z, s, j, o, n, m, f, l, p, q, i, g, K, D, B, F, C, E, s0, s1, s2, s3, s4, s5⟩ := HD.out;replace X := (a.block w.heap.size hs E).trans X;replace hs := Nat.lt_of_lt_of_le hs a.size;replace J := J.trans (a.mono (old_sub.trans s5));replace G := own_chg G a s;replace O := own_chg O a m;replace N := own_chg N a p;replace I := own_chg I a i;replace H := own_chg H a g;clear a C5 A r v z s j o n m f l p q i g K D B F C E s0 s1 s2 s3 s4 s5 X;have HS : Hid _ := aI J (aI G (aI O (aI N (aI I (aI H (M))))));clear J G O N I H M;go_wp2;go_ret
 obtain ⟨J, G, O, N, I, H, M⟩ := HS.out;obtain ⟨A, r, v, z, s, j, o, n, m, f, l, p, q, i, g, K, D, B, F, C, E, s0, s1, s2, s3, s4, s5⟩ := HD.out;exact ⟨ret_int (by omega), eA.out (fun y => fabricR.own _ S _ y) (own_fabric (x := (cfgM.mV k x.1, houseM.mV (k) x.2.1, coresM.mV (k + (n1 : Int)) x.2.2.1, dmaM.mV (k + (n1 : Int) + (n2 : Int)) x.2.2.2.1, msgsM.mV (k + (n1 : Int) + (n2 : Int) + (n3 : Int)) x.2.2.2.2.1, eventsM.mV (k + (n1 : Int) + (n2 : Int) + (n3 : Int) + (n4 : Int)) x.2.2.2.2.2)) G O N I H M (old_sub.trans s0) (old_sub.trans s1) (old_sub.trans s2) (old_sub.trans s3) (old_sub.trans s4) (old_sub.trans s5) A r v z s j o n m f l p q i g), HF.out _ J⟩
theorem bd_ent : Bd entM 8 := bd_prod bd_int (bd_prod bd_int (bd_prod bd_bool (bd_prod bd_int (bd_prod bd_int (bd_prod bd_int (bd_prod bd_int (bd_sl bd_int)))))))
theorem bv_house : Bv houseM 9 := bv_prod (bv_sl (bd_sl bd_int)) (bv_sl bd_ent)
theorem bd_opF : Bd opM 4 := bd_prod bd_int (bd_prod bd_int (bd_prod bd_int bd_int))
theorem bd_msgF : Bd msgM 7 := bd_prod bd_int (bd_prod bd_int (bd_prod bd_int (bd_prod bd_int (bd_prod bd_int (bd_prod (bd_sl bd_int) bd_int)))))
theorem bd_coreF : Bd coreM 14 := bd_prod (bd_prod (bd_sl (bd_sl bd_way)) (bd_sl bd_int)) (bd_prod (bd_sl bd_opF) (bd_prod bd_int (bd_prod bd_int (bd_prod bd_way (bd_sl bd_int)))))
theorem bd_descF : Bd descM 4 := bd_prod bd_bool (bd_prod bd_int (bd_prod bd_int (bd_sl bd_int)))
theorem bd_eventF : Bd eventM 9 := bd_prod bd_int (bd_prod bd_opF (bd_prod bd_int (bd_prod bd_int (bd_prod (bd_sl bd_int) bd_int))))
theorem bv_cfg : Bv cfgM 0 := bv_prod bv_int (bv_prod bv_int (bv_prod bv_int bv_int))
theorem bv_dma : Bv dmaM 5 := bv_prod (bv_sl bd_descF) (bv_prod bv_int (bv_prod bv_bool (bv_sl (bd_sl bd_int))))
theorem bv_fabric : Bv fabricM 44 := bv_prod bv_cfg (bv_prod bv_house (bv_prod (bv_sl bd_coreF) (bv_prod bv_dma (bv_prod (bv_sl bd_msgF) (bv_sl bd_eventF)))))
theorem linesOk_any (k : Int) (w : World) : Calls Tryz.prog 89 #[nI k] w fun e a => e = .returned (.bool (betw k 1 16)) ∧ a = w := by
 go_enter Tryz.func89, Tryz.ntmps89;go_wp2_with (go_at_call 156; refine (between_any _ _ _ _).mono ?_; rintro e a ⟨rfl, rfl⟩)
 go_ret
 exact ⟨rfl, rfl⟩
def codeI (c s y l : Int) : Int := if betw c 1 4 then (if powB s then (if powB y then (if betw l 1 16 then 0 else 4) else 3) else 2) else 1
theorem specCode_any (c s y l : Int) (w : World) :
    Calls Tryz.prog 66 #[.agg #[nI c, nI s, nI y, nI l]] w fun e a => e = .returned (nI (codeI c s y l)) ∧ Bl w a := by
 have B := (Below.refl w.heap.size w).alloc (Nat.le_refl _);unfold codeI;cases h1 : betw c 1 4 <;> cases h2 : powB s <;> cases h3 : powB y <;> cases h4 : betw l 1 16
 all_goals
  go_enter Tryz.func66, Tryz.ntmps66
  go_wp2_with (first
   | (go_at_call 126; refine (l1In_any _ _ _ _).mono ?_; rintro e a ⟨rfl, rfl⟩)
   | (go_at_call 127; refine (l2Pow_any _ _).mono ?_; rintro e a ⟨rfl, rfl⟩))
  go_ret
  exact ⟨rfl, B _⟩
theorem firstWrong_any (c s y l : Int) (w : World) :
    Calls Tryz.prog 145 #[.agg #[nI c, nI s, nI y, nI l], nI 1] w fun e a => e = .returned (nI (codeI c s y l)) ∧ Bl w a := by
 have B := (Below.refl w.heap.size w).alloc (Nat.le_refl _);unfold codeI;cases h1 : betw c 1 4 <;> cases h2 : powB s <;> cases h3 : powB y <;> cases h4 : betw l 1 16
 all_goals
  go_enter Tryz.func145, Tryz.ntmps145
  go_wp2_with (first
   | (go_at_call 156; refine (between_any _ _ _ _).mono ?_; rintro e a ⟨rfl, rfl⟩)
   | (go_at_call 89; refine (linesOk_any _ _).mono ?_; rintro e a ⟨rfl, rfl⟩)
   | (go_at_call 188; refine (sizeOk_any _ _).mono ?_; rintro e a ⟨rfl, rfl⟩))
  go_ret
  exact ⟨rfl, B _⟩
theorem implCode_any (c s y l : Int) (w : World) :
    Calls Tryz.prog 83 #[.agg #[nI c, nI s, nI y, nI l]] w fun e a => e = .returned (nI (codeI c s y l)) ∧ Bl w a := by
 have B := (Below.refl w.heap.size w).alloc (Nat.le_refl _);go_enter Tryz.func83, Tryz.ntmps83;go_wp2_with (go_at_call 145; refine (firstWrong_any _ _ _ _ _).mono ?_; rintro e a ⟨rfl, b⟩)
 go_ret
 exact ⟨rfl, below_step (B _) b⟩
theorem code_zero {c s y l : Int} (h : codeI c s y l = 0) : (1 ≤ l ∧ l ≤ 16) ∧ (s = 1 ∨ s = 2 ∨ s = 4) := by
 unfold codeI at h;cases d : betw c 1 4 <;> cases a : powB s <;> cases f : powB y <;> cases b : betw l 1 16 <;> simp [d, a, f, b] at h
 simp [betw] at b
 simp [powB] at a
 exact ⟨b, a⟩
def lineB (c s y l k : Int) : Bool := decide (codeI c s y l = 0 ∧ 0 ≤ k ∧ k < l)
def addrB (c s y l k : Int) : Bool := decide (codeI c s y l = 0 ∧ 0 ≤ k ∧ k < 2 * l)
theorem box_cell {w w1 : World} {cs : Array Value} {t : TypeId} (h : Below (w.alloc (.cells cs t)).heap.size (w.alloc (.cells cs t)) w1) (j : Nat) : w1.cell? ⟨w.heap.size, j, none⟩ = cs[j]? := by
 rw [h.cell (by simp), cell_of_row (w.alloc (.cells cs t)) w.heap.size j cs t (0, 0) (heap_alloc_new w _)]
theorem hasLine_any (c s y l k : Int) (w : World) :
    Calls Tryz.prog 212 #[.agg #[nI c, nI s, nI y, nI l], nI k] w fun e g => e = .returned (.bool (lineB c s y l k)) ∧ Bl w g := by
 have B := (Below.refl w.heap.size w).alloc (Nat.le_refl _);by_cases a : codeI c s y l = 0
 ·obtain ⟨hl, i⟩ := code_zero a;have d : (codeI c s y l == 0) = true := by simp [a]
  have f : Hid (lineB c s y l k = betw k 0 (l - 1)) := by
   unfold Hid lineB betw;simp only [a, true_and];rw [Bool.eq_iff_iff];simp
   omega
  clear a i;go_enter Tryz.func212, Tryz.ntmps212;go_wp2_with fail
  refine (implCode_any _ _ _ _ _).mono ?_;rintro e j ⟨rfl, b⟩;have m := (box_cell b 3);simp only [List.getElem?_toArray, List.getElem?_cons_succ, List.getElem?_cons_zero] at m;go_wp2_with (go_at_call 156; refine (between_any _ _ _ _).mono ?_; rintro e g ⟨rfl, rfl⟩)
  go_ret
  exact ⟨ret_bool f.out.symm, below_step (B _) b⟩
 ·have d : (codeI c s y l == 0) = false := by simp [a]
  have f : Hid (lineB c s y l k = false) := by
   unfold Hid lineB;simp [a]
  clear a;go_enter Tryz.func212, Tryz.ntmps212;go_wp2_with (go_at_call 83; refine (implCode_any _ _ _ _ _).mono ?_; rintro e j ⟨rfl, b⟩)
  go_ret
  exact ⟨ret_bool f.out.symm, below_step (B _) b⟩
theorem lineB_eq {c s y l a : Int} (h : codeI c s y l = 0) : lineB c s y l a = betw a 0 (l - 1) := by
 unfold lineB betw;simp only [h, true_and];rw [Bool.eq_iff_iff];simp
 omega
theorem l2Addr_any (c s y l a : Int) (w : World) (hl : 1 ≤ l ∧ l ≤ 16) :
    Calls Tryz.prog 137 #[.agg #[nI c, nI s, nI y, nI l], nI a] w fun e w' => e = .returned (.bool (betw a 0 (2 * l - 1))) ∧ Bl w w' := by
 have B := (Below.refl w.heap.size w).alloc (Nat.le_refl _);by_cases h1 : 0 ≤ a
 ·by_cases h2 : a < 2 * l
  all_goals
   go_enter Tryz.func137, Tryz.ntmps137;go_wp2;go_ret
   exact ⟨ret_bool (by unfold betw; rw [Bool.eq_iff_iff]; simp; omega), B _⟩
 ·go_enter Tryz.func137, Tryz.ntmps137;go_wp2;go_ret
  exact ⟨ret_bool (by unfold betw; rw [Bool.eq_iff_iff]; simp; omega), B _⟩
theorem addrB_half (c s y l a : Int) (h : 0 ≤ a) : lineB c s y l (a / 2) = addrB c s y l a := by
 unfold addrB lineB;rw [Bool.eq_iff_iff];simp
 intro _;omega
theorem addrB_neg (c s y l a : Int) (h : ¬ 0 ≤ a) : addrB c s y l a = false := by
 unfold addrB;simp
 omega
theorem hasAddr_any (c s y l a : Int) (w : World) (hw : 0 ≤ a → wrap64 (a.tdiv 2) = a / 2) :
    Calls Tryz.prog 264 #[.agg #[nI c, nI s, nI y, nI l], nI a] w fun e w' => e = .returned (.bool (addrB c s y l a)) ∧ Bl w w' := by
 have B := (Below.refl w.heap.size w).alloc (Nat.le_refl _);by_cases d : 0 ≤ a
 ·have H := addrB_half c s y l a d;have b : Hid _ := H;have f := hw d;clear H hw;go_enter Tryz.func264, Tryz.ntmps264;go_wp2_with (go_at_call 212; refine (hasLine_any _ _ _ _ _ _).mono ?_; rintro e w1 ⟨rfl, g⟩)
  go_ret
  exact ⟨ret_bool b.out, below_step (B _) g⟩
 ·have b : Hid _ := addrB_neg c s y l a d;clear hw;go_enter Tryz.func264, Tryz.ntmps264;go_wp2;go_ret
  exact ⟨ret_bool b.out.symm, B _⟩
theorem msg_shape {w : World} {cs : List Value} {x : MsgD} (h : msgR.rd w cs x) : ∃ (ga : Option Addr) (gc : Nat), cs = [nI x.1, nI x.2.1, nI x.2.2.1, nI x.2.2.2.1, nI x.2.2.2.2.1, sL ga x.2.2.2.2.2.1.length gc, nI x.2.2.2.2.2.2] := by
 obtain ⟨a, b, e, -⟩ := msg_rd h;exact ⟨a, b, e⟩
end Go.Proofs.YtdamokokcdcedaaGreatDoor
