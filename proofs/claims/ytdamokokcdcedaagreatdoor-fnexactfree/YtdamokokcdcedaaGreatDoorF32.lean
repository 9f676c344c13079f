import Derived.Test.YtdamokokcdcedaaGreatDoorF00Box
import Derived.Test.YtdamokokcdcedaaGreatDoorF31
namespace Go.Proofs.YtdamokokcdcedaaGreatDoor
set_option maxHeartbeats 8000000
set_option maxRecDepth 20000
open Go.ChangeShapes Go.WideShapes Go.ChangeAt Go.RowKit
set_option linter.unusedVariables false
def holdE (x : EntryD) : List Int := if entB x then hoI x.1 x.2.1 else []
def entIn (c : Int) (x : EntryD) : Bool := agentIn c x.2.2.2.2.1 && (holdE x).all (coreIn c)
theorem hold_in (x : EntryD) : ∀ k ∈ holdE x, In64 k := (hold_small x).2
theorem fitsE1_any (c s y l k : Int) (g : Nat) (w : World) (hc : codeI c s y l = 0) (G : w.heap[g]? = some (.cells #[nI c, nI s, nI y, nI l] 38 (0, 0))) :
    Calls Tryz.prog 193 #[nI k, .pointer (some ⟨g, 0, none⟩)] w fun e w' => e = .returned (.bool (!coreIn c k)) ∧ Bl w w' := by
 have a := hasCore_any c s y l k w hc;generalize coreIn c k = q at a ⊢;obtain ⟨j, i, b, d⟩ := cells_4 G;clear hc G;go_enter Tryz.func193, Tryz.ntmps193;go_wp2_with fail
 refine a.mono ?_;rintro e w1 ⟨rfl, f⟩;clear j i b d;go_wp2;go_ret
 exact ⟨rfl, f⟩
theorem idxFnI (c s y l : Int) (g : Nat) (a : Option Addr) (xs : List Int) (cap : Nat) (w : World) (hc : codeI c s y l = 0) (G : w.heap[g]? = some (.cells #[nI c, nI s, nI y, nI l] 38 (0, 0))) (h : SlRd intR w a xs) (hm : xs.length ≤ maxLen) :
    Calls Tryz.prog 230 #[sL a xs.length cap, .func (.func 193) #[] #[.pointer (some ⟨g, 0, none⟩)]] w fun e w' => e = .returned (nI (badP (coreIn c) xs)) ∧ Bl w w' := by
 have H : xs.length ≤ 9223372036854775807 := hm;have K : Hid (∀ W, Bl w W → SlRd intR W a xs) := fun W m => slrd_keep h fun k E => m.block k E;have B : Hid (∀ k W, Bl w W → Calls Tryz.prog 193 #[nI k, .pointer (some ⟨g, 0, none⟩)] W fun e w' => e = .returned (.bool (!coreIn c k)) ∧ Bl W w') := fun k W m => fitsE1_any c s y l k g W hc (row_keep m G);clear h hm hc G;go_enter Tryz.func230, Tryz.ntmps230;go_wp2;go_loopw [8] (fun i wr => ∃ k : Nat, k ≤ xs.length ∧ i = nI k ∧ (∀ j v, j < k → xs[j]? = some v → coreIn c v = true) ∧ Bl w wr) (fun i _ => xs.length - (intOf i).toNat)
 case atStart => exact ⟨0, Nat.zero_le _, rfl, fun j v hj => by omega, Below.refl _ _⟩
 case round =>
  obtain ⟨k, E, rfl, n, f⟩ := hrel;by_cases C : k < xs.length
  ·have F : (k : Int) < (xs.length : Int) := by omega
   obtain ⟨x, r⟩ : ∃ x, xs[k]? = some x := ⟨_, List.getElem?_eq_getElem C⟩;obtain ⟨b, o, cs, rfl, ⟨rfl, -⟩, d⟩ := slrd_at (K.out _ f) r;have q := B.out x wr f;have z := d 0 _ rfl;rw [show o + (k * intR.size + 0) = o + k from by rw [show intR.size = 1 from rfl]; omega] at z;have D : Hid (xs[k]? = some x) := r;clear r d;cases m : coreIn c x
   ·have A : Hid (badP (coreIn c) xs = k) := badP_at D.out m n;rw [m] at q;go_wp2_with fail
    refine q.mono ?_;rintro e I ⟨rfl, p⟩;replace f := below_step f p;clear p z;go_wp2;go_ret
    exact ⟨ret_int A.out.symm, f⟩
   ·rw [m] at q;go_wp2_with fail
    refine q.mono ?_;rintro e I ⟨rfl, p⟩;replace f := below_step f p;clear p z;go_wp2;go_roundw
    case rel =>
     refine ⟨k + 1, by omega, by go_num, fun j v hj hv => ?_, f⟩;by_cases J : j < k
     ·exact n j v J hv
     ·have : j = k := by omega
      subst this;rw [D.out] at hv;cases hv;exact m
    case measure => simp [intOf]; omega
  ·have A : Hid (badP (coreIn c) xs = -1) := badP_no fun j v hv => n j v (by have := (List.getElem?_eq_some_iff.1 hv).1; omega) hv;go_wp2;go_ret
   exact ⟨ret_int A.out.symm, f⟩
theorem conFnI (c s y l : Int) (g : Nat) (a : Option Addr) (xs : List Int) (cap : Nat) (w : World) (hc : codeI c s y l = 0) (G : w.heap[g]? = some (.cells #[nI c, nI s, nI y, nI l] 38 (0, 0))) (h : SlRd intR w a xs) (hm : xs.length ≤ maxLen) :
    Calls Tryz.prog 192 #[sL a xs.length cap, .func (.func 193) #[] #[.pointer (some ⟨g, 0, none⟩)]] w fun e w' => e = .returned (.bool (!xs.all (coreIn c))) ∧ Bl w w' := by
 have i := idxFnI c s y l g a xs cap w hc G h hm;have b := badP_all (coreIn c) xs;clear h hm hc G;generalize badP (coreIn c) xs = q at i b;generalize xs.all (coreIn c) = z at b ⊢;subst b;by_cases j : q < 0
 ·have d : ¬ (0 ≤ q) := by omega
  go_enter Tryz.func192, Tryz.ntmps192;go_wp2_with fail
  refine i.mono ?_;rintro e k ⟨rfl, f⟩;go_wp2;go_ret
  exact ⟨by simp [j], f⟩
 ·have d : 0 ≤ q := by omega
  go_enter Tryz.func192, Tryz.ntmps192;go_wp2_with fail
  refine i.mono ?_;rintro e k ⟨rfl, f⟩;go_wp2;go_ret
  exact ⟨by simp [j], f⟩
theorem fitsEntry_any (c s y l : Int) (x : EntryD) (xa : Option Addr) (xc : Nat) (w : World) (hc : codeI c s y l = 0) (h : SlRd intR w xa x.2.2.2.2.2.2.2) :
    Calls Tryz.prog 147 #[.agg #[nI c, nI s, nI y, nI l], .agg #[nI x.1, nI x.2.1, .bool x.2.2.1, nI x.2.2.2.1, nI x.2.2.2.2.1, nI x.2.2.2.2.2.1, nI x.2.2.2.2.2.2.1, sL xa x.2.2.2.2.2.2.2.length xc]] w fun e w' => e = .returned (.bool (entIn c x)) ∧ Bl w w' := by
 have r : Hid (∀ W, Calls Tryz.prog 191 #[.agg #[nI c, nI s, nI y, nI l], nI x.2.2.2.2.1] W fun e w' => e = .returned (.bool (agentIn c x.2.2.2.2.1)) ∧ Bl W w') := fun W => hasAgent_any c s y l x.2.2.2.2.1 W hc;have I : Hid (∀ W, Bl w W → Calls Tryz.prog 176 #[.agg #[nI x.1, nI x.2.1, .bool x.2.2.1, nI x.2.2.2.1, nI x.2.2.2.2.1, nI x.2.2.2.2.2.1, nI x.2.2.2.2.2.2.1, sL xa x.2.2.2.2.2.2.2.length xc]] W fun e w' => ∃ v, e = .returned v ∧ Made W w' v (holdE x)) := fun W hb => implHolders_any x.1 x.2.1 x.2.2.2.1 x.2.2.2.2.1 x.2.2.2.2.2.1 x.2.2.2.2.2.2.1 x.2.2.1 x.2.2.2.2.2.2.2 xa xc W (slrd_next h hb);unfold entIn;generalize agentIn c x.2.2.2.2.1 = q1 at r ⊢;clear h;have B := Below.refl w.heap.size w;go_enter Tryz.func147, Tryz.ntmps147;go_upto_region 1 with fail
 generalize b : w.alloc _ = u1w;have X := boxH b;have f := boxB b;have n := boxL b;clear b;replace B := below_step B f;clear f;have L := lE n;have C := lE n.symm;clear n;generalize a : u1w.alloc _ = u2w;have E := boxH a;have f := boxB a;have o := boxL a;clear a;rw [show u1w.heap.size = w.heap.size + 1 from by omega] at E;replace B := below_step B f;replace X := row_keep f X;clear f;have K := lE o;have M := lE o.symm;clear o;obtain ⟨Xc0, Xc1, Xc2, Xc3⟩ := cells_4 X;have Xlt := (ltH X);obtain ⟨Ec0, Ec1, Ec2, Ec3, Ec4, Ec5, Ec6, Ec7⟩ := cells_8 E;have Elt := (ltH E);go_wp2_with fail
 clear Xc0 Xc1 Xc2 Xc3 Xlt Ec0 Ec1 Ec2 Ec3 Ec4 Ec5 Ec6 Ec7 Elt;refine (r.out _).mono ?_;rintro e p ⟨rfl, d⟩;have z : u2w.heap.size ≤ p.heap.size := d.size;replace B := below_step B d;replace X := row_keep d X;replace E := row_keep d E;clear d;cases q1
 ·skip
  obtain ⟨Xc0, Xc1, Xc2, Xc3⟩ := cells_4 X;have Xlt := (ltH X);obtain ⟨Ec0, Ec1, Ec2, Ec3, Ec4, Ec5, Ec6, Ec7⟩ := cells_8 E;have Elt := (ltH E);have i : Hid _ := B;clear B X E;go_wp2;go_ret
  exact ⟨rfl, i.out⟩
 ·skip
  obtain ⟨Xc0, Xc1, Xc2, Xc3⟩ := cells_4 X;have Xlt := (ltH X);obtain ⟨Ec0, Ec1, Ec2, Ec3, Ec4, Ec5, Ec6, Ec7⟩ := cells_8 E;have Elt := (ltH E);go_wp2_with fail
  clear Xc0 Xc1 Xc2 Xc3 Xlt Ec0 Ec1 Ec2 Ec3 Ec4 Ec5 Ec6 Ec7 Elt;refine (I.out _ B).mono ?_;rintro e H ⟨v, rfl, A⟩;have m := madeR_ints A (hold_in x);obtain ⟨D, J, q, j, k, F⟩ := intsR.own_rd m.1;simp only [List.cons.injEq, and_true] at q;obtain rfl := q;have g := m.2;clear A m;replace B := below_step B g;replace X := row_keep g X;replace E := row_keep g E;clear g;obtain ⟨Xc0, Xc1, Xc2, Xc3⟩ := cells_4 X;have Xlt := (ltH X);obtain ⟨Ec0, Ec1, Ec2, Ec3, Ec4, Ec5, Ec6, Ec7⟩ := cells_8 E;have Elt := (ltH E);go_wp2_with fail
  clear Xc0 Xc1 Xc2 Xc3 Xlt Ec0 Ec1 Ec2 Ec3 Ec4 Ec5 Ec6 Ec7 Elt;refine (conFnI c s y l w.heap.size D (holdE x) J _ hc X F (Nat.le_trans j k)).mono ?_;rintro e G ⟨rfl, d⟩;replace B := below_step B d;replace X := row_keep d X;replace E := row_keep d E;clear d;obtain ⟨Xc0, Xc1, Xc2, Xc3⟩ := cells_4 X;have Xlt := (ltH X);obtain ⟨Ec0, Ec1, Ec2, Ec3, Ec4, Ec5, Ec6, Ec7⟩ := cells_8 E;have Elt := (ltH E);have i : Hid _ := B;clear B X E;go_wp2;go_ret
  exact ⟨by simp, i.out⟩
theorem szDescs_u : SzC 63 descsR descsM cell1 := by
 rintro cs x left w ⟨a, b, rfl, d, c, g⟩ f i;exact szDescS_rep a x b left w g f i (Nat.le_trans d c)
theorem toDescs_u : ToC 80 descsR descsM cell1 := by
 rintro cs x w ⟨a, b, rfl, l1, l2, d⟩ f;refine (toDescS_rep a x b w d f).mono ?_;rintro e w' ⟨v, rfl, c⟩;exact ⟨[v], rfl, c⟩
theorem eqDescs_u : EqC 101 descsR descsM cell1 := by
 rintro cs ds x w ⟨a, c, rfl, l1, l2, f⟩ ⟨b, g, rfl, k1, k2, d⟩ i;exact eqDescS_rep a b x c g w f d (Nat.le_trans i (by decide))
abbrev DmaD := List DescD × Int × Bool × List (List Int)
abbrev dmaR : Rep DmaD := prodR descsR (prodR intR (prodR boolR rowsR))
abbrev dmaM : Mk DmaD := prodM descsM (prodM intM (prodM boolM rowsM))
theorem len1dma {l : List Value} (h : l.length = 1) : ∃ a0, l = [a0] := by
 match l, h with
 | [a0], _ => exact ⟨a0, rfl⟩
theorem dma_rd {w : World} {cs : List Value} {x : DmaD} (h : dmaR.rd w cs x) : ∃ b a, cs = [b, nI x.2.1, .bool x.2.2.1, a] ∧ descsR.rd w [b] x.1 ∧ In64 x.2.1 ∧ True ∧ rowsR.rd w [a] x.2.2.2 := by
 obtain ⟨c0, e0, rfl, c, ⟨c1, e1, rfl, ⟨rfl, f⟩, ⟨c2, e2, rfl, rfl, d⟩⟩⟩ := h;obtain ⟨b, rfl⟩ := len1dma (descsR.rd_len c);obtain ⟨a, rfl⟩ := len1dma (rowsR.rd_len d);exact ⟨b, a, rfl, c, f, trivial, d⟩
theorem cells_dma {w : World} {g : Nat} {x0 x1 x2 x3 : Value} {t : TypeId} (h : w.heap[g]? = some (.cells #[x0, x1, x2, x3] t (0, 0))) : w.cell? ⟨g, 0, none⟩ = some x0 ∧ w.cell? ⟨g, 1, none⟩ = some x1 ∧ w.cell? ⟨g, 2, none⟩ = some x2 ∧ w.cell? ⟨g, 3, none⟩ = some x3 :=
 ⟨by rw [cell_of_row w g 0 _ t (0, 0) h]; rfl, by rw [cell_of_row w g 1 _ t (0, 0) h]; rfl, by rw [cell_of_row w g 2 _ t (0, 0) h]; rfl, by rw [cell_of_row w g 3 _ t (0, 0) h]; rfl⟩
theorem szDma_u : SzC 21 dmaR dmaM aggV := by
 intro cs x left w h h0 h1;obtain ⟨i, f, rfl, o, -, -, q⟩ := dma_rd h;clear h;rw [show dmaM.bk x = descsM.bk x.1 + (0 + (0 + rowsM.bk x.2.2.2)) from rfl];change Calls Tryz.prog 21 #[.agg #[i, nI x.2.1, .bool x.2.2.1, f], nI left] w _
 have j : Hid (∀ L W, Bl w W → 0 ≤ L → L ≤ 1048576 → Calls Tryz.prog 63 #[i, nI L] W fun e w' => e = .returned (nI (szI (descsM.bk x.1) L)) ∧ Bl W w') := fun L W hb a b => szDescs_u [i] _ L W (rd_next o hb) a b;have k : Hid (∀ L W, Bl w W → 0 ≤ L → L ≤ 1048576 → Calls Tryz.prog 60 #[f, nI L] W fun e w' => e = .returned (nI (szI (rowsM.bk x.2.2.2) L)) ∧ Bl W w') := fun L W hb a b => szRows_u [f] _ L W (rd_next q hb) a b;clear o q;generalize descsM.bk x.1 = n0 at j ⊢;generalize rowsM.bk x.2.2.2 = n3 at k ⊢;go_enter Tryz.func21, Tryz.ntmps21;go_wp2_with fail
 generalize d : w.alloc _ = W0;have X := boxH d;have B := boxB d;clear d;refine (j.out (left) _ B (by omega) (by omega)).mono ?_;rintro e w1 ⟨rfl, c⟩;replace X := row_keep c X;replace B := below_step B c;clear c j;by_cases p : (n0 : Int) ≤ left
 ·rw [szI_yes p];have g0 : ¬ (left - (n0 : Int) < 0) := by omega
  obtain ⟨n, l, m, g⟩ := cells_dma X;go_wp2_with fail
  clear n l m g;refine (k.out (left - (n0 : Int)) _ B (by omega) (by omega)).mono ?_;rintro e w2 ⟨rfl, c⟩;replace X := row_keep c X;replace B := below_step B c;clear c k;by_cases r : (n3 : Int) ≤ left - (n0 : Int)
  ·rw [szI_yes r];have g3 : ¬ (left - (n0 : Int) - (n3 : Int) < 0) := by omega
   obtain ⟨n, l, m, g⟩ := cells_dma X;clear n l m g X;go_wp2;go_ret
   exact ⟨ret_int (by rw [szI_yes (by omega)]; omega), B⟩
  ·rw [szI_no r];clear X;go_wp2;go_ret
   exact ⟨ret_int (szI_no (by omega)).symm, B⟩
 ·rw [szI_no p];clear X;go_wp2;go_ret
  exact ⟨ret_int (szI_no (by omega)).symm, B⟩
theorem eqDma_u : EqC 43 dmaR dmaM aggV := by
 intro cs ds x w h k n;obtain ⟨c, b, rfl, g, -, -, m⟩ := dma_rd h;obtain ⟨f, d, rfl, z, -, -, l⟩ := dma_rd k;clear h k;rw [show dmaM.bk x = descsM.bk x.1 + (0 + (0 + rowsM.bk x.2.2.2)) from rfl] at n;change Calls Tryz.prog 43 #[.agg #[c, nI x.2.1, .bool x.2.2.1, b], .agg #[f, nI x.2.1, .bool x.2.2.1, d]] w _
 have p : Hid (∀ W, Bl w W → Calls Tryz.prog 101 #[c, f] W fun e w' => e = .returned (.bool true) ∧ Bl W w') := fun W hb => eqDescs_u [c] [f] _ W (rd_next g hb) (rd_next z hb) (by omega);have q : Hid (∀ W, Bl w W → Calls Tryz.prog 10 #[b, d] W fun e w' => e = .returned (.bool true) ∧ Bl W w') := fun W hb => eqRows_u [b] [d] _ W (rd_next m hb) (rd_next l hb) (by omega);clear n g z m l;have X := heap_on (.cells #[f, nI x.2.1, .bool x.2.2.1, d] 45) (heap_at w (.cells #[c, nI x.2.1, .bool x.2.2.1, b] 45));have Y := heap_at (w.alloc (.cells #[c, nI x.2.1, .bool x.2.2.1, b] 45)) (.cells #[f, nI x.2.1, .bool x.2.2.1, d] 45);rw [alloc_len] at Y;have B := below_step (box_below w (.cells #[c, nI x.2.1, .bool x.2.2.1, b] 45)) (box_below _ (.cells #[f, nI x.2.1, .bool x.2.2.1, d] 45));go_enter Tryz.func43, Tryz.ntmps43;go_wp2_with fail
 generalize (w.alloc (.cells #[c, nI x.2.1, .bool x.2.2.1, b] 45)).alloc (.cells #[f, nI x.2.1, .bool x.2.2.1, d] 45) = W0 at X Y B ⊢;refine (p.out _ B).mono ?_;rintro e w1 ⟨rfl, a⟩;replace X := row_keep a X;replace Y := row_keep a Y;replace B := below_step B a;clear a p;obtain ⟨A, v, y, o⟩ := cells_dma X;obtain ⟨r, s, j, i⟩ := cells_dma Y;go_wp2_with fail
 clear A v y o r s j i;refine (q.out _ B).mono ?_;rintro e w2 ⟨rfl, a⟩;replace X := row_keep a X;replace Y := row_keep a Y;replace B := below_step B a;clear a q;obtain ⟨A, v, y, o⟩ := cells_dma X;obtain ⟨r, s, j, i⟩ := cells_dma Y;clear X Y;go_wp2;go_ret
 exact ⟨rfl, B⟩
theorem own_dma {w : World} {S S0 S3 : Foot} {v0 v3 : Value} {x : DmaD} (i1 : In64 x.2.1) (h0 : descsR.own w S0 [v0] x.1) (h3 : rowsR.own w S3 [v3] x.2.2.2) (s0 : Sub S0 S) (s3 : Sub S3 S) (d03 : Dis S0 S3) : dmaR.own w S [v0, nI x.2.1, .bool x.2.2.1, v3] x := by
 exact ⟨[v0], [nI x.2.1, .bool x.2.2.1, v3], S0, (fun q => (fun _ => False) q ∨ (fun q => (fun _ => False) q ∨ S3 q) q), rfl, h0, ⟨[nI x.2.1], [.bool x.2.2.1, v3], (fun _ => False), (fun q => (fun _ => False) q ∨ S3 q), rfl, ⟨rfl, i1⟩, ⟨[.bool x.2.2.1], [v3], (fun _ => False), S3, rfl, rfl, h3, (fun q h => .inl h), (fun q h => .inr h), (fun _ h _ => h.elim)⟩, (fun q h => .inl h), (fun q h => .inr h), (fun _ h _ => h.elim)⟩, s0, (fun q h => h.elim (fun ha => ha.elim) (fun hb => hb.elim (fun hba => hba.elim) (fun hbb => s3 q hbb))), (fun q a h => h.elim (fun ha => ha.elim) (fun hb => hb.elim (fun hba => hba.elim) (fun hbb => d03 q a hbb)))⟩
theorem froz_dma {w : World} {g : Nat} {cs : Array Value} {t : TypeId} (h : w.heap[g]? = some (.cells cs t (0, 0))) : w.frozen? ⟨g, 0, none⟩ = false ∧ w.frozen? ⟨g, 1, none⟩ = false ∧ w.frozen? ⟨g, 2, none⟩ = false ∧ w.frozen? ⟨g, 3, none⟩ = false :=
 ⟨frozen_of_row w g 0 _ t h, frozen_of_row w g 1 _ t h, frozen_of_row w g 2 _ t h, frozen_of_row w g 3 _ t h⟩
theorem put_dma {w : World} {g : Nat} {x0 x1 x2 x3 y0 y1 y2 y3 : Value} {t : TypeId} (h : w.heap[g]? = some (.cells #[x0, x1, x2, x3] t (0, 0))) : ((((w.setCell ⟨g, 0, none⟩ (y0)).setCell ⟨g, 1, none⟩ (y1)).setCell ⟨g, 2, none⟩ (y2)).setCell ⟨g, 3, none⟩ (y3)).heap[g]? = some (.cells #[y0, y1, y2, y3] t (0, 0)) := by
 have d : (w.setCell ⟨g, 0, none⟩ (y0)).heap[g]? = some (.cells #[y0, x1, x2, x3] t (0, 0)) := heap_setCell_same _ g 0 _ t y0 h;have a : ((w.setCell ⟨g, 0, none⟩ (y0)).setCell ⟨g, 1, none⟩ (y1)).heap[g]? = some (.cells #[y0, y1, x2, x3] t (0, 0)) := heap_setCell_same _ g 1 _ t y1 d;have b : (((w.setCell ⟨g, 0, none⟩ (y0)).setCell ⟨g, 1, none⟩ (y1)).setCell ⟨g, 2, none⟩ (y2)).heap[g]? = some (.cells #[y0, y1, y2, x3] t (0, 0)) := heap_setCell_same _ g 2 _ t y2 a;have c : ((((w.setCell ⟨g, 0, none⟩ (y0)).setCell ⟨g, 1, none⟩ (y1)).setCell ⟨g, 2, none⟩ (y2)).setCell ⟨g, 3, none⟩ (y3)).heap[g]? = some (.cells #[y0, y1, y2, y3] t (0, 0)) := heap_setCell_same _ g 3 _ t y3 b;exact c
theorem toDma_u : ToC 29 dmaR dmaM aggV := by
 intro cs x w h X;obtain ⟨p, n, rfl, E, H, i2, G⟩ := dma_rd h;clear h;rw [show dmaM.bk x = descsM.bk x.1 + (0 + (0 + rowsM.bk x.2.2.2)) from rfl] at X;change Calls Tryz.prog 29 #[.agg #[p, nI x.2.1, .bool x.2.2.1, n]] w _
 have Y : Hid (∀ W, Bl w W → Calls Tryz.prog 80 #[p] W fun e C => ∃ a b, e = .returned (sL a x.1.length b) ∧ MadeR descsR W C [sL a x.1.length b] x.1) := fun W hb => (toDescs_u [p] _ W (rd_next E hb) (by omega)).mono (by rintro e C ⟨ds, rfl, c⟩; obtain ⟨a, b, rfl, -⟩ := descsR.own_rd c.1; exact ⟨a, b, rfl, c⟩);have Z : Hid (∀ W, Bl w W → Calls Tryz.prog 77 #[n] W fun e C => ∃ l k, e = .returned (sL l x.2.2.2.length k) ∧ MadeR rowsR W C [sL l x.2.2.2.length k] x.2.2.2) := fun W hb => (toRows_u [n] _ W (rd_next G hb) (by omega)).mono (by rintro e C ⟨ds, rfl, c⟩; obtain ⟨l, k, rfl, -⟩ := rowsR.own_rd c.1; exact ⟨l, k, rfl, c⟩);clear X E G;have HI : Hid _ := H;clear H;have i := heap_on (.cells #[sL none 0 0, nI 0, .bool false, sL none 0 0] 45) (heap_on (.cells #[sL none 0 0, nI 0, .bool false, sL none 0 0] 45) (heap_at w (.cells #[p, nI x.2.1, .bool x.2.2.1, n] 31)));have f := heap_on (.cells #[sL none 0 0, nI 0, .bool false, sL none 0 0] 45) (heap_at (w.alloc (.cells #[p, nI x.2.1, .bool x.2.2.1, n] 31)) (.cells #[sL none 0 0, nI 0, .bool false, sL none 0 0] 45));have d := heap_at ((w.alloc (.cells #[p, nI x.2.1, .bool x.2.2.1, n] 31)).alloc (.cells #[sL none 0 0, nI 0, .bool false, sL none 0 0] 45)) (.cells #[sL none 0 0, nI 0, .bool false, sL none 0 0] 45);rw [alloc_len] at f;rw [alloc_len, alloc_len] at d;have B : Bl w (((w.alloc (.cells #[p, nI x.2.1, .bool x.2.2.1, n] 31)).alloc (.cells #[sL none 0 0, nI 0, .bool false, sL none 0 0] 45)).alloc (.cells #[sL none 0 0, nI 0, .bool false, sL none 0 0] 45)) := (((Below.refl _ w).alloc (Nat.le_refl _) _).alloc (by simp) _).alloc (by simp; omega) _;have e3 : w.heap.size + 1 + 1 + 1 ≤ (((w.alloc (.cells #[p, nI x.2.1, .bool x.2.2.1, n] 31)).alloc (.cells #[sL none 0 0, nI 0, .bool false, sL none 0 0] 45)).alloc (.cells #[sL none 0 0, nI 0, .bool false, sL none 0 0] 45)).heap.size := by simp
 go_enter Tryz.func29, Tryz.ntmps29;go_wp2_with fail
 generalize ((w.alloc (.cells #[p, nI x.2.1, .bool x.2.2.1, n] 31)).alloc (.cells #[sL none 0 0, nI 0, .bool false, sL none 0 0] 45)).alloc (.cells #[sL none 0 0, nI 0, .bool false, sL none 0 0] 45) = u0 at i f d B e3 ⊢;refine (Y.out _ B).mono ?_;rintro e m ⟨a, b, rfl, c⟩;have rA := c.2.size;replace B := below_step B c.2;replace i := row_keep c.2 i;replace f := row_keep c.2 f;replace d := row_keep c.2 d;have j := c.1;clear c Y;obtain ⟨M, T, L, R⟩ := cells_dma i;obtain ⟨y0, y1, y2, y3⟩ := cells_dma d;obtain ⟨N, J, K, O⟩ := froz_dma d;have D : Hid _ := aI i (aI f (aI d (aI B (j))));clear i f d B j;go_wp2_with fail
 clear M T L R y0 y1 y2 y3 N J K O;obtain ⟨i, f, d, B, j⟩ := D.out;clear D;have I : (m.setCell ⟨w.heap.size + 1 + 1, 0, none⟩ (sL a x.1.length b)).heap[w.heap.size + 1 + 1]? = some (.cells #[sL a x.1.length b, nI 0, .bool false, sL none 0 0] 45 (0, 0)) := heap_setCell_same _ (w.heap.size + 1 + 1) 0 _ _ (sL a x.1.length b) d;have k1 : ((m.setCell ⟨w.heap.size + 1 + 1, 0, none⟩ (sL a x.1.length b)).setCell ⟨w.heap.size + 1 + 1, 1, none⟩ (nI x.2.1)).heap[w.heap.size + 1 + 1]? = some (.cells #[sL a x.1.length b, nI x.2.1, .bool false, sL none 0 0] 45 (0, 0)) := heap_setCell_same _ (w.heap.size + 1 + 1) 1 _ _ (nI x.2.1) I;have S : (((m.setCell ⟨w.heap.size + 1 + 1, 0, none⟩ (sL a x.1.length b)).setCell ⟨w.heap.size + 1 + 1, 1, none⟩ (nI x.2.1)).setCell ⟨w.heap.size + 1 + 1, 2, none⟩ (.bool x.2.2.1)).heap[w.heap.size + 1 + 1]? = some (.cells #[sL a x.1.length b, nI x.2.1, .bool x.2.2.1, sL none 0 0] 45 (0, 0)) := heap_setCell_same _ (w.heap.size + 1 + 1) 2 _ _ (.bool x.2.2.1) k1;have r := (heap_setC (g := w.heap.size + 1 + 1) (o := 2) (v := .bool x.2.2.1) (heap_setC (g := w.heap.size + 1 + 1) (o := 1) (v := nI x.2.1) (heap_setC (g := w.heap.size + 1 + 1) (o := 0) (v := sL a x.1.length b) i (by omega)) (by omega)) (by omega));have z := (heap_setC (g := w.heap.size + 1 + 1) (o := 2) (v := .bool x.2.2.1) (heap_setC (g := w.heap.size + 1 + 1) (o := 1) (v := nI x.2.1) (heap_setC (g := w.heap.size + 1 + 1) (o := 0) (v := sL a x.1.length b) f (by omega)) (by omega)) (by omega));have s : Bl w (((m.setCell ⟨w.heap.size + 1 + 1, 0, none⟩ (sL a x.1.length b)).setCell ⟨w.heap.size + 1 + 1, 1, none⟩ (nI x.2.1)).setCell ⟨w.heap.size + 1 + 1, 2, none⟩ (.bool x.2.2.1)) := (below_setC (below_setC (below_setC B (by omega)) (by omega)) (by omega));have A : descsR.own (((m.setCell ⟨w.heap.size + 1 + 1, 0, none⟩ (sL a x.1.length b)).setCell ⟨w.heap.size + 1 + 1, 1, none⟩ (nI x.2.1)).setCell ⟨w.heap.size + 1 + 1, 2, none⟩ (.bool x.2.2.1)) _ _ _ := (own_setC (own_setC (own_setC j (fun h => by have := h.1; omega)) (fun h => by have := h.1; omega)) (fun h => by have := h.1; omega));have q : m.heap.size ≤ (((m.setCell ⟨w.heap.size + 1 + 1, 0, none⟩ (sL a x.1.length b)).setCell ⟨w.heap.size + 1 + 1, 1, none⟩ (nI x.2.1)).setCell ⟨w.heap.size + 1 + 1, 2, none⟩ (.bool x.2.2.1)).heap.size := by simp
 have y : (((m.setCell ⟨w.heap.size + 1 + 1, 0, none⟩ (sL a x.1.length b)).setCell ⟨w.heap.size + 1 + 1, 1, none⟩ (nI x.2.1)).setCell ⟨w.heap.size + 1 + 1, 2, none⟩ (.bool x.2.2.1)).heap.size ≤ m.heap.size := by simp
 clear i f d B j I k1;generalize (((m.setCell ⟨w.heap.size + 1 + 1, 0, none⟩ (sL a x.1.length b)).setCell ⟨w.heap.size + 1 + 1, 1, none⟩ (nI x.2.1)).setCell ⟨w.heap.size + 1 + 1, 2, none⟩ (.bool x.2.2.1)) = u1 at r z S s q y A ⊢;have i := r;have f := z;have d := S;have B := s;have j := A;have oA := q;have kA := y;clear r z S s q y A;refine (Z.out _ B).mono ?_;rintro e U ⟨l, k, rfl, c⟩;have bA := c.2.size;replace B := below_step B c.2;replace i := row_keep c.2 i;replace f := row_keep c.2 f;replace d := row_keep c.2 d;replace j := own_stay j c.2 (by omega);have F := c.1;clear c Z;obtain ⟨M, T, L, R⟩ := cells_dma i;obtain ⟨y0, y1, y2, y3⟩ := cells_dma d;obtain ⟨N, J, K, O⟩ := froz_dma d;obtain ⟨z0, z1, z2, z3⟩ := cells_dma f;obtain ⟨g0, g1, g2, g3⟩ := froz_dma f;have D : Hid _ := aI i (aI f (aI d (aI B (aI j (F)))));clear i f d B j F;go_wp2;clear M T L R y0 y1 y2 y3 N J K O z0 z1 z2 z3 g0 g1 g2 g3;obtain ⟨i, f, d, B, j, F⟩ := D.out;clear D;have I : (U.setCell ⟨w.heap.size + 1 + 1, 3, none⟩ (sL l x.2.2.2.length k)).heap[w.heap.size + 1 + 1]? = some (.cells #[sL a x.1.length b, nI x.2.1, .bool x.2.2.1, sL l x.2.2.2.length k] 45 (0, 0)) := heap_setCell_same _ (w.heap.size + 1 + 1) 3 _ _ (sL l x.2.2.2.length k) d;have V := put_dma (y0 := sL a x.1.length b) (y1 := nI x.2.1) (y2 := .bool x.2.2.1) (y3 := sL l x.2.2.2.length k) (heap_setC (g := w.heap.size + 1 + 1) (o := 3) (v := sL l x.2.2.2.length k) f (by omega));obtain ⟨E, r1, r2, G⟩ := cells_dma V;have H := HI.out;refine bodyPost_ret (v := .agg #[sL a x.1.length b, nI x.2.1, .bool x.2.2.1, sL l x.2.2.2.length k]) (by simp [results, Tryz.results29, go_sem, E, r1, r2, G]) rfl ⟨[sL a x.1.length b, nI x.2.1, .bool x.2.2.1, sL l x.2.2.2.length k], rfl, own_dma (S0 := rng u0.heap.size m.heap.size) (S3 := rng u1.heap.size U.heap.size) H ?_ ?_ (rng_sub (by omega) (by simp <;> omega)) (rng_sub (by omega) (by simp <;> omega)) (rng_dis (.inl (by omega))), ?_⟩
 ·exact (own_setC (own_setC (own_setC (own_setC (own_setC j (fun h => by have := h.1; omega)) (fun h => by have := h.1; omega)) (fun h => by have := h.1; omega)) (fun h => by have := h.1; omega)) (fun h => by have := h.1; omega))
 ·exact (own_setC (own_setC (own_setC (own_setC (own_setC F (fun h => by have := h.1; omega)) (fun h => by have := h.1; omega)) (fun h => by have := h.1; omega)) (fun h => by have := h.1; omega)) (fun h => by have := h.1; omega))
 ·exact (below_setC (below_setC (below_setC (below_setC (below_setC B (by omega)) (by omega)) (by omega)) (by omega)) (by omega))
theorem dma_shape {w : World} {cs : List Value} {x : DmaD} (h : dmaR.rd w cs x) : ∃ (c : Option Addr) (a : Nat) (b : Option Addr) (d : Nat), cs = [sL c x.1.length a, nI x.2.1, .bool x.2.2.1, sL b x.2.2.2.length d] := by
 obtain ⟨v0, v3, rfl, i, -, -, j⟩ := dma_rd h;obtain ⟨c, a, g, -⟩ := i;simp only [List.cons.injEq, and_true] at g;obtain rfl := g;obtain ⟨b, d, f, -⟩ := j;simp only [List.cons.injEq, and_true] at f;obtain rfl := f;exact ⟨c, a, b, d, rfl⟩
theorem opens_dma : Opens Tryz.prog 31 dmaR :=
 opens_struct Tryz.underlying31 (by kernel_rfl) (opensF_cons rfl (by kernel_rfl) opens_descs (opensF_cons rfl (by kernel_rfl) opens_i64 (opensF_cons rfl (by kernel_rfl) (opens_bool Tryz.underlying4) (opensF_one rfl (by kernel_rfl) opens_rows))))
theorem eqMsgs_u : EqC 44 msgsR msgsM cell1 := by
 rintro cs ds x w ⟨a, c, rfl, l1, l2, f⟩ ⟨b, g, rfl, k1, k2, d⟩ i;exact eqMsgS_rep a b x c g w f d (Nat.le_trans i (by decide))
theorem szMsgs_u : SzC 22 msgsR msgsM cell1 := by
 rintro cs x left w ⟨a, b, rfl, d, c, g⟩ f i;exact szMsgS_rep a x b left w g f i (Nat.le_trans d c)
theorem toMsgs_u : ToC 30 msgsR msgsM cell1 := by
 rintro cs x w ⟨a, b, rfl, l1, l2, d⟩ f;refine (toMsgS_rep a x b w d f).mono ?_;rintro e w' ⟨v, rfl, c⟩;exact ⟨[v], rfl, c⟩
end Go.Proofs.YtdamokokcdcedaaGreatDoor
