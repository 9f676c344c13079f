import Derived.Test.YtglejdilghcbaaaGreatDoorP00Box
import Derived.Test.YtglejdilghcbaaaGreatDoorP18
import Derived.Test.YtglejdilghcbaaaGreatDoorP31
namespace Go.Proofs.YtglejdilghcbaaaGreatDoor
set_option maxHeartbeats 8000000
set_option maxRecDepth 20000
open Go.ChangeShapes Go.WideShapes Go.ChangeAt Go.RowKit
set_option linter.unusedVariables false
def holdE (x : EntryD) : List Int := if entB x then hoI x.1 x.2.1 else []
def entIn (c : Int) (x : EntryD) : Bool := agentIn c x.2.2.2.2.1 && (holdE x).all (coreIn c)
theorem hold_in (x : EntryD) : ∀ k ∈ holdE x, In64 k := (hold_small x).2
theorem fitsE1_any (c s y l k : Int) (g : Nat) (w : World) (hc : codeI c s y l = 0) (G : w.heap[g]? = some (.cells #[nI c, nI s, nI y, nI l] 38 (0, 0))) :
    Calls Tryz.prog 137 #[nI k, .pointer (some ⟨g, 0, none⟩)] w fun e w' => e = .returned (.bool (!coreIn c k)) ∧ Bl w w' := by
 have a := hasCore_any c s y l k w hc;generalize coreIn c k = q at a ⊢;obtain ⟨j, b, f, i⟩ := cells_4 G;clear hc G;go_enter Tryz.func137, Tryz.ntmps137;go_wp2_with fail
 refine a.mono ?_;rintro e w1 ⟨rfl, d⟩;clear j b f i;go_wp2;go_ret
 exact ⟨rfl, d⟩
theorem idxFnI (c s y l : Int) (g : Nat) (a : Option Addr) (xs : List Int) (cap : Nat) (w : World) (hc : codeI c s y l = 0) (G : w.heap[g]? = some (.cells #[nI c, nI s, nI y, nI l] 38 (0, 0))) (h : SlRd intR w a xs) (hm : xs.length ≤ maxLen) :
    Calls Tryz.prog 175 #[sL a xs.length cap, .func (.func 137) #[] #[.pointer (some ⟨g, 0, none⟩)]] w fun e w' => e = .returned (nI (badP (coreIn c) xs)) ∧ Bl w w' := by
 have I : xs.length ≤ 9223372036854775807 := hm;have K : Hid (∀ W, Bl w W → SlRd intR W a xs) := fun W m => slrd_keep h fun k E => m.block k E;have C : Hid (∀ k W, Bl w W → Calls Tryz.prog 137 #[nI k, .pointer (some ⟨g, 0, none⟩)] W fun e w' => e = .returned (.bool (!coreIn c k)) ∧ Bl W w') := fun k W m => fitsE1_any c s y l k g W hc (row_keep m G);clear h hm hc G;go_enter Tryz.func175, Tryz.ntmps175;go_wp2;go_loopw [8] (fun i wr => ∃ k : Nat, k ≤ xs.length ∧ i = nI k ∧ (∀ j v, j < k → xs[j]? = some v → coreIn c v = true) ∧ Bl w wr) (fun i _ => xs.length - (intOf i).toNat)
 case atStart => exact ⟨0, Nat.zero_le _, rfl, fun j v hj => by omega, Below.refl _ _⟩
 case round =>
  obtain ⟨k, E, rfl, n, f⟩ := hrel;by_cases r : k < xs.length
  ·have D : (k : Int) < (xs.length : Int) := by omega
   obtain ⟨x, z⟩ : ∃ x, xs[k]? = some x := ⟨_, List.getElem?_eq_getElem r⟩;obtain ⟨b, p, cs, rfl, ⟨rfl, -⟩, d⟩ := slrd_at (K.out _ f) z;have q := C.out x wr f;have B := d 0 _ rfl;rw [show p + (k * intR.size + 0) = p + k from by rw [show intR.size = 1 from rfl]; omega] at B;have F : Hid (xs[k]? = some x) := z;clear z d;cases m : coreIn c x
   ·have A : Hid (badP (coreIn c) xs = k) := badP_at F.out m n;rw [m] at q;go_wp2_with fail
    refine q.mono ?_;rintro e J ⟨rfl, o⟩;replace f := below_step f o;clear o B;go_wp2;go_ret
    exact ⟨ret_int A.out.symm, f⟩
   ·rw [m] at q;go_wp2_with fail
    refine q.mono ?_;rintro e J ⟨rfl, o⟩;replace f := below_step f o;clear o B;go_wp2;go_roundw
    case rel =>
     refine ⟨k + 1, by omega, by go_num, fun j v hj hv => ?_, f⟩;by_cases H : j < k
     ·exact n j v H hv
     ·have : j = k := by omega
      subst this;rw [F.out] at hv;cases hv;exact m
    case measure => simp [intOf]; omega
  ·have A : Hid (badP (coreIn c) xs = -1) := badP_no fun j v hv => n j v (by have := (List.getElem?_eq_some_iff.1 hv).1; omega) hv;go_wp2;go_ret
   exact ⟨ret_int A.out.symm, f⟩
theorem conFnI (c s y l : Int) (g : Nat) (a : Option Addr) (xs : List Int) (cap : Nat) (w : World) (hc : codeI c s y l = 0) (G : w.heap[g]? = some (.cells #[nI c, nI s, nI y, nI l] 38 (0, 0))) (h : SlRd intR w a xs) (hm : xs.length ≤ maxLen) :
    Calls Tryz.prog 135 #[sL a xs.length cap, .func (.func 137) #[] #[.pointer (some ⟨g, 0, none⟩)]] w fun e w' => e = .returned (.bool (!xs.all (coreIn c))) ∧ Bl w w' := by
 have i := idxFnI c s y l g a xs cap w hc G h hm;have b := badP_all (coreIn c) xs;clear h hm hc G;generalize badP (coreIn c) xs = q at i b;generalize xs.all (coreIn c) = z at b ⊢;subst b;by_cases j : q < 0
 ·have d : ¬ (0 ≤ q) := by omega
  go_enter Tryz.func135, Tryz.ntmps135;go_wp2_with fail
  refine i.mono ?_;rintro e k ⟨rfl, f⟩;go_wp2;go_ret
  exact ⟨by simp [j], f⟩
 ·have d : 0 ≤ q := by omega
  go_enter Tryz.func135, Tryz.ntmps135;go_wp2_with fail
  refine i.mono ?_;rintro e k ⟨rfl, f⟩;go_wp2;go_ret
  exact ⟨by simp [j], f⟩
theorem fitsEntry_any (c s y l : Int) (x : EntryD) (xa : Option Addr) (xc : Nat) (w : World) (hc : codeI c s y l = 0) (h : SlRd intR w xa x.2.2.2.2.2.2.2) :
    Calls Tryz.prog 97 #[.agg #[nI c, nI s, nI y, nI l], .agg #[nI x.1, nI x.2.1, .bool x.2.2.1, nI x.2.2.2.1, nI x.2.2.2.2.1, nI x.2.2.2.2.2.1, nI x.2.2.2.2.2.2.1, sL xa x.2.2.2.2.2.2.2.length xc]] w fun e w' => e = .returned (.bool (entIn c x)) ∧ Bl w w' := by
 have q : Hid (∀ W, Calls Tryz.prog 134 #[.agg #[nI c, nI s, nI y, nI l], nI x.2.2.2.2.1] W fun e w' => e = .returned (.bool (agentIn c x.2.2.2.2.1)) ∧ Bl W w') := fun W => hasAgent_any c s y l x.2.2.2.2.1 W hc;have H : Hid (∀ W, Bl w W → Calls Tryz.prog 136 #[.agg #[nI x.1, nI x.2.1, .bool x.2.2.1, nI x.2.2.2.1, nI x.2.2.2.2.1, nI x.2.2.2.2.2.1, nI x.2.2.2.2.2.2.1, sL xa x.2.2.2.2.2.2.2.length xc]] W fun e w' => ∃ v, e = .returned v ∧ Made W w' v (holdE x)) := fun W hb => implHolders_any x.1 x.2.1 x.2.2.2.1 x.2.2.2.2.1 x.2.2.2.2.2.1 x.2.2.2.2.2.2.1 x.2.2.1 x.2.2.2.2.2.2.2 xa xc W (slrd_next h hb);unfold entIn;generalize agentIn c x.2.2.2.2.1 = q1 at q ⊢;clear h;have B := Below.refl w.heap.size w;go_enter Tryz.func97, Tryz.ntmps97;go_upto_region 1 with fail
 generalize b : w.alloc _ = u1w;have X := boxH b;have f := boxB b;have k := boxL b;clear b;replace B := below_step B f;clear f;have M := lE k;have C := lE k.symm;clear k;generalize a : u1w.alloc _ = u2w;have E := boxH a;have f := boxB a;have i := boxL a;clear a;rw [show u1w.heap.size = w.heap.size + 1 from by omega] at E;replace B := below_step B f;replace X := row_keep f X;clear f;have L := lE i;have K := lE i.symm;clear i;obtain ⟨Xc0, Xc1, Xc2, Xc3⟩ := cells_4 X;have Xlt := (ltH X);obtain ⟨Ec0, Ec1, Ec2, Ec3, Ec4, Ec5, Ec6, Ec7⟩ := cells_8 E;have Elt := (ltH E);go_wp2_with fail
 clear Xc0 Xc1 Xc2 Xc3 Xlt Ec0 Ec1 Ec2 Ec3 Ec4 Ec5 Ec6 Ec7 Elt;refine (q.out _).mono ?_;rintro e n ⟨rfl, d⟩;have A : u2w.heap.size ≤ n.heap.size := d.size;replace B := below_step B d;replace X := row_keep d X;replace E := row_keep d E;clear d;cases q1
 ·skip
  obtain ⟨Xc0, Xc1, Xc2, Xc3⟩ := cells_4 X;have Xlt := (ltH X);obtain ⟨Ec0, Ec1, Ec2, Ec3, Ec4, Ec5, Ec6, Ec7⟩ := cells_8 E;have Elt := (ltH E);have m : Hid _ := B;clear B X E;go_wp2;go_ret
  exact ⟨rfl, m.out⟩
 ·skip
  obtain ⟨Xc0, Xc1, Xc2, Xc3⟩ := cells_4 X;have Xlt := (ltH X);obtain ⟨Ec0, Ec1, Ec2, Ec3, Ec4, Ec5, Ec6, Ec7⟩ := cells_8 E;have Elt := (ltH E);go_wp2_with fail
  clear Xc0 Xc1 Xc2 Xc3 Xlt Ec0 Ec1 Ec2 Ec3 Ec4 Ec5 Ec6 Ec7 Elt;refine (H.out _ B).mono ?_;rintro e D ⟨v, rfl, r⟩;have j := madeR_ints r (hold_in x);obtain ⟨J, G, z, o, p, I⟩ := intsR.own_rd j.1;simp only [List.cons.injEq, and_true] at z;obtain rfl := z;have g := j.2;clear r j;replace B := below_step B g;replace X := row_keep g X;replace E := row_keep g E;clear g;obtain ⟨Xc0, Xc1, Xc2, Xc3⟩ := cells_4 X;have Xlt := (ltH X);obtain ⟨Ec0, Ec1, Ec2, Ec3, Ec4, Ec5, Ec6, Ec7⟩ := cells_8 E;have Elt := (ltH E);go_wp2_with fail
  clear Xc0 Xc1 Xc2 Xc3 Xlt Ec0 Ec1 Ec2 Ec3 Ec4 Ec5 Ec6 Ec7 Elt;refine (conFnI c s y l w.heap.size J (holdE x) G _ hc X I (Nat.le_trans o p)).mono ?_;rintro e F ⟨rfl, d⟩;replace B := below_step B d;replace X := row_keep d X;replace E := row_keep d E;clear d;obtain ⟨Xc0, Xc1, Xc2, Xc3⟩ := cells_4 X;have Xlt := (ltH X);obtain ⟨Ec0, Ec1, Ec2, Ec3, Ec4, Ec5, Ec6, Ec7⟩ := cells_8 E;have Elt := (ltH E);have m : Hid _ := B;clear B X E;go_wp2;go_ret
  exact ⟨by simp, m.out⟩
theorem szDescs_u : SzC 34 descsR descsM cell1 := by
 rintro cs x left w ⟨a, b, rfl, i, c, g⟩ d f;exact szDescS_rep a x b left w g d f (Nat.le_trans i c)
theorem toDescs_u : ToC 50 descsR descsM cell1 := by
 rintro cs x w ⟨a, b, rfl, l1, l2, f⟩ c;refine (toDescS_rep a x b w f c).mono ?_;rintro e w' ⟨v, rfl, d⟩;exact ⟨[v], rfl, d⟩
theorem eqDescs_u : EqC 65 descsR descsM cell1 := by
 rintro cs ds x w ⟨a, c, rfl, l1, l2, g⟩ ⟨b, i, rfl, k1, k2, f⟩ d;exact eqDescS_rep a b x c i w g f (Nat.le_trans d (by decide))
abbrev DmaD := List DescD × Int × Bool × List (List Int)
abbrev dmaR : Rep DmaD := prodR descsR (prodR intR (prodR boolR rowsR))
abbrev dmaM : Mk DmaD := prodM descsM (prodM intM (prodM boolM rowsM))
theorem len1dma {l : List Value} (h : l.length = 1) : ∃ a0, l = [a0] := by
 match l, h with
 | [a0], _ => exact ⟨a0, rfl⟩
theorem dma_rd {w : World} {cs : List Value} {x : DmaD} (h : dmaR.rd w cs x) : ∃ a b, cs = [a, nI x.2.1, .bool x.2.2.1, b] ∧ descsR.rd w [a] x.1 ∧ In64 x.2.1 ∧ True ∧ rowsR.rd w [b] x.2.2.2 := by
 obtain ⟨c0, e0, rfl, c, ⟨c1, e1, rfl, ⟨rfl, f⟩, ⟨c2, e2, rfl, rfl, d⟩⟩⟩ := h;obtain ⟨a, rfl⟩ := len1dma (descsR.rd_len c);obtain ⟨b, rfl⟩ := len1dma (rowsR.rd_len d);exact ⟨a, b, rfl, c, f, trivial, d⟩
theorem cells_dma {w : World} {g : Nat} {x0 x1 x2 x3 : Value} {t : TypeId} (h : w.heap[g]? = some (.cells #[x0, x1, x2, x3] t (0, 0))) : w.cell? ⟨g, 0, none⟩ = some x0 ∧ w.cell? ⟨g, 1, none⟩ = some x1 ∧ w.cell? ⟨g, 2, none⟩ = some x2 ∧ w.cell? ⟨g, 3, none⟩ = some x3 :=
 ⟨by rw [cell_of_row w g 0 _ t (0, 0) h]; rfl, by rw [cell_of_row w g 1 _ t (0, 0) h]; rfl, by rw [cell_of_row w g 2 _ t (0, 0) h]; rfl, by rw [cell_of_row w g 3 _ t (0, 0) h]; rfl⟩
theorem szDma_u : SzC 11 dmaR dmaM aggV := by
 intro cs x left w h h0 h1;obtain ⟨k, n, rfl, r, -, -, p⟩ := dma_rd h;clear h;rw [show dmaM.bk x = descsM.bk x.1 + (0 + (0 + rowsM.bk x.2.2.2)) from rfl];change Calls Tryz.prog 11 #[.agg #[k, nI x.2.1, .bool x.2.2.1, n], nI left] w _
 have g : Hid (∀ L W, Bl w W → 0 ≤ L → L ≤ 1048576 → Calls Tryz.prog 34 #[k, nI L] W fun e w' => e = .returned (nI (szI (descsM.bk x.1) L)) ∧ Bl W w') := fun L W hb a b => szDescs_u [k] _ L W (rd_next r hb) a b;have i : Hid (∀ L W, Bl w W → 0 ≤ L → L ≤ 1048576 → Calls Tryz.prog 31 #[n, nI L] W fun e w' => e = .returned (nI (szI (rowsM.bk x.2.2.2) L)) ∧ Bl W w') := fun L W hb a b => szRows_u [n] _ L W (rd_next p hb) a b;clear r p;generalize descsM.bk x.1 = n0 at g ⊢;generalize rowsM.bk x.2.2.2 = n3 at i ⊢;go_enter Tryz.func11, Tryz.ntmps11;go_wp2_with fail
 generalize d : w.alloc _ = W0;have X := boxH d;have B := boxB d;clear d;refine (g.out (left) _ B (by omega) (by omega)).mono ?_;rintro e w1 ⟨rfl, c⟩;replace X := row_keep c X;replace B := below_step B c;clear c g;by_cases q : (n0 : Int) ≤ left
 ·rw [szI_yes q];have g0 : ¬ (left - (n0 : Int) < 0) := by omega
  obtain ⟨m, f, j, l⟩ := cells_dma X;go_wp2_with fail
  clear m f j l;refine (i.out (left - (n0 : Int)) _ B (by omega) (by omega)).mono ?_;rintro e w2 ⟨rfl, c⟩;replace X := row_keep c X;replace B := below_step B c;clear c i;by_cases o : (n3 : Int) ≤ left - (n0 : Int)
  ·rw [szI_yes o];have g3 : ¬ (left - (n0 : Int) - (n3 : Int) < 0) := by omega
   obtain ⟨m, f, j, l⟩ := cells_dma X;clear m f j l X;go_wp2;go_ret
   exact ⟨ret_int (by rw [szI_yes (by omega)]; omega), B⟩
  ·rw [szI_no o];clear X;go_wp2;go_ret
   exact ⟨ret_int (szI_no (by omega)).symm, B⟩
 ·rw [szI_no q];clear X;go_wp2;go_ret
  exact ⟨ret_int (szI_no (by omega)).symm, B⟩
theorem eqDma_u : EqC 28 dmaR dmaM aggV := by
 intro cs ds x w h k v;obtain ⟨d, f, rfl, s, -, -, n⟩ := dma_rd h;obtain ⟨b, c, rfl, j, -, -, q⟩ := dma_rd k;clear h k;rw [show dmaM.bk x = descsM.bk x.1 + (0 + (0 + rowsM.bk x.2.2.2)) from rfl] at v;change Calls Tryz.prog 28 #[.agg #[d, nI x.2.1, .bool x.2.2.1, f], .agg #[b, nI x.2.1, .bool x.2.2.1, c]] w _
 have l : Hid (∀ W, Bl w W → Calls Tryz.prog 65 #[d, b] W fun e w' => e = .returned (.bool true) ∧ Bl W w') := fun W hb => eqDescs_u [d] [b] _ W (rd_next s hb) (rd_next j hb) (by omega);have o : Hid (∀ W, Bl w W → Calls Tryz.prog 62 #[f, c] W fun e w' => e = .returned (.bool true) ∧ Bl W w') := fun W hb => eqRows_u [f] [c] _ W (rd_next n hb) (rd_next q hb) (by omega);clear v s j n q;have X := heap_on (.cells #[b, nI x.2.1, .bool x.2.2.1, c] 45) (heap_at w (.cells #[d, nI x.2.1, .bool x.2.2.1, f] 45));have Y := heap_at (w.alloc (.cells #[d, nI x.2.1, .bool x.2.2.1, f] 45)) (.cells #[b, nI x.2.1, .bool x.2.2.1, c] 45);rw [alloc_len] at Y;have B := below_step (box_below w (.cells #[d, nI x.2.1, .bool x.2.2.1, f] 45)) (box_below _ (.cells #[b, nI x.2.1, .bool x.2.2.1, c] 45));go_enter Tryz.func28, Tryz.ntmps28;go_wp2_with fail
 generalize (w.alloc (.cells #[d, nI x.2.1, .bool x.2.2.1, f] 45)).alloc (.cells #[b, nI x.2.1, .bool x.2.2.1, c] 45) = W0 at X Y B ⊢;refine (l.out _ B).mono ?_;rintro e w1 ⟨rfl, a⟩;replace X := row_keep a X;replace Y := row_keep a Y;replace B := below_step B a;clear a l;obtain ⟨z, g, r, y⟩ := cells_dma X;obtain ⟨A, i, m, p⟩ := cells_dma Y;go_wp2_with fail
 clear z g r y A i m p;refine (o.out _ B).mono ?_;rintro e w2 ⟨rfl, a⟩;replace X := row_keep a X;replace Y := row_keep a Y;replace B := below_step B a;clear a o;obtain ⟨z, g, r, y⟩ := cells_dma X;obtain ⟨A, i, m, p⟩ := cells_dma Y;clear X Y;go_wp2;go_ret
 exact ⟨rfl, B⟩
theorem own_dma {w : World} {S S0 S3 : Foot} {v0 v3 : Value} {x : DmaD} (i1 : In64 x.2.1) (h0 : descsR.own w S0 [v0] x.1) (h3 : rowsR.own w S3 [v3] x.2.2.2) (s0 : Sub S0 S) (s3 : Sub S3 S) (d03 : Dis S0 S3) : dmaR.own w S [v0, nI x.2.1, .bool x.2.2.1, v3] x := by
 exact ⟨[v0], [nI x.2.1, .bool x.2.2.1, v3], S0, (fun q => (fun _ => False) q ∨ (fun q => (fun _ => False) q ∨ S3 q) q), rfl, h0, ⟨[nI x.2.1], [.bool x.2.2.1, v3], (fun _ => False), (fun q => (fun _ => False) q ∨ S3 q), rfl, ⟨rfl, i1⟩, ⟨[.bool x.2.2.1], [v3], (fun _ => False), S3, rfl, rfl, h3, (fun q h => .inl h), (fun q h => .inr h), (fun _ h _ => h.elim)⟩, (fun q h => .inl h), (fun q h => .inr h), (fun _ h _ => h.elim)⟩, s0, (fun q h => h.elim (fun ha => ha.elim) (fun hb => hb.elim (fun hba => hba.elim) (fun hbb => s3 q hbb))), (fun q a h => h.elim (fun ha => ha.elim) (fun hb => hb.elim (fun hba => hba.elim) (fun hbb => d03 q a hbb)))⟩
theorem froz_dma {w : World} {g : Nat} {cs : Array Value} {t : TypeId} (h : w.heap[g]? = some (.cells cs t (0, 0))) : w.frozen? ⟨g, 0, none⟩ = false ∧ w.frozen? ⟨g, 1, none⟩ = false ∧ w.frozen? ⟨g, 2, none⟩ = false ∧ w.frozen? ⟨g, 3, none⟩ = false :=
 ⟨frozen_of_row w g 0 _ t h, frozen_of_row w g 1 _ t h, frozen_of_row w g 2 _ t h, frozen_of_row w g 3 _ t h⟩
theorem put_dma {w : World} {g : Nat} {x0 x1 x2 x3 y0 y1 y2 y3 : Value} {t : TypeId} (h : w.heap[g]? = some (.cells #[x0, x1, x2, x3] t (0, 0))) : ((((w.setCell ⟨g, 0, none⟩ (y0)).setCell ⟨g, 1, none⟩ (y1)).setCell ⟨g, 2, none⟩ (y2)).setCell ⟨g, 3, none⟩ (y3)).heap[g]? = some (.cells #[y0, y1, y2, y3] t (0, 0)) := by
 have a : (w.setCell ⟨g, 0, none⟩ (y0)).heap[g]? = some (.cells #[y0, x1, x2, x3] t (0, 0)) := heap_setCell_same _ g 0 _ t y0 h;have d : ((w.setCell ⟨g, 0, none⟩ (y0)).setCell ⟨g, 1, none⟩ (y1)).heap[g]? = some (.cells #[y0, y1, x2, x3] t (0, 0)) := heap_setCell_same _ g 1 _ t y1 a;have b : (((w.setCell ⟨g, 0, none⟩ (y0)).setCell ⟨g, 1, none⟩ (y1)).setCell ⟨g, 2, none⟩ (y2)).heap[g]? = some (.cells #[y0, y1, y2, x3] t (0, 0)) := heap_setCell_same _ g 2 _ t y2 d;have c : ((((w.setCell ⟨g, 0, none⟩ (y0)).setCell ⟨g, 1, none⟩ (y1)).setCell ⟨g, 2, none⟩ (y2)).setCell ⟨g, 3, none⟩ (y3)).heap[g]? = some (.cells #[y0, y1, y2, y3] t (0, 0)) := heap_setCell_same _ g 3 _ t y3 b;exact c
theorem toDma_u : ToC 20 dmaR dmaM aggV := by
 intro cs x w h Z;obtain ⟨n, p, rfl, H, E, i2, G⟩ := dma_rd h;clear h;rw [show dmaM.bk x = descsM.bk x.1 + (0 + (0 + rowsM.bk x.2.2.2)) from rfl] at Z;change Calls Tryz.prog 20 #[.agg #[n, nI x.2.1, .bool x.2.2.1, p]] w _
 have U : Hid (∀ W, Bl w W → Calls Tryz.prog 50 #[n] W fun e C => ∃ b a, e = .returned (sL b x.1.length a) ∧ MadeR descsR W C [sL b x.1.length a] x.1) := fun W hb => (toDescs_u [n] _ W (rd_next H hb) (by omega)).mono (by rintro e C ⟨ds, rfl, c⟩; obtain ⟨b, a, rfl, -⟩ := descsR.own_rd c.1; exact ⟨b, a, rfl, c⟩);have Y : Hid (∀ W, Bl w W → Calls Tryz.prog 47 #[p] W fun e C => ∃ l k, e = .returned (sL l x.2.2.2.length k) ∧ MadeR rowsR W C [sL l x.2.2.2.length k] x.2.2.2) := fun W hb => (toRows_u [p] _ W (rd_next G hb) (by omega)).mono (by rintro e C ⟨ds, rfl, c⟩; obtain ⟨l, k, rfl, -⟩ := rowsR.own_rd c.1; exact ⟨l, k, rfl, c⟩);clear Z H G;have HI : Hid _ := E;clear E;have i := heap_on (.cells #[sL none 0 0, nI 0, .bool false, sL none 0 0] 45) (heap_on (.cells #[sL none 0 0, nI 0, .bool false, sL none 0 0] 45) (heap_at w (.cells #[n, nI x.2.1, .bool x.2.2.1, p] 31)));have f := heap_on (.cells #[sL none 0 0, nI 0, .bool false, sL none 0 0] 45) (heap_at (w.alloc (.cells #[n, nI x.2.1, .bool x.2.2.1, p] 31)) (.cells #[sL none 0 0, nI 0, .bool false, sL none 0 0] 45));have d := heap_at ((w.alloc (.cells #[n, nI x.2.1, .bool x.2.2.1, p] 31)).alloc (.cells #[sL none 0 0, nI 0, .bool false, sL none 0 0] 45)) (.cells #[sL none 0 0, nI 0, .bool false, sL none 0 0] 45);rw [alloc_len] at f;rw [alloc_len, alloc_len] at d;have B : Bl w (((w.alloc (.cells #[n, nI x.2.1, .bool x.2.2.1, p] 31)).alloc (.cells #[sL none 0 0, nI 0, .bool false, sL none 0 0] 45)).alloc (.cells #[sL none 0 0, nI 0, .bool false, sL none 0 0] 45)) := (((Below.refl _ w).alloc (Nat.le_refl _) _).alloc (by simp) _).alloc (by simp; omega) _;have e3 : w.heap.size + 1 + 1 + 1 ≤ (((w.alloc (.cells #[n, nI x.2.1, .bool x.2.2.1, p] 31)).alloc (.cells #[sL none 0 0, nI 0, .bool false, sL none 0 0] 45)).alloc (.cells #[sL none 0 0, nI 0, .bool false, sL none 0 0] 45)).heap.size := by simp
 go_enter Tryz.func20, Tryz.ntmps20;go_wp2_with fail
 generalize ((w.alloc (.cells #[n, nI x.2.1, .bool x.2.2.1, p] 31)).alloc (.cells #[sL none 0 0, nI 0, .bool false, sL none 0 0] 45)).alloc (.cells #[sL none 0 0, nI 0, .bool false, sL none 0 0] 45) = u0 at i f d B e3 ⊢;refine (U.out _ B).mono ?_;rintro e m ⟨b, a, rfl, c⟩;have lA := c.2.size;replace B := below_step B c.2;replace i := row_keep c.2 i;replace f := row_keep c.2 f;replace d := row_keep c.2 d;have j := c.1;clear c U;obtain ⟨L, R, O, K⟩ := cells_dma i;obtain ⟨y0, y1, y2, y3⟩ := cells_dma d;obtain ⟨T, S, I, M⟩ := froz_dma d;have D : Hid _ := aI i (aI f (aI d (aI B (j))));clear i f d B j;go_wp2_with fail
 clear L R O K y0 y1 y2 y3 T S I M;obtain ⟨i, f, d, B, j⟩ := D.out;clear D;have N : (m.setCell ⟨w.heap.size + 1 + 1, 0, none⟩ (sL b x.1.length a)).heap[w.heap.size + 1 + 1]? = some (.cells #[sL b x.1.length a, nI 0, .bool false, sL none 0 0] 45 (0, 0)) := heap_setCell_same _ (w.heap.size + 1 + 1) 0 _ _ (sL b x.1.length a) d;have X : ((m.setCell ⟨w.heap.size + 1 + 1, 0, none⟩ (sL b x.1.length a)).setCell ⟨w.heap.size + 1 + 1, 1, none⟩ (nI x.2.1)).heap[w.heap.size + 1 + 1]? = some (.cells #[sL b x.1.length a, nI x.2.1, .bool false, sL none 0 0] 45 (0, 0)) := heap_setCell_same _ (w.heap.size + 1 + 1) 1 _ _ (nI x.2.1) N;have J : (((m.setCell ⟨w.heap.size + 1 + 1, 0, none⟩ (sL b x.1.length a)).setCell ⟨w.heap.size + 1 + 1, 1, none⟩ (nI x.2.1)).setCell ⟨w.heap.size + 1 + 1, 2, none⟩ (.bool x.2.2.1)).heap[w.heap.size + 1 + 1]? = some (.cells #[sL b x.1.length a, nI x.2.1, .bool x.2.2.1, sL none 0 0] 45 (0, 0)) := heap_setCell_same _ (w.heap.size + 1 + 1) 2 _ _ (.bool x.2.2.1) X;have z := (heap_setC (g := w.heap.size + 1 + 1) (o := 2) (v := .bool x.2.2.1) (heap_setC (g := w.heap.size + 1 + 1) (o := 1) (v := nI x.2.1) (heap_setC (g := w.heap.size + 1 + 1) (o := 0) (v := sL b x.1.length a) i (by omega)) (by omega)) (by omega));have q := (heap_setC (g := w.heap.size + 1 + 1) (o := 2) (v := .bool x.2.2.1) (heap_setC (g := w.heap.size + 1 + 1) (o := 1) (v := nI x.2.1) (heap_setC (g := w.heap.size + 1 + 1) (o := 0) (v := sL b x.1.length a) f (by omega)) (by omega)) (by omega));have A : Bl w (((m.setCell ⟨w.heap.size + 1 + 1, 0, none⟩ (sL b x.1.length a)).setCell ⟨w.heap.size + 1 + 1, 1, none⟩ (nI x.2.1)).setCell ⟨w.heap.size + 1 + 1, 2, none⟩ (.bool x.2.2.1)) := (below_setC (below_setC (below_setC B (by omega)) (by omega)) (by omega));have y : descsR.own (((m.setCell ⟨w.heap.size + 1 + 1, 0, none⟩ (sL b x.1.length a)).setCell ⟨w.heap.size + 1 + 1, 1, none⟩ (nI x.2.1)).setCell ⟨w.heap.size + 1 + 1, 2, none⟩ (.bool x.2.2.1)) _ _ _ := (own_setC (own_setC (own_setC j (fun h => by have := h.1; omega)) (fun h => by have := h.1; omega)) (fun h => by have := h.1; omega));have s : m.heap.size ≤ (((m.setCell ⟨w.heap.size + 1 + 1, 0, none⟩ (sL b x.1.length a)).setCell ⟨w.heap.size + 1 + 1, 1, none⟩ (nI x.2.1)).setCell ⟨w.heap.size + 1 + 1, 2, none⟩ (.bool x.2.2.1)).heap.size := by simp
 have r : (((m.setCell ⟨w.heap.size + 1 + 1, 0, none⟩ (sL b x.1.length a)).setCell ⟨w.heap.size + 1 + 1, 1, none⟩ (nI x.2.1)).setCell ⟨w.heap.size + 1 + 1, 2, none⟩ (.bool x.2.2.1)).heap.size ≤ m.heap.size := by simp
 clear i f d B j N X;generalize (((m.setCell ⟨w.heap.size + 1 + 1, 0, none⟩ (sL b x.1.length a)).setCell ⟨w.heap.size + 1 + 1, 1, none⟩ (nI x.2.1)).setCell ⟨w.heap.size + 1 + 1, 2, none⟩ (.bool x.2.2.1)) = u1 at z q J A s r y ⊢;have i := z;have f := q;have d := J;have B := A;have j := y;have nA := s;have bA := r;clear z q J A s r y;refine (Y.out _ B).mono ?_;rintro e w2 ⟨l, k, rfl, c⟩;have kA := c.2.size;replace B := below_step B c.2;replace i := row_keep c.2 i;replace f := row_keep c.2 f;replace d := row_keep c.2 d;replace j := own_stay j c.2 (by omega);have F := c.1;clear c Y;obtain ⟨L, R, O, K⟩ := cells_dma i;obtain ⟨y0, y1, y2, y3⟩ := cells_dma d;obtain ⟨T, S, I, M⟩ := froz_dma d;obtain ⟨z0, z1, z2, z3⟩ := cells_dma f;obtain ⟨g0, g1, g2, g3⟩ := froz_dma f;have D : Hid _ := aI i (aI f (aI d (aI B (aI j (F)))));clear i f d B j F;go_wp2;clear L R O K y0 y1 y2 y3 T S I M z0 z1 z2 z3 g0 g1 g2 g3;obtain ⟨i, f, d, B, j, F⟩ := D.out;clear D;have N : (w2.setCell ⟨w.heap.size + 1 + 1, 3, none⟩ (sL l x.2.2.2.length k)).heap[w.heap.size + 1 + 1]? = some (.cells #[sL b x.1.length a, nI x.2.1, .bool x.2.2.1, sL l x.2.2.2.length k] 45 (0, 0)) := heap_setCell_same _ (w.heap.size + 1 + 1) 3 _ _ (sL l x.2.2.2.length k) d;have V := put_dma (y0 := sL b x.1.length a) (y1 := nI x.2.1) (y2 := .bool x.2.2.1) (y3 := sL l x.2.2.2.length k) (heap_setC (g := w.heap.size + 1 + 1) (o := 3) (v := sL l x.2.2.2.length k) f (by omega));obtain ⟨H, r1, r2, G⟩ := cells_dma V;have E := HI.out;refine bodyPost_ret (v := .agg #[sL b x.1.length a, nI x.2.1, .bool x.2.2.1, sL l x.2.2.2.length k]) (by simp [results, Tryz.results20, go_sem, H, r1, r2, G]) rfl ⟨[sL b x.1.length a, nI x.2.1, .bool x.2.2.1, sL l x.2.2.2.length k], rfl, own_dma (S0 := rng u0.heap.size m.heap.size) (S3 := rng u1.heap.size w2.heap.size) E ?_ ?_ (rng_sub (by omega) (by simp <;> omega)) (rng_sub (by omega) (by simp <;> omega)) (rng_dis (.inl (by omega))), ?_⟩
 ·exact (own_setC (own_setC (own_setC (own_setC (own_setC j (fun h => by have := h.1; omega)) (fun h => by have := h.1; omega)) (fun h => by have := h.1; omega)) (fun h => by have := h.1; omega)) (fun h => by have := h.1; omega))
 ·exact (own_setC (own_setC (own_setC (own_setC (own_setC F (fun h => by have := h.1; omega)) (fun h => by have := h.1; omega)) (fun h => by have := h.1; omega)) (fun h => by have := h.1; omega)) (fun h => by have := h.1; omega))
 ·exact (below_setC (below_setC (below_setC (below_setC (below_setC B (by omega)) (by omega)) (by omega)) (by omega)) (by omega))
theorem dma_shape {w : World} {cs : List Value} {x : DmaD} (h : dmaR.rd w cs x) : ∃ (c : Option Addr) (a : Nat) (d : Option Addr) (b : Nat), cs = [sL c x.1.length a, nI x.2.1, .bool x.2.2.1, sL d x.2.2.2.length b] := by
 obtain ⟨v0, v3, rfl, j, -, -, i⟩ := dma_rd h;obtain ⟨c, a, g, -⟩ := j;simp only [List.cons.injEq, and_true] at g;obtain rfl := g;obtain ⟨d, b, f, -⟩ := i;simp only [List.cons.injEq, and_true] at f;obtain rfl := f;exact ⟨c, a, d, b, rfl⟩
theorem opens_dma : Opens Tryz.prog 31 dmaR :=
 opens_struct Tryz.underlying31 (by kernel_rfl) (opensF_cons rfl (by kernel_rfl) opens_descs (opensF_cons rfl (by kernel_rfl) opens_i64 (opensF_cons rfl (by kernel_rfl) (opens_bool Tryz.underlying4) (opensF_one rfl (by kernel_rfl) opens_rows))))
theorem eqMsgs_u : EqC 29 msgsR msgsM cell1 := by
 rintro cs ds x w ⟨a, c, rfl, l1, l2, g⟩ ⟨b, i, rfl, k1, k2, f⟩ d;exact eqMsgS_rep a b x c i w g f (Nat.le_trans d (by decide))
theorem szMsgs_u : SzC 12 msgsR msgsM cell1 := by
 rintro cs x left w ⟨a, b, rfl, i, c, g⟩ d f;exact szMsgS_rep a x b left w g d f (Nat.le_trans i c)
theorem toMsgs_u : ToC 21 msgsR msgsM cell1 := by
 rintro cs x w ⟨a, b, rfl, l1, l2, f⟩ c;refine (toMsgS_rep a x b w f c).mono ?_;rintro e w' ⟨v, rfl, d⟩;exact ⟨[v], rfl, d⟩
end Go.Proofs.YtglejdilghcbaaaGreatDoor
