import Derived.Test.YtdamokokcdcedaaGreatDoorE00Box
import Derived.Test.YtdamokokcdcedaaGreatDoorE29
namespace Go.Proofs.YtdamokokcdcedaaGreatDoor
set_option maxHeartbeats 8000000
set_option maxRecDepth 20000
open Go.ChangeShapes Go.WideShapes Go.ChangeAt Go.RowKit
set_option linter.unusedVariables false
def holdE (x : EntryD) : List Int := if entB x then hoI x.1 x.2.1 else []
def entIn (c : Int) (x : EntryD) : Bool := agentIn c x.2.2.2.2.1 && (holdE x).all (coreIn c)
theorem hold_in (x : EntryD) : ∀ k ∈ holdE x, In64 k := (hold_small x).2
theorem fitsE1_any (c s y l k : Int) (g : Nat) (w : World) (hc : codeI c s y l = 0) (G : w.heap[g]? = some (.cells #[nI c, nI s, nI y, nI l] 38 (0, 0))) :
    Calls Tryz.prog 193 #[nI k, .pointer (some ⟨g, 0, none⟩)] w fun e w' => e = .returned (.bool (!coreIn c k)) ∧ Bl w w' := by
 have a := hasCore_any c s y l k w hc;generalize coreIn c k = q at a ⊢;obtain ⟨j, b, i, f⟩ := cells_4 G;clear hc G;go_enter Tryz.func193, Tryz.ntmps193;go_wp2_with fail
 refine a.mono ?_;rintro e w1 ⟨rfl, d⟩;clear j b i f;go_wp2;go_ret
 exact ⟨rfl, d⟩
theorem idxFnI (c s y l : Int) (g : Nat) (a : Option Addr) (xs : List Int) (cap : Nat) (w : World) (hc : codeI c s y l = 0) (G : w.heap[g]? = some (.cells #[nI c, nI s, nI y, nI l] 38 (0, 0))) (h : SlRd intR w a xs) (hm : xs.length ≤ maxLen) :
    Calls Tryz.prog 230 #[sL a xs.length cap, .func (.func 193) #[] #[.pointer (some ⟨g, 0, none⟩)]] w fun e w' => e = .returned (nI (badP (coreIn c) xs)) ∧ Bl w w' := by
 have I : xs.length ≤ 9223372036854775807 := hm;have J : Hid (∀ W, Bl w W → SlRd intR W a xs) := fun W m => slrd_keep h fun k E => m.block k E;have B : Hid (∀ k W, Bl w W → Calls Tryz.prog 193 #[nI k, .pointer (some ⟨g, 0, none⟩)] W fun e w' => e = .returned (.bool (!coreIn c k)) ∧ Bl W w') := fun k W m => fitsE1_any c s y l k g W hc (row_keep m G);clear h hm hc G;go_enter Tryz.func230, Tryz.ntmps230;go_wp2;go_loopw [8] (fun i wr => ∃ k : Nat, k ≤ xs.length ∧ i = nI k ∧ (∀ j v, j < k → xs[j]? = some v → coreIn c v = true) ∧ Bl w wr) (fun i _ => xs.length - (intOf i).toNat)
 case atStart => exact ⟨0, Nat.zero_le _, rfl, fun j v hj => by omega, Below.refl _ _⟩
 case round =>
  obtain ⟨k, E, rfl, n, f⟩ := hrel;by_cases A : k < xs.length
  ·have F : (k : Int) < (xs.length : Int) := by omega
   obtain ⟨x, C⟩ : ∃ x, xs[k]? = some x := ⟨_, List.getElem?_eq_getElem A⟩;obtain ⟨b, o, cs, rfl, ⟨rfl, -⟩, d⟩ := slrd_at (J.out _ f) C;have q := B.out x wr f;have r := d 0 _ rfl;rw [show o + (k * intR.size + 0) = o + k from by rw [show intR.size = 1 from rfl]; omega] at r;have D : Hid (xs[k]? = some x) := C;clear C d;cases m : coreIn c x
   ·have z : Hid (badP (coreIn c) xs = k) := badP_at D.out m n;rw [m] at q;go_wp2_with fail
    refine q.mono ?_;rintro e H ⟨rfl, p⟩;replace f := below_step f p;clear p r;go_wp2;go_ret
    exact ⟨ret_int z.out.symm, f⟩
   ·rw [m] at q;go_wp2_with fail
    refine q.mono ?_;rintro e H ⟨rfl, p⟩;replace f := below_step f p;clear p r;go_wp2;go_roundw
    case rel =>
     refine ⟨k + 1, by omega, by go_num, fun j v hj hv => ?_, f⟩;by_cases K : j < k
     ·exact n j v K hv
     ·have : j = k := by omega
      subst this;rw [D.out] at hv;cases hv;exact m
    case measure => simp [intOf]; omega
  ·have z : Hid (badP (coreIn c) xs = -1) := badP_no fun j v hv => n j v (by have := (List.getElem?_eq_some_iff.1 hv).1; omega) hv;go_wp2;go_ret
   exact ⟨ret_int z.out.symm, f⟩
theorem conFnI (c s y l : Int) (g : Nat) (a : Option Addr) (xs : List Int) (cap : Nat) (w : World) (hc : codeI c s y l = 0) (G : w.heap[g]? = some (.cells #[nI c, nI s, nI y, nI l] 38 (0, 0))) (h : SlRd intR w a xs) (hm : xs.length ≤ maxLen) :
    Calls Tryz.prog 192 #[sL a xs.length cap, .func (.func 193) #[] #[.pointer (some ⟨g, 0, none⟩)]] w fun e w' => e = .returned (.bool (!xs.all (coreIn c))) ∧ Bl w w' := by
 have i := idxFnI c s y l g a xs cap w hc G h hm;have b := badP_all (coreIn c) xs;clear h hm hc G;generalize badP (coreIn c) xs = q at i b;generalize xs.all (coreIn c) = z at b ⊢;subst b;by_cases j : q < 0
 ·have d : ¬ (0 ≤ q) := by omega
  go_enter Tryz.func192, Tryz.ntmps192;go_wp2_with fail
  refine i.mono ?_;rintro e k ⟨rfl, f⟩;go_wp2;go_ret
  exact ⟨by simp [j], f⟩
 ·have d : 0 ≤ q := by omega
  go_enter Tryz.func192, Tryz.ntmps192;go_wp2_with fail
  refine i.mono ?_;rintro e k ⟨rfl, f⟩;go_wp2;go_ret
  exact ⟨by simp [j], f⟩
theorem fitsEntry_any (c s y l : Int) (x : EntryD) (xa : Option Addr) (xc : Nat) (w : World) (hc : codeI c s y l = 0) (h : SlRd intR w xa x.2.2.2.2.2.2.2) :
    Calls Tryz.prog 147 #[.agg #[nI c, nI s, nI y, nI l], .agg #[nI x.1, nI x.2.1, .bool x.2.2.1, nI x.2.2.2.1, nI x.2.2.2.2.1, nI x.2.2.2.2.2.1, nI x.2.2.2.2.2.2.1, sL xa x.2.2.2.2.2.2.2.length xc]] w fun e w' => e = .returned (.bool (entIn c x)) ∧ Bl w w' := by
 have z : Hid (∀ W, Calls Tryz.prog 191 #[.agg #[nI c, nI s, nI y, nI l], nI x.2.2.2.2.1] W fun e w' => e = .returned (.bool (agentIn c x.2.2.2.2.1)) ∧ Bl W w') := fun W => hasAgent_any c s y l x.2.2.2.2.1 W hc;have G : Hid (∀ W, Bl w W → Calls Tryz.prog 176 #[.agg #[nI x.1, nI x.2.1, .bool x.2.2.1, nI x.2.2.2.1, nI x.2.2.2.2.1, nI x.2.2.2.2.2.1, nI x.2.2.2.2.2.2.1, sL xa x.2.2.2.2.2.2.2.length xc]] W fun e w' => ∃ v, e = .returned v ∧ Made W w' v (holdE x)) := fun W hb => implHolders_any x.1 x.2.1 x.2.2.2.1 x.2.2.2.2.1 x.2.2.2.2.2.1 x.2.2.2.2.2.2.1 x.2.2.1 x.2.2.2.2.2.2.2 xa xc W (slrd_next h hb);unfold entIn;generalize agentIn c x.2.2.2.2.1 = q1 at z ⊢;clear h;have B := Below.refl w.heap.size w;go_enter Tryz.func147, Tryz.ntmps147;go_upto_region 1 with fail
 generalize b : w.alloc _ = u1w;have X := boxH b;have f := boxB b;have i := boxL b;clear b;replace B := below_step B f;clear f;have H := lE i;have C := lE i.symm;clear i;generalize a : u1w.alloc _ = u2w;have E := boxH a;have f := boxB a;have o := boxL a;clear a;rw [show u1w.heap.size = w.heap.size + 1 from by omega] at E;replace B := below_step B f;replace X := row_keep f X;clear f;have J := lE o;have F := lE o.symm;clear o;obtain ⟨Xc0, Xc1, Xc2, Xc3⟩ := cells_4 X;have Xlt := (ltH X);obtain ⟨Ec0, Ec1, Ec2, Ec3, Ec4, Ec5, Ec6, Ec7⟩ := cells_8 E;have Elt := (ltH E);go_wp2_with fail
 clear Xc0 Xc1 Xc2 Xc3 Xlt Ec0 Ec1 Ec2 Ec3 Ec4 Ec5 Ec6 Ec7 Elt;refine (z.out _).mono ?_;rintro e m ⟨rfl, d⟩;have A : u2w.heap.size ≤ m.heap.size := d.size;replace B := below_step B d;replace X := row_keep d X;replace E := row_keep d E;clear d;cases q1
 ·skip
  obtain ⟨Xc0, Xc1, Xc2, Xc3⟩ := cells_4 X;have Xlt := (ltH X);obtain ⟨Ec0, Ec1, Ec2, Ec3, Ec4, Ec5, Ec6, Ec7⟩ := cells_8 E;have Elt := (ltH E);have p : Hid _ := B;clear B X E;go_wp2;go_ret
  exact ⟨rfl, p.out⟩
 ·skip
  obtain ⟨Xc0, Xc1, Xc2, Xc3⟩ := cells_4 X;have Xlt := (ltH X);obtain ⟨Ec0, Ec1, Ec2, Ec3, Ec4, Ec5, Ec6, Ec7⟩ := cells_8 E;have Elt := (ltH E);go_wp2_with fail
  clear Xc0 Xc1 Xc2 Xc3 Xlt Ec0 Ec1 Ec2 Ec3 Ec4 Ec5 Ec6 Ec7 Elt;refine (G.out _ B).mono ?_;rintro e L ⟨v, rfl, r⟩;have n := madeR_ints r (hold_in x);obtain ⟨K, D, q, j, k, M⟩ := intsR.own_rd n.1;simp only [List.cons.injEq, and_true] at q;obtain rfl := q;have g := n.2;clear r n;replace B := below_step B g;replace X := row_keep g X;replace E := row_keep g E;clear g;obtain ⟨Xc0, Xc1, Xc2, Xc3⟩ := cells_4 X;have Xlt := (ltH X);obtain ⟨Ec0, Ec1, Ec2, Ec3, Ec4, Ec5, Ec6, Ec7⟩ := cells_8 E;have Elt := (ltH E);go_wp2_with fail
  clear Xc0 Xc1 Xc2 Xc3 Xlt Ec0 Ec1 Ec2 Ec3 Ec4 Ec5 Ec6 Ec7 Elt;refine (conFnI c s y l w.heap.size K (holdE x) D _ hc X M (Nat.le_trans j k)).mono ?_;rintro e I ⟨rfl, d⟩;replace B := below_step B d;replace X := row_keep d X;replace E := row_keep d E;clear d;obtain ⟨Xc0, Xc1, Xc2, Xc3⟩ := cells_4 X;have Xlt := (ltH X);obtain ⟨Ec0, Ec1, Ec2, Ec3, Ec4, Ec5, Ec6, Ec7⟩ := cells_8 E;have Elt := (ltH E);have p : Hid _ := B;clear B X E;go_wp2;go_ret
  exact ⟨by simp, p.out⟩
theorem szDescs_u : SzC 63 descsR descsM cell1 := by
 rintro cs x left w ⟨a, b, rfl, i, c, f⟩ g d;exact szDescS_rep a x b left w f g d (Nat.le_trans i c)
theorem toDescs_u : ToC 80 descsR descsM cell1 := by
 rintro cs x w ⟨a, b, rfl, l1, l2, f⟩ c;refine (toDescS_rep a x b w f c).mono ?_;rintro e w' ⟨v, rfl, d⟩;exact ⟨[v], rfl, d⟩
theorem eqDescs_u : EqC 101 descsR descsM cell1 := by
 rintro cs ds x w ⟨a, c, rfl, l1, l2, i⟩ ⟨b, d, rfl, k1, k2, g⟩ f;exact eqDescS_rep a b x c d w i g (Nat.le_trans f (by decide))
abbrev DmaD := List DescD × Int × Bool × List (List Int)
abbrev dmaR : Rep DmaD := prodR descsR (prodR intR (prodR boolR rowsR))
abbrev dmaM : Mk DmaD := prodM descsM (prodM intM (prodM boolM rowsM))
theorem len1dma {l : List Value} (h : l.length = 1) : ∃ a0, l = [a0] := by
 match l, h with
 | [a0], _ => exact ⟨a0, rfl⟩
theorem dma_rd {w : World} {cs : List Value} {x : DmaD} (h : dmaR.rd w cs x) : ∃ a b, cs = [a, nI x.2.1, .bool x.2.2.1, b] ∧ descsR.rd w [a] x.1 ∧ In64 x.2.1 ∧ True ∧ rowsR.rd w [b] x.2.2.2 := by
 obtain ⟨c0, e0, rfl, d, ⟨c1, e1, rfl, ⟨rfl, f⟩, ⟨c2, e2, rfl, rfl, c⟩⟩⟩ := h;obtain ⟨a, rfl⟩ := len1dma (descsR.rd_len d);obtain ⟨b, rfl⟩ := len1dma (rowsR.rd_len c);exact ⟨a, b, rfl, d, f, trivial, c⟩
theorem cells_dma {w : World} {g : Nat} {x0 x1 x2 x3 : Value} {t : TypeId} (h : w.heap[g]? = some (.cells #[x0, x1, x2, x3] t (0, 0))) : w.cell? ⟨g, 0, none⟩ = some x0 ∧ w.cell? ⟨g, 1, none⟩ = some x1 ∧ w.cell? ⟨g, 2, none⟩ = some x2 ∧ w.cell? ⟨g, 3, none⟩ = some x3 :=
 ⟨by rw [cell_of_row w g 0 _ t (0, 0) h]; rfl, by rw [cell_of_row w g 1 _ t (0, 0) h]; rfl, by rw [cell_of_row w g 2 _ t (0, 0) h]; rfl, by rw [cell_of_row w g 3 _ t (0, 0) h]; rfl⟩
theorem szDma_u : SzC 21 dmaR dmaM aggV := by
 intro cs x left w h h0 h1;obtain ⟨k, l, rfl, o, -, -, q⟩ := dma_rd h;clear h;rw [show dmaM.bk x = descsM.bk x.1 + (0 + (0 + rowsM.bk x.2.2.2)) from rfl];change Calls Tryz.prog 21 #[.agg #[k, nI x.2.1, .bool x.2.2.1, l], nI left] w _
 have i : Hid (∀ L W, Bl w W → 0 ≤ L → L ≤ 1048576 → Calls Tryz.prog 63 #[k, nI L] W fun e w' => e = .returned (nI (szI (descsM.bk x.1) L)) ∧ Bl W w') := fun L W hb a b => szDescs_u [k] _ L W (rd_next o hb) a b;have j : Hid (∀ L W, Bl w W → 0 ≤ L → L ≤ 1048576 → Calls Tryz.prog 60 #[l, nI L] W fun e w' => e = .returned (nI (szI (rowsM.bk x.2.2.2) L)) ∧ Bl W w') := fun L W hb a b => szRows_u [l] _ L W (rd_next q hb) a b;clear o q;generalize descsM.bk x.1 = n0 at i ⊢;generalize rowsM.bk x.2.2.2 = n3 at j ⊢;go_enter Tryz.func21, Tryz.ntmps21;go_wp2_with fail
 generalize d : w.alloc _ = W0;have X := boxH d;have B := boxB d;clear d;refine (i.out (left) _ B (by omega) (by omega)).mono ?_;rintro e w1 ⟨rfl, c⟩;replace X := row_keep c X;replace B := below_step B c;clear c i;by_cases r : (n0 : Int) ≤ left
 ·rw [szI_yes r];have g0 : ¬ (left - (n0 : Int) < 0) := by omega
  obtain ⟨g, m, n, f⟩ := cells_dma X;go_wp2_with fail
  clear g m n f;refine (j.out (left - (n0 : Int)) _ B (by omega) (by omega)).mono ?_;rintro e w2 ⟨rfl, c⟩;replace X := row_keep c X;replace B := below_step B c;clear c j;by_cases p : (n3 : Int) ≤ left - (n0 : Int)
  ·rw [szI_yes p];have g3 : ¬ (left - (n0 : Int) - (n3 : Int) < 0) := by omega
   obtain ⟨g, m, n, f⟩ := cells_dma X;clear g m n f X;go_wp2;go_ret
   exact ⟨ret_int (by rw [szI_yes (by omega)]; omega), B⟩
  ·rw [szI_no p];clear X;go_wp2;go_ret
   exact ⟨ret_int (szI_no (by omega)).symm, B⟩
 ·rw [szI_no r];clear X;go_wp2;go_ret
  exact ⟨ret_int (szI_no (by omega)).symm, B⟩
theorem eqDma_u : EqC 43 dmaR dmaM aggV := by
 intro cs ds x w h k v;obtain ⟨b, c, rfl, g, -, -, q⟩ := dma_rd h;obtain ⟨f, d, rfl, n, -, -, p⟩ := dma_rd k;clear h k;rw [show dmaM.bk x = descsM.bk x.1 + (0 + (0 + rowsM.bk x.2.2.2)) from rfl] at v;change Calls Tryz.prog 43 #[.agg #[b, nI x.2.1, .bool x.2.2.1, c], .agg #[f, nI x.2.1, .bool x.2.2.1, d]] w _
 have l : Hid (∀ W, Bl w W → Calls Tryz.prog 101 #[b, f] W fun e w' => e = .returned (.bool true) ∧ Bl W w') := fun W hb => eqDescs_u [b] [f] _ W (rd_next g hb) (rd_next n hb) (by omega);have m : Hid (∀ W, Bl w W → Calls Tryz.prog 10 #[c, d] W fun e w' => e = .returned (.bool true) ∧ Bl W w') := fun W hb => eqRows_u [c] [d] _ W (rd_next q hb) (rd_next p hb) (by omega);clear v g n q p;have X := heap_on (.cells #[f, nI x.2.1, .bool x.2.2.1, d] 45) (heap_at w (.cells #[b, nI x.2.1, .bool x.2.2.1, c] 45));have Y := heap_at (w.alloc (.cells #[b, nI x.2.1, .bool x.2.2.1, c] 45)) (.cells #[f, nI x.2.1, .bool x.2.2.1, d] 45);rw [alloc_len] at Y;have B := below_step (box_below w (.cells #[b, nI x.2.1, .bool x.2.2.1, c] 45)) (box_below _ (.cells #[f, nI x.2.1, .bool x.2.2.1, d] 45));go_enter Tryz.func43, Tryz.ntmps43;go_wp2_with fail
 generalize (w.alloc (.cells #[b, nI x.2.1, .bool x.2.2.1, c] 45)).alloc (.cells #[f, nI x.2.1, .bool x.2.2.1, d] 45) = W0 at X Y B ⊢;refine (l.out _ B).mono ?_;rintro e w1 ⟨rfl, a⟩;replace X := row_keep a X;replace Y := row_keep a Y;replace B := below_step B a;clear a l;obtain ⟨j, y, A, i⟩ := cells_dma X;obtain ⟨z, r, s, o⟩ := cells_dma Y;go_wp2_with fail
 clear j y A i z r s o;refine (m.out _ B).mono ?_;rintro e w2 ⟨rfl, a⟩;replace X := row_keep a X;replace Y := row_keep a Y;replace B := below_step B a;clear a m;obtain ⟨j, y, A, i⟩ := cells_dma X;obtain ⟨z, r, s, o⟩ := cells_dma Y;clear X Y;go_wp2;go_ret
 exact ⟨rfl, B⟩
theorem own_dma {w : World} {S S0 S3 : Foot} {v0 v3 : Value} {x : DmaD} (i1 : In64 x.2.1) (h0 : descsR.own w S0 [v0] x.1) (h3 : rowsR.own w S3 [v3] x.2.2.2) (s0 : Sub S0 S) (s3 : Sub S3 S) (d03 : Dis S0 S3) : dmaR.own w S [v0, nI x.2.1, .bool x.2.2.1, v3] x := by
 exact ⟨[v0], [nI x.2.1, .bool x.2.2.1, v3], S0, (fun q => (fun _ => False) q ∨ (fun q => (fun _ => False) q ∨ S3 q) q), rfl, h0, ⟨[nI x.2.1], [.bool x.2.2.1, v3], (fun _ => False), (fun q => (fun _ => False) q ∨ S3 q), rfl, ⟨rfl, i1⟩, ⟨[.bool x.2.2.1], [v3], (fun _ => False), S3, rfl, rfl, h3, (fun q h => .inl h), (fun q h => .inr h), (fun _ h _ => h.elim)⟩, (fun q h => .inl h), (fun q h => .inr h), (fun _ h _ => h.elim)⟩, s0, (fun q h => h.elim (fun ha => ha.elim) (fun hb => hb.elim (fun hba => hba.elim) (fun hbb => s3 q hbb))), (fun q a h => h.elim (fun ha => ha.elim) (fun hb => hb.elim (fun hba => hba.elim) (fun hbb => d03 q a hbb)))⟩
theorem froz_dma {w : World} {g : Nat} {cs : Array Value} {t : TypeId} (h : w.heap[g]? = some (.cells cs t (0, 0))) : w.frozen? ⟨g, 0, none⟩ = false ∧ w.frozen? ⟨g, 1, none⟩ = false ∧ w.frozen? ⟨g, 2, none⟩ = false ∧ w.frozen? ⟨g, 3, none⟩ = false :=
 ⟨frozen_of_row w g 0 _ t h, frozen_of_row w g 1 _ t h, frozen_of_row w g 2 _ t h, frozen_of_row w g 3 _ t h⟩
theorem put_dma {w : World} {g : Nat} {x0 x1 x2 x3 y0 y1 y2 y3 : Value} {t : TypeId} (h : w.heap[g]? = some (.cells #[x0, x1, x2, x3] t (0, 0))) : ((((w.setCell ⟨g, 0, none⟩ (y0)).setCell ⟨g, 1, none⟩ (y1)).setCell ⟨g, 2, none⟩ (y2)).setCell ⟨g, 3, none⟩ (y3)).heap[g]? = some (.cells #[y0, y1, y2, y3] t (0, 0)) := by
 have c : (w.setCell ⟨g, 0, none⟩ (y0)).heap[g]? = some (.cells #[y0, x1, x2, x3] t (0, 0)) := heap_setCell_same _ g 0 _ t y0 h;have d : ((w.setCell ⟨g, 0, none⟩ (y0)).setCell ⟨g, 1, none⟩ (y1)).heap[g]? = some (.cells #[y0, y1, x2, x3] t (0, 0)) := heap_setCell_same _ g 1 _ t y1 c;have a : (((w.setCell ⟨g, 0, none⟩ (y0)).setCell ⟨g, 1, none⟩ (y1)).setCell ⟨g, 2, none⟩ (y2)).heap[g]? = some (.cells #[y0, y1, y2, x3] t (0, 0)) := heap_setCell_same _ g 2 _ t y2 d;have b : ((((w.setCell ⟨g, 0, none⟩ (y0)).setCell ⟨g, 1, none⟩ (y1)).setCell ⟨g, 2, none⟩ (y2)).setCell ⟨g, 3, none⟩ (y3)).heap[g]? = some (.cells #[y0, y1, y2, y3] t (0, 0)) := heap_setCell_same _ g 3 _ t y3 a;exact b
theorem toDma_u : ToC 29 dmaR dmaM aggV := by
 intro cs x w h hm;obtain ⟨n, p, rfl, F, H, i2, G⟩ := dma_rd h;clear h;rw [show dmaM.bk x = descsM.bk x.1 + (0 + (0 + rowsM.bk x.2.2.2)) from rfl] at hm;change Calls Tryz.prog 29 #[.agg #[n, nI x.2.1, .bool x.2.2.1, p]] w _
 have Y : Hid (∀ W, Bl w W → Calls Tryz.prog 80 #[n] W fun e C => ∃ a b, e = .returned (sL a x.1.length b) ∧ MadeR descsR W C [sL a x.1.length b] x.1) := fun W hb => (toDescs_u [n] _ W (rd_next F hb) (by omega)).mono (by rintro e C ⟨ds, rfl, c⟩; obtain ⟨a, b, rfl, -⟩ := descsR.own_rd c.1; exact ⟨a, b, rfl, c⟩);have Z : Hid (∀ W, Bl w W → Calls Tryz.prog 77 #[p] W fun e C => ∃ k j, e = .returned (sL k x.2.2.2.length j) ∧ MadeR rowsR W C [sL k x.2.2.2.length j] x.2.2.2) := fun W hb => (toRows_u [p] _ W (rd_next G hb) (by omega)).mono (by rintro e C ⟨ds, rfl, c⟩; obtain ⟨k, j, rfl, -⟩ := rowsR.own_rd c.1; exact ⟨k, j, rfl, c⟩);clear hm F G;have HI : Hid _ := H;clear H;have i := heap_on (.cells #[sL none 0 0, nI 0, .bool false, sL none 0 0] 45) (heap_on (.cells #[sL none 0 0, nI 0, .bool false, sL none 0 0] 45) (heap_at w (.cells #[n, nI x.2.1, .bool x.2.2.1, p] 31)));have f := heap_on (.cells #[sL none 0 0, nI 0, .bool false, sL none 0 0] 45) (heap_at (w.alloc (.cells #[n, nI x.2.1, .bool x.2.2.1, p] 31)) (.cells #[sL none 0 0, nI 0, .bool false, sL none 0 0] 45));have d := heap_at ((w.alloc (.cells #[n, nI x.2.1, .bool x.2.2.1, p] 31)).alloc (.cells #[sL none 0 0, nI 0, .bool false, sL none 0 0] 45)) (.cells #[sL none 0 0, nI 0, .bool false, sL none 0 0] 45);rw [alloc_len] at f;rw [alloc_len, alloc_len] at d;have B : Bl w (((w.alloc (.cells #[n, nI x.2.1, .bool x.2.2.1, p] 31)).alloc (.cells #[sL none 0 0, nI 0, .bool false, sL none 0 0] 45)).alloc (.cells #[sL none 0 0, nI 0, .bool false, sL none 0 0] 45)) := (((Below.refl _ w).alloc (Nat.le_refl _) _).alloc (by simp) _).alloc (by simp; omega) _;have e3 : w.heap.size + 1 + 1 + 1 ≤ (((w.alloc (.cells #[n, nI x.2.1, .bool x.2.2.1, p] 31)).alloc (.cells #[sL none 0 0, nI 0, .bool false, sL none 0 0] 45)).alloc (.cells #[sL none 0 0, nI 0, .bool false, sL none 0 0] 45)).heap.size := by simp
 go_enter Tryz.func29, Tryz.ntmps29;go_wp2_with fail
 generalize ((w.alloc (.cells #[n, nI x.2.1, .bool x.2.2.1, p] 31)).alloc (.cells #[sL none 0 0, nI 0, .bool false, sL none 0 0] 45)).alloc (.cells #[sL none 0 0, nI 0, .bool false, sL none 0 0] 45) = u0 at i f d B e3 ⊢;refine (Y.out _ B).mono ?_;rintro e m ⟨a, b, rfl, c⟩;have iA := c.2.size;replace B := below_step B c.2;replace i := row_keep c.2 i;replace f := row_keep c.2 f;replace d := row_keep c.2 d;have l := c.1;clear c Y;obtain ⟨M, T, L, S⟩ := cells_dma i;obtain ⟨y0, y1, y2, y3⟩ := cells_dma d;obtain ⟨O, N, I, R⟩ := froz_dma d;have D : Hid _ := aI i (aI f (aI d (aI B (l))));clear i f d B l;go_wp2_with fail
 clear M T L S y0 y1 y2 y3 O N I R;obtain ⟨i, f, d, B, l⟩ := D.out;clear D;have J : (m.setCell ⟨w.heap.size + 1 + 1, 0, none⟩ (sL a x.1.length b)).heap[w.heap.size + 1 + 1]? = some (.cells #[sL a x.1.length b, nI 0, .bool false, sL none 0 0] 45 (0, 0)) := heap_setCell_same _ (w.heap.size + 1 + 1) 0 _ _ (sL a x.1.length b) d;have U : ((m.setCell ⟨w.heap.size + 1 + 1, 0, none⟩ (sL a x.1.length b)).setCell ⟨w.heap.size + 1 + 1, 1, none⟩ (nI x.2.1)).heap[w.heap.size + 1 + 1]? = some (.cells #[sL a x.1.length b, nI x.2.1, .bool false, sL none 0 0] 45 (0, 0)) := heap_setCell_same _ (w.heap.size + 1 + 1) 1 _ _ (nI x.2.1) J;have K : (((m.setCell ⟨w.heap.size + 1 + 1, 0, none⟩ (sL a x.1.length b)).setCell ⟨w.heap.size + 1 + 1, 1, none⟩ (nI x.2.1)).setCell ⟨w.heap.size + 1 + 1, 2, none⟩ (.bool x.2.2.1)).heap[w.heap.size + 1 + 1]? = some (.cells #[sL a x.1.length b, nI x.2.1, .bool x.2.2.1, sL none 0 0] 45 (0, 0)) := heap_setCell_same _ (w.heap.size + 1 + 1) 2 _ _ (.bool x.2.2.1) U;have s := (heap_setC (g := w.heap.size + 1 + 1) (o := 2) (v := .bool x.2.2.1) (heap_setC (g := w.heap.size + 1 + 1) (o := 1) (v := nI x.2.1) (heap_setC (g := w.heap.size + 1 + 1) (o := 0) (v := sL a x.1.length b) i (by omega)) (by omega)) (by omega));have z := (heap_setC (g := w.heap.size + 1 + 1) (o := 2) (v := .bool x.2.2.1) (heap_setC (g := w.heap.size + 1 + 1) (o := 1) (v := nI x.2.1) (heap_setC (g := w.heap.size + 1 + 1) (o := 0) (v := sL a x.1.length b) f (by omega)) (by omega)) (by omega));have A : Bl w (((m.setCell ⟨w.heap.size + 1 + 1, 0, none⟩ (sL a x.1.length b)).setCell ⟨w.heap.size + 1 + 1, 1, none⟩ (nI x.2.1)).setCell ⟨w.heap.size + 1 + 1, 2, none⟩ (.bool x.2.2.1)) := (below_setC (below_setC (below_setC B (by omega)) (by omega)) (by omega));have y : descsR.own (((m.setCell ⟨w.heap.size + 1 + 1, 0, none⟩ (sL a x.1.length b)).setCell ⟨w.heap.size + 1 + 1, 1, none⟩ (nI x.2.1)).setCell ⟨w.heap.size + 1 + 1, 2, none⟩ (.bool x.2.2.1)) _ _ _ := (own_setC (own_setC (own_setC l (fun h => by have := h.1; omega)) (fun h => by have := h.1; omega)) (fun h => by have := h.1; omega));have q : m.heap.size ≤ (((m.setCell ⟨w.heap.size + 1 + 1, 0, none⟩ (sL a x.1.length b)).setCell ⟨w.heap.size + 1 + 1, 1, none⟩ (nI x.2.1)).setCell ⟨w.heap.size + 1 + 1, 2, none⟩ (.bool x.2.2.1)).heap.size := by simp
 have r : (((m.setCell ⟨w.heap.size + 1 + 1, 0, none⟩ (sL a x.1.length b)).setCell ⟨w.heap.size + 1 + 1, 1, none⟩ (nI x.2.1)).setCell ⟨w.heap.size + 1 + 1, 2, none⟩ (.bool x.2.2.1)).heap.size ≤ m.heap.size := by simp
 clear i f d B l J U;generalize (((m.setCell ⟨w.heap.size + 1 + 1, 0, none⟩ (sL a x.1.length b)).setCell ⟨w.heap.size + 1 + 1, 1, none⟩ (nI x.2.1)).setCell ⟨w.heap.size + 1 + 1, 2, none⟩ (.bool x.2.2.1)) = u1 at s z K A q r y ⊢;have i := s;have f := z;have d := K;have B := A;have l := y;have dA := q;have pA := r;clear s z K A q r y;refine (Z.out _ B).mono ?_;rintro e X ⟨k, j, rfl, c⟩;have qA := c.2.size;replace B := below_step B c.2;replace i := row_keep c.2 i;replace f := row_keep c.2 f;replace d := row_keep c.2 d;replace l := own_stay l c.2 (by omega);have E := c.1;clear c Z;obtain ⟨M, T, L, S⟩ := cells_dma i;obtain ⟨y0, y1, y2, y3⟩ := cells_dma d;obtain ⟨O, N, I, R⟩ := froz_dma d;obtain ⟨z0, z1, z2, z3⟩ := cells_dma f;obtain ⟨g0, g1, g2, g3⟩ := froz_dma f;have D : Hid _ := aI i (aI f (aI d (aI B (aI l (E)))));clear i f d B l E;go_wp2;clear M T L S y0 y1 y2 y3 O N I R z0 z1 z2 z3 g0 g1 g2 g3;obtain ⟨i, f, d, B, l, E⟩ := D.out;clear D;have J : (X.setCell ⟨w.heap.size + 1 + 1, 3, none⟩ (sL k x.2.2.2.length j)).heap[w.heap.size + 1 + 1]? = some (.cells #[sL a x.1.length b, nI x.2.1, .bool x.2.2.1, sL k x.2.2.2.length j] 45 (0, 0)) := heap_setCell_same _ (w.heap.size + 1 + 1) 3 _ _ (sL k x.2.2.2.length j) d;have V := put_dma (y0 := sL a x.1.length b) (y1 := nI x.2.1) (y2 := .bool x.2.2.1) (y3 := sL k x.2.2.2.length j) (heap_setC (g := w.heap.size + 1 + 1) (o := 3) (v := sL k x.2.2.2.length j) f (by omega));obtain ⟨F, r1, r2, G⟩ := cells_dma V;have H := HI.out;refine bodyPost_ret (v := .agg #[sL a x.1.length b, nI x.2.1, .bool x.2.2.1, sL k x.2.2.2.length j]) (by simp [results, Tryz.results29, go_sem, F, r1, r2, G]) rfl ⟨[sL a x.1.length b, nI x.2.1, .bool x.2.2.1, sL k x.2.2.2.length j], rfl, own_dma (S0 := rng u0.heap.size m.heap.size) (S3 := rng u1.heap.size X.heap.size) H ?_ ?_ (rng_sub (by omega) (by simp <;> omega)) (rng_sub (by omega) (by simp <;> omega)) (rng_dis (.inl (by omega))), ?_⟩
 ·exact (own_setC (own_setC (own_setC (own_setC (own_setC l (fun h => by have := h.1; omega)) (fun h => by have := h.1; omega)) (fun h => by have := h.1; omega)) (fun h => by have := h.1; omega)) (fun h => by have := h.1; omega))
 ·exact (own_setC (own_setC (own_setC (own_setC (own_setC E (fun h => by have := h.1; omega)) (fun h => by have := h.1; omega)) (fun h => by have := h.1; omega)) (fun h => by have := h.1; omega)) (fun h => by have := h.1; omega))
 ·exact (below_setC (below_setC (below_setC (below_setC (below_setC B (by omega)) (by omega)) (by omega)) (by omega)) (by omega))
theorem dma_shape {w : World} {cs : List Value} {x : DmaD} (h : dmaR.rd w cs x) : ∃ (b : Option Addr) (c : Nat) (d : Option Addr) (a : Nat), cs = [sL b x.1.length c, nI x.2.1, .bool x.2.2.1, sL d x.2.2.2.length a] := by
 obtain ⟨v0, v3, rfl, j, -, -, i⟩ := dma_rd h;obtain ⟨b, c, f, -⟩ := j;simp only [List.cons.injEq, and_true] at f;obtain rfl := f;obtain ⟨d, a, g, -⟩ := i;simp only [List.cons.injEq, and_true] at g;obtain rfl := g;exact ⟨b, c, d, a, rfl⟩
theorem opens_dma : Opens Tryz.prog 31 dmaR :=
 opens_struct Tryz.underlying31 (by kernel_rfl) (opensF_cons rfl (by kernel_rfl) opens_descs (opensF_cons rfl (by kernel_rfl) opens_i64 (opensF_cons rfl (by kernel_rfl) (opens_bool Tryz.underlying4) (opensF_one rfl (by kernel_rfl) opens_rows))))
theorem eqMsgs_u : EqC 44 msgsR msgsM cell1 := by
 rintro cs ds x w ⟨a, c, rfl, l1, l2, i⟩ ⟨b, d, rfl, k1, k2, g⟩ f;exact eqMsgS_rep a b x c d w i g (Nat.le_trans f (by decide))
theorem szMsgs_u : SzC 22 msgsR msgsM cell1 := by
 rintro cs x left w ⟨a, b, rfl, i, c, f⟩ g d;exact szMsgS_rep a x b left w f g d (Nat.le_trans i c)
theorem toMsgs_u : ToC 30 msgsR msgsM cell1 := by
 rintro cs x w ⟨a, b, rfl, l1, l2, f⟩ c;refine (toMsgS_rep a x b w f c).mono ?_;rintro e w' ⟨v, rfl, d⟩;exact ⟨[v], rfl, d⟩
end Go.Proofs.YtdamokokcdcedaaGreatDoor
