import Derived.Test.YtdamokokcdcedaaGreatDoorE00Box
import Derived.Test.YtdamokokcdcedaaGreatDoorE25
namespace Go.Proofs.YtdamokokcdcedaaGreatDoor
set_option maxHeartbeats 4000000
open Go.ChangeShapes Go.WideShapes Go.ChangeAt Go.RowKit
set_option linter.unusedVariables false
theorem who_bd {o s : Int} (h : whoB o s = true) : -1 ≤ o ∧ o ≤ 3 ∧ 0 ≤ s ∧ s ≤ 15 := by
 simp [whoB, betw] at h
 omega
theorem who_of {o s : Int} {b : Bool} {k f l m : Int} {d : List Int} (h : entB (o, s, b, k, f, l, m, d) = true) : whoB o s = true := by rw [eb] at h; exact (Bool.and_eq_true _ _ ▸ h).1
theorem implHolders_any (o s k f l m : Int) (b : Bool) (d : List Int) (a : Option Addr) (cap : Nat) (w : World) (h : SlRd intR w a d) :
    Calls Tryz.prog 176 #[.agg #[nI o, nI s, .bool b, nI k, nI f, nI l, nI m, sL a d.length cap]] w fun e w' => ∃ v, e = .returned v ∧ Made w w' v (if entB (o, s, b, k, f, l, m, d) then hoI o s else []) := by
 have X := heap_at w (.cells #[nI o, nI s, .bool b, nI k, nI f, nI l, nI m, sL a d.length cap] 101);have B := box_below w (.cells #[nI o, nI s, .bool b, nI k, nI f, nI l, nI m, sL a d.length cap] 101);have c : Hid _ := fun (W : World) (hb : Bl w W) => implEntryOk_any o s k f l m b d a cap W (slrd_next h hb);clear h;cases n : entB (o, s, b, k, f, l, m, d)
 ·rw [n] at c;go_enter Tryz.func176, Tryz.ntmps176;go_wp2_with fail
  generalize w.alloc (.cells #[nI o, nI s, .bool b, nI k, nI f, nI l, nI m, sL a d.length cap] 101) = W0 at X B ⊢;refine (c.out _ B).mono ?_;rintro e i ⟨rfl, g⟩;have M : Hid (Made w (i.alloc (.cells #[] 2)) (sL (some ⟨i.heap.size, 0, none⟩) 0 0) []) := made_step (below_step B g) (made_lit i #[] [] rfl (by unfold maxLen; simp));clear g c X B;go_wp2;go_ret
  exact ⟨_, rfl, M.out⟩
 ·rw [n] at c;have E : Hid (holL o s 8 = hoI o s) := holL_eq (who_of n);go_enter Tryz.func176, Tryz.ntmps176;go_wp2_with fail
  generalize w.alloc (.cells #[nI o, nI s, .bool b, nI k, nI f, nI l, nI m, sL a d.length cap] 101) = W0 at X B ⊢;refine (c.out _ B).mono ?_;rintro e i ⟨rfl, g⟩;replace X := row_keep g X;replace B := below_step B g;obtain ⟨H, D, G, F, A, r, q, C⟩ := cells_8 X;clear g c X;go_wp2_with fail
  refine (page_any o s k f l m b _ _).mono ?_;rintro e w2 ⟨rfl, p⟩;replace B := below_step B p;clear p H D G F A r q C;go_wp2_with (go_at_call 223; refine (chosenP_any o s _).mono ?_; rintro e y ⟨v, rfl, j⟩; rw [E.out] at j; have z : Hid (Made w y v (hoI o s)) := made_step B j; clear j)
  go_ret
  exact ⟨_, rfl, z.out⟩
theorem mems_in {s : Int} : ∀ {k : Nat} {x : Int}, x ∈ mems s k → 0 ≤ x ∧ x < k
 | 0, x, h => by simp [mems] at h
 | k + 1, x, h => by
  unfold mems at h;split at h
  ·rcases List.mem_append.1 h with h | h
   ·have := mems_in h; omega
   ·simp at h; omega
  ·have := mems_in h; omega
theorem ho_small {o s : Int} (h : whoB o s = true) : (hoI o s).length ≤ 8 ∧ ∀ x ∈ hoI o s, 0 ≤ x ∧ x < 8 := by
 have hb := who_bd h;unfold hoI;split
 ·exact ⟨by simp, fun x hx => by simp at hx; omega⟩
 ·exact ⟨mems_le s 8, fun x hx => mems_in hx⟩
theorem hold_small (u : EntryD) : (if entB u then hoI u.1 u.2.1 else []).length ≤ 8 ∧ Hid (∀ x ∈ (if entB u then hoI u.1 u.2.1 else []), In64 x) := by
 cases b : entB u
 ·exact ⟨by simp, fun x hx => by simp at hx⟩
 ·have c : whoB u.1 u.2.1 = true := by unfold entB at b; exact (Bool.and_eq_true _ _ ▸ b).1
  obtain ⟨d, a⟩ := ho_small c;exact ⟨d, fun x hx => ⟨by have := a x hx; omega, by have := a x hx; omega⟩⟩
abbrev coresR : Rep (List CoreD) := slR 98 coreR
abbrev coresM : Mk (List CoreD) := slM coreM
theorem opens_cores : Opens Tryz.prog 28 coresR := opens_slice Tryz.underlying28 (by kernel_rfl) (by decide) opens_core
theorem szCores_u : SzC 20 coresR coresM cell1 := by
 rintro O f left w ⟨a, H, rfl, Z, U, h⟩ h0 h1;show Calls Tryz.prog 20 #[sL a f.length H, nI left] w _
 have eA : f.length ≤ 9223372036854775807 := Nat.le_trans Z U;have l : coresM.bk f = f.length + sumbk coreM f := rfl;clear Z U;by_cases hl : (f.length : Int) ≤ left
 ·have L : ¬ (left - (f.length : Int) < 0) := by omega
  have X : Hid _ := l;have H0 : Hid (SlRd coreR w a f) := h;clear l h;go_enter Tryz.func20, Tryz.ntmps20;go_wp2;go_loopw [1, 5] (fun q i wr => ∃ k : Nat, k ≤ f.length ∧ i = nI k ∧ (sumbk coreM (f.take k) : Int) + f.length ≤ left ∧ q = nI (left - (f.length : Int) - sumbk coreM (f.take k)) ∧ Bl w wr) (fun _ i _ => f.length - (intOf i).toNat)
  case atStart => exact ⟨0, Nat.zero_le _, rfl, by simp [sumbk]; omega, by simp [sumbk], Below.refl _ _⟩
  case round =>
   obtain ⟨k, R, rfl, Y, rfl, j⟩ := hrel;by_cases I : k < f.length
   ·have S : (k : Int) < (f.length : Int) := by omega
    obtain ⟨x, D⟩ : ∃ x, f[k]? = some x := ⟨_, List.getElem?_eq_getElem I⟩;have N := slrd_keep H0.out fun k R => j.block k R;obtain ⟨b, d, O, rfl, g, c⟩ := slrd_at N D;have B : Hid (coreR.rd wr O x) := g;obtain ⟨z, m, C, n, A, v, p, o, r, y, rfl⟩ := core_shape g;have x0 := c 0 _ rfl;have x1 := c 1 _ rfl;have x2 := c 2 _ rfl;have x3 := c 3 _ rfl;have x4 := c 4 _ rfl;have x5 := c 5 _ rfl;have x6 := c 6 _ rfl;have x7 := c 7 _ rfl;have x8 := c 8 _ rfl;rw [show d + (k * coreR.size + 0) = d + k * 9 from rfl] at x0;rw [show d + (k * coreR.size + 1) = d + k * 9 + 1 from rfl] at x1;rw [show d + (k * coreR.size + 2) = d + k * 9 + 2 from rfl] at x2;rw [show d + (k * coreR.size + 3) = d + k * 9 + 3 from rfl] at x3;rw [show d + (k * coreR.size + 4) = d + k * 9 + 4 from rfl] at x4;rw [show d + (k * coreR.size + 5) = d + k * 9 + 5 from rfl] at x5;rw [show d + (k * coreR.size + 6) = d + k * 9 + 6 from rfl] at x6;rw [show d + (k * coreR.size + 7) = d + k * 9 + 7 from rfl] at x7;rw [show d + (k * coreR.size + 8) = d + k * 9 + 8 from rfl] at x8;clear c g;have E : Hid _ := sumbk_step (M := coreM) D;have G := sumbk_get (M := coreM) D;clear D N;generalize sumbk coreM (f.take k) = T at Y E G ⊢;by_cases V : (((coreM).bk x : Nat) : Int) ≤ left - (f.length : Int) - (T : Int)
    ·have aA : ¬ (left - (f.length : Int) - (T : Int) - (((coreM).bk x : Nat) : Int) < 0) := by omega
     have J : Hid (szI ((coreM).bk x) (left - (f.length : Int) - (T : Int)) = _) := szI_yes V;go_wp2_with (go_at_call 62; refine (szCore_u [sL z x.1.1.length m, sL C x.1.2.length n, sL A x.2.1.length v, nI x.2.2.1, nI x.2.2.2.1, nI x.2.2.2.2.1.1, nI x.2.2.2.2.1.2.1, sL p x.2.2.2.2.1.2.2.length o, sL r x.2.2.2.2.2.length y] x _ _ B.out (by omega) (by omega)).mono ?_; rintro e w' ⟨rfl, s⟩; replace j := below_step j s; clear s; rw [J.out])
     go_roundw
     case rel => exact ⟨k + 1, by omega, by go_num, by have := E.out; omega, by rw [E.out]; go_num, j⟩
     case measure => simp [intOf]; omega
    ·have J : Hid (szI ((coreM).bk x) (left - (f.length : Int) - (T : Int)) = _) := szI_no V;have K : Hid (szI (coresM.bk f) left = -1) := by unfold Hid; rw [X.out]; exact szI_no (by omega)
     go_wp2_with (go_at_call 62; refine (szCore_u [sL z x.1.1.length m, sL C x.1.2.length n, sL A x.2.1.length v, nI x.2.2.1, nI x.2.2.2.1, nI x.2.2.2.2.1.1, nI x.2.2.2.2.1.2.1, sL p x.2.2.2.2.1.2.2.length o, sL r x.2.2.2.2.2.length y] x _ _ B.out (by omega) (by omega)).mono ?_; rintro e w' ⟨rfl, s⟩; replace j := below_step j s; clear s; rw [J.out])
     go_ret
     exact ⟨ret_int K.out.symm, j⟩
   ·have F : k = f.length := by omega
    subst F;rw [List.take_length] at Y ⊢;have K : Hid (szI (coresM.bk f) left = left - (f.length : Int) - (sumbk coreM f : Int)) := by unfold Hid; rw [X.out, szI_yes (by omega)]; omega
    go_wp2;go_ret
    exact ⟨ret_int K.out.symm, j⟩
 ·have L : left - (f.length : Int) < 0 := by omega
  rw [szI_no (by omega)];clear l h;go_enter Tryz.func20, Tryz.ntmps20;go_wp2;go_ret
  exact ⟨rfl, Below.refl _ _⟩
theorem Tryz.infoCore : (Tryz.prog.info? 98).map (fun i => (i.zero, i.size, i.bytes)) = some (some (.agg #[sL none 0 0, sL none 0 0, sL none 0 0, nI 0, nI 0, nI 0, nI 0, sL none 0 0, sL none 0 0]), 9, 152) := by kernel_rfl
theorem toCores_u : ToC 28 coresR coresM cell1 := by
 rintro cs g w ⟨a, U, rfl, l1, l2, h⟩ G;show Calls Tryz.prog 28 #[sL a g.length U] w _
 have C : coresM.bk g = g.length + sumbk coreM g := rfl;have rA : g.length ≤ 1048576 := by omega
 have HB : Hid (sumbk coreM g ≤ 1048576) := by unfold Hid; omega
 have H0 : Hid (SlRd coreR w a g) := h;clear C G h l1 l2;have L := run_make_wide (P := Tryz.prog) 42 98 (.agg #[sL none 0 0, sL none 0 0, sL none 0 0, nI 0, nI 0, nI 0, nI 0, sL none 0 0, sL none 0 0]) 9 152 Tryz.underlying42 Tryz.infoCore g.length (by omega) (by omega);go_enter Tryz.func28, Tryz.ntmps28;go_wp2;go_loopw [4] (fun i wr => ∃ k : Nat, k ≤ g.length ∧ i = nI k ∧ Fill 98 coreR w wr g.length (g.take k)) (fun i _ => g.length - (intOf i).toNat)
 case atStart => exact ⟨0, Nat.zero_le _, rfl, by simpa using fillR_start (e := 98) (R := coreR) (w0 := w) (n := g.length) (cs := madeCells #[sL none 0 0, sL none 0 0, sL none 0 0, nI 0, nI 0, nI 0, nI 0, sL none 0 0, sL none 0 0] (g.length * 9)) (by unfold maxLen; omega) (by rw [size_madeCells]; rfl)⟩
 case round =>
  obtain ⟨k, hk, rfl, o⟩ := hrel;by_cases p : k < g.length
  ·have dA : (k : Int) < (g.length : Int) := by omega
   obtain ⟨x, q⟩ : ∃ x, g[k]? = some x := ⟨_, List.getElem?_eq_getElem p⟩;obtain ⟨b, f, cs, rfl, j, d⟩ := slrd_at (slrd_next H0.out (fill_below o)) q;have y : Hid (coreR.rd wr cs x) := j;obtain ⟨I, K, S, B, Z, M, D, s, X, H, rfl⟩ := core_shape j;have x0 := d 0 _ rfl;have x1 := d 1 _ rfl;have x2 := d 2 _ rfl;have x3 := d 3 _ rfl;have x4 := d 4 _ rfl;have x5 := d 5 _ rfl;have x6 := d 6 _ rfl;have x7 := d 7 _ rfl;have x8 := d 8 _ rfl;rw [show f + (k * coreR.size + 0) = f + k * 9 from rfl] at x0;rw [show f + (k * coreR.size + 1) = f + k * 9 + 1 from rfl] at x1;rw [show f + (k * coreR.size + 2) = f + k * 9 + 2 from rfl] at x2;rw [show f + (k * coreR.size + 3) = f + k * 9 + 3 from rfl] at x3;rw [show f + (k * coreR.size + 4) = f + k * 9 + 4 from rfl] at x4;rw [show f + (k * coreR.size + 5) = f + k * 9 + 5 from rfl] at x5;rw [show f + (k * coreR.size + 6) = f + k * 9 + 6 from rfl] at x6;rw [show f + (k * coreR.size + 7) = f + k * 9 + 7 from rfl] at x7;rw [show f + (k * coreR.size + 8) = f + k * 9 + 8 from rfl] at x8;have HX : Hid (coreM.bk x ≤ 1048576) := by unfold Hid; have := sumbk_ge coreM g q; have := HB.out; omega
   have FS : Hid (∀ w1 c, MadeR coreR wr w1 c x → _) := fun w1 c G => fillR_step (w1 := w1) (c := c) o (by simp; omega) p G;have HP : Hid (g.take k ++ [x] = g.take (k + 1)) := by unfold Hid; rw [List.take_add_one, q]; rfl
   clear q j d L o;go_wp2_with fail
   refine (toCore_u [sL I x.1.1.length K, sL S x.1.2.length B, sL Z x.2.1.length M, nI x.2.2.1, nI x.2.2.2.1, nI x.2.2.2.2.1.1, nI x.2.2.2.2.1.2.1, sL D x.2.2.2.2.1.2.2.length s, sL X x.2.2.2.2.2.length H] x _ y.out HX.out).mono ?_;rintro e w1 ⟨ds, rfl, V⟩;obtain ⟨HA, qA, AA, vA, nA, IA, yA, mA, pA, EA, rfl⟩ := core_shape (coreR.own_rd V.1);rw [aE];obtain ⟨l, m, E⟩ := FS.out _ _ V;obtain ⟨v0, z⟩ := l 0 (by decide);obtain ⟨v1, v⟩ := l 1 (by decide);obtain ⟨v2, N⟩ := l 2 (by decide);obtain ⟨v3, T⟩ := l 3 (by decide);obtain ⟨v4, F⟩ := l 4 (by decide);obtain ⟨v5, A⟩ := l 5 (by decide);obtain ⟨v6, Y⟩ := l 6 (by decide);obtain ⟨v7, O⟩ := l 7 (by decide);obtain ⟨v8, J⟩ := l 8 (by decide);have z0 := m (k * 9);have z1 := m (k * 9 + 1);have z2 := m (k * 9 + 2);have z3 := m (k * 9 + 3);have z4 := m (k * 9 + 4);have z5 := m (k * 9 + 5);have z6 := m (k * 9 + 6);have z7 := m (k * 9 + 7);have z8 := m (k * 9 + 8);rw [show k * coreR.size + 0 = k * 9 from rfl] at z;rw [show k * coreR.size + 1 = k * 9 + 1 from rfl] at v;rw [show k * coreR.size + 2 = k * 9 + 2 from rfl] at N;rw [show k * coreR.size + 3 = k * 9 + 3 from rfl] at T;rw [show k * coreR.size + 4 = k * 9 + 4 from rfl] at F;rw [show k * coreR.size + 5 = k * 9 + 5 from rfl] at A;rw [show k * coreR.size + 6 = k * 9 + 6 from rfl] at Y;rw [show k * coreR.size + 7 = k * 9 + 7 from rfl] at O;rw [show k * coreR.size + 8 = k * 9 + 8 from rfl] at J;rw [HP.out] at E;have HF : Hid _ := E;clear E V l m FS x0 x1 x2 x3 x4 x5 x6 x7 x8;go_wp2;go_roundw
   case rel => exact ⟨k + 1, by omega, by go_num, HF.out⟩
   case measure => simp [intOf]; omega
  ·have r : k = g.length := by omega
   subst r;rw [List.take_length] at o;have FE := fillR_end o rfl;clear o;go_wp2;go_ret
   exact ⟨[_], rfl, FE⟩
theorem eqCores_u : EqC 42 coresR coresM cell1 := by
 rintro cs ds f w ⟨a1, c1, rfl, l1, l2, h1⟩ ⟨a2, c2, rfl, k1, k2, h2⟩ hm;show Calls Tryz.prog 42 #[sL a1 f.length c1, sL a2 f.length c2] w _
 have zA : coresM.bk f = f.length + sumbk coreM f := rfl;have z : f.length ≤ lot := by omega
 have HB : Hid (sumbk coreM f ≤ lot) := by unfold Hid; omega
 have H1 : Hid (∀ W, Bl w W → SlRd coreR W a1 f) := fun W hb => slrd_keep h1 fun k O => hb.block k O;have H2 : Hid (∀ W, Bl w W → SlRd coreR W a2 f) := fun W hb => slrd_keep h2 fun k O => hb.block k O;have UA : f.length ≤ 4398046511104 := z;clear zA hm h1 h2 l1 l2 k1 k2 z;go_enter Tryz.func42, Tryz.ntmps42;go_wp2;go_loopw [5] (fun i wr => ∃ k : Nat, k ≤ f.length ∧ i = nI k ∧ Bl w wr) (fun i _ => f.length - (intOf i).toNat)
 case atStart => exact ⟨0, Nat.zero_le _, rfl, Below.refl _ _⟩
 case round =>
  obtain ⟨k, O, rfl, o⟩ := hrel;by_cases LA : k < f.length
  ·have SA : (k : Int) < (f.length : Int) := by omega
   obtain ⟨x, hx⟩ : ∃ x, f[k]? = some x := ⟨_, List.getElem?_eq_getElem LA⟩;have HX : Hid (coreM.bk x ≤ lot) := by unfold Hid; have := sumbk_ge coreM f hx; have := HB.out; omega
   obtain ⟨m, b, FA, rfl, l, c⟩ := slrd_at (H1.out _ o) hx;have oA : Hid (∀ n : Cls (fun wx => Bl wr wx), coreR.rd n.w FA x) := fun n => rd_next l n.h;obtain ⟨L, y, H, E, r, N, G, p, s, J, rfl⟩ := core_shape l;have V := c 0 _ rfl;have s1 := c 1 _ rfl;have S := c 2 _ rfl;have s3 := c 3 _ rfl;have Y := c 4 _ rfl;have s5 := c 5 _ rfl;have Z := c 6 _ rfl;have s7 := c 7 _ rfl;have R := c 8 _ rfl;rw [show b + (k * coreR.size + 0) = b + k * 9 from rfl] at V;rw [show b + (k * coreR.size + 1) = b + k * 9 + 1 from rfl] at s1;rw [show b + (k * coreR.size + 2) = b + k * 9 + 2 from rfl] at S;rw [show b + (k * coreR.size + 3) = b + k * 9 + 3 from rfl] at s3;rw [show b + (k * coreR.size + 4) = b + k * 9 + 4 from rfl] at Y;rw [show b + (k * coreR.size + 5) = b + k * 9 + 5 from rfl] at s5;rw [show b + (k * coreR.size + 6) = b + k * 9 + 6 from rfl] at Z;rw [show b + (k * coreR.size + 7) = b + k * 9 + 7 from rfl] at s7;rw [show b + (k * coreR.size + 8) = b + k * 9 + 8 from rfl] at R;clear c l;obtain ⟨g, a, vA, rfl, j, d⟩ := slrd_at (H2.out _ o) hx;have GA : Hid (∀ n : Cls (fun wx => Bl wr wx), coreR.rd n.w vA x) := fun n => rd_next j n.h;obtain ⟨C, D, I, v, M, F, A, q, K, B, rfl⟩ := core_shape j;have T := d 0 _ rfl;have t1 := d 1 _ rfl;have t2 := d 2 _ rfl;have U := d 3 _ rfl;have t4 := d 4 _ rfl;have t5 := d 5 _ rfl;have t6 := d 6 _ rfl;have X := d 7 _ rfl;have t8 := d 8 _ rfl;rw [show a + (k * coreR.size + 0) = a + k * 9 from rfl] at T;rw [show a + (k * coreR.size + 1) = a + k * 9 + 1 from rfl] at t1;rw [show a + (k * coreR.size + 2) = a + k * 9 + 2 from rfl] at t2;rw [show a + (k * coreR.size + 3) = a + k * 9 + 3 from rfl] at U;rw [show a + (k * coreR.size + 4) = a + k * 9 + 4 from rfl] at t4;rw [show a + (k * coreR.size + 5) = a + k * 9 + 5 from rfl] at t5;rw [show a + (k * coreR.size + 6) = a + k * 9 + 6 from rfl] at t6;rw [show a + (k * coreR.size + 7) = a + k * 9 + 7 from rfl] at X;rw [show a + (k * coreR.size + 8) = a + k * 9 + 8 from rfl] at t8;clear d j;have HA : ∀ n : Cls (fun wx => Bl wr wx), n.w.cell? ⟨m, b + k * 9, none⟩ = some (sL L x.1.1.length y) := fun n => cell_keep n.h V (cell_lt V);have EA : ∀ n : Cls (fun wx => Bl wr wx), n.w.cell? ⟨m, b + k * 9 + 1, none⟩ = some (sL H x.1.2.length E) := fun n => cell_keep n.h s1 (cell_lt s1);have MA : ∀ n : Cls (fun wx => Bl wr wx), n.w.cell? ⟨m, b + k * 9 + 2, none⟩ = some (sL r x.2.1.length N) := fun n => cell_keep n.h S (cell_lt S);have BA : ∀ n : Cls (fun wx => Bl wr wx), n.w.cell? ⟨m, b + k * 9 + 3, none⟩ = some (nI x.2.2.1) := fun n => cell_keep n.h s3 (cell_lt s3);have JA : ∀ n : Cls (fun wx => Bl wr wx), n.w.cell? ⟨m, b + k * 9 + 4, none⟩ = some (nI x.2.2.2.1) := fun n => cell_keep n.h Y (cell_lt Y);have rA : ∀ n : Cls (fun wx => Bl wr wx), n.w.cell? ⟨m, b + k * 9 + 5, none⟩ = some (nI x.2.2.2.2.1.1) := fun n => cell_keep n.h s5 (cell_lt s5);have OA : ∀ n : Cls (fun wx => Bl wr wx), n.w.cell? ⟨m, b + k * 9 + 6, none⟩ = some (nI x.2.2.2.2.1.2.1) := fun n => cell_keep n.h Z (cell_lt Z);have mA : ∀ n : Cls (fun wx => Bl wr wx), n.w.cell? ⟨m, b + k * 9 + 7, none⟩ = some (sL G x.2.2.2.2.1.2.2.length p) := fun n => cell_keep n.h s7 (cell_lt s7);have yA : ∀ n : Cls (fun wx => Bl wr wx), n.w.cell? ⟨m, b + k * 9 + 8, none⟩ = some (sL s x.2.2.2.2.2.length J) := fun n => cell_keep n.h R (cell_lt R);have nA : ∀ n : Cls (fun wx => Bl wr wx), n.w.cell? ⟨g, a + k * 9, none⟩ = some (sL C x.1.1.length D) := fun n => cell_keep n.h T (cell_lt T);have pA : ∀ n : Cls (fun wx => Bl wr wx), n.w.cell? ⟨g, a + k * 9 + 1, none⟩ = some (sL I x.1.2.length v) := fun n => cell_keep n.h t1 (cell_lt t1);have DA : ∀ n : Cls (fun wx => Bl wr wx), n.w.cell? ⟨g, a + k * 9 + 2, none⟩ = some (sL M x.2.1.length F) := fun n => cell_keep n.h t2 (cell_lt t2);have AA : ∀ n : Cls (fun wx => Bl wr wx), n.w.cell? ⟨g, a + k * 9 + 3, none⟩ = some (nI x.2.2.1) := fun n => cell_keep n.h U (cell_lt U);have IA : ∀ n : Cls (fun wx => Bl wr wx), n.w.cell? ⟨g, a + k * 9 + 4, none⟩ = some (nI x.2.2.2.1) := fun n => cell_keep n.h t4 (cell_lt t4);have qA : ∀ n : Cls (fun wx => Bl wr wx), n.w.cell? ⟨g, a + k * 9 + 5, none⟩ = some (nI x.2.2.2.2.1.1) := fun n => cell_keep n.h t5 (cell_lt t5);have KA : ∀ n : Cls (fun wx => Bl wr wx), n.w.cell? ⟨g, a + k * 9 + 6, none⟩ = some (nI x.2.2.2.2.1.2.1) := fun n => cell_keep n.h t6 (cell_lt t6);have NA : ∀ n : Cls (fun wx => Bl wr wx), n.w.cell? ⟨g, a + k * 9 + 7, none⟩ = some (sL A x.2.2.2.2.1.2.2.length q) := fun n => cell_keep n.h X (cell_lt X);have sA : ∀ n : Cls (fun wx => Bl wr wx), n.w.cell? ⟨g, a + k * 9 + 8, none⟩ = some (sL K x.2.2.2.2.2.length B) := fun n => cell_keep n.h t8 (cell_lt t8);clear hx V s1 S s3 Y s5 Z s7 R T t1 t2 U t4 t5 t6 X t8;go_wp2_with fail
   refine region_class (fun wx => Bl wr wx) (by kernel_rfl) (by kernel_rfl) ((Below.refl _ wr).drew) ?_;intro CA;repeat (quiet_step ((go_at_call 100; exact calls_class (eqCore_u [sL L x.1.1.length y, sL H x.1.2.length E, sL r x.2.1.length N, nI x.2.2.1, nI x.2.2.2.1, nI x.2.2.2.2.1.1, nI x.2.2.2.2.1.2.1, sL G x.2.2.2.2.1.2.2.length p, sL s x.2.2.2.2.2.length J] [sL C x.1.1.length D, sL I x.1.2.length v, sL M x.2.1.length F, nI x.2.2.1, nI x.2.2.2.1, nI x.2.2.2.2.1.1, nI x.2.2.2.2.1.2.1, sL A x.2.2.2.2.1.2.2.length q, sL K x.2.2.2.2.2.length B] x _ (oA.out _) (GA.out _) HX.out) (fun w' hc bb => below_step hc bb))))
   refine wpQuiet_nil ?_;intro wx g;replace o := below_step o g;clear g CA HA EA MA BA JA rA OA mA yA nA pA DA AA IA qA KA NA sA;go_wp2;go_roundw
   case rel => exact ⟨k + 1, by omega, by go_num, o⟩
   case measure => simp [intOf]; omega
  ·go_wp2;go_ret
   exact ⟨rfl, o⟩
end Go.Proofs.YtdamokokcdcedaaGreatDoor
