import Derived.Test.YtglejdilghcbaaaGreatDoorP00Box
import Derived.Test.YtglejdilghcbaaaGreatDoorP27
import Derived.Deep.RegionHeld3
import Derived.Test.YtglejdilghcbaaaGreatDoorP21
namespace Go.Proofs.YtglejdilghcbaaaGreatDoor
set_option maxHeartbeats 4000000
open Go.ChangeShapes Go.WideShapes Go.ChangeAt Go.RowKit
set_option linter.unusedVariables false
theorem who_bd {o s : Int} (h : whoB o s = true) : -1 ≤ o ∧ o ≤ 3 ∧ 0 ≤ s ∧ s ≤ 15 := by
 simp [whoB, betw] at h
 omega
theorem who_of {o s : Int} {b : Bool} {k f l m : Int} {d : List Int} (h : entB (o, s, b, k, f, l, m, d) = true) : whoB o s = true := by rw [eb] at h; exact (Bool.and_eq_true _ _ ▸ h).1
theorem implHolders_any (o s k f l m : Int) (b : Bool) (d : List Int) (a : Option Addr) (cap : Nat) (w : World) (h : SlRd intR w a d) :
    Calls Tryz.prog 136 #[.agg #[nI o, nI s, .bool b, nI k, nI f, nI l, nI m, sL a d.length cap]] w fun e w' => ∃ v, e = .returned v ∧ Made w w' v (if entB (o, s, b, k, f, l, m, d) then hoI o s else []) := by
 have X := heap_at w (.cells #[nI o, nI s, .bool b, nI k, nI f, nI l, nI m, sL a d.length cap] 116);have B := box_below w (.cells #[nI o, nI s, .bool b, nI k, nI f, nI l, nI m, sL a d.length cap] 116);have g : Hid _ := fun (W : World) (hb : Bl w W) => implEntryOk_any o s k f l m b d a cap W (slrd_next h hb);clear h;cases n : entB (o, s, b, k, f, l, m, d)
 ·rw [n] at g;go_enter Tryz.func136, Tryz.ntmps136;go_wp2_with fail
  generalize w.alloc (.cells #[nI o, nI s, .bool b, nI k, nI f, nI l, nI m, sL a d.length cap] 116) = W0 at X B ⊢;refine (g.out _ B).mono ?_;rintro e i ⟨rfl, c⟩;have M : Hid (Made w (i.alloc (.cells #[] 2)) (sL (some ⟨i.heap.size, 0, none⟩) 0 0) []) := made_step (below_step B c) (made_lit i #[] [] rfl (by unfold maxLen; simp));clear c g X B;go_wp2;go_ret
  exact ⟨_, rfl, M.out⟩
 ·rw [n] at g;have G : Hid (holL o s 8 = hoI o s) := holL_eq (who_of n);go_enter Tryz.func136, Tryz.ntmps136;go_wp2_with fail
  generalize w.alloc (.cells #[nI o, nI s, .bool b, nI k, nI f, nI l, nI m, sL a d.length cap] 116) = W0 at X B ⊢;refine (g.out _ B).mono ?_;rintro e i ⟨rfl, c⟩;replace X := row_keep c X;replace B := below_step B c;obtain ⟨F, r, H, q, C, y, E, D⟩ := cells_8 X;clear c g X;go_wp2_with fail
  refine (page_any o s k f l m b _ _).mono ?_;rintro e w2 ⟨rfl, p⟩;replace B := below_step B p;clear p F r H q C y E D;go_wp2_with (go_at_call 176; refine (chosenP_any o s _).mono ?_; rintro e z ⟨v, rfl, j⟩; rw [G.out] at j; have A : Hid (Made w z v (hoI o s)) := made_step B j; clear j)
  go_ret
  exact ⟨_, rfl, A.out⟩
theorem mems_in {s : Int} : ∀ {k : Nat} {x : Int}, x ∈ mems s k → 0 ≤ x ∧ x < k
 | 0, x, h => by simp [mems] at h
 | k + 1, x, h => by
  unfold mems at h;split at h
  ·rcases List.mem_append.1 h with h | h
   ·have := mems_in h; omega
   ·simp at h; omega
  ·have := mems_in h; omega
theorem ho_small {o s : Int} (h : whoB o s = true) : (hoI o s).length ≤ 8 ∧ ∀ x ∈ hoI o s, 0 ≤ x ∧ x < 8 := by
 have hb := who_bd h;unfold hoI;split
 ·exact ⟨by simp, fun x hx => by simp at hx; omega⟩
 ·exact ⟨mems_le s 8, fun x hx => mems_in hx⟩
theorem hold_small (u : EntryD) : (if entB u then hoI u.1 u.2.1 else []).length ≤ 8 ∧ Hid (∀ x ∈ (if entB u then hoI u.1 u.2.1 else []), In64 x) := by
 cases a : entB u
 ·exact ⟨by simp, fun x hx => by simp at hx⟩
 ·have d : whoB u.1 u.2.1 = true := by unfold entB at a; exact (Bool.and_eq_true _ _ ▸ a).1
  obtain ⟨c, b⟩ := ho_small d;exact ⟨c, fun x hx => ⟨by have := b x hx; omega, by have := b x hx; omega⟩⟩
abbrev coresR : Rep (List CoreD) := slR 66 coreR
abbrev coresM : Mk (List CoreD) := slM coreM
theorem opens_cores : Opens Tryz.prog 28 coresR := opens_slice Tryz.underlying28 (by kernel_rfl) (by decide) opens_core
theorem szCores_u : SzC 10 coresR coresM cell1 := by
 rintro R f left w ⟨a, G, rfl, N, Z, h⟩ h0 h1;show Calls Tryz.prog 10 #[sL a f.length G, nI left] w _
 have lA : f.length ≤ 9223372036854775807 := Nat.le_trans N Z;have l : coresM.bk f = f.length + sumbk coreM f := rfl;clear N Z;by_cases hl : (f.length : Int) ≤ left
 ·have H : ¬ (left - (f.length : Int) < 0) := by omega
  have X : Hid _ := l;have H0 : Hid (SlRd coreR w a f) := h;clear l h;go_enter Tryz.func10, Tryz.ntmps10;go_wp2;go_loopw [1, 5] (fun q i wr => ∃ k : Nat, k ≤ f.length ∧ i = nI k ∧ (sumbk coreM (f.take k) : Int) + f.length ≤ left ∧ q = nI (left - (f.length : Int) - sumbk coreM (f.take k)) ∧ Bl w wr) (fun _ i _ => f.length - (intOf i).toNat)
  case atStart => exact ⟨0, Nat.zero_le _, rfl, by simp [sumbk]; omega, by simp [sumbk], Below.refl _ _⟩
  case round =>
   obtain ⟨k, Y, rfl, U, rfl, j⟩ := hrel;by_cases F : k < f.length
   ·have O : (k : Int) < (f.length : Int) := by omega
    obtain ⟨x, D⟩ : ∃ x, f[k]? = some x := ⟨_, List.getElem?_eq_getElem F⟩;have V := slrd_keep H0.out fun k Y => j.block k Y;obtain ⟨b, d, R, rfl, g, c⟩ := slrd_at V D;have s : Hid (coreR.rd wr R x) := g;obtain ⟨B, v, A, o, r, m, p, y, C, z, rfl⟩ := core_shape g;have x0 := c 0 _ rfl;have x1 := c 1 _ rfl;have x2 := c 2 _ rfl;have x3 := c 3 _ rfl;have x4 := c 4 _ rfl;have x5 := c 5 _ rfl;have x6 := c 6 _ rfl;have x7 := c 7 _ rfl;have x8 := c 8 _ rfl;rw [show d + (k * coreR.size + 0) = d + k * 9 from rfl] at x0;rw [show d + (k * coreR.size + 1) = d + k * 9 + 1 from rfl] at x1;rw [show d + (k * coreR.size + 2) = d + k * 9 + 2 from rfl] at x2;rw [show d + (k * coreR.size + 3) = d + k * 9 + 3 from rfl] at x3;rw [show d + (k * coreR.size + 4) = d + k * 9 + 4 from rfl] at x4;rw [show d + (k * coreR.size + 5) = d + k * 9 + 5 from rfl] at x5;rw [show d + (k * coreR.size + 6) = d + k * 9 + 6 from rfl] at x6;rw [show d + (k * coreR.size + 7) = d + k * 9 + 7 from rfl] at x7;rw [show d + (k * coreR.size + 8) = d + k * 9 + 8 from rfl] at x8;clear c g;have L : Hid _ := sumbk_step (M := coreM) D;have E := sumbk_get (M := coreM) D;clear D V;generalize sumbk coreM (f.take k) = T at U L E ⊢;by_cases S : (((coreM).bk x : Nat) : Int) ≤ left - (f.length : Int) - (T : Int)
    ·have eA : ¬ (left - (f.length : Int) - (T : Int) - (((coreM).bk x : Nat) : Int) < 0) := by omega
     have K : Hid (szI ((coreM).bk x) (left - (f.length : Int) - (T : Int)) = _) := szI_yes S;go_wp2_with (go_at_call 33; refine (szCore_u [sL B x.1.1.length v, sL A x.1.2.length o, sL r x.2.1.length m, nI x.2.2.1, nI x.2.2.2.1, nI x.2.2.2.2.1.1, nI x.2.2.2.2.1.2.1, sL p x.2.2.2.2.1.2.2.length y, sL C x.2.2.2.2.2.length z] x _ _ s.out (by omega) (by omega)).mono ?_; rintro e w' ⟨rfl, n⟩; replace j := below_step j n; clear n; rw [K.out])
     go_roundw
     case rel => exact ⟨k + 1, by omega, by go_num, by have := L.out; omega, by rw [L.out]; go_num, j⟩
     case measure => simp [intOf]; omega
    ·have K : Hid (szI ((coreM).bk x) (left - (f.length : Int) - (T : Int)) = _) := szI_no S;have J : Hid (szI (coresM.bk f) left = -1) := by unfold Hid; rw [X.out]; exact szI_no (by omega)
     go_wp2_with (go_at_call 33; refine (szCore_u [sL B x.1.1.length v, sL A x.1.2.length o, sL r x.2.1.length m, nI x.2.2.1, nI x.2.2.2.1, nI x.2.2.2.2.1.1, nI x.2.2.2.2.1.2.1, sL p x.2.2.2.2.1.2.2.length y, sL C x.2.2.2.2.2.length z] x _ _ s.out (by omega) (by omega)).mono ?_; rintro e w' ⟨rfl, n⟩; replace j := below_step j n; clear n; rw [K.out])
     go_ret
     exact ⟨ret_int J.out.symm, j⟩
   ·have I : k = f.length := by omega
    subst I;rw [List.take_length] at U ⊢;have J : Hid (szI (coresM.bk f) left = left - (f.length : Int) - (sumbk coreM f : Int)) := by unfold Hid; rw [X.out, szI_yes (by omega)]; omega
    go_wp2;go_ret
    exact ⟨ret_int J.out.symm, j⟩
 ·have H : left - (f.length : Int) < 0 := by omega
  rw [szI_no (by omega)];clear l h;go_enter Tryz.func10, Tryz.ntmps10;go_wp2;go_ret
  exact ⟨rfl, Below.refl _ _⟩
theorem Tryz.infoCore : (Tryz.prog.info? 66).map (fun i => (i.zero, i.size, i.bytes)) = some (some (.agg #[sL none 0 0, sL none 0 0, sL none 0 0, nI 0, nI 0, nI 0, nI 0, sL none 0 0, sL none 0 0]), 9, 152) := by kernel_rfl
theorem toCores_u : ToC 19 coresR coresM cell1 := by
 rintro cs g w ⟨a, S, rfl, l1, l2, h⟩ K;show Calls Tryz.prog 19 #[sL a g.length S] w _
 have G : coresM.bk g = g.length + sumbk coreM g := rfl;have vA : g.length ≤ 1048576 := by omega
 have HB : Hid (sumbk coreM g ≤ 1048576) := by unfold Hid; omega
 have H0 : Hid (SlRd coreR w a g) := h;clear G K h l1 l2;have v := run_make_wide (P := Tryz.prog) 42 66 (.agg #[sL none 0 0, sL none 0 0, sL none 0 0, nI 0, nI 0, nI 0, nI 0, sL none 0 0, sL none 0 0]) 9 152 Tryz.underlying42 Tryz.infoCore g.length (by omega) (by omega);go_enter Tryz.func19, Tryz.ntmps19;go_wp2;go_loopw [4] (fun i wr => ∃ k : Nat, k ≤ g.length ∧ i = nI k ∧ Fill 66 coreR w wr g.length (g.take k)) (fun i _ => g.length - (intOf i).toNat)
 case atStart => exact ⟨0, Nat.zero_le _, rfl, by simpa using fillR_start (e := 66) (R := coreR) (w0 := w) (n := g.length) (cs := madeCells #[sL none 0 0, sL none 0 0, sL none 0 0, nI 0, nI 0, nI 0, nI 0, sL none 0 0, sL none 0 0] (g.length * 9)) (by unfold maxLen; omega) (by rw [size_madeCells]; rfl)⟩
 case round =>
  obtain ⟨k, hk, rfl, o⟩ := hrel;by_cases p : k < g.length
  ·have bA : (k : Int) < (g.length : Int) := by omega
   obtain ⟨x, q⟩ : ∃ x, g[k]? = some x := ⟨_, List.getElem?_eq_getElem p⟩;obtain ⟨b, f, cs, rfl, j, d⟩ := slrd_at (slrd_next H0.out (fill_below o)) q;have H : Hid (coreR.rd wr cs x) := j;obtain ⟨Y, T, D, F, z, N, M, U, Z, C, rfl⟩ := core_shape j;have x0 := d 0 _ rfl;have x1 := d 1 _ rfl;have x2 := d 2 _ rfl;have x3 := d 3 _ rfl;have x4 := d 4 _ rfl;have x5 := d 5 _ rfl;have x6 := d 6 _ rfl;have x7 := d 7 _ rfl;have x8 := d 8 _ rfl;rw [show f + (k * coreR.size + 0) = f + k * 9 from rfl] at x0;rw [show f + (k * coreR.size + 1) = f + k * 9 + 1 from rfl] at x1;rw [show f + (k * coreR.size + 2) = f + k * 9 + 2 from rfl] at x2;rw [show f + (k * coreR.size + 3) = f + k * 9 + 3 from rfl] at x3;rw [show f + (k * coreR.size + 4) = f + k * 9 + 4 from rfl] at x4;rw [show f + (k * coreR.size + 5) = f + k * 9 + 5 from rfl] at x5;rw [show f + (k * coreR.size + 6) = f + k * 9 + 6 from rfl] at x6;rw [show f + (k * coreR.size + 7) = f + k * 9 + 7 from rfl] at x7;rw [show f + (k * coreR.size + 8) = f + k * 9 + 8 from rfl] at x8;have HX : Hid (coreM.bk x ≤ 1048576) := by unfold Hid; have := sumbk_ge coreM g q; have := HB.out; omega
   have FS : Hid (∀ w1 c, MadeR coreR wr w1 c x → _) := fun w1 c K => fillR_step (w1 := w1) (c := c) o (by simp; omega) p K;have HP : Hid (g.take k ++ [x] = g.take (k + 1)) := by unfold Hid; rw [List.take_add_one, q]; rfl
   clear q j d v o;go_wp2_with fail
   refine (toCore_u [sL Y x.1.1.length T, sL D x.1.2.length F, sL z x.2.1.length N, nI x.2.2.1, nI x.2.2.2.1, nI x.2.2.2.2.1.1, nI x.2.2.2.2.1.2.1, sL M x.2.2.2.2.1.2.2.length U, sL Z x.2.2.2.2.2.length C] x _ H.out HX.out).mono ?_;rintro e w1 ⟨ds, rfl, I⟩;obtain ⟨IA, zA, HA, BA, GA, yA, sA, EA, mA, CA, rfl⟩ := core_shape (coreR.own_rd I.1);rw [aE];obtain ⟨l, m, A⟩ := FS.out _ _ I;obtain ⟨v0, E⟩ := l 0 (by decide);obtain ⟨v1, X⟩ := l 1 (by decide);obtain ⟨v2, y⟩ := l 2 (by decide);obtain ⟨v3, r⟩ := l 3 (by decide);obtain ⟨v4, s⟩ := l 4 (by decide);obtain ⟨v5, L⟩ := l 5 (by decide);obtain ⟨v6, V⟩ := l 6 (by decide);obtain ⟨v7, O⟩ := l 7 (by decide);obtain ⟨v8, J⟩ := l 8 (by decide);have z0 := m (k * 9);have z1 := m (k * 9 + 1);have z2 := m (k * 9 + 2);have z3 := m (k * 9 + 3);have z4 := m (k * 9 + 4);have z5 := m (k * 9 + 5);have z6 := m (k * 9 + 6);have z7 := m (k * 9 + 7);have z8 := m (k * 9 + 8);rw [show k * coreR.size + 0 = k * 9 from rfl] at E;rw [show k * coreR.size + 1 = k * 9 + 1 from rfl] at X;rw [show k * coreR.size + 2 = k * 9 + 2 from rfl] at y;rw [show k * coreR.size + 3 = k * 9 + 3 from rfl] at r;rw [show k * coreR.size + 4 = k * 9 + 4 from rfl] at s;rw [show k * coreR.size + 5 = k * 9 + 5 from rfl] at L;rw [show k * coreR.size + 6 = k * 9 + 6 from rfl] at V;rw [show k * coreR.size + 7 = k * 9 + 7 from rfl] at O;rw [show k * coreR.size + 8 = k * 9 + 8 from rfl] at J;rw [HP.out] at A;have HF : Hid _ := A;clear A I l m FS x0 x1 x2 x3 x4 x5 x6 x7 x8;go_wp2;go_roundw
   case rel => exact ⟨k + 1, by omega, by go_num, HF.out⟩
   case measure => simp [intOf]; omega
  ·have B : k = g.length := by omega
   subst B;rw [List.take_length] at o;have FE := fillR_end o rfl;clear o;go_wp2;go_ret
   exact ⟨[_], rfl, FE⟩
theorem eqCores_u : EqC 27 coresR coresM cell1 := by
 rintro cs ds f w ⟨a1, c1, rfl, l1, l2, h1⟩ ⟨a2, c2, rfl, k1, k2, h2⟩ hm;show Calls Tryz.prog 27 #[sL a1 f.length c1, sL a2 f.length c2] w _
 have HA : coresM.bk f = f.length + sumbk coreM f := rfl;have s : f.length ≤ lot := by omega
 have HB : Hid (sumbk coreM f ≤ lot) := by unfold Hid; omega
 have H1 : Hid (∀ W, Bl w W → SlRd coreR W a1 f) := fun W hb => slrd_keep h1 fun k hk => hb.block k hk;have H2 : Hid (∀ W, Bl w W → SlRd coreR W a2 f) := fun W hb => slrd_keep h2 fun k hk => hb.block k hk;have VA : f.length ≤ 4398046511104 := s;clear HA hm h1 h2 l1 l2 k1 k2 s;go_enter Tryz.func27, Tryz.ntmps27;go_wp2;go_loopw [5] (fun i wr => ∃ k : Nat, k ≤ f.length ∧ i = nI k ∧ Bl w wr) (fun i _ => f.length - (intOf i).toNat)
 case atStart => exact ⟨0, Nat.zero_le _, rfl, Below.refl _ _⟩
 case round =>
  obtain ⟨k, hk, rfl, o⟩ := hrel;by_cases JA : k < f.length
  ·have RA : (k : Int) < (f.length : Int) := by omega
   obtain ⟨x, hx⟩ : ∃ x, f[k]? = some x := ⟨_, List.getElem?_eq_getElem JA⟩;have HX : Hid (coreM.bk x ≤ lot) := by unfold Hid; have := sumbk_ge coreM f hx; have := HB.out; omega
   obtain ⟨m, a, vA, rfl, l, c⟩ := slrd_at (H1.out _ o) hx;have pA : Hid (∀ n : Cls (fun wx => Bl wr wx), coreR.rd n.w vA x) := fun n => rd_next l n.h;obtain ⟨N, A, L, C, J, y, r, G, q, D, rfl⟩ := core_shape l;have U := c 0 _ rfl;have O := c 1 _ rfl;have s2 := c 2 _ rfl;have s3 := c 3 _ rfl;have s4 := c 4 _ rfl;have Z := c 5 _ rfl;have s6 := c 6 _ rfl;have s7 := c 7 _ rfl;have s8 := c 8 _ rfl;rw [show a + (k * coreR.size + 0) = a + k * 9 from rfl] at U;rw [show a + (k * coreR.size + 1) = a + k * 9 + 1 from rfl] at O;rw [show a + (k * coreR.size + 2) = a + k * 9 + 2 from rfl] at s2;rw [show a + (k * coreR.size + 3) = a + k * 9 + 3 from rfl] at s3;rw [show a + (k * coreR.size + 4) = a + k * 9 + 4 from rfl] at s4;rw [show a + (k * coreR.size + 5) = a + k * 9 + 5 from rfl] at Z;rw [show a + (k * coreR.size + 6) = a + k * 9 + 6 from rfl] at s6;rw [show a + (k * coreR.size + 7) = a + k * 9 + 7 from rfl] at s7;rw [show a + (k * coreR.size + 8) = a + k * 9 + 8 from rfl] at s8;clear c l;obtain ⟨g, b, zA, rfl, j, d⟩ := slrd_at (H2.out _ o) hx;have KA : Hid (∀ n : Cls (fun wx => Bl wr wx), coreR.rd n.w zA x) := fun n => rd_next j n.h;obtain ⟨K, H, z, B, p, F, E, I, M, v, rfl⟩ := core_shape j;have V := d 0 _ rfl;have t1 := d 1 _ rfl;have S := d 2 _ rfl;have R := d 3 _ rfl;have Y := d 4 _ rfl;have t5 := d 5 _ rfl;have t6 := d 6 _ rfl;have T := d 7 _ rfl;have X := d 8 _ rfl;rw [show b + (k * coreR.size + 0) = b + k * 9 from rfl] at V;rw [show b + (k * coreR.size + 1) = b + k * 9 + 1 from rfl] at t1;rw [show b + (k * coreR.size + 2) = b + k * 9 + 2 from rfl] at S;rw [show b + (k * coreR.size + 3) = b + k * 9 + 3 from rfl] at R;rw [show b + (k * coreR.size + 4) = b + k * 9 + 4 from rfl] at Y;rw [show b + (k * coreR.size + 5) = b + k * 9 + 5 from rfl] at t5;rw [show b + (k * coreR.size + 6) = b + k * 9 + 6 from rfl] at t6;rw [show b + (k * coreR.size + 7) = b + k * 9 + 7 from rfl] at T;rw [show b + (k * coreR.size + 8) = b + k * 9 + 8 from rfl] at X;clear d j;have oA : ∀ n : Cls (fun wx => Bl wr wx), n.w.cell? ⟨m, a + k * 9, none⟩ = some (sL N x.1.1.length A) := fun n => cell_keep n.h U (cell_lt U);have EA : ∀ n : Cls (fun wx => Bl wr wx), n.w.cell? ⟨m, a + k * 9 + 1, none⟩ = some (sL L x.1.2.length C) := fun n => cell_keep n.h O (cell_lt O);have mA : ∀ n : Cls (fun wx => Bl wr wx), n.w.cell? ⟨m, a + k * 9 + 2, none⟩ = some (sL J x.2.1.length y) := fun n => cell_keep n.h s2 (cell_lt s2);have FA : ∀ n : Cls (fun wx => Bl wr wx), n.w.cell? ⟨m, a + k * 9 + 3, none⟩ = some (nI x.2.2.1) := fun n => cell_keep n.h s3 (cell_lt s3);have DA : ∀ n : Cls (fun wx => Bl wr wx), n.w.cell? ⟨m, a + k * 9 + 4, none⟩ = some (nI x.2.2.2.1) := fun n => cell_keep n.h s4 (cell_lt s4);have IA : ∀ n : Cls (fun wx => Bl wr wx), n.w.cell? ⟨m, a + k * 9 + 5, none⟩ = some (nI x.2.2.2.2.1.1) := fun n => cell_keep n.h Z (cell_lt Z);have OA : ∀ n : Cls (fun wx => Bl wr wx), n.w.cell? ⟨m, a + k * 9 + 6, none⟩ = some (nI x.2.2.2.2.1.2.1) := fun n => cell_keep n.h s6 (cell_lt s6);have sA : ∀ n : Cls (fun wx => Bl wr wx), n.w.cell? ⟨m, a + k * 9 + 7, none⟩ = some (sL r x.2.2.2.2.1.2.2.length G) := fun n => cell_keep n.h s7 (cell_lt s7);have CA : ∀ n : Cls (fun wx => Bl wr wx), n.w.cell? ⟨m, a + k * 9 + 8, none⟩ = some (sL q x.2.2.2.2.2.length D) := fun n => cell_keep n.h s8 (cell_lt s8);have nA : ∀ n : Cls (fun wx => Bl wr wx), n.w.cell? ⟨g, b + k * 9, none⟩ = some (sL K x.1.1.length H) := fun n => cell_keep n.h V (cell_lt V);have qA : ∀ n : Cls (fun wx => Bl wr wx), n.w.cell? ⟨g, b + k * 9 + 1, none⟩ = some (sL z x.1.2.length B) := fun n => cell_keep n.h t1 (cell_lt t1);have LA : ∀ n : Cls (fun wx => Bl wr wx), n.w.cell? ⟨g, b + k * 9 + 2, none⟩ = some (sL p x.2.1.length F) := fun n => cell_keep n.h S (cell_lt S);have rA : ∀ n : Cls (fun wx => Bl wr wx), n.w.cell? ⟨g, b + k * 9 + 3, none⟩ = some (nI x.2.2.1) := fun n => cell_keep n.h R (cell_lt R);have MA : ∀ n : Cls (fun wx => Bl wr wx), n.w.cell? ⟨g, b + k * 9 + 4, none⟩ = some (nI x.2.2.2.1) := fun n => cell_keep n.h Y (cell_lt Y);have BA : ∀ n : Cls (fun wx => Bl wr wx), n.w.cell? ⟨g, b + k * 9 + 5, none⟩ = some (nI x.2.2.2.2.1.1) := fun n => cell_keep n.h t5 (cell_lt t5);have AA : ∀ n : Cls (fun wx => Bl wr wx), n.w.cell? ⟨g, b + k * 9 + 6, none⟩ = some (nI x.2.2.2.2.1.2.1) := fun n => cell_keep n.h t6 (cell_lt t6);have GA : ∀ n : Cls (fun wx => Bl wr wx), n.w.cell? ⟨g, b + k * 9 + 7, none⟩ = some (sL E x.2.2.2.2.1.2.2.length I) := fun n => cell_keep n.h T (cell_lt T);have NA : ∀ n : Cls (fun wx => Bl wr wx), n.w.cell? ⟨g, b + k * 9 + 8, none⟩ = some (sL M x.2.2.2.2.2.length v) := fun n => cell_keep n.h X (cell_lt X);clear hx U O s2 s3 s4 Z s6 s7 s8 V t1 S R Y t5 t6 T X;go_wp2_with fail
   refine region_class (fun wx => Bl wr wx) (by kernel_rfl) (by kernel_rfl) ((Below.refl _ wr).drew) ?_;intro yA;repeat (quiet_step ((go_at_call 64; exact calls_class (eqCore_u [sL N x.1.1.length A, sL L x.1.2.length C, sL J x.2.1.length y, nI x.2.2.1, nI x.2.2.2.1, nI x.2.2.2.2.1.1, nI x.2.2.2.2.1.2.1, sL r x.2.2.2.2.1.2.2.length G, sL q x.2.2.2.2.2.length D] [sL K x.1.1.length H, sL z x.1.2.length B, sL p x.2.1.length F, nI x.2.2.1, nI x.2.2.2.1, nI x.2.2.2.2.1.1, nI x.2.2.2.2.1.2.1, sL E x.2.2.2.2.1.2.2.length I, sL M x.2.2.2.2.2.length v] x _ (pA.out _) (KA.out _) HX.out) (fun w' hc bb => below_step hc bb))))
   refine wpQuiet_nil ?_;intro wx g;replace o := below_step o g;clear g yA oA EA mA FA DA IA OA sA CA nA qA LA rA MA BA AA GA NA;go_wp2;go_roundw
   case rel => exact ⟨k + 1, by omega, by go_num, o⟩
   case measure => simp [intOf]; omega
  ·go_wp2;go_ret
   exact ⟨rfl, o⟩
end Go.Proofs.YtglejdilghcbaaaGreatDoor
