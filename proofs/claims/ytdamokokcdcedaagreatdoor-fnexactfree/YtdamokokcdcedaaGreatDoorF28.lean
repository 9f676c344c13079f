import Derived.Test.YtdamokokcdcedaaGreatDoorF00Box
import Derived.Test.YtdamokokcdcedaaGreatDoorF27
namespace Go.Proofs.YtdamokokcdcedaaGreatDoor
set_option maxHeartbeats 4000000
open Go.ChangeShapes Go.WideShapes Go.ChangeAt Go.RowKit
set_option linter.unusedVariables false
theorem who_bd {o s : Int} (h : whoB o s = true) : -1 ≤ o ∧ o ≤ 3 ∧ 0 ≤ s ∧ s ≤ 15 := by
 simp [whoB, betw] at h
 omega
theorem who_of {o s : Int} {b : Bool} {k f l m : Int} {d : List Int} (h : entB (o, s, b, k, f, l, m, d) = true) : whoB o s = true := by rw [eb] at h; exact (Bool.and_eq_true _ _ ▸ h).1
theorem implHolders_any (o s k f l m : Int) (b : Bool) (d : List Int) (a : Option Addr) (cap : Nat) (w : World) (h : SlRd intR w a d) :
    Calls Tryz.prog 176 #[.agg #[nI o, nI s, .bool b, nI k, nI f, nI l, nI m, sL a d.length cap]] w fun e w' => ∃ v, e = .returned v ∧ Made w w' v (if entB (o, s, b, k, f, l, m, d) then hoI o s else []) := by
 have X := heap_at w (.cells #[nI o, nI s, .bool b, nI k, nI f, nI l, nI m, sL a d.length cap] 101);have B := box_below w (.cells #[nI o, nI s, .bool b, nI k, nI f, nI l, nI m, sL a d.length cap] 101);have c : Hid _ := fun (W : World) (hb : Bl w W) => implEntryOk_any o s k f l m b d a cap W (slrd_next h hb);clear h;cases j : entB (o, s, b, k, f, l, m, d)
 ·rw [j] at c;go_enter Tryz.func176, Tryz.ntmps176;go_wp2_with fail
  generalize w.alloc (.cells #[nI o, nI s, .bool b, nI k, nI f, nI l, nI m, sL a d.length cap] 101) = W0 at X B ⊢;refine (c.out _ B).mono ?_;rintro e i ⟨rfl, g⟩;have M : Hid (Made w (i.alloc (.cells #[] 2)) (sL (some ⟨i.heap.size, 0, none⟩) 0 0) []) := made_step (below_step B g) (made_lit i #[] [] rfl (by unfold maxLen; simp));clear g c X B;go_wp2;go_ret
  exact ⟨_, rfl, M.out⟩
 ·rw [j] at c;have q : Hid (holL o s 8 = hoI o s) := holL_eq (who_of j);go_enter Tryz.func176, Tryz.ntmps176;go_wp2_with fail
  generalize w.alloc (.cells #[nI o, nI s, .bool b, nI k, nI f, nI l, nI m, sL a d.length cap] 101) = W0 at X B ⊢;refine (c.out _ B).mono ?_;rintro e i ⟨rfl, g⟩;replace X := row_keep g X;replace B := below_step B g;obtain ⟨A, G, z, C, r, F, H, y⟩ := cells_8 X;clear g c X;go_wp2_with fail
  refine (page_any o s k f l m b _ _).mono ?_;rintro e w2 ⟨rfl, p⟩;replace B := below_step B p;clear p A G z C r F H y;go_wp2_with (go_at_call 223; refine (chosenP_any o s _).mono ?_; rintro e E ⟨v, rfl, n⟩; rw [q.out] at n; have D : Hid (Made w E v (hoI o s)) := made_step B n; clear n)
  go_ret
  exact ⟨_, rfl, D.out⟩
theorem mems_in {s : Int} : ∀ {k : Nat} {x : Int}, x ∈ mems s k → 0 ≤ x ∧ x < k
 | 0, x, h => by simp [mems] at h
 | k + 1, x, h => by
  unfold mems at h;split at h
  ·rcases List.mem_append.1 h with h | h
   ·have := mems_in h; omega
   ·simp at h; omega
  ·have := mems_in h; omega
theorem ho_small {o s : Int} (h : whoB o s = true) : (hoI o s).length ≤ 8 ∧ ∀ x ∈ hoI o s, 0 ≤ x ∧ x < 8 := by
 have hb := who_bd h;unfold hoI;split
 ·exact ⟨by simp, fun x hx => by simp at hx; omega⟩
 ·exact ⟨mems_le s 8, fun x hx => mems_in hx⟩
theorem hold_small (u : EntryD) : (if entB u then hoI u.1 u.2.1 else []).length ≤ 8 ∧ Hid (∀ x ∈ (if entB u then hoI u.1 u.2.1 else []), In64 x) := by
 cases a : entB u
 ·exact ⟨by simp, fun x hx => by simp at hx⟩
 ·have c : whoB u.1 u.2.1 = true := by unfold entB at a; exact (Bool.and_eq_true _ _ ▸ a).1
  obtain ⟨d, b⟩ := ho_small c;exact ⟨d, fun x hx => ⟨by have := b x hx; omega, by have := b x hx; omega⟩⟩
abbrev coresR : Rep (List CoreD) := slR 98 coreR
abbrev coresM : Mk (List CoreD) := slM coreM
theorem opens_cores : Opens Tryz.prog 28 coresR := opens_slice Tryz.underlying28 (by kernel_rfl) (by decide) opens_core
theorem szCores_u : SzC 20 coresR coresM cell1 := by
 rintro V f left w ⟨a, E, rfl, N, R, h⟩ h0 h1;show Calls Tryz.prog 20 #[sL a f.length E, nI left] w _
 have aA : f.length ≤ 9223372036854775807 := Nat.le_trans N R;have l : coresM.bk f = f.length + sumbk coreM f := rfl;clear N R;by_cases hl : (f.length : Int) ≤ left
 ·have I : ¬ (left - (f.length : Int) < 0) := by omega
  have O : Hid _ := l;have H0 : Hid (SlRd coreR w a f) := h;clear l h;go_enter Tryz.func20, Tryz.ntmps20;go_wp2;go_loopw [1, 5] (fun q i wr => ∃ k : Nat, k ≤ f.length ∧ i = nI k ∧ (sumbk coreM (f.take k) : Int) + f.length ≤ left ∧ q = nI (left - (f.length : Int) - sumbk coreM (f.take k)) ∧ Bl w wr) (fun _ i _ => f.length - (intOf i).toNat)
  case atStart => exact ⟨0, Nat.zero_le _, rfl, by simp [sumbk]; omega, by simp [sumbk], Below.refl _ _⟩
  case round =>
   obtain ⟨k, X, rfl, Y, rfl, j⟩ := hrel;by_cases L : k < f.length
   ·have Z : (k : Int) < (f.length : Int) := by omega
    obtain ⟨x, D⟩ : ∃ x, f[k]? = some x := ⟨_, List.getElem?_eq_getElem L⟩;have S := slrd_keep H0.out fun k X => j.block k X;obtain ⟨b, d, V, rfl, g, c⟩ := slrd_at S D;have C : Hid (coreR.rd wr V x) := g;obtain ⟨z, s, n, A, v, r, B, p, m, o, rfl⟩ := core_shape g;have x0 := c 0 _ rfl;have x1 := c 1 _ rfl;have x2 := c 2 _ rfl;have x3 := c 3 _ rfl;have x4 := c 4 _ rfl;have x5 := c 5 _ rfl;have x6 := c 6 _ rfl;have x7 := c 7 _ rfl;have x8 := c 8 _ rfl;rw [show d + (k * coreR.size + 0) = d + k * 9 from rfl] at x0;rw [show d + (k * coreR.size + 1) = d + k * 9 + 1 from rfl] at x1;rw [show d + (k * coreR.size + 2) = d + k * 9 + 2 from rfl] at x2;rw [show d + (k * coreR.size + 3) = d + k * 9 + 3 from rfl] at x3;rw [show d + (k * coreR.size + 4) = d + k * 9 + 4 from rfl] at x4;rw [show d + (k * coreR.size + 5) = d + k * 9 + 5 from rfl] at x5;rw [show d + (k * coreR.size + 6) = d + k * 9 + 6 from rfl] at x6;rw [show d + (k * coreR.size + 7) = d + k * 9 + 7 from rfl] at x7;rw [show d + (k * coreR.size + 8) = d + k * 9 + 8 from rfl] at x8;clear c g;have F : Hid _ := sumbk_step (M := coreM) D;have G := sumbk_get (M := coreM) D;clear D S;generalize sumbk coreM (f.take k) = T at Y F G ⊢;by_cases U : (((coreM).bk x : Nat) : Int) ≤ left - (f.length : Int) - (T : Int)
    ·have kA : ¬ (left - (f.length : Int) - (T : Int) - (((coreM).bk x : Nat) : Int) < 0) := by omega
     have H : Hid (szI ((coreM).bk x) (left - (f.length : Int) - (T : Int)) = _) := szI_yes U;go_wp2_with (go_at_call 62; refine (szCore_u [sL z x.1.1.length s, sL n x.1.2.length A, sL v x.2.1.length r, nI x.2.2.1, nI x.2.2.2.1, nI x.2.2.2.2.1.1, nI x.2.2.2.2.1.2.1, sL B x.2.2.2.2.1.2.2.length p, sL m x.2.2.2.2.2.length o] x _ _ C.out (by omega) (by omega)).mono ?_; rintro e w' ⟨rfl, y⟩; replace j := below_step j y; clear y; rw [H.out])
     go_roundw
     case rel => exact ⟨k + 1, by omega, by go_num, by have := F.out; omega, by rw [F.out]; go_num, j⟩
     case measure => simp [intOf]; omega
    ·have H : Hid (szI ((coreM).bk x) (left - (f.length : Int) - (T : Int)) = _) := szI_no U;have J : Hid (szI (coresM.bk f) left = -1) := by unfold Hid; rw [O.out]; exact szI_no (by omega)
     go_wp2_with (go_at_call 62; refine (szCore_u [sL z x.1.1.length s, sL n x.1.2.length A, sL v x.2.1.length r, nI x.2.2.1, nI x.2.2.2.1, nI x.2.2.2.2.1.1, nI x.2.2.2.2.1.2.1, sL B x.2.2.2.2.1.2.2.length p, sL m x.2.2.2.2.2.length o] x _ _ C.out (by omega) (by omega)).mono ?_; rintro e w' ⟨rfl, y⟩; replace j := below_step j y; clear y; rw [H.out])
     go_ret
     exact ⟨ret_int J.out.symm, j⟩
   ·have K : k = f.length := by omega
    subst K;rw [List.take_length] at Y ⊢;have J : Hid (szI (coresM.bk f) left = left - (f.length : Int) - (sumbk coreM f : Int)) := by unfold Hid; rw [O.out, szI_yes (by omega)]; omega
    go_wp2;go_ret
    exact ⟨ret_int J.out.symm, j⟩
 ·have I : left - (f.length : Int) < 0 := by omega
  rw [szI_no (by omega)];clear l h;go_enter Tryz.func20, Tryz.ntmps20;go_wp2;go_ret
  exact ⟨rfl, Below.refl _ _⟩
theorem Tryz.infoCore : (Tryz.prog.info? 98).map (fun i => (i.zero, i.size, i.bytes)) = some (some (.agg #[sL none 0 0, sL none 0 0, sL none 0 0, nI 0, nI 0, nI 0, nI 0, sL none 0 0, sL none 0 0]), 9, 152) := by kernel_rfl
theorem toCores_u : ToC 28 coresR coresM cell1 := by
 rintro cs g w ⟨a, r, rfl, l1, l2, h⟩ F;show Calls Tryz.prog 28 #[sL a g.length r] w _
 have z : coresM.bk g = g.length + sumbk coreM g := rfl;have mA : g.length ≤ 1048576 := by omega
 have HB : Hid (sumbk coreM g ≤ 1048576) := by unfold Hid; omega
 have H0 : Hid (SlRd coreR w a g) := h;clear z F h l1 l2;have G := run_make_wide (P := Tryz.prog) 42 98 (.agg #[sL none 0 0, sL none 0 0, sL none 0 0, nI 0, nI 0, nI 0, nI 0, sL none 0 0, sL none 0 0]) 9 152 Tryz.underlying42 Tryz.infoCore g.length (by omega) (by omega);go_enter Tryz.func28, Tryz.ntmps28;go_wp2;go_loopw [4] (fun i wr => ∃ k : Nat, k ≤ g.length ∧ i = nI k ∧ Fill 98 coreR w wr g.length (g.take k)) (fun i _ => g.length - (intOf i).toNat)
 case atStart => exact ⟨0, Nat.zero_le _, rfl, by simpa using fillR_start (e := 98) (R := coreR) (w0 := w) (n := g.length) (cs := madeCells #[sL none 0 0, sL none 0 0, sL none 0 0, nI 0, nI 0, nI 0, nI 0, sL none 0 0, sL none 0 0] (g.length * 9)) (by unfold maxLen; omega) (by rw [size_madeCells]; rfl)⟩
 case round =>
  obtain ⟨k, hk, rfl, o⟩ := hrel;by_cases p : k < g.length
  ·have kA : (k : Int) < (g.length : Int) := by omega
   obtain ⟨x, q⟩ : ∃ x, g[k]? = some x := ⟨_, List.getElem?_eq_getElem p⟩;obtain ⟨b, f, cs, rfl, j, d⟩ := slrd_at (slrd_next H0.out (fill_below o)) q;have Z : Hid (coreR.rd wr cs x) := j;obtain ⟨B, M, I, O, A, V, X, K, T, v, rfl⟩ := core_shape j;have x0 := d 0 _ rfl;have x1 := d 1 _ rfl;have x2 := d 2 _ rfl;have x3 := d 3 _ rfl;have x4 := d 4 _ rfl;have x5 := d 5 _ rfl;have x6 := d 6 _ rfl;have x7 := d 7 _ rfl;have x8 := d 8 _ rfl;rw [show f + (k * coreR.size + 0) = f + k * 9 from rfl] at x0;rw [show f + (k * coreR.size + 1) = f + k * 9 + 1 from rfl] at x1;rw [show f + (k * coreR.size + 2) = f + k * 9 + 2 from rfl] at x2;rw [show f + (k * coreR.size + 3) = f + k * 9 + 3 from rfl] at x3;rw [show f + (k * coreR.size + 4) = f + k * 9 + 4 from rfl] at x4;rw [show f + (k * coreR.size + 5) = f + k * 9 + 5 from rfl] at x5;rw [show f + (k * coreR.size + 6) = f + k * 9 + 6 from rfl] at x6;rw [show f + (k * coreR.size + 7) = f + k * 9 + 7 from rfl] at x7;rw [show f + (k * coreR.size + 8) = f + k * 9 + 8 from rfl] at x8;have HX : Hid (coreM.bk x ≤ 1048576) := by unfold Hid; have := sumbk_ge coreM g q; have := HB.out; omega
   have FS : Hid (∀ w1 c, MadeR coreR wr w1 c x → _) := fun w1 c F => fillR_step (w1 := w1) (c := c) o (by simp; omega) p F;have HP : Hid (g.take k ++ [x] = g.take (k + 1)) := by unfold Hid; rw [List.take_add_one, q]; rfl
   clear q j d G o;go_wp2_with fail
   refine (toCore_u [sL B x.1.1.length M, sL I x.1.2.length O, sL A x.2.1.length V, nI x.2.2.1, nI x.2.2.2.1, nI x.2.2.2.2.1.1, nI x.2.2.2.2.1.2.1, sL X x.2.2.2.2.1.2.2.length K, sL T x.2.2.2.2.2.length v] x _ Z.out HX.out).mono ?_;rintro e w1 ⟨ds, rfl, H⟩;obtain ⟨CA, DA, sA, HA, pA, nA, yA, FA, IA, BA, rfl⟩ := core_shape (coreR.own_rd H.1);rw [aE];obtain ⟨m, l, E⟩ := FS.out _ _ H;obtain ⟨v0, y⟩ := m 0 (by decide);obtain ⟨v1, C⟩ := m 1 (by decide);obtain ⟨v2, N⟩ := m 2 (by decide);obtain ⟨v3, U⟩ := m 3 (by decide);obtain ⟨v4, J⟩ := m 4 (by decide);obtain ⟨v5, Y⟩ := m 5 (by decide);obtain ⟨v6, L⟩ := m 6 (by decide);obtain ⟨v7, s⟩ := m 7 (by decide);obtain ⟨v8, S⟩ := m 8 (by decide);have z0 := l (k * 9);have z1 := l (k * 9 + 1);have z2 := l (k * 9 + 2);have z3 := l (k * 9 + 3);have z4 := l (k * 9 + 4);have z5 := l (k * 9 + 5);have z6 := l (k * 9 + 6);have z7 := l (k * 9 + 7);have z8 := l (k * 9 + 8);rw [show k * coreR.size + 0 = k * 9 from rfl] at y;rw [show k * coreR.size + 1 = k * 9 + 1 from rfl] at C;rw [show k * coreR.size + 2 = k * 9 + 2 from rfl] at N;rw [show k * coreR.size + 3 = k * 9 + 3 from rfl] at U;rw [show k * coreR.size + 4 = k * 9 + 4 from rfl] at J;rw [show k * coreR.size + 5 = k * 9 + 5 from rfl] at Y;rw [show k * coreR.size + 6 = k * 9 + 6 from rfl] at L;rw [show k * coreR.size + 7 = k * 9 + 7 from rfl] at s;rw [show k * coreR.size + 8 = k * 9 + 8 from rfl] at S;rw [HP.out] at E;have HF : Hid _ := E;clear E H m l FS x0 x1 x2 x3 x4 x5 x6 x7 x8;go_wp2;go_roundw
   case rel => exact ⟨k + 1, by omega, by go_num, HF.out⟩
   case measure => simp [intOf]; omega
  ·have D : k = g.length := by omega
   subst D;rw [List.take_length] at o;have FE := fillR_end o rfl;clear o;go_wp2;go_ret
   exact ⟨[_], rfl, FE⟩
theorem eqCores_u : EqC 42 coresR coresM cell1 := by
 rintro cs ds f w ⟨a1, c1, rfl, l1, l2, h1⟩ ⟨a2, c2, rfl, k1, k2, h2⟩ hm;show Calls Tryz.prog 42 #[sL a1 f.length c1, sL a2 f.length c2] w _
 have qA : coresM.bk f = f.length + sumbk coreM f := rfl;have q : f.length ≤ lot := by omega
 have HB : Hid (sumbk coreM f ≤ lot) := by unfold Hid; omega
 have H1 : Hid (∀ W, Bl w W → SlRd coreR W a1 f) := fun W hb => slrd_keep h1 fun k U => hb.block k U;have H2 : Hid (∀ W, Bl w W → SlRd coreR W a2 f) := fun W hb => slrd_keep h2 fun k U => hb.block k U;have TA : f.length ≤ 4398046511104 := q;clear qA hm h1 h2 l1 l2 k1 k2 q;go_enter Tryz.func42, Tryz.ntmps42;go_wp2;go_loopw [5] (fun i wr => ∃ k : Nat, k ≤ f.length ∧ i = nI k ∧ Bl w wr) (fun i _ => f.length - (intOf i).toNat)
 case atStart => exact ⟨0, Nat.zero_le _, rfl, Below.refl _ _⟩
 case round =>
  obtain ⟨k, U, rfl, o⟩ := hrel;by_cases CA : k < f.length
  ·have VA : (k : Int) < (f.length : Int) := by omega
   obtain ⟨x, T⟩ : ∃ x, f[k]? = some x := ⟨_, List.getElem?_eq_getElem CA⟩;have HX : Hid (coreM.bk x ≤ lot) := by unfold Hid; have := sumbk_ge coreM f T; have := HB.out; omega
   obtain ⟨m, a, FA, rfl, j, c⟩ := slrd_at (H1.out _ o) T;have OA : Hid (∀ n : Cls (fun wx => Bl wr wx), coreR.rd n.w FA x) := fun n => rd_next j n.h;obtain ⟨E, G, z, M, y, r, A, J, N, C, rfl⟩ := core_shape j;have Y := c 0 _ rfl;have s1 := c 1 _ rfl;have s2 := c 2 _ rfl;have s3 := c 3 _ rfl;have Z := c 4 _ rfl;have s5 := c 5 _ rfl;have s6 := c 6 _ rfl;have s7 := c 7 _ rfl;have V := c 8 _ rfl;rw [show a + (k * coreR.size + 0) = a + k * 9 from rfl] at Y;rw [show a + (k * coreR.size + 1) = a + k * 9 + 1 from rfl] at s1;rw [show a + (k * coreR.size + 2) = a + k * 9 + 2 from rfl] at s2;rw [show a + (k * coreR.size + 3) = a + k * 9 + 3 from rfl] at s3;rw [show a + (k * coreR.size + 4) = a + k * 9 + 4 from rfl] at Z;rw [show a + (k * coreR.size + 5) = a + k * 9 + 5 from rfl] at s5;rw [show a + (k * coreR.size + 6) = a + k * 9 + 6 from rfl] at s6;rw [show a + (k * coreR.size + 7) = a + k * 9 + 7 from rfl] at s7;rw [show a + (k * coreR.size + 8) = a + k * 9 + 8 from rfl] at V;clear c j;obtain ⟨g, b, vA, rfl, l, d⟩ := slrd_at (H2.out _ o) T;have EA : Hid (∀ n : Cls (fun wx => Bl wr wx), coreR.rd n.w vA x) := fun n => rd_next l n.h;obtain ⟨v, F, B, H, s, K, L, D, I, p, rfl⟩ := core_shape l;have R := d 0 _ rfl;have t1 := d 1 _ rfl;have O := d 2 _ rfl;have t3 := d 3 _ rfl;have t4 := d 4 _ rfl;have t5 := d 5 _ rfl;have S := d 6 _ rfl;have t7 := d 7 _ rfl;have X := d 8 _ rfl;rw [show b + (k * coreR.size + 0) = b + k * 9 from rfl] at R;rw [show b + (k * coreR.size + 1) = b + k * 9 + 1 from rfl] at t1;rw [show b + (k * coreR.size + 2) = b + k * 9 + 2 from rfl] at O;rw [show b + (k * coreR.size + 3) = b + k * 9 + 3 from rfl] at t3;rw [show b + (k * coreR.size + 4) = b + k * 9 + 4 from rfl] at t4;rw [show b + (k * coreR.size + 5) = b + k * 9 + 5 from rfl] at t5;rw [show b + (k * coreR.size + 6) = b + k * 9 + 6 from rfl] at S;rw [show b + (k * coreR.size + 7) = b + k * 9 + 7 from rfl] at t7;rw [show b + (k * coreR.size + 8) = b + k * 9 + 8 from rfl] at X;clear d l;have NA : ∀ n : Cls (fun wx => Bl wr wx), n.w.cell? ⟨m, a + k * 9, none⟩ = some (sL E x.1.1.length G) := fun n => cell_keep n.h Y (cell_lt Y);have mA : ∀ n : Cls (fun wx => Bl wr wx), n.w.cell? ⟨m, a + k * 9 + 1, none⟩ = some (sL z x.1.2.length M) := fun n => cell_keep n.h s1 (cell_lt s1);have GA : ∀ n : Cls (fun wx => Bl wr wx), n.w.cell? ⟨m, a + k * 9 + 2, none⟩ = some (sL y x.2.1.length r) := fun n => cell_keep n.h s2 (cell_lt s2);have KA : ∀ n : Cls (fun wx => Bl wr wx), n.w.cell? ⟨m, a + k * 9 + 3, none⟩ = some (nI x.2.2.1) := fun n => cell_keep n.h s3 (cell_lt s3);have BA : ∀ n : Cls (fun wx => Bl wr wx), n.w.cell? ⟨m, a + k * 9 + 4, none⟩ = some (nI x.2.2.2.1) := fun n => cell_keep n.h Z (cell_lt Z);have DA : ∀ n : Cls (fun wx => Bl wr wx), n.w.cell? ⟨m, a + k * 9 + 5, none⟩ = some (nI x.2.2.2.2.1.1) := fun n => cell_keep n.h s5 (cell_lt s5);have MA : ∀ n : Cls (fun wx => Bl wr wx), n.w.cell? ⟨m, a + k * 9 + 6, none⟩ = some (nI x.2.2.2.2.1.2.1) := fun n => cell_keep n.h s6 (cell_lt s6);have oA : ∀ n : Cls (fun wx => Bl wr wx), n.w.cell? ⟨m, a + k * 9 + 7, none⟩ = some (sL A x.2.2.2.2.1.2.2.length J) := fun n => cell_keep n.h s7 (cell_lt s7);have nA : ∀ n : Cls (fun wx => Bl wr wx), n.w.cell? ⟨m, a + k * 9 + 8, none⟩ = some (sL N x.2.2.2.2.2.length C) := fun n => cell_keep n.h V (cell_lt V);have JA : ∀ n : Cls (fun wx => Bl wr wx), n.w.cell? ⟨g, b + k * 9, none⟩ = some (sL v x.1.1.length F) := fun n => cell_keep n.h R (cell_lt R);have IA : ∀ n : Cls (fun wx => Bl wr wx), n.w.cell? ⟨g, b + k * 9 + 1, none⟩ = some (sL B x.1.2.length H) := fun n => cell_keep n.h t1 (cell_lt t1);have AA : ∀ n : Cls (fun wx => Bl wr wx), n.w.cell? ⟨g, b + k * 9 + 2, none⟩ = some (sL s x.2.1.length K) := fun n => cell_keep n.h O (cell_lt O);have HA : ∀ n : Cls (fun wx => Bl wr wx), n.w.cell? ⟨g, b + k * 9 + 3, none⟩ = some (nI x.2.2.1) := fun n => cell_keep n.h t3 (cell_lt t3);have sA : ∀ n : Cls (fun wx => Bl wr wx), n.w.cell? ⟨g, b + k * 9 + 4, none⟩ = some (nI x.2.2.2.1) := fun n => cell_keep n.h t4 (cell_lt t4);have pA : ∀ n : Cls (fun wx => Bl wr wx), n.w.cell? ⟨g, b + k * 9 + 5, none⟩ = some (nI x.2.2.2.2.1.1) := fun n => cell_keep n.h t5 (cell_lt t5);have LA : ∀ n : Cls (fun wx => Bl wr wx), n.w.cell? ⟨g, b + k * 9 + 6, none⟩ = some (nI x.2.2.2.2.1.2.1) := fun n => cell_keep n.h S (cell_lt S);have yA : ∀ n : Cls (fun wx => Bl wr wx), n.w.cell? ⟨g, b + k * 9 + 7, none⟩ = some (sL L x.2.2.2.2.1.2.2.length D) := fun n => cell_keep n.h t7 (cell_lt t7);have rA : ∀ n : Cls (fun wx => Bl wr wx), n.w.cell? ⟨g, b + k * 9 + 8, none⟩ = some (sL I x.2.2.2.2.2.length p) := fun n => cell_keep n.h X (cell_lt X);clear T Y s1 s2 s3 Z s5 s6 s7 V R t1 O t3 t4 t5 S t7 X;go_wp2_with fail
   refine region_class (fun wx => Bl wr wx) (by kernel_rfl) (by kernel_rfl) ((Below.refl _ wr).drew) ?_;intro zA;repeat (quiet_step ((go_at_call 100; exact calls_class (eqCore_u [sL E x.1.1.length G, sL z x.1.2.length M, sL y x.2.1.length r, nI x.2.2.1, nI x.2.2.2.1, nI x.2.2.2.2.1.1, nI x.2.2.2.2.1.2.1, sL A x.2.2.2.2.1.2.2.length J, sL N x.2.2.2.2.2.length C] [sL v x.1.1.length F, sL B x.1.2.length H, sL s x.2.1.length K, nI x.2.2.1, nI x.2.2.2.1, nI x.2.2.2.2.1.1, nI x.2.2.2.2.1.2.1, sL L x.2.2.2.2.1.2.2.length D, sL I x.2.2.2.2.2.length p] x _ (OA.out _) (EA.out _) HX.out) (fun w' hc bb => below_step hc bb))))
   refine wpQuiet_nil ?_;intro wx g;replace o := below_step o g;clear g zA NA mA GA KA BA DA MA oA nA JA IA AA HA sA pA LA yA rA;go_wp2;go_roundw
   case rel => exact ⟨k + 1, by omega, by go_num, o⟩
   case measure => simp [intOf]; omega
  ·go_wp2;go_ret
   exact ⟨rfl, o⟩
end Go.Proofs.YtdamokokcdcedaaGreatDoor
