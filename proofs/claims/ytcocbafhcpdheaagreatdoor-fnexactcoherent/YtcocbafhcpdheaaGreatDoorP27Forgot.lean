import Derived.Test.YtcocbafhcpdheaaGreatDoorP00Box
import Derived.Test.YtcocbafhcpdheaaGreatDoorP26EntOk
namespace Go.Proofs.YtcocbafhcpdheaaGreatDoor
set_option maxHeartbeats 4000000
open Go.ChangeShapes Go.WideShapes Go.ChangeAt Go.RowKit
set_option linter.unusedVariables false
theorem who_bd {o s : Int} (h : whoB o s = true) : -1 ≤ o ∧ o ≤ 3 ∧ 0 ≤ s ∧ s ≤ 15 := by
 simp [whoB, betw] at h
 omega
theorem who_of {o s : Int} {b : Bool} {k f l m : Int} {d : List Int} (h : entB (o, s, b, k, f, l, m, d) = true) : whoB o s = true := by rw [eb] at h; exact (Bool.and_eq_true _ _ ▸ h).1
theorem implHolders_any (o s k f l m : Int) (b : Bool) (d : List Int) (a : Option Addr) (cap : Nat) (w : World) (h : SlRd intR w a d) :
    Calls Tryz.prog 167 #[.agg #[.int .i64 o, .int .i64 s, .bool b, .int .i64 k, .int .i64 f, .int .i64 l, .int .i64 m, .slice a d.length cap]] w fun e w' => ∃ v, e = .returned v ∧ Made w w' v (if entB (o, s, b, k, f, l, m, d) then hoI o s else []) := by
 have X := heap_at w (.cells #[.int .i64 o, .int .i64 s, .bool b, .int .i64 k, .int .i64 f, .int .i64 l, .int .i64 m, .slice a d.length cap] 147);have B := box_below w (.cells #[.int .i64 o, .int .i64 s, .bool b, .int .i64 k, .int .i64 f, .int .i64 l, .int .i64 m, .slice a d.length cap] 147);have c : Hid _ := fun (W : World) (hb : Below w.heap.size w W) => implEntryOk_any o s k f l m b d a cap W (slrd_next h hb);clear h;cases n : entB (o, s, b, k, f, l, m, d)
 ·rw [n] at c;go_enter Tryz.func167, Tryz.ntmps167;go_wp2_with fail
  generalize w.alloc (.cells #[.int .i64 o, .int .i64 s, .bool b, .int .i64 k, .int .i64 f, .int .i64 l, .int .i64 m, .slice a d.length cap] 147) = W0 at X B ⊢;refine (c.out _ B).mono ?_;rintro e i ⟨rfl, g⟩;have M : Hid (Made w (i.alloc (.cells #[] 2)) (.slice (some ⟨i.heap.size, 0, none⟩) 0 0) []) := made_step (below_step B g) (made_lit i #[] [] rfl (by unfold maxLen; simp));clear g c X B;go_wp2;go_ret
  exact ⟨_, rfl, M.out⟩
 ·rw [n] at c;have A : Hid (holL o s 8 = hoI o s) := holL_eq (who_of n);go_enter Tryz.func167, Tryz.ntmps167;go_wp2_with fail
  generalize w.alloc (.cells #[.int .i64 o, .int .i64 s, .bool b, .int .i64 k, .int .i64 f, .int .i64 l, .int .i64 m, .slice a d.length cap] 147) = W0 at X B ⊢;refine (c.out _ B).mono ?_;rintro e i ⟨rfl, g⟩;replace X := row_keep g X;replace B := below_step B g;obtain ⟨y, q, H, E, z, G, C, D⟩ := cells_8 X;clear g c X;go_wp2_with fail
  refine (page_any o s k f l m b _ _).mono ?_;rintro e w2 ⟨rfl, p⟩;replace B := below_step B p;clear p y q H E z G C D;go_wp2_with (go_at_call 209; refine (chosenP_any o s _).mono ?_; rintro e F ⟨v, rfl, j⟩; rw [A.out] at j; have r : Hid (Made w F v (hoI o s)) := made_step B j; clear j)
  go_ret
  exact ⟨_, rfl, r.out⟩
theorem mems_in {s : Int} : ∀ {k : Nat} {x : Int}, x ∈ mems s k → 0 ≤ x ∧ x < k
 | 0, x, h => by simp [mems] at h
 | k + 1, x, h => by
  unfold mems at h;split at h
  ·rcases List.mem_append.1 h with h | h
   ·have := mems_in h; omega
   ·simp at h; omega
  ·have := mems_in h; omega
theorem ho_small {o s : Int} (h : whoB o s = true) : (hoI o s).length ≤ 8 ∧ ∀ x ∈ hoI o s, 0 ≤ x ∧ x < 8 := by
 have hb := who_bd h;unfold hoI;split
 ·exact ⟨by simp, fun x hx => by simp at hx; omega⟩
 ·exact ⟨mems_le s 8, fun x hx => mems_in hx⟩
theorem hold_small (u : EntryD) : (if entB u then hoI u.1 u.2.1 else []).length ≤ 8 ∧ Hid (∀ x ∈ (if entB u then hoI u.1 u.2.1 else []), In64 x) := by
 cases b : entB u
 ·exact ⟨by simp, fun x hx => by simp at hx⟩
 ·have c : whoB u.1 u.2.1 = true := by unfold entB at b; exact (Bool.and_eq_true _ _ ▸ b).1
  obtain ⟨d, a⟩ := ho_small c;exact ⟨d, fun x hx => ⟨by have := a x hx; omega, by have := a x hx; omega⟩⟩
abbrev coresR : Rep (List CoreD) := slR 95 coreR
abbrev coresM : Mk (List CoreD) := slM coreM
theorem opens_cores : Opens Tryz.prog 28 coresR := opens_slice Tryz.underlying28 (by kernel_rfl) (by decide) opens_core
theorem szCores_u : SzC 23 coresR coresM cell1 := by
 rintro V g d w ⟨a, L, rfl, R, S, h⟩ h0 h1;show Calls Tryz.prog 23 #[.slice a g.length L, .int .i64 d] w _
 have jA : g.length ≤ 9223372036854775807 := Nat.le_trans R S;have m : coresM.bk g = g.length + sumbk coreM g := rfl;clear R S;by_cases hl : (g.length : Int) ≤ d
 ·have J : ¬ (d - (g.length : Int) < 0) := by omega
  have Y : Hid _ := m;have H0 : Hid (SlRd coreR w a g) := h;clear m h;go_enter Tryz.func23, Tryz.ntmps23;go_wp2;go_loopw [1, 5] (fun q i wr => ∃ k : Nat, k ≤ g.length ∧ i = .int .i64 k ∧ (sumbk coreM (g.take k) : Int) + g.length ≤ d ∧ q = .int .i64 (d - (g.length : Int) - sumbk coreM (g.take k)) ∧ Below w.heap.size w wr) (fun _ i _ => g.length - (intOf i).toNat)
  case atStart => exact ⟨0, Nat.zero_le _, rfl, by simp [sumbk]; omega, by simp [sumbk], Below.refl _ _⟩
  case round =>
   obtain ⟨k, hk, rfl, X, rfl, l⟩ := hrel;by_cases H : k < g.length
   ·have U : (k : Int) < (g.length : Int) := by omega
    obtain ⟨x, E⟩ : ∃ x, g[k]? = some x := ⟨_, List.getElem?_eq_getElem H⟩;have Z := slrd_keep H0.out fun k hk => l.block k hk;obtain ⟨b, f, V, rfl, j, c⟩ := slrd_at Z E;have B : Hid (coreR.rd wr V x) := j;obtain ⟨p, n, y, o, s, r, C, D, A, z, rfl⟩ := core_shape j;have x0 := c 0 _ rfl;have x1 := c 1 _ rfl;have x2 := c 2 _ rfl;have x3 := c 3 _ rfl;have x4 := c 4 _ rfl;have x5 := c 5 _ rfl;have x6 := c 6 _ rfl;have x7 := c 7 _ rfl;have x8 := c 8 _ rfl;rw [show f + (k * coreR.size + 0) = f + k * 9 from rfl] at x0;rw [show f + (k * coreR.size + 1) = f + k * 9 + 1 from rfl] at x1;rw [show f + (k * coreR.size + 2) = f + k * 9 + 2 from rfl] at x2;rw [show f + (k * coreR.size + 3) = f + k * 9 + 3 from rfl] at x3;rw [show f + (k * coreR.size + 4) = f + k * 9 + 4 from rfl] at x4;rw [show f + (k * coreR.size + 5) = f + k * 9 + 5 from rfl] at x5;rw [show f + (k * coreR.size + 6) = f + k * 9 + 6 from rfl] at x6;rw [show f + (k * coreR.size + 7) = f + k * 9 + 7 from rfl] at x7;rw [show f + (k * coreR.size + 8) = f + k * 9 + 8 from rfl] at x8;clear c j;have K : Hid _ := sumbk_step (M := coreM) E;have I := sumbk_get (M := coreM) E;clear E Z;generalize sumbk coreM (g.take k) = T at X K I ⊢;by_cases O : (((coreM).bk x : Nat) : Int) ≤ d - (g.length : Int) - (T : Int)
    ·have eA : ¬ (d - (g.length : Int) - (T : Int) - (((coreM).bk x : Nat) : Int) < 0) := by omega
     have G : Hid (szI ((coreM).bk x) (d - (g.length : Int) - (T : Int)) = _) := szI_yes O;go_wp2_with (go_at_call 60; refine (szCore_u [.slice p x.1.1.length n, .slice y x.1.2.length o, .slice s x.2.1.length r, .int .i64 x.2.2.1, .int .i64 x.2.2.2.1, .int .i64 x.2.2.2.2.1.1, .int .i64 x.2.2.2.2.1.2.1, .slice C x.2.2.2.2.1.2.2.length D, .slice A x.2.2.2.2.2.length z] x _ _ B.out (by omega) (by omega)).mono ?_; rintro e w' ⟨rfl, v⟩; replace l := below_step l v; clear v; rw [G.out])
     go_roundw
     case rel => exact ⟨k + 1, by omega, by go_num, by have := K.out; omega, by rw [K.out]; go_num, l⟩
     case measure => simp [intOf]; omega
    ·have G : Hid (szI ((coreM).bk x) (d - (g.length : Int) - (T : Int)) = _) := szI_no O;have F : Hid (szI (coresM.bk g) d = -1) := by unfold Hid; rw [Y.out]; exact szI_no (by omega)
     go_wp2_with (go_at_call 60; refine (szCore_u [.slice p x.1.1.length n, .slice y x.1.2.length o, .slice s x.2.1.length r, .int .i64 x.2.2.1, .int .i64 x.2.2.2.1, .int .i64 x.2.2.2.2.1.1, .int .i64 x.2.2.2.2.1.2.1, .slice C x.2.2.2.2.1.2.2.length D, .slice A x.2.2.2.2.2.length z] x _ _ B.out (by omega) (by omega)).mono ?_; rintro e w' ⟨rfl, v⟩; replace l := below_step l v; clear v; rw [G.out])
     go_ret
     exact ⟨ret_int F.out.symm, l⟩
   ·have N : k = g.length := by omega
    subst N;rw [List.take_length] at X ⊢;have F : Hid (szI (coresM.bk g) d = d - (g.length : Int) - (sumbk coreM g : Int)) := by unfold Hid; rw [Y.out, szI_yes (by omega)]; omega
    go_wp2;go_ret
    exact ⟨ret_int F.out.symm, l⟩
 ·have J : d - (g.length : Int) < 0 := by omega
  rw [szI_no (by omega)];clear m h;go_enter Tryz.func23, Tryz.ntmps23;go_wp2;go_ret
  exact ⟨rfl, Below.refl _ _⟩
theorem Tryz.infoCore : (Tryz.prog.info? 95).map (fun i => (i.zero, i.size, i.bytes)) = some (some (.agg #[.slice none 0 0, .slice none 0 0, .slice none 0 0, .int .i64 0, .int .i64 0, .int .i64 0, .int .i64 0, .slice none 0 0, .slice none 0 0]), 9, 152) := by kernel_rfl
theorem toCores_u : ToC 31 coresR coresM cell1 := by
 rintro cs g w ⟨a, v, rfl, l1, l2, h⟩ Y;show Calls Tryz.prog 31 #[.slice a g.length v] w _
 have L : coresM.bk g = g.length + sumbk coreM g := rfl;have IA : g.length ≤ 1048576 := by omega
 have HB : Hid (sumbk coreM g ≤ 1048576) := by unfold Hid; omega
 have H0 : Hid (SlRd coreR w a g) := h;clear L Y h l1 l2;have r := run_make_wide (P := Tryz.prog) 43 95 (.agg #[.slice none 0 0, .slice none 0 0, .slice none 0 0, .int .i64 0, .int .i64 0, .int .i64 0, .int .i64 0, .slice none 0 0, .slice none 0 0]) 9 152 Tryz.underlying43 Tryz.infoCore g.length (by omega) (by omega);go_enter Tryz.func31, Tryz.ntmps31;go_wp2;go_loopw [4] (fun i wr => ∃ k : Nat, k ≤ g.length ∧ i = .int .i64 k ∧ Fill 95 coreR w wr g.length (g.take k)) (fun i _ => g.length - (intOf i).toNat)
 case atStart => exact ⟨0, Nat.zero_le _, rfl, by simpa using fillR_start (e := 95) (R := coreR) (w0 := w) (n := g.length) (cs := madeCells #[.slice none 0 0, .slice none 0 0, .slice none 0 0, .int .i64 0, .int .i64 0, .int .i64 0, .int .i64 0, .slice none 0 0, .slice none 0 0] (g.length * 9)) (by unfold maxLen; omega) (by rw [size_madeCells]; rfl)⟩
 case round =>
  obtain ⟨k, hk, rfl, o⟩ := hrel;by_cases p : k < g.length
  ·have cA : (k : Int) < (g.length : Int) := by omega
   obtain ⟨x, q⟩ : ∃ x, g[k]? = some x := ⟨_, List.getElem?_eq_getElem p⟩;obtain ⟨b, f, cs, rfl, j, d⟩ := slrd_at (slrd_next H0.out (fill_below o)) q;have y : Hid (coreR.rd wr cs x) := j;obtain ⟨K, Z, E, J, D, B, H, T, G, I, rfl⟩ := core_shape j;have x0 := d 0 _ rfl;have x1 := d 1 _ rfl;have x2 := d 2 _ rfl;have x3 := d 3 _ rfl;have x4 := d 4 _ rfl;have x5 := d 5 _ rfl;have x6 := d 6 _ rfl;have x7 := d 7 _ rfl;have x8 := d 8 _ rfl;rw [show f + (k * coreR.size + 0) = f + k * 9 from rfl] at x0;rw [show f + (k * coreR.size + 1) = f + k * 9 + 1 from rfl] at x1;rw [show f + (k * coreR.size + 2) = f + k * 9 + 2 from rfl] at x2;rw [show f + (k * coreR.size + 3) = f + k * 9 + 3 from rfl] at x3;rw [show f + (k * coreR.size + 4) = f + k * 9 + 4 from rfl] at x4;rw [show f + (k * coreR.size + 5) = f + k * 9 + 5 from rfl] at x5;rw [show f + (k * coreR.size + 6) = f + k * 9 + 6 from rfl] at x6;rw [show f + (k * coreR.size + 7) = f + k * 9 + 7 from rfl] at x7;rw [show f + (k * coreR.size + 8) = f + k * 9 + 8 from rfl] at x8;have HX : Hid (coreM.bk x ≤ 1048576) := by unfold Hid; have := sumbk_ge coreM g q; have := HB.out; omega
   have FS : Hid (∀ w1 c, MadeR coreR wr w1 c x → _) := fun w1 c Y => fillR_step (w1 := w1) (c := c) o (by simp; omega) p Y;have HP : Hid (g.take k ++ [x] = g.take (k + 1)) := by unfold Hid; rw [List.take_add_one, q]; rfl
   clear q j d r o;go_wp2_with fail
   refine (toCore_u [.slice K x.1.1.length Z, .slice E x.1.2.length J, .slice D x.2.1.length B, .int .i64 x.2.2.1, .int .i64 x.2.2.2.1, .int .i64 x.2.2.2.2.1.1, .int .i64 x.2.2.2.2.1.2.1, .slice H x.2.2.2.2.1.2.2.length T, .slice G x.2.2.2.2.2.length I] x _ y.out HX.out).mono ?_;rintro e w1 ⟨ds, rfl, A⟩;obtain ⟨AA, mA, CA, nA, qA, GA, EA, FA, sA, HA, rfl⟩ := core_shape (coreR.own_rd A.1);rw [show aggV _ = .agg _ from rfl];obtain ⟨l, m, O⟩ := FS.out _ _ A;obtain ⟨v0, V⟩ := l 0 (by decide);obtain ⟨v1, z⟩ := l 1 (by decide);obtain ⟨v2, X⟩ := l 2 (by decide);obtain ⟨v3, F⟩ := l 3 (by decide);obtain ⟨v4, U⟩ := l 4 (by decide);obtain ⟨v5, C⟩ := l 5 (by decide);obtain ⟨v6, M⟩ := l 6 (by decide);obtain ⟨v7, s⟩ := l 7 (by decide);obtain ⟨v8, S⟩ := l 8 (by decide);have z0 := m (k * 9);have z1 := m (k * 9 + 1);have z2 := m (k * 9 + 2);have z3 := m (k * 9 + 3);have z4 := m (k * 9 + 4);have z5 := m (k * 9 + 5);have z6 := m (k * 9 + 6);have z7 := m (k * 9 + 7);have z8 := m (k * 9 + 8);rw [show k * coreR.size + 0 = k * 9 from rfl] at V;rw [show k * coreR.size + 1 = k * 9 + 1 from rfl] at z;rw [show k * coreR.size + 2 = k * 9 + 2 from rfl] at X;rw [show k * coreR.size + 3 = k * 9 + 3 from rfl] at F;rw [show k * coreR.size + 4 = k * 9 + 4 from rfl] at U;rw [show k * coreR.size + 5 = k * 9 + 5 from rfl] at C;rw [show k * coreR.size + 6 = k * 9 + 6 from rfl] at M;rw [show k * coreR.size + 7 = k * 9 + 7 from rfl] at s;rw [show k * coreR.size + 8 = k * 9 + 8 from rfl] at S;rw [HP.out] at O;have HF : Hid _ := O;clear O A l m FS x0 x1 x2 x3 x4 x5 x6 x7 x8;go_wp2;go_roundw
   case rel => exact ⟨k + 1, by omega, by go_num, HF.out⟩
   case measure => simp [intOf]; omega
  ·have N : k = g.length := by omega
   subst N;rw [List.take_length] at o;have FE := fillR_end o rfl;clear o;go_wp2;go_ret
   exact ⟨[_], rfl, FE⟩
theorem eqCores_u : EqC 40 coresR coresM cell1 := by
 rintro cs ds f w ⟨a1, c1, rfl, l1, l2, h1⟩ ⟨a2, c2, rfl, k1, k2, h2⟩ hm;show Calls Tryz.prog 40 #[.slice a1 f.length c1, .slice a2 f.length c2] w _
 have GA : coresM.bk f = f.length + sumbk coreM f := rfl;have N : f.length ≤ lot := by omega
 have HB : Hid (sumbk coreM f ≤ lot) := by unfold Hid; omega
 have H1 : Hid (∀ W, Below w.heap.size w W → SlRd coreR W a1 f) := fun W hb => slrd_keep h1 fun k U => hb.block k U;have H2 : Hid (∀ W, Below w.heap.size w W → SlRd coreR W a2 f) := fun W hb => slrd_keep h2 fun k U => hb.block k U;have XA : f.length ≤ 4398046511104 := N;clear GA hm h1 h2 l1 l2 k1 k2 N;go_enter Tryz.func40, Tryz.ntmps40;go_wp2;go_loopw [5] (fun i wr => ∃ k : Nat, k ≤ f.length ∧ i = .int .i64 k ∧ Below w.heap.size w wr) (fun i _ => f.length - (intOf i).toNat)
 case atStart => exact ⟨0, Nat.zero_le _, rfl, Below.refl _ _⟩
 case round =>
  obtain ⟨k, U, rfl, o⟩ := hrel;by_cases DA : k < f.length
  ·have RA : (k : Int) < (f.length : Int) := by omega
   obtain ⟨x, hx⟩ : ∃ x, f[k]? = some x := ⟨_, List.getElem?_eq_getElem DA⟩;have HX : Hid (coreM.bk x ≤ lot) := by unfold Hid; have := sumbk_ge coreM f hx; have := HB.out; omega
   obtain ⟨m, a, sA, rfl, l, d⟩ := slrd_at (H1.out _ o) hx;have MA : Hid (∀ n : Cls (fun wx => Below wr.heap.size wr wx), coreR.rd n.w sA x) := fun n => rd_next l n.h;obtain ⟨G, p, H, q, r, L, J, K, C, M, rfl⟩ := core_shape l;have Y := d 0 _ rfl;have V := d 1 _ rfl;have s2 := d 2 _ rfl;have O := d 3 _ rfl;have s4 := d 4 _ rfl;have s5 := d 5 _ rfl;have T := d 6 _ rfl;have s7 := d 7 _ rfl;have R := d 8 _ rfl;rw [show a + (k * coreR.size + 0) = a + k * 9 from rfl] at Y;rw [show a + (k * coreR.size + 1) = a + k * 9 + 1 from rfl] at V;rw [show a + (k * coreR.size + 2) = a + k * 9 + 2 from rfl] at s2;rw [show a + (k * coreR.size + 3) = a + k * 9 + 3 from rfl] at O;rw [show a + (k * coreR.size + 4) = a + k * 9 + 4 from rfl] at s4;rw [show a + (k * coreR.size + 5) = a + k * 9 + 5 from rfl] at s5;rw [show a + (k * coreR.size + 6) = a + k * 9 + 6 from rfl] at T;rw [show a + (k * coreR.size + 7) = a + k * 9 + 7 from rfl] at s7;rw [show a + (k * coreR.size + 8) = a + k * 9 + 8 from rfl] at R;clear d l;obtain ⟨g, b, vA, rfl, j, c⟩ := slrd_at (H2.out _ o) hx;have oA : Hid (∀ n : Cls (fun wx => Below wr.heap.size wr wx), coreR.rd n.w vA x) := fun n => rd_next j n.h;obtain ⟨F, D, y, E, v, s, A, I, z, B, rfl⟩ := core_shape j;have t0 := c 0 _ rfl;have t1 := c 1 _ rfl;have X := c 2 _ rfl;have t3 := c 3 _ rfl;have t4 := c 4 _ rfl;have t5 := c 5 _ rfl;have S := c 6 _ rfl;have t7 := c 7 _ rfl;have Z := c 8 _ rfl;rw [show b + (k * coreR.size + 0) = b + k * 9 from rfl] at t0;rw [show b + (k * coreR.size + 1) = b + k * 9 + 1 from rfl] at t1;rw [show b + (k * coreR.size + 2) = b + k * 9 + 2 from rfl] at X;rw [show b + (k * coreR.size + 3) = b + k * 9 + 3 from rfl] at t3;rw [show b + (k * coreR.size + 4) = b + k * 9 + 4 from rfl] at t4;rw [show b + (k * coreR.size + 5) = b + k * 9 + 5 from rfl] at t5;rw [show b + (k * coreR.size + 6) = b + k * 9 + 6 from rfl] at S;rw [show b + (k * coreR.size + 7) = b + k * 9 + 7 from rfl] at t7;rw [show b + (k * coreR.size + 8) = b + k * 9 + 8 from rfl] at Z;clear c j;have yA : ∀ n : Cls (fun wx => Below wr.heap.size wr wx), n.w.cell? ⟨m, a + k * 9, none⟩ = some (.slice G x.1.1.length p) := fun n => cell_keep n.h Y (cell_lt Y);have mA : ∀ n : Cls (fun wx => Below wr.heap.size wr wx), n.w.cell? ⟨m, a + k * 9 + 1, none⟩ = some (.slice H x.1.2.length q) := fun n => cell_keep n.h V (cell_lt V);have BA : ∀ n : Cls (fun wx => Below wr.heap.size wr wx), n.w.cell? ⟨m, a + k * 9 + 2, none⟩ = some (.slice r x.2.1.length L) := fun n => cell_keep n.h s2 (cell_lt s2);have OA : ∀ n : Cls (fun wx => Below wr.heap.size wr wx), n.w.cell? ⟨m, a + k * 9 + 3, none⟩ = some (.int .i64 x.2.2.1) := fun n => cell_keep n.h O (cell_lt O);have KA : ∀ n : Cls (fun wx => Below wr.heap.size wr wx), n.w.cell? ⟨m, a + k * 9 + 4, none⟩ = some (.int .i64 x.2.2.2.1) := fun n => cell_keep n.h s4 (cell_lt s4);have HA : ∀ n : Cls (fun wx => Below wr.heap.size wr wx), n.w.cell? ⟨m, a + k * 9 + 5, none⟩ = some (.int .i64 x.2.2.2.2.1.1) := fun n => cell_keep n.h s5 (cell_lt s5);have pA : ∀ n : Cls (fun wx => Below wr.heap.size wr wx), n.w.cell? ⟨m, a + k * 9 + 6, none⟩ = some (.int .i64 x.2.2.2.2.1.2.1) := fun n => cell_keep n.h T (cell_lt T);have JA : ∀ n : Cls (fun wx => Below wr.heap.size wr wx), n.w.cell? ⟨m, a + k * 9 + 7, none⟩ = some (.slice J x.2.2.2.2.1.2.2.length K) := fun n => cell_keep n.h s7 (cell_lt s7);have FA : ∀ n : Cls (fun wx => Below wr.heap.size wr wx), n.w.cell? ⟨m, a + k * 9 + 8, none⟩ = some (.slice C x.2.2.2.2.2.length M) := fun n => cell_keep n.h R (cell_lt R);have nA : ∀ n : Cls (fun wx => Below wr.heap.size wr wx), n.w.cell? ⟨g, b + k * 9, none⟩ = some (.slice F x.1.1.length D) := fun n => cell_keep n.h t0 (cell_lt t0);have IA : ∀ n : Cls (fun wx => Below wr.heap.size wr wx), n.w.cell? ⟨g, b + k * 9 + 1, none⟩ = some (.slice y x.1.2.length E) := fun n => cell_keep n.h t1 (cell_lt t1);have rA : ∀ n : Cls (fun wx => Below wr.heap.size wr wx), n.w.cell? ⟨g, b + k * 9 + 2, none⟩ = some (.slice v x.2.1.length s) := fun n => cell_keep n.h X (cell_lt X);have AA : ∀ n : Cls (fun wx => Below wr.heap.size wr wx), n.w.cell? ⟨g, b + k * 9 + 3, none⟩ = some (.int .i64 x.2.2.1) := fun n => cell_keep n.h t3 (cell_lt t3);have qA : ∀ n : Cls (fun wx => Below wr.heap.size wr wx), n.w.cell? ⟨g, b + k * 9 + 4, none⟩ = some (.int .i64 x.2.2.2.1) := fun n => cell_keep n.h t4 (cell_lt t4);have LA : ∀ n : Cls (fun wx => Below wr.heap.size wr wx), n.w.cell? ⟨g, b + k * 9 + 5, none⟩ = some (.int .i64 x.2.2.2.2.1.1) := fun n => cell_keep n.h t5 (cell_lt t5);have EA : ∀ n : Cls (fun wx => Below wr.heap.size wr wx), n.w.cell? ⟨g, b + k * 9 + 6, none⟩ = some (.int .i64 x.2.2.2.2.1.2.1) := fun n => cell_keep n.h S (cell_lt S);have NA : ∀ n : Cls (fun wx => Below wr.heap.size wr wx), n.w.cell? ⟨g, b + k * 9 + 7, none⟩ = some (.slice A x.2.2.2.2.1.2.2.length I) := fun n => cell_keep n.h t7 (cell_lt t7);have zA : ∀ n : Cls (fun wx => Below wr.heap.size wr wx), n.w.cell? ⟨g, b + k * 9 + 8, none⟩ = some (.slice z x.2.2.2.2.2.length B) := fun n => cell_keep n.h Z (cell_lt Z);clear hx Y V s2 O s4 s5 T s7 R t0 t1 X t3 t4 t5 S t7 Z;go_wp2_with fail
   refine region_class (fun wx => Below wr.heap.size wr wx) (by kernel_rfl) (by kernel_rfl) ((Below.refl _ wr).drew) ?_;intro CA;repeat (quiet_step ((go_at_call 80; exact calls_class (eqCore_u [.slice G x.1.1.length p, .slice H x.1.2.length q, .slice r x.2.1.length L, .int .i64 x.2.2.1, .int .i64 x.2.2.2.1, .int .i64 x.2.2.2.2.1.1, .int .i64 x.2.2.2.2.1.2.1, .slice J x.2.2.2.2.1.2.2.length K, .slice C x.2.2.2.2.2.length M] [.slice F x.1.1.length D, .slice y x.1.2.length E, .slice v x.2.1.length s, .int .i64 x.2.2.1, .int .i64 x.2.2.2.1, .int .i64 x.2.2.2.2.1.1, .int .i64 x.2.2.2.2.1.2.1, .slice A x.2.2.2.2.1.2.2.length I, .slice z x.2.2.2.2.2.length B] x _ (MA.out _) (oA.out _) HX.out) (fun w' hc bb => below_step hc bb))))
   refine wpQuiet_nil ?_;intro wx g;replace o := below_step o g;clear g CA yA mA BA OA KA HA pA JA FA nA IA rA AA qA LA EA NA zA;go_wp2;go_roundw
   case rel => exact ⟨k + 1, by omega, by go_num, o⟩
   case measure => simp [intOf]; omega
  ·go_wp2;go_ret
   exact ⟨rfl, o⟩
end Go.Proofs.YtcocbafhcpdheaaGreatDoor
