import Derived.Test.YthnfkacboijneaaGreatDoorP09OpL
import Derived.Test.YthnfkacboijneaaGreatDoorP05Boxes
import Derived.Test.YthnfkacboijneaaGreatDoorP03Nums
namespace Go.Proofs.YthnfkacboijneaaGreatDoor
set_option maxHeartbeats 1000000
open Go.ChangeShapes Go.WideShapes Go.ChangeAt Go.RowKit
set_option linter.unusedVariables false
abbrev opssR : Rep (List (List OpD)) := slR 82 opsR
abbrev opssM : Mk (List (List OpD)) := slM opsM
theorem opens_opss : Opens Tryz.prog 53 opssR := opens_slice Tryz.underlying53 (by kernel_rfl) (by decide) opens_ops
theorem szOpSS_rep (a : Option Addr) (xs : List (List OpD)) (cap : Nat) (left : Int) (w : World) (h : SlRd opsR w a xs) (h0 : 0 ≤ left) (h1 : left ≤ 1048576) (hm : xs.length ≤ maxLen) :
    Calls Tryz.prog 10 #[.slice a xs.length cap, .int .i64 left] w fun e w' => e = .returned (.int .i64 (szI ((slM opsM).bk xs) left)) ∧ w' = w := by
 have hm' : xs.length ≤ 9223372036854775807 := hm
 have hbk : (slM opsM).bk xs = xs.length + sumbk opsM xs := rfl
 clear hm
 by_cases hl : (xs.length : Int) ≤ left
 ·have hl' : ¬ (left - (xs.length : Int) < 0) := by omega
  have HB : Hid _ := hbk
  clear hbk
  go_enter Tryz.func10, Tryz.ntmps10
  go_wp2
  go_loop [1, 5] (fun q i => ∃ k : Nat, k ≤ xs.length ∧ i = .int .i64 k ∧ (sumbk opsM (xs.take k) : Int) + xs.length ≤ left ∧ q = .int .i64 (left - (xs.length : Int) - sumbk opsM (xs.take k))) (fun _ i => xs.length - (intOf i).toNat)
  case atStart => exact ⟨0, Nat.zero_le _, rfl, by simp [sumbk]; omega, by simp [sumbk]⟩
  case round =>
   obtain ⟨k, hk, rfl, ht, rfl⟩ := hrel
   by_cases hlt : k < xs.length
   ·have hlt' : (k : Int) < (xs.length : Int) := by omega
    obtain ⟨x, hx⟩ : ∃ x, xs[k]? = some x := ⟨_, List.getElem?_eq_getElem hlt⟩
    obtain ⟨b, off, c, rfl, ⟨aj, cj, rfl, hc1, hc2, hrd⟩, hcell⟩ := slrd_at h hx
    have g1 := hcell 0 _ rfl
    rw [show k * (opsR).size + 0 = k from Nat.mul_one k] at g1
    have HR : Hid _ := hrd
    have HX : Hid _ := Nat.le_trans hc1 hc2
    have HT : Hid _ := sumbk_step (M := opsM) hx
    have hxs := sumbk_get (M := opsM) hx
    clear h hx hcell hrd
    generalize sumbk opsM (xs.take k) = T at ht HT hxs ⊢
    by_cases hf : (((opsM).bk x : Nat) : Int) ≤ left - (xs.length : Int) - (T : Int)
    ·have hf' : ¬ (left - (xs.length : Int) - (T : Int) - (((opsM).bk x : Nat) : Int) < 0) := by omega
     have HS : Hid (szI ((opsM).bk x) (left - (xs.length : Int) - (T : Int)) = _) := szI_yes hf
     go_wp2_with (go_at_call 54; refine (szOpS_rep _ x _ _ _ (by omega) (by omega) HX.out).mono ?_; rintro e w' ⟨rfl, rfl⟩; rw [HS.out])
     go_round
     case rel => exact ⟨k + 1, by omega, by go_num, by have := HT.out; omega, by rw [HT.out]; go_num⟩
     case measure => simp [intOf]; omega
    ·have HS : Hid (szI ((opsM).bk x) (left - (xs.length : Int) - (T : Int)) = _) := szI_no hf
     have HN : Hid (szI ((slM opsM).bk xs) left = -1) := by unfold Hid; rw [HB.out]; exact szI_no (by omega)
     go_wp2_with (go_at_call 54; refine (szOpS_rep _ x _ _ _ (by omega) (by omega) HX.out).mono ?_; rintro e w' ⟨rfl, rfl⟩; rw [HS.out])
     go_ret
     exact ⟨ret_int HN.out.symm, rfl⟩
   ·have hkl : k = xs.length := by omega
    subst hkl
    rw [List.take_length] at ht ⊢
    have HN : Hid (szI ((slM opsM).bk xs) left = left - (xs.length : Int) - (sumbk opsM xs : Int)) := by unfold Hid; rw [HB.out, szI_yes (by omega)]; omega
    go_wp2
    go_ret
    exact ⟨ret_int HN.out.symm, rfl⟩
 ·have hl' : left - (xs.length : Int) < 0 := by omega
  rw [szI_no (by omega)]
  clear hbk h
  go_enter Tryz.func10, Tryz.ntmps10
  go_wp2
  go_ret
  exact ⟨rfl, rfl⟩
theorem Tryz.infoOpSS : (Tryz.prog.info? 82).map (fun i => (i.zero, i.size, i.bytes)) = some (some (.slice none 0 0), 1, 24) := by kernel_rfl
theorem toOpSS_rep (a : Option Addr) (xs : List (List OpD)) (cap : Nat) (w : World) (h : SlRd opsR w a xs) (hm : (slM opsM).bk xs ≤ 1048576) :
    Calls Tryz.prog 14 #[.slice a xs.length cap] w fun e w' => ∃ v, e = .returned v ∧ MadeR (slR 82 opsR) w w' [v] xs := by
 have hbk : (slM opsM).bk xs = xs.length + sumbk opsM xs := rfl
 have hln : xs.length ≤ 1048576 := by omega
 have HB : Hid (sumbk opsM xs ≤ 1048576) := by unfold Hid; omega
 clear hbk hm
 have hmk := Go.run_make_row' (P := Tryz.prog) 59 82 (.slice none 0 0) 24 Tryz.underlying59 Tryz.infoOpSS rfl .i64 .i64 xs.length (by omega) (by omega)
 go_enter Tryz.func14, Tryz.ntmps14
 go_wp2
 go_loopw [4] (fun i wr => ∃ k : Nat, k ≤ xs.length ∧ i = .int .i64 k ∧ Fill 82 opsR w wr xs.length (xs.take k)) (fun i _ => xs.length - (intOf i).toNat)
 case atStart => exact ⟨0, Nat.zero_le _, rfl, by simpa using fillR_start (e := 82) (R := opsR) (w0 := w) (n := xs.length) (cs := madeCells #[.slice none 0 0] xs.length) (by unfold maxLen; omega) (by simp [size_madeCells]; exact (Nat.mul_one _).symm)⟩
 case round =>
  obtain ⟨k, hk, rfl, hF⟩ := hrel
  by_cases hlt : k < xs.length
  ·have hlt' : (k : Int) < (xs.length : Int) := by omega
   obtain ⟨x, hx⟩ : ∃ x, xs[k]? = some x := ⟨_, List.getElem?_eq_getElem hlt⟩
   obtain ⟨b, off, c, rfl, ⟨aj, cj, rfl, hc1, hc2, hrd⟩, hcell⟩ := slrd_at (slrd_next h (fill_below hF)) hx
   have g1 := hcell 0 _ rfl
   rw [show k * (opsR).size + 0 = k from Nat.mul_one k] at g1
   have HR : Hid _ := hrd
   have HX : Hid ((opsM).bk x ≤ 1048576) := by unfold Hid; have := sumbk_get (M := opsM) hx; have := HB.out; omega
   have FS : Hid (∀ w1 v, MadeR opsR wr w1 [v] x → _) := fun w1 v hm => fillR_step (w1 := w1) (c := [v]) hF (by simp; omega) hlt hm
   have HP : Hid (xs.take k ++ [x] = xs.take (k + 1)) := by unfold Hid; rw [List.take_add_one, hx]; rfl
   clear h hx hrd hcell hmk hF
   go_wp2_with (go_at_call 59; refine (toOpS_rep _ x _ _ HR.out HX.out).mono ?_; rintro e w1 ⟨v, rfl, mm⟩; obtain ⟨av, cv, rfl⟩ := slown_val mm.1; obtain ⟨q1, q2, F1⟩ := FS.out _ _ mm; obtain ⟨v0, hv0⟩ := q1 0 (Nat.zero_lt_one); have hfz := q2 k; rw [show k * (opsR).size + 0 = k from Nat.mul_one k] at hv0; rw [show k * (opsR).size = k from Nat.mul_one k, HP.out] at F1; have HF : Hid _ := F1; clear F1 mm q1 q2)
   go_roundw
   case rel => exact ⟨k + 1, by omega, by go_num, HF.out⟩
   case measure => simp [intOf]; omega
  ·have hkl : k = xs.length := by omega
   subst hkl
   rw [List.take_length] at hF
   have FE := fillR_end hF rfl
   clear hF
   go_wp2
   go_ret
   exact ⟨_, rfl, FE⟩
theorem eqOpSS_rep (a1 a2 : Option Addr) (xs : List (List OpD)) (c1 c2 : Nat) (w : World) (h1 : SlRd opsR w a1 xs) (h2 : SlRd opsR w a2 xs) (hm : (slM opsM).bk xs ≤ 1152921504606846976) :
    Calls Tryz.prog 17 #[.slice a1 xs.length c1, .slice a2 xs.length c2] w fun e w' => e = .returned (.bool true) ∧ Below w.heap.size w w' := by
 have hbk : (slM opsM).bk xs = xs.length + sumbk opsM xs := rfl
 have hln : xs.length ≤ 1152921504606846976 := by omega
 have HB : Hid (sumbk opsM xs ≤ 1152921504606846976) := by unfold Hid; omega
 have H1 : Hid (∀ W, Below w.heap.size w W → SlRd opsR W a1 xs) := fun W hb => slrd_keep h1 fun k hk => hb.block k hk
 have H2 : Hid (∀ W, Below w.heap.size w W → SlRd opsR W a2 xs) := fun W hb => slrd_keep h2 fun k hk => hb.block k hk
 clear hbk hm h1 h2
 go_enter Tryz.func17, Tryz.ntmps17
 go_wp2
 go_loopw [5] (fun i wr => ∃ k : Nat, k ≤ xs.length ∧ i = .int .i64 k ∧ Below w.heap.size w wr) (fun i _ => xs.length - (intOf i).toNat)
 case atStart => exact ⟨0, Nat.zero_le _, rfl, Below.refl _ _⟩
 case round =>
  obtain ⟨k, hk, rfl, BB⟩ := hrel
  by_cases hlt : k < xs.length
  ·have hlt' : (k : Int) < (xs.length : Int) := by omega
   obtain ⟨x, hx⟩ : ∃ x, xs[k]? = some x := ⟨_, List.getElem?_eq_getElem hlt⟩
   have HX : Hid ((opsM).bk x ≤ 1152921504606846976) := by unfold Hid; have := sumbk_ge opsM xs hx; have := HB.out; omega
   obtain ⟨b1, off1, cs1, rfl, ⟨aj1, cj1, rfl, -, -, hd1⟩, hcell1⟩ := slrd_at (H1.out _ BB) hx
   have x10 := hcell1 0 _ rfl
   rw [show k * opsR.size + 0 = k from Nat.mul_one k] at x10
   have HR1 : Hid (∀ n : Cls (fun wx => Below wr.heap.size wr wx), SlRd opR n.w aj1 x) := fun n => slrd_next hd1 n.h
   clear hcell1 hd1
   obtain ⟨b2, off2, cs2, rfl, ⟨aj2, cj2, rfl, -, -, hd2⟩, hcell2⟩ := slrd_at (H2.out _ BB) hx
   have x20 := hcell2 0 _ rfl
   rw [show k * opsR.size + 0 = k from Nat.mul_one k] at x20
   have HR2 : Hid (∀ n : Cls (fun wx => Below wr.heap.size wr wx), SlRd opR n.w aj2 x) := fun n => slrd_next hd2 n.h
   clear hcell2 hd2
   have x10c : ∀ n : Cls (fun wx => Below wr.heap.size wr wx), n.w.cell? ⟨b1, off1 + k, none⟩ = some (.slice aj1 x.length cj1) := fun n => cell_keep n.h x10 (cell_lt x10)
   have x20c : ∀ n : Cls (fun wx => Below wr.heap.size wr wx), n.w.cell? ⟨b2, off2 + k, none⟩ = some (.slice aj2 x.length cj2) := fun n => cell_keep n.h x20 (cell_lt x20)
   clear hx x10 x20
   go_wp2_with fail
   refine region_class (fun wx => Below wr.heap.size wr wx) (by kernel_rfl) (by kernel_rfl) ((Below.refl _ wr).drew) ?_
   intro hne
   repeat (quiet_step ((go_at_call 65; exact calls_class (eqOpS_rep _ _ x _ _ _ (HR1.out _) (HR2.out _) HX.out) (fun w' hc bb => below_step hc bb))))
   refine wpQuiet_nil ?_
   intro wx b2
   replace BB := below_step BB b2
   clear b2 hne x10c x20c
   go_wp2
   go_roundw
   case rel => exact ⟨k + 1, by omega, by go_num, BB⟩
   case measure => simp [intOf]; omega
  ·go_wp2
   go_ret
   exact ⟨rfl, BB⟩
abbrev CfgD := Int × Int × Int × Int
abbrev cfgR : Rep CfgD := prodR intR (prodR intR (prodR intR intR))
theorem opens_cfg : Opens Tryz.prog 23 cfgR :=
 opens_struct Tryz.underlying23 (by kernel_rfl) (opensF_cons rfl (by kernel_rfl) opens_i64 (opensF_cons rfl (by kernel_rfl) opens_i64 (opensF_cons rfl (by kernel_rfl) opens_i64 (opensF_one rfl (by kernel_rfl) opens_i64))))
theorem cfg_rd {w : World} {cs : List Value} {u : CfgD} (h : cfgR.rd w cs u) : cs = [.int .i64 u.1, .int .i64 u.2.1, .int .i64 u.2.2.1, .int .i64 u.2.2.2] ∧ In64 u.1 ∧ In64 u.2.1 ∧ In64 u.2.2.1 ∧ In64 u.2.2.2 := by
 obtain ⟨c0, e0, rfl, ⟨rfl, i0⟩, c1, e1, rfl, ⟨rfl, i1⟩, c2, e2, rfl, ⟨rfl, i2⟩, ⟨rfl, i3⟩⟩ := h
 exact ⟨rfl, i0, i1, i2, i3⟩
abbrev cfgM : Mk CfgD := prodM intM (prodM intM (prodM intM intM))
theorem op_rd4 {w : World} {cs : List Value} {u : OpD} (h : opR.rd w cs u) : cs = [.int .i64 u.1, .int .i64 u.2.1, .int .i64 u.2.2.1, .int .i64 u.2.2.2] ∧ True := ⟨(op_rd h).1, trivial⟩
theorem cfg_rd4 {w : World} {cs : List Value} {u : CfgD} (h : cfgR.rd w cs u) : cs = [.int .i64 u.1, .int .i64 u.2.1, .int .i64 u.2.2.1, .int .i64 u.2.2.2] ∧ True := ⟨(cfg_rd h).1, trivial⟩
theorem own_cfg {w : World} {S : Foot} {u : CfgD} (i0 : In64 u.1) (i1 : In64 u.2.1) (i2 : In64 u.2.2.1) (i3 : In64 u.2.2.2) : cfgR.own w S [.int .i64 u.1, .int .i64 u.2.1, .int .i64 u.2.2.1, .int .i64 u.2.2.2] u := own_op (u := u) ⟨i0, i1, i2, i3⟩
theorem toOp_u : ToC 126 opR opM aggV := by
 intro cs x w h hm
 obtain ⟨rfl, h4⟩ := op_rd h
 refine (toOp_rep x.1 x.2.1 x.2.2.1 x.2.2.2 w).mono ?_
 rintro e w' ⟨rfl, b⟩
 exact ⟨[_, _, _, _], rfl, own_op h4, b⟩
theorem eqOp_u : EqC 138 opR opM aggV := by
 intro cs ds x w h k hm
 obtain ⟨rfl, -⟩ := op_rd h
 obtain ⟨rfl, -⟩ := op_rd k
 exact eqOp_rep x.1 x.2.1 x.2.2.1 x.2.2.2 w
theorem toConfig_rep (k a x y : Int) (w : World) :
    Calls Tryz.prog 13 #[.agg #[.int .i64 k, .int .i64 a, .int .i64 x, .int .i64 y]] w fun e w' => e = .returned (.agg #[.int .i64 k, .int .i64 a, .int .i64 x, .int .i64 y]) ∧ Below w.heap.size w w' := by
 have HB : Hid (∀ o o' o'', Below w.heap.size w (((w.alloc o).alloc o').alloc o'')) := fun o o' o'' => below_step (below_step (box_below w o) (box_below _ o')) (box_below _ o'')
 go_enter Tryz.func13, Tryz.ntmps13
 go_wp2
 refine bodyPost_ret (v := .agg #[.int .i64 k, .int .i64 a, .int .i64 x, .int .i64 y]) (by simp [results, Tryz.results13, go_sem]) rfl ⟨rfl, ?_⟩
 exact HB.out _ _ _
theorem toConfig_u : ToC 13 cfgR cfgM aggV := by
 intro cs x w h hm
 obtain ⟨rfl, i0, i1, i2, i3⟩ := cfg_rd h
 refine (toConfig_rep x.1 x.2.1 x.2.2.1 x.2.2.2 w).mono ?_
 rintro e w' ⟨rfl, b⟩
 exact ⟨[_, _, _, _], rfl, own_cfg i0 i1 i2 i3, b⟩
theorem eqConfig_rep (k a x y : Int) (w : World) :
    Calls Tryz.prog 48 #[.agg #[.int .i64 k, .int .i64 a, .int .i64 x, .int .i64 y], .agg #[.int .i64 k, .int .i64 a, .int .i64 x, .int .i64 y]] w fun e w' => e = .returned (.bool true) ∧ Below w.heap.size w w' := by
 have HB : Hid (∀ o o', Below w.heap.size w ((w.alloc o).alloc o')) := fun o o' => below_step (box_below w o) (box_below _ o')
 go_enter Tryz.func48, Tryz.ntmps48
 go_wp2
 go_ret
 exact ⟨rfl, HB.out _ _⟩
theorem eqConfig_u : EqC 48 cfgR cfgM aggV := by
 intro cs ds x w h k hm
 obtain ⟨rfl, -⟩ := cfg_rd h
 obtain ⟨rfl, -⟩ := cfg_rd k
 exact eqConfig_rep x.1 x.2.1 x.2.2.1 x.2.2.2 w
theorem szInt64SS_rep (a : Option Addr) (xs : List (List Int)) (cap : Nat) (left : Int) (w : World) (h : SlRd intsR w a xs) (h0 : 0 ≤ left) (h1 : left ≤ 1048576) (hm : xs.length ≤ maxLen) :
    Calls Tryz.prog 79 #[.slice a xs.length cap, .int .i64 left] w fun e w' => e = .returned (.int .i64 (szI ((slM intsM).bk xs) left)) ∧ w' = w := by
 have hm' : xs.length ≤ 9223372036854775807 := hm
 have hbk : (slM intsM).bk xs = xs.length + sumbk intsM xs := rfl
 clear hm
 by_cases hl : (xs.length : Int) ≤ left
 ·have hl' : ¬ (left - (xs.length : Int) < 0) := by omega
  have HB : Hid _ := hbk
  clear hbk
  go_enter Tryz.func79, Tryz.ntmps79
  go_wp2
  go_loop [1, 5] (fun q i => ∃ k : Nat, k ≤ xs.length ∧ i = .int .i64 k ∧ (sumbk intsM (xs.take k) : Int) + xs.length ≤ left ∧ q = .int .i64 (left - (xs.length : Int) - sumbk intsM (xs.take k))) (fun _ i => xs.length - (intOf i).toNat)
  case atStart => exact ⟨0, Nat.zero_le _, rfl, by simp [sumbk]; omega, by simp [sumbk]⟩
  case round =>
   obtain ⟨k, hk, rfl, ht, rfl⟩ := hrel
   by_cases hlt : k < xs.length
   ·have hlt' : (k : Int) < (xs.length : Int) := by omega
    obtain ⟨x, hx⟩ : ∃ x, xs[k]? = some x := ⟨_, List.getElem?_eq_getElem hlt⟩
    obtain ⟨b, off, c, rfl, ⟨aj, cj, rfl, hc1, hc2, hrd⟩, hcell⟩ := slrd_at h hx
    have g1 := hcell 0 _ rfl
    rw [show k * (intsR).size + 0 = k from Nat.mul_one k] at g1
    have HR : Hid _ := hrd
    have HX : Hid _ := Nat.le_trans hc1 hc2
    have HT : Hid _ := sumbk_step (M := intsM) hx
    have hxs := sumbk_get (M := intsM) hx
    clear h hx hcell hrd
    generalize sumbk intsM (xs.take k) = T at ht HT hxs ⊢
    by_cases hf : (((intsM).bk x : Nat) : Int) ≤ left - (xs.length : Int) - (T : Int)
    ·have hf' : ¬ (left - (xs.length : Int) - (T : Int) - (((intsM).bk x : Nat) : Int) < 0) := by omega
     have HS : Hid (szI ((intsM).bk x) (left - (xs.length : Int) - (T : Int)) = _) := szI_yes hf
     go_wp2_with (go_at_call 120; refine (szInt64S_rep _ x _ _ _ (by omega) (by omega) HX.out).mono ?_; rintro e w' ⟨rfl, rfl⟩; rw [HS.out])
     go_round
     case rel => exact ⟨k + 1, by omega, by go_num, by have := HT.out; omega, by rw [HT.out]; go_num⟩
     case measure => simp [intOf]; omega
    ·have HS : Hid (szI ((intsM).bk x) (left - (xs.length : Int) - (T : Int)) = _) := szI_no hf
     have HN : Hid (szI ((slM intsM).bk xs) left = -1) := by unfold Hid; rw [HB.out]; exact szI_no (by omega)
     go_wp2_with (go_at_call 120; refine (szInt64S_rep _ x _ _ _ (by omega) (by omega) HX.out).mono ?_; rintro e w' ⟨rfl, rfl⟩; rw [HS.out])
     go_ret
     exact ⟨ret_int HN.out.symm, rfl⟩
   ·have hkl : k = xs.length := by omega
    subst hkl
    rw [List.take_length] at ht ⊢
    have HN : Hid (szI ((slM intsM).bk xs) left = left - (xs.length : Int) - (sumbk intsM xs : Int)) := by unfold Hid; rw [HB.out, szI_yes (by omega)]; omega
    go_wp2
    go_ret
    exact ⟨ret_int HN.out.symm, rfl⟩
 ·have hl' : left - (xs.length : Int) < 0 := by omega
  rw [szI_no (by omega)]
  clear hbk h
  go_enter Tryz.func79, Tryz.ntmps79
  go_wp2
  go_ret
  exact ⟨rfl, rfl⟩
theorem Tryz.infoInt64SS : (Tryz.prog.info? 79).map (fun i => (i.zero, i.size, i.bytes)) = some (some (.slice none 0 0), 1, 24) := by kernel_rfl
theorem toInt64SS_rep (a : Option Addr) (xs : List (List Int)) (cap : Nat) (w : World) (h : SlRd intsR w a xs) (hm : (slM intsM).bk xs ≤ 1048576) :
    Calls Tryz.prog 97 #[.slice a xs.length cap] w fun e w' => ∃ v, e = .returned v ∧ MadeR (slR 79 intsR) w w' [v] xs := by
 have hbk : (slM intsM).bk xs = xs.length + sumbk intsM xs := rfl
 have hln : xs.length ≤ 1048576 := by omega
 have HB : Hid (sumbk intsM xs ≤ 1048576) := by unfold Hid; omega
 clear hbk hm
 have hmk := Go.run_make_row' (P := Tryz.prog) 24 79 (.slice none 0 0) 24 Tryz.underlying24 Tryz.infoInt64SS rfl .i64 .i64 xs.length (by omega) (by omega)
 go_enter Tryz.func97, Tryz.ntmps97
 go_wp2
 go_loopw [4] (fun i wr => ∃ k : Nat, k ≤ xs.length ∧ i = .int .i64 k ∧ Fill 79 intsR w wr xs.length (xs.take k)) (fun i _ => xs.length - (intOf i).toNat)
 case atStart => exact ⟨0, Nat.zero_le _, rfl, by simpa using fillR_start (e := 79) (R := intsR) (w0 := w) (n := xs.length) (cs := madeCells #[.slice none 0 0] xs.length) (by unfold maxLen; omega) (by simp [size_madeCells]; exact (Nat.mul_one _).symm)⟩
 case round =>
  obtain ⟨k, hk, rfl, hF⟩ := hrel
  by_cases hlt : k < xs.length
  ·have hlt' : (k : Int) < (xs.length : Int) := by omega
   obtain ⟨x, hx⟩ : ∃ x, xs[k]? = some x := ⟨_, List.getElem?_eq_getElem hlt⟩
   obtain ⟨b, off, c, rfl, ⟨aj, cj, rfl, hc1, hc2, hrd⟩, hcell⟩ := slrd_at (slrd_next h (fill_below hF)) hx
   have g1 := hcell 0 _ rfl
   rw [show k * (intsR).size + 0 = k from Nat.mul_one k] at g1
   have HR : Hid _ := hrd
   have HX : Hid ((intsM).bk x ≤ 1048576) := by unfold Hid; have := sumbk_get (M := intsM) hx; have := HB.out; omega
   have FS : Hid (∀ w1 v, MadeR intsR wr w1 [v] x → _) := fun w1 v hm => fillR_step (w1 := w1) (c := [v]) hF (by simp; omega) hlt hm
   have HP : Hid (xs.take k ++ [x] = xs.take (k + 1)) := by unfold Hid; rw [List.take_add_one, hx]; rfl
   clear h hx hrd hcell hmk hF
   go_wp2_with (go_at_call 127; refine (toInt64S_rep _ x _ _ HR.out HX.out).mono ?_; rintro e w1 ⟨v, rfl, mm⟩; obtain ⟨av, cv, rfl⟩ := slown_val mm.1; obtain ⟨q1, q2, F1⟩ := FS.out _ _ mm; obtain ⟨v0, hv0⟩ := q1 0 (Nat.zero_lt_one); have hfz := q2 k; rw [show k * (intsR).size + 0 = k from Nat.mul_one k] at hv0; rw [show k * (intsR).size = k from Nat.mul_one k, HP.out] at F1; have HF : Hid _ := F1; clear F1 mm q1 q2)
   go_roundw
   case rel => exact ⟨k + 1, by omega, by go_num, HF.out⟩
   case measure => simp [intOf]; omega
  ·have hkl : k = xs.length := by omega
   subst hkl
   rw [List.take_length] at hF
   have FE := fillR_end hF rfl
   clear hF
   go_wp2
   go_ret
   exact ⟨_, rfl, FE⟩
theorem eqInt64SS_rep (a1 a2 : Option Addr) (xs : List (List Int)) (c1 c2 : Nat) (w : World) (h1 : SlRd intsR w a1 xs) (h2 : SlRd intsR w a2 xs) (hm : (slM intsM).bk xs ≤ 1152921504606846976) :
    Calls Tryz.prog 115 #[.slice a1 xs.length c1, .slice a2 xs.length c2] w fun e w' => e = .returned (.bool true) ∧ ∃ n, w' = w.drewN n := by
 have hbk : (slM intsM).bk xs = xs.length + sumbk intsM xs := rfl
 have hln : xs.length ≤ 1152921504606846976 := by omega
 have HB : Hid (sumbk intsM xs ≤ 1152921504606846976) := by unfold Hid; omega
 clear hbk hm
 go_enter Tryz.func115, Tryz.ntmps115
 go_wp2
 go_loopw [5] (fun i wr => ∃ k : Nat, k ≤ xs.length ∧ i = .int .i64 k ∧ ∃ n, wr = w.drewN n) (fun i _ => xs.length - (intOf i).toNat)
 case atStart => exact ⟨0, Nat.zero_le _, rfl, 0, rfl⟩
 case round =>
  obtain ⟨k, hk, rfl, n, hw⟩ := hrel
  by_cases hlt : k < xs.length
  ·have hlt' : (k : Int) < (xs.length : Int) := by omega
   obtain ⟨x, hx⟩ : ∃ x, xs[k]? = some x := ⟨_, List.getElem?_eq_getElem hlt⟩
   have kk : ∀ j, j < w.heap.size → wr.heap[j]? = w.heap[j]? := by rw [hw]; exact fun _ _ => rfl
   obtain ⟨b, off, c, rfl, ⟨aj, cj, rfl, hc1, hc2, hrd⟩, hcell⟩ := slrd_at (slrd_keep h1 kk) hx
   obtain ⟨b2, off2, c2, rfl, ⟨aj2, cj2, rfl, hc3, hc4, hrd2⟩, hcell2⟩ := slrd_at (slrd_keep h2 kk) hx
   have g1 := hcell 0 _ rfl
   have g2 := hcell2 0 _ rfl
   rw [show k * (intsR).size + 0 = k from Nat.mul_one k] at g1 g2
   have HR : Hid (∀ q, SlRd _ (wr.drewN q) aj x) := fun q => slrd_keep hrd (fun _ _ => rfl)
   have HR2 : Hid (∀ q, SlRd _ (wr.drewN q) aj2 x) := fun q => slrd_keep hrd2 (fun _ _ => rfl)
   have HX : Hid ((intsM).bk x ≤ 1152921504606846976) := by unfold Hid; have := sumbk_get (M := intsM) hx; have := HB.out; omega
   have HW : Hid (wr = w.drewN n) := hw
   clear h1 h2 hx hrd hrd2 hcell hcell2 hw kk
   go_wp2_with fail
   go_quiet (first | (go_at_call 139; exact Calls.quiet_of (eqInt64S_rep _ _ x _ _ _ (HR.out _) (HR2.out _) HX.out)))
   go_wp2
   go_roundw
   case rel => exact ⟨k + 1, by omega, by go_num, n + nq, by rw [HW.out, World.drewN_drewN]⟩
   case measure => simp [intOf]; omega
  ·go_wp2
   go_ret
   first | exact ⟨rfl, _, rfl⟩ | exact ⟨rfl, _, hw⟩
theorem markInt64SS_nil (k : Int) (w : World) :
    Calls Tryz.prog 140 #[.slice none 0 0, .int .i64 k] w fun e' w' => e' = .returned (.int .i64 k) ∧ w' = w := by
 go_enter Tryz.func140, Tryz.ntmps140
 go_wp2
 refine wp_loop_rounds 1 ?_
 rw [rounds_succ]
 go_wp2
 go_ret
 exact ⟨rfl, rfl⟩
theorem markInt64SS_rep (S : Foot) (v : Value) (k : Int) (xs : List (List Int)) (w : World) (h0 : 0 ≤ k) (h1 : k ≤ 576460752303423488) (hm : slcnt intsM xs ≤ 576460752303423488) (hln : xs.length ≤ 576460752303423488) (h : (slR 79 intsR).own w S [v] xs) :
    Calls Tryz.prog 140 #[v, .int .i64 k] w fun e' w' => e' = .returned (.int .i64 (k + slcnt intsM xs)) ∧ (slR 79 intsR).own w' S [v] (slmark intsM k xs) ∧ Chg S w w' := by
 rcases slown_form h with ⟨rfl, rfl⟩ | ⟨G, cap, rfl, hG⟩
 ·exact (markInt64SS_nil k w).mono fun e w' ⟨e1, e2⟩ => ⟨by simpa [slcnt] using e1, by rw [e2]; exact h, by rw [e2]; exact Chg.refl _ _⟩
 go_enter Tryz.func140, Tryz.ntmps140
 go_wp2
 go_loopw [1, 5] (fun q i wr => ∃ j : Nat, j ≤ xs.length ∧ i = .int .i64 j ∧ q = .int .i64 (k + slcnt intsM (xs.take j)) ∧ (slR 79 intsR).own wr S [.slice (some ⟨G, 0, none⟩) xs.length cap] (pmark intsM k xs j) ∧ Chg S w wr)
  (fun _ i _ => xs.length - (intOf i).toNat)
 case atStart => exact ⟨0, Nat.zero_le _, rfl, by simp [slcnt], by rw [pmark_zero]; exact h, Chg.refl _ _⟩
 case round =>
  obtain ⟨j, hj, rfl, rfl, ho, hs⟩ := hrel
  by_cases hlt : j < xs.length
  ·have hlt' : (j : Int) < (xs.length : Int) := by omega
   obtain ⟨x, hx⟩ : ∃ x, xs[j]? = some x := ⟨_, List.getElem?_eq_getElem hlt⟩
   have HT : Hid (slcnt intsM (xs.take (j + 1)) = slcnt intsM (xs.take j) + slcnt intM x) := slcnt_step (M := intsM) hx
   have hT : slcnt intsM (xs.take j) + slcnt intM x ≤ slcnt intsM xs := slcnt_get (M := intsM) hx
   have HPS : Hid _ := pmark_step (M := intsM) (k := k) hx
   obtain ⟨g, cap', cur, Sj, T, c, hv, hSg, hblk, hcur, hcl, hown, s1, s2, s3, s4, s5, close⟩ := slown_focus ho (pmark_at hx)
   obtain ⟨vj, rfl⟩ : ∃ vj, c = [vj] := List.length_eq_one_iff.1 hcl
   obtain ⟨av, cv, rfl⟩ := slown_val hown
   simp only [Value.slice.injEq, Option.some.injEq, Addr.mk.injEq, and_true] at hv
   obtain ⟨rfl, hvx⟩ := hv
   clear hvx hcl
   have q1 : wr.cell? ⟨G, j, none⟩ = some (.slice av x.length cv) := by
    rw [cell_of_row wr G j cur _ (0, 0) hblk]
    have := hcur 0 Nat.zero_lt_one
    rwa [show j * (intsR).size + 0 = j from Nat.mul_one j] at this
   have HO : Hid _ := hown
   have HC : Hid (∀ w', Chg Sj wr w' → (intsR).own w' Sj [.slice av x.length cv] (slmark intM (k + slcnt intsM (xs.take j)) x) → (slR 79 intsR).own w' S [.slice (some ⟨G, 0, none⟩) xs.length cap] (pmark intsM k xs (j + 1))) := by
    intro w' hc ho'
    rw [← HPS.out]
    have hlg : G < wr.heap.size := (Array.getElem?_eq_some_iff.1 hblk).1
    exact close w' cur [.slice av x.length cv] _ Sj S (by rw [hc.block G hlg s4]; exact hblk) rfl (fun _ _ => rfl) hcur (hc.keeps s3.symm) ho' s3 s4 hSg s1 s2
   have HS1 : Hid _ := s1
   clear hx ho hown close hcur hblk s2 s3 s4 s5 s1 HPS h
   generalize slcnt intsM (xs.take j) = T at HT hT HC ⊢
   go_wp2_with (go_at_call 68; refine (markInt64S_rep Sj _ _ x _ (by omega) (by omega) (by omega) HO.out).mono ?_; rintro e w' ⟨rfl, own2, gr⟩)
   have ho2 := HC.out w' gr own2
   have hs2 := hs.trans (gr.mono HS1.out)
   clear own2 gr
   go_roundw
   case rel => exact ⟨j + 1, by omega, by go_num, by rw [HT.out]; go_num, ho2, hs2⟩
   case measure => simp [intOf]; omega
  ·have hjn : j = xs.length := by omega
   subst hjn
   rw [List.take_length]
   rw [pmark_all] at ho
   go_wp2
   go_ret
   exact ⟨rfl, ho, hs⟩
theorem heldInt64SS_rep (a : Option Addr) (cap : Nat) (k : Int) (xs : List (List Int)) (w : World) (h0 : 0 ≤ k) (h1 : k ≤ 576460752303423488) (hm : slcnt intsM xs ≤ 576460752303423488) (hln : xs.length ≤ 576460752303423488) (h : SlRd intsR w a (slmark intsM k xs)) :
    Calls Tryz.prog 143 #[.slice a xs.length cap, .int .i64 k] w fun e' w' => e' = .returned (.int .i64 (k + slcnt intsM xs)) ∧ w' = w := by
 go_enter Tryz.func143, Tryz.ntmps143
 go_wp2
 go_loop [1, 5] (fun q i => ∃ j : Nat, j ≤ xs.length ∧ i = .int .i64 j ∧ q = .int .i64 (k + slcnt intsM (xs.take j))) (fun _ i => xs.length - (intOf i).toNat)
 case atStart => exact ⟨0, Nat.zero_le _, rfl, by simp [slcnt]⟩
 case round =>
  obtain ⟨j, hj, rfl, rfl⟩ := hrel
  by_cases hlt : j < xs.length
  ·have hlt' : (j : Int) < (xs.length : Int) := by omega
   obtain ⟨x, hx⟩ : ∃ x, xs[j]? = some x := ⟨_, List.getElem?_eq_getElem hlt⟩
   obtain ⟨b, off, c, rfl, ⟨aj, cj, rfl, hc1, hc2, hrd⟩, hcell⟩ := slrd_at h (slmark_at (M := intsM) (k := k) hx)
   have g1 := hcell 0 _ rfl
   rw [show j * (intsR).size + 0 = j from Nat.mul_one j] at g1
   have hml : ((intsM).mE (k + slcnt intsM (xs.take j)) x).length = x.length := slmark_len _ _ _
   rw [hml] at g1
   have HR : Hid (SlRd _ w aj (slmark intM (k + slcnt intsM (xs.take j)) x)) := hrd
   have HT : Hid (slcnt intsM (xs.take (j + 1)) = slcnt intsM (xs.take j) + slcnt intM x) := slcnt_step (M := intsM) hx
   have hT : slcnt intsM (xs.take j) + slcnt intM x ≤ slcnt intsM xs := slcnt_get (M := intsM) hx
   clear hx hrd hcell h hml hc1
   generalize slcnt intsM (xs.take j) = T at HT hT HR ⊢
   have hn : ¬ (k + (T : Int) + ((slcnt intM x : Nat) : Int) < 0) := by omega
   go_wp2_with (go_at_call 146; refine (heldInt64S_rep _ _ _ x _ (by omega) (by omega) (by omega) HR.out).mono ?_; rintro e w' ⟨rfl, rfl⟩)
   go_round
   case rel => exact ⟨j + 1, by omega, by go_num, by rw [HT.out]; go_num⟩
   case measure => simp [intOf]; omega
  ·have hjn : j = xs.length := by omega
   subst hjn
   rw [List.take_length]
   go_wp2
   go_ret
   exact ⟨rfl, rfl⟩
end Go.Proofs.YthnfkacboijneaaGreatDoor
