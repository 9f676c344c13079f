import Derived.Test.YtmaopldahnejdaaGreatDoorG00Box
import Derived.Test.YtmaopldahnejdaaGreatDoorG19
namespace Go.Proofs.YtmaopldahnejdaaGreatDoor
set_option maxHeartbeats 4000000
set_option maxRecDepth 20000
open Go.ChangeShapes Go.WideShapes Go.ChangeAt Go.RowKit
set_option linter.unusedVariables false
set_option linter.unusedSimpArgs false
theorem zCn {α : Type} {R : Rep α} {w w1 w2 : World} {cs : List Value} {u : α} (hb : Bl w w1) (h : zAD R w1 w2 cs u) : zAD R w w2 cs u :=
 ⟨R.own_mono h.1 (zAL hb.size (Nat.le_refl _)), zAa hb h.2⟩
theorem zEy : (Tryz.prog.info? 30).map (fun i => (i.zero, i.size, i.bytes)) = some (some (.agg #[nI 0, nI 0, nI 0, nI 0, nI 0, sL none 0 0, nI 0]), 7, 72) := by kernel_rfl
theorem zCE {k kind : Int} {ls : List Int} {j : Nat} {x : Int} (h : ls[j]? = some x) : zAG k kind (ls.take j) ++ [zC1 k 1 x (if kind = 1 ∨ kind = 3 then 6 else 7) [] 0] = zAG k kind (ls.take (j + 1)) := by
 unfold zAG;rw [List.take_add_one, h, List.map_append];rfl
theorem zKo (k : Int) (ua : Option Addr) (un uc : Nat) (o s kd f l mk : Int) (b : Bool) (va : Option Addr) (vn vc : Nat) (ls : List Int) (ga : Option Addr) (gc : Nat) (w : World) (hk : zA4 k) (hd : zBv zBf w ga ls) (hm : ls.length ≤ 1000) :
    Calls Tryz.prog 144 #[.agg #[nI k, sL ua un uc, nI o, nI s, .bool b, nI kd, nI f, nI l, nI mk, sL va vn vc], sL ga ls.length gc] w fun e w' => ∃ v, e = .returned v ∧ zAD zAT w w' [v] (zAG k kd ls) := by
 have HD : Hid (∀ W, Bl w W → zBv zBf W ga ls) := fun W hb => zAt hd hb;have G : Hid _ := hk;obtain ⟨kq, eA⟩ : ∃ q : Int, q = if kd = 1 ∨ kd = 3 then 6 else 7 := ⟨_, rfl⟩
 have D : Hid _ := eA;have O : Hid (zA4 kq) := by
  unfold Hid;rw [eA];split <;> constructor <;> decide
 clear hd hk eA;have B := Below.refl w.heap.size w;go_enter Tryz.func144, Tryz.ntmps144;go_upto_region 1 with fail
 generalize F : w.alloc _ = u1w;have X := boxH F;have bz := boxB F;clear F;replace B := zAa B bz;clear bz;by_cases q1 : kd = 1
 ·have e6 : kq = 6 := by rw [D.out, if_pos (Or.inl q1)]
  have z1 : (kd == 1) = true := by simp [q1]
  subst e6;clear q1;have MN := zCz (e := 30) (R := zDk) u1w #[] 0 (Nat.zero_le _) rfl;have d : Hid _ := aI B X;have U := zAb (zAg u1w (.cells #[] 30)) X;have Xd := zAc X;have Xc := zAc U;have Xlt := (ltH U);clear B X;go_wp2;clear Xc Xlt Xd;go_loopw [6, 22] (fun r i wr => ∃ j : Nat, j ≤ ls.length ∧ i = nI j ∧ ∃ n, n = r ∧ zAD zAT u1w wr [n] (zAG k kd (ls.take j))) (fun _ i _ => ls.length - (intOf i).toNat)
  case atStart => exact ⟨0, Nat.zero_le _, rfl, _, rfl, MN⟩
  case round =>
   clear MN U;obtain ⟨j, hj, rfl, n, rfl, M⟩ := hrel;by_cases T : j < ls.length
   ·have aA : (j : Int) < (ls.length : Int) := by omega
    obtain ⟨x, S⟩ : ∃ x, ls[j]? = some x := ⟨_, List.getElem?_eq_getElem T⟩;obtain ⟨bb, y, cs, rfl, A, a⟩ := zBH (HD.out _ (zAa d.out.1 M.2)) S;obtain ⟨rfl, c⟩ := A;have x0 := a 0 _ rfl;rw [show y + (j * zBf.size + 0) = y + j from by rw [show zBf.size = 1 from rfl]; omega] at x0;have p : Hid _ := c;have z : Hid _ := zCE (k := k) (kind := kd) S;have C : Hid ((zAG k kd (ls.take j)).length = j) := by unfold Hid zAG; rw [List.length_map, List.length_take]; omega
    obtain ⟨ti, hi, L, J, H⟩ := info_parts zEy;have m : Hid _ := M;have X := zAb M.2 d.out.2;clear a S M c;have Xc := zAc X;have Xlt := (ltH X);go_wp2_with fail
    clear Xc Xlt x0;refine (zCm k 1 x 6 ua un uc o s kd f l mk b va vn vc _).mono ?_;rintro e w9 ⟨rfl, Y⟩;have g : Hid _ := Y;clear Y X;rw [← D.out] at z;have K := m.out.2.size;have N := g.out.size;go_wp2_with (at_builtin; refine zCc (w0 := u1w) (wr := wr) (w1 := w9) rfl _ _ 33 rfl zDk 30 ti (.agg #[nI 0, nI 0, nI 0, nI 0, nI 0, sL none 0 0, nI 0]) 72 Tryz.underlying33 hi L J H rfl (by decide) (by decide) n (zAG k kd (ls.take j)) [nI 1, nI 4, nI x, nI 6, nI k, sL none 0 0, nI 0] (zC1 k 1 x 6 [] 0) 1 rfl _ rfl rfl m.out g.out (zBC (zEz 1) (zEz 4) p.out O.out G.out (zEz 0) (zBh _ _)) ?c1 ?c2 ?c3 ?_)
    case c1 => intro q Z; simp at Z; rcases Z with rfl | rfl | rfl | rfl | rfl | rfl | rfl <;> rfl
    case c2 => rw [C.out]; unfold maxLen; omega
    case c3 => rw [C.out]; omega
    intro g' bA w2 E NC;rw [z.out] at E;have I : Hid _ := E;clear E NC m g K N;go_wp2;go_roundw
    case rel => exact ⟨j + 1, by omega, by go_num, _, rfl, I.out⟩
    case measure => simp [intOf]; omega
   ·have V : j = ls.length := by omega
    subst V;rw [List.take_length] at M;have m : Hid (zAD zAT w wr [n] (zAG k kd ls)) := zCn d.out.1 M;clear M;go_wp2;go_ret
    exact ⟨_, rfl, m.out⟩
 ·have z1 : (kd == 1) = false := by simp [q1]
  by_cases q3 : kd = 3
  ·have e6 : kq = 6 := by rw [D.out, if_pos (Or.inr q3)]
   have z3 : (kd == 3) = true := by simp [q3]
   subst e6;clear q1 q3;have MN := zCz (e := 30) (R := zDk) u1w #[] 0 (Nat.zero_le _) rfl;have d : Hid _ := aI B X;have U := zAb (zAg u1w (.cells #[] 30)) X;have Xd := zAc X;have Xc := zAc U;have Xlt := (ltH U);clear B X;go_wp2;clear Xc Xlt Xd;go_loopw [6, 22] (fun r i wr => ∃ j : Nat, j ≤ ls.length ∧ i = nI j ∧ ∃ n, n = r ∧ zAD zAT u1w wr [n] (zAG k kd (ls.take j))) (fun _ i _ => ls.length - (intOf i).toNat)
   case atStart => exact ⟨0, Nat.zero_le _, rfl, _, rfl, MN⟩
   case round =>
    clear MN U;obtain ⟨j, hj, rfl, n, rfl, M⟩ := hrel;by_cases T : j < ls.length
    ·have aA : (j : Int) < (ls.length : Int) := by omega
     obtain ⟨x, S⟩ : ∃ x, ls[j]? = some x := ⟨_, List.getElem?_eq_getElem T⟩;obtain ⟨bb, y, cs, rfl, A, a⟩ := zBH (HD.out _ (zAa d.out.1 M.2)) S;obtain ⟨rfl, c⟩ := A;have x0 := a 0 _ rfl;rw [show y + (j * zBf.size + 0) = y + j from by rw [show zBf.size = 1 from rfl]; omega] at x0;have p : Hid _ := c;have z : Hid _ := zCE (k := k) (kind := kd) S;have C : Hid ((zAG k kd (ls.take j)).length = j) := by unfold Hid zAG; rw [List.length_map, List.length_take]; omega
     obtain ⟨ti, hi, L, J, H⟩ := info_parts zEy;have m : Hid _ := M;have X := zAb M.2 d.out.2;clear a S M c;have Xc := zAc X;have Xlt := (ltH X);go_wp2_with fail
     clear Xc Xlt x0;refine (zCm k 1 x 6 ua un uc o s kd f l mk b va vn vc _).mono ?_;rintro e w9 ⟨rfl, Y⟩;have g : Hid _ := Y;clear Y X;rw [← D.out] at z;have K := m.out.2.size;have N := g.out.size;go_wp2_with (at_builtin; refine zCc (w0 := u1w) (wr := wr) (w1 := w9) rfl _ _ 33 rfl zDk 30 ti (.agg #[nI 0, nI 0, nI 0, nI 0, nI 0, sL none 0 0, nI 0]) 72 Tryz.underlying33 hi L J H rfl (by decide) (by decide) n (zAG k kd (ls.take j)) [nI 1, nI 4, nI x, nI 6, nI k, sL none 0 0, nI 0] (zC1 k 1 x 6 [] 0) 1 rfl _ rfl rfl m.out g.out (zBC (zEz 1) (zEz 4) p.out O.out G.out (zEz 0) (zBh _ _)) ?c1 ?c2 ?c3 ?_)
     case c1 => intro q Z; simp at Z; rcases Z with rfl | rfl | rfl | rfl | rfl | rfl | rfl <;> rfl
     case c2 => rw [C.out]; unfold maxLen; omega
     case c3 => rw [C.out]; omega
     intro g' bA w2 E NC;rw [z.out] at E;have I : Hid _ := E;clear E NC m g K N;go_wp2;go_roundw
     case rel => exact ⟨j + 1, by omega, by go_num, _, rfl, I.out⟩
     case measure => simp [intOf]; omega
    ·have V : j = ls.length := by omega
     subst V;rw [List.take_length] at M;have m : Hid (zAD zAT w wr [n] (zAG k kd ls)) := zCn d.out.1 M;clear M;go_wp2;go_ret
     exact ⟨_, rfl, m.out⟩
  ·have e7 : kq = 7 := by rw [D.out, if_neg (by omega)]
   have z3 : (kd == 3) = false := by simp [q3]
   subst e7;clear q1 q3;have MN := zCz (e := 30) (R := zDk) u1w #[] 0 (Nat.zero_le _) rfl;have d : Hid _ := aI B X;have U := zAb (zAg u1w (.cells #[] 30)) X;have Xd := zAc X;have Xc := zAc U;have Xlt := (ltH U);clear B X;go_wp2;clear Xc Xlt Xd;go_loopw [6, 22] (fun r i wr => ∃ j : Nat, j ≤ ls.length ∧ i = nI j ∧ ∃ n, n = r ∧ zAD zAT u1w wr [n] (zAG k kd (ls.take j))) (fun _ i _ => ls.length - (intOf i).toNat)
   case atStart => exact ⟨0, Nat.zero_le _, rfl, _, rfl, MN⟩
   case round =>
    clear MN U;obtain ⟨j, hj, rfl, n, rfl, M⟩ := hrel;by_cases T : j < ls.length
    ·have aA : (j : Int) < (ls.length : Int) := by omega
     obtain ⟨x, S⟩ : ∃ x, ls[j]? = some x := ⟨_, List.getElem?_eq_getElem T⟩;obtain ⟨bb, y, cs, rfl, A, a⟩ := zBH (HD.out _ (zAa d.out.1 M.2)) S;obtain ⟨rfl, c⟩ := A;have x0 := a 0 _ rfl;rw [show y + (j * zBf.size + 0) = y + j from by rw [show zBf.size = 1 from rfl]; omega] at x0;have p : Hid _ := c;have z : Hid _ := zCE (k := k) (kind := kd) S;have C : Hid ((zAG k kd (ls.take j)).length = j) := by unfold Hid zAG; rw [List.length_map, List.length_take]; omega
     obtain ⟨ti, hi, L, J, H⟩ := info_parts zEy;have m : Hid _ := M;have X := zAb M.2 d.out.2;clear a S M c;have Xc := zAc X;have Xlt := (ltH X);go_wp2_with fail
     clear Xc Xlt x0;refine (zCm k 1 x 7 ua un uc o s kd f l mk b va vn vc _).mono ?_;rintro e w9 ⟨rfl, Y⟩;have g : Hid _ := Y;clear Y X;rw [← D.out] at z;have K := m.out.2.size;have N := g.out.size;go_wp2_with (at_builtin; refine zCc (w0 := u1w) (wr := wr) (w1 := w9) rfl _ _ 33 rfl zDk 30 ti (.agg #[nI 0, nI 0, nI 0, nI 0, nI 0, sL none 0 0, nI 0]) 72 Tryz.underlying33 hi L J H rfl (by decide) (by decide) n (zAG k kd (ls.take j)) [nI 1, nI 4, nI x, nI 7, nI k, sL none 0 0, nI 0] (zC1 k 1 x 7 [] 0) 1 rfl _ rfl rfl m.out g.out (zBC (zEz 1) (zEz 4) p.out O.out G.out (zEz 0) (zBh _ _)) ?c1 ?c2 ?c3 ?_)
     case c1 => intro q Z; simp at Z; rcases Z with rfl | rfl | rfl | rfl | rfl | rfl | rfl <;> rfl
     case c2 => rw [C.out]; unfold maxLen; omega
     case c3 => rw [C.out]; omega
     intro g' bA w2 E NC;rw [z.out] at E;have I : Hid _ := E;clear E NC m g K N;go_wp2;go_roundw
     case rel => exact ⟨j + 1, by omega, by go_num, _, rfl, I.out⟩
     case measure => simp [intOf]; omega
    ·have V : j = ls.length := by omega
     subst V;rw [List.take_length] at M;have m : Hid (zAD zAT w wr [n] (zAG k kd ls)) := zCn d.out.1 M;clear M;go_wp2;go_ret
     exact ⟨_, rfl, m.out⟩
theorem has_true {xs : List Int} {k : Nat} {c : Int} (hk : k < xs.length) (h : xs.getD k 0 = c) : decide (c ∈ xs) = true := by
 rw [decide_eq_true_eq];rw [← h, List.getD_eq_getElem?_getD, List.getElem?_eq_getElem hk];exact List.getElem_mem hk
theorem zLy {xs : List Int} {c : Int} (h : ∀ j, j < xs.length → xs.getD j 0 ≠ c) : decide (c ∈ xs) = false := by
 cases q : decide (c ∈ xs)
 ·rfl
 ·rw [decide_eq_true_eq] at q;obtain ⟨n, a, e⟩ := List.getElem_of_mem q;exact absurd (by rw [List.getD_eq_getElem?_getD, List.getElem?_eq_getElem a]; exact e) (h n a)
def zDT (c : Int) (xs : List Int) : List Int := xs.filter (fun y => decide (y ≠ c))
theorem zHC {xs : List Int} {k : Nat} {c x : Int} (h : xs[k]? = some x) (hx : ¬ x = c) : zDT c (xs.take (k + 1)) = zDT c (xs.take k) ++ [x] := by
 unfold zDT;rw [List.take_add_one, h, List.filter_append];simp [hx]
theorem zIZ {xs : List Int} {k : Nat} {c x : Int} (h : xs[k]? = some x) (hx : x = c) : zDT c (xs.take (k + 1)) = zDT c (xs.take k) := by
 unfold zDT;rw [List.take_add_one, h, List.filter_append];simp [hx]
theorem zHD (xs : List Int) (k : Nat) (c : Int) : (zDT c (xs.take k)).length ≤ xs.length := Nat.le_trans (List.length_filter_le _ _) (by rw [List.length_take]; omega)
theorem zGm {w : World} {S : zAN} {a : Option Addr} {n c : Nat} {xs : List Int} (h : zAm.own w S [sL a n c] xs) : zBv zBf w a xs := by
 obtain ⟨b, cp, e, -, -, q⟩ := zAm.own_rd h;simp only [List.cons.injEq, and_true, Value.slice.injEq] at e;obtain ⟨rfl, -⟩ := e;exact q
theorem zIx (a : Option Addr) (xs : List Int) (cap : Nat) (c : Int) (w : World) (h : zBr w a xs) (hm : xs.length ≤ 1048576) :
    Calls Tryz.prog 126 #[sL a xs.length cap, nI c] w fun e w' => e = .returned (.bool (decide (c ∈ xs))) ∧ w' = w := by
 go_enter Tryz.func126, Tryz.ntmps126;go_wp2;go_loop [5] (fun i => ∃ k : Nat, k ≤ xs.length ∧ i = nI k ∧ ∀ j, j < k → xs.getD j 0 ≠ c) (fun i => xs.length - (intOf i).toNat)
 case atStart => exact ⟨0, Nat.zero_le _, rfl, fun j hj => by omega⟩
 case round =>
  obtain ⟨k, hk, rfl, d⟩ := hrel;by_cases g : k < xs.length
  ·have p : (k : Int) < (xs.length : Int) := by omega
   rcases h with rfl | ⟨b, q, rfl, o⟩
   ·simp at g
   have v := o k g;generalize l : xs.getD k 0 = x at v;by_cases f : x = c
   ·have n : Hid (decide (c ∈ xs) = true) := has_true g (by rw [l]; exact f);have s : (x == c) = true := by simp [f]
    clear d o l;go_wp2;go_ret
    exact ⟨zAJ n.out.symm, rfl⟩
   ·have r : Hid (∀ j, j < k + 1 → xs.getD j 0 ≠ c) := fun j hj => by
      by_cases e : j = k
      ·subst e; rw [l]; exact f
      ·exact d j (by omega)
    have s : (x == c) = false := by simp [f]
    clear d o l;go_wp2;go_round
    case rel => exact ⟨k + 1, by omega, by go_num, r.out⟩
    case measure => simp [intOf]; omega
  ·have m : k = xs.length := by omega
   have n : Hid (decide (c ∈ xs) = false) := zLy (by rw [← m]; exact d);clear d;go_wp2;go_ret
   exact ⟨zAJ n.out.symm, rfl⟩
theorem zIy (o s k f l m : Int) (b : Bool) (d : List Int) (a : Option Addr) (cap : Nat) (kind c : Int) (w : World) (hw : zAI o s = true) :
    Calls Tryz.prog 123 #[.agg #[nI o, nI s, .bool b, nI k, nI f, nI l, nI m, sL a d.length cap], nI kind, nI c] w fun e w' => ∃ v, e = .returned v ∧ zAD zAm w w' [v] (zJF o s kind c) := by
 have TA := zCy hw;have gA : zA4 o := ⟨by omega, by omega⟩;have dA : ∀ x ∈ hoI o s, zA4 x := ho_64 hw;have vA : (hoI o s).length ≤ 100 := by have := zDA o s; omega
 have B := Below.refl w.heap.size w;go_enter Tryz.func123, Tryz.ntmps123;go_upto_region 1 with fail
 generalize sA : w.alloc _ = W0;have X := boxH sA;have bz := boxB sA;clear sA;replace B := zAa B bz;clear bz;obtain ⟨x0, x1, x2, x3, x4, x5, x6, x7⟩ := zAk X;have aA := (ltH X);go_wp2_with fail
 refine (zCh o s k f l m b d a cap _ hw).mono ?_;clear x0 x1 x2 x3 x4 x5 x6 x7 aA;rintro e w1 ⟨v, rfl, g1, c1, rfl, l1, m1, o1, b1⟩;replace X := zAb b1 X;replace B := zAa B b1;have yA := zC5 o1;clear b1 o1 l1 m1;by_cases q1 : kind = 1 ∨ kind = 3
 ·skip
  have HT : Hid ((kind == 1) = true ∨ ((kind == 1) = false ∧ (kind == 3) = true)) := by
   rcases q1 with q | q
   ·exact .inl (by simp [q])
   ·exact .inr ⟨by simp [q], by simp [q]⟩
  obtain ⟨x0, x1, x2, x3, x4, x5, x6, x7⟩ := zAk X;have nA := zAf (zAg w1 (.cells #[] 2)) x0 (zAi x0);have aA := (ltH X);clear x1 x2 x3 x4 x5 x6 x7 X yA vA dA;by_cases qo : 0 ≤ o
  ·have T : Hid (zDT c [o] = zJF o s kind c) := by unfold Hid zJF; rw [if_pos q1, if_pos qo]; rfl
   have O : ∀ x ∈ [o], zA4 x := by simp; exact gA
   have ll : [o].length ≤ 100 := by simp
   obtain ⟨ti, hi, I, F, H⟩ := info_parts Tryz.infoI;clear q1;rcases HT.out with z1 | ⟨z1, z3⟩
   ·go_wp2_with (at_builtin; refine zCc (w0 := w1) (wr := w1.alloc (.cells #[] 2)) (w1 := w1.alloc (.cells #[] 2)) rfl _ _ 28 rfl zBf 2 ti (nI 0) 8 Tryz.underlying28 hi I F H rfl (by decide) (by decide) (sL (some ⟨w1.heap.size, 0, none⟩) 0 0) [] [nI o] o 1 rfl _ rfl (by simp) (zCz (e := 2) (R := zBf) w1 #[] 0 (Nat.zero_le _) rfl) (Below.refl _ _) ⟨rfl, gA⟩ ?c1 ?c2 ?c3 ?_)
    case c1 => intro q U; simp at U; rcases U with rfl; rfl
    case c2 => unfold maxLen; decide
    case c3 => decide
    intro g' Z w2 E NC;obtain ⟨A, n⟩ : ∃ A, A = some (⟨g', 0, none⟩ : Addr) := ⟨_, rfl⟩;have S : zBr w2 A [o] := n ▸ zAM (zGm E.1);replace B := zAa B E.2;rw [← n];clear n E NC x0 nA aA;go_upto_region 6 with fail
    generalize w2 = W1 at S B ⊢;have C : Hid (zBr W1 A [o] ∧ [o].length ≤ 100) := aI S ll;clear S ll;have V := zCz (e := 2) (R := zBf) W1 #[] 0 (Nat.zero_le _) rfl;have G : Hid _ := B;clear B;go_wp2;go_loopw [8, 9] (fun r i wr => ∃ j : Nat, j ≤ [o].length ∧ i = nI j ∧ ∃ y, y = r ∧ zAD zAm W1 wr [y] (zDT c ([o].take j))) (fun _ i _ => [o].length - (intOf i).toNat)
    case atStart => exact ⟨0, Nat.zero_le _, rfl, _, rfl, V⟩
    case round =>
     clear V;obtain ⟨j, hj, rfl, y, rfl, M⟩ := hrel;by_cases p : j < [o].length
     ·have qA : (j : Int) < ([o].length : Int) := by omega
      have fA : j < 101 := by have := C.out.2; omega
      have AA : (j : Int) < 1 := by simp at p; omega
      obtain ⟨x, Y⟩ : ∃ x, [o][j]? = some x := ⟨_, List.getElem?_eq_getElem p⟩;obtain ⟨K, g, rfl, L⟩ : ∃ K g, A = some ⟨K, g, none⟩ ∧ W1.cell? ⟨K, g + j, none⟩ = some (nI x) := by
       rcases C.out.1 with e | ⟨K, g, e, L⟩
       ·rw [e] at p; simp at p
       ·exact ⟨K, g, e, by rw [L j p, List.getD_eq_getElem?_getD, Y]; rfl⟩
      have x0 := zAf M.2 L (zAi L);have J : Hid (zA4 x) := O x (List.mem_of_getElem? Y);have HX : Hid _ := Y;have D : Hid _ := M;have N : Hid ((zDT c ([o].take j)).length ≤ 100) := Nat.le_trans (zHD _ _ _) C.out.2;obtain ⟨ti, hi, I, F, H⟩ := info_parts Tryz.infoI;clear Y M L;by_cases z : x = c
      ·have hb : (x == c) = true := by simp [z]
       have HF : Hid _ := zIZ HX.out z;go_wp2;go_roundw
       case rel => exact ⟨j + 1, by omega, by go_num, y, rfl, by rw [HF.out]; exact D.out⟩
       case measure => simp [intOf]; omega
      ·have hb : (x == c) = false := by simp [z]
       have HF : Hid _ := zHC HX.out z;go_wp2_with (at_builtin; refine zCc (w0 := W1) (wr := wr) (w1 := wr) rfl _ _ 28 rfl zBf 2 ti (nI 0) 8 Tryz.underlying28 hi I F H rfl (by decide) (by decide) y (zDT c ([o].take j)) [nI x] x 1 rfl _ rfl rfl D.out (Below.refl _ _) ⟨rfl, J.out⟩ ?c1 ?c2 ?c3 ?_)
       case c1 => intro q U; simp at U; rcases U with rfl; rfl
       case c2 => exact Nat.le_trans (Nat.succ_le_succ N.out) (by unfold maxLen; decide)
       case c3 => exact Nat.le_trans (Nat.mul_le_mul_right 8 (Nat.succ_le_succ N.out)) (by decide)
       intro g' Z w2 E NC;rw [← HF.out] at E;have cA : Hid _ := E;clear E NC D;go_wp2;go_roundw
       case rel => exact ⟨j + 1, by omega, by go_num, _, rfl, cA.out⟩
       case measure => simp [intOf]; omega
     ·have iA : j = [o].length := by omega
      subst iA;rw [List.take_length] at M;have D : Hid (zAD zAm w wr [y] (zJF o s kind c)) := T.out ▸ zCn G.out M;clear M;go_wp2;go_ret
      exact ⟨_, rfl, D.out⟩
   ·go_wp2_with (at_builtin; refine zCc (w0 := w1) (wr := w1.alloc (.cells #[] 2)) (w1 := w1.alloc (.cells #[] 2)) rfl _ _ 28 rfl zBf 2 ti (nI 0) 8 Tryz.underlying28 hi I F H rfl (by decide) (by decide) (sL (some ⟨w1.heap.size, 0, none⟩) 0 0) [] [nI o] o 1 rfl _ rfl (by simp) (zCz (e := 2) (R := zBf) w1 #[] 0 (Nat.zero_le _) rfl) (Below.refl _ _) ⟨rfl, gA⟩ ?c1 ?c2 ?c3 ?_)
    case c1 => intro q U; simp at U; rcases U with rfl; rfl
    case c2 => unfold maxLen; decide
    case c3 => decide
    intro g' Z w2 E NC;obtain ⟨A, n⟩ : ∃ A, A = some (⟨g', 0, none⟩ : Addr) := ⟨_, rfl⟩;have S : zBr w2 A [o] := n ▸ zAM (zGm E.1);replace B := zAa B E.2;rw [← n];clear n E NC x0 nA aA;go_upto_region 6 with fail
    generalize w2 = W1 at S B ⊢;have C : Hid (zBr W1 A [o] ∧ [o].length ≤ 100) := aI S ll;clear S ll;have V := zCz (e := 2) (R := zBf) W1 #[] 0 (Nat.zero_le _) rfl;have G : Hid _ := B;clear B;go_wp2;go_loopw [8, 9] (fun r i wr => ∃ j : Nat, j ≤ [o].length ∧ i = nI j ∧ ∃ y, y = r ∧ zAD zAm W1 wr [y] (zDT c ([o].take j))) (fun _ i _ => [o].length - (intOf i).toNat)
    case atStart => exact ⟨0, Nat.zero_le _, rfl, _, rfl, V⟩
    case round =>
     clear V;obtain ⟨j, hj, rfl, y, rfl, M⟩ := hrel;by_cases p : j < [o].length
     ·have qA : (j : Int) < ([o].length : Int) := by omega
      have fA : j < 101 := by have := C.out.2; omega
      have AA : (j : Int) < 1 := by simp at p; omega
      obtain ⟨x, Y⟩ : ∃ x, [o][j]? = some x := ⟨_, List.getElem?_eq_getElem p⟩;obtain ⟨K, g, rfl, L⟩ : ∃ K g, A = some ⟨K, g, none⟩ ∧ W1.cell? ⟨K, g + j, none⟩ = some (nI x) := by
       rcases C.out.1 with e | ⟨K, g, e, L⟩
       ·rw [e] at p; simp at p
       ·exact ⟨K, g, e, by rw [L j p, List.getD_eq_getElem?_getD, Y]; rfl⟩
      have x0 := zAf M.2 L (zAi L);have J : Hid (zA4 x) := O x (List.mem_of_getElem? Y);have HX : Hid _ := Y;have D : Hid _ := M;have N : Hid ((zDT c ([o].take j)).length ≤ 100) := Nat.le_trans (zHD _ _ _) C.out.2;obtain ⟨ti, hi, I, F, H⟩ := info_parts Tryz.infoI;clear Y M L;by_cases z : x = c
      ·have hb : (x == c) = true := by simp [z]
       have HF : Hid _ := zIZ HX.out z;go_wp2;go_roundw
       case rel => exact ⟨j + 1, by omega, by go_num, y, rfl, by rw [HF.out]; exact D.out⟩
       case measure => simp [intOf]; omega
      ·have hb : (x == c) = false := by simp [z]
       have HF : Hid _ := zHC HX.out z;go_wp2_with (at_builtin; refine zCc (w0 := W1) (wr := wr) (w1 := wr) rfl _ _ 28 rfl zBf 2 ti (nI 0) 8 Tryz.underlying28 hi I F H rfl (by decide) (by decide) y (zDT c ([o].take j)) [nI x] x 1 rfl _ rfl rfl D.out (Below.refl _ _) ⟨rfl, J.out⟩ ?c1 ?c2 ?c3 ?_)
       case c1 => intro q U; simp at U; rcases U with rfl; rfl
       case c2 => exact Nat.le_trans (Nat.succ_le_succ N.out) (by unfold maxLen; decide)
       case c3 => exact Nat.le_trans (Nat.mul_le_mul_right 8 (Nat.succ_le_succ N.out)) (by decide)
       intro g' Z w2 E NC;rw [← HF.out] at E;have cA : Hid _ := E;clear E NC D;go_wp2;go_roundw
       case rel => exact ⟨j + 1, by omega, by go_num, _, rfl, cA.out⟩
       case measure => simp [intOf]; omega
     ·have iA : j = [o].length := by omega
      subst iA;rw [List.take_length] at M;have D : Hid (zAD zAm w wr [y] (zJF o s kind c)) := T.out ▸ zCn G.out M;clear M;go_wp2;go_ret
      exact ⟨_, rfl, D.out⟩
  ·have T : Hid (zDT c ([] : List Int) = zJF o s kind c) := by unfold Hid zJF; rw [if_pos q1, if_neg qo]; rfl
   have O : ∀ x ∈ ([] : List Int), zA4 x := by simp
   have ll : ([] : List Int).length ≤ 100 := by simp
   obtain ⟨ti, hi, I, F, H⟩ := info_parts Tryz.infoI;clear q1;rcases HT.out with z1 | ⟨z1, z3⟩
   ·go_upto_region 6 with fail
    obtain ⟨A, n⟩ : ∃ A, A = some (⟨w1.heap.size, 0, none⟩ : Addr) := ⟨_, rfl⟩;have S : zBr (w1.alloc (.cells #[] 2)) A [] := .inl rfl;replace B := zAa B (zAg w1 (.cells #[] 2));rw [← n];clear n x0 nA aA;generalize w1.alloc (.cells #[] 2) = W1 at S B ⊢;have V := zCz (e := 2) (R := zBf) W1 #[] 0 (Nat.zero_le _) rfl;have G : Hid _ := B;clear B;go_wp2;go_loopw [8, 9] (fun r i wr => i = nI 0 ∧ ∃ y, y = r ∧ zAD zAm W1 wr [y] []) (fun _ i _ => 0)
    case atStart => exact ⟨rfl, _, rfl, V⟩
    case round =>
     clear V;obtain ⟨rfl, y, rfl, M⟩ := hrel;have D : Hid (zAD zAm w wr [y] (zJF o s kind c)) := T.out ▸ zCn G.out M;clear M;go_wp2;go_ret
     exact ⟨_, rfl, D.out⟩
   ·go_upto_region 6 with fail
    obtain ⟨A, n⟩ : ∃ A, A = some (⟨w1.heap.size, 0, none⟩ : Addr) := ⟨_, rfl⟩;have S : zBr (w1.alloc (.cells #[] 2)) A [] := .inl rfl;replace B := zAa B (zAg w1 (.cells #[] 2));rw [← n];clear n x0 nA aA;generalize w1.alloc (.cells #[] 2) = W1 at S B ⊢;have V := zCz (e := 2) (R := zBf) W1 #[] 0 (Nat.zero_le _) rfl;have G : Hid _ := B;clear B;go_wp2;go_loopw [8, 9] (fun r i wr => i = nI 0 ∧ ∃ y, y = r ∧ zAD zAm W1 wr [y] []) (fun _ i _ => 0)
    case atStart => exact ⟨rfl, _, rfl, V⟩
    case round =>
     clear V;obtain ⟨rfl, y, rfl, M⟩ := hrel;have D : Hid (zAD zAm w wr [y] (zJF o s kind c)) := T.out ▸ zCn G.out M;clear M;go_wp2;go_ret
     exact ⟨_, rfl, D.out⟩
 ·have z1 : (kind == 1) = false := beq_false_of_ne fun e => q1 (.inl e);have z3 : (kind == 3) = false := beq_false_of_ne fun e => q1 (.inr e);have T : Hid (zDT c (hoI o s) = zJF o s kind c) := by unfold Hid zJF; rw [if_neg q1]; rfl
  clear q1;obtain ⟨A, n⟩ : ∃ A, A = some (⟨g1, 0, none⟩ : Addr) := ⟨_, rfl⟩;have S : zBr w1 A (hoI o s) := n ▸ yA;have ll := vA;have O := dA;rw [← n];clear n yA vA dA X;generalize w1 = W1 at S B ⊢;go_upto_region 6 with fail
  have C : Hid (zBr W1 A (hoI o s) ∧ (hoI o s).length ≤ 100) := aI S ll;clear S ll;have V := zCz (e := 2) (R := zBf) W1 #[] 0 (Nat.zero_le _) rfl;have G : Hid _ := B;clear B;go_wp2;go_loopw [8, 9] (fun r i wr => ∃ j : Nat, j ≤ (hoI o s).length ∧ i = nI j ∧ ∃ y, y = r ∧ zAD zAm W1 wr [y] (zDT c ((hoI o s).take j))) (fun _ i _ => (hoI o s).length - (intOf i).toNat)
  case atStart => exact ⟨0, Nat.zero_le _, rfl, _, rfl, V⟩
  case round =>
   clear V;obtain ⟨j, hj, rfl, y, rfl, M⟩ := hrel;by_cases p : j < (hoI o s).length
   ·have qA : (j : Int) < ((hoI o s).length : Int) := by omega
    have fA : j < 101 := by have := C.out.2; omega
    obtain ⟨x, Y⟩ : ∃ x, (hoI o s)[j]? = some x := ⟨_, List.getElem?_eq_getElem p⟩;obtain ⟨K, g, rfl, L⟩ : ∃ K g, A = some ⟨K, g, none⟩ ∧ W1.cell? ⟨K, g + j, none⟩ = some (nI x) := by
     rcases C.out.1 with e | ⟨K, g, e, L⟩
     ·rw [e] at p; simp at p
     ·exact ⟨K, g, e, by rw [L j p, List.getD_eq_getElem?_getD, Y]; rfl⟩
    have x0 := zAf M.2 L (zAi L);have J : Hid (zA4 x) := O x (List.mem_of_getElem? Y);have HX : Hid _ := Y;have D : Hid _ := M;have N : Hid ((zDT c ((hoI o s).take j)).length ≤ 100) := Nat.le_trans (zHD _ _ _) C.out.2;obtain ⟨ti, hi, I, F, H⟩ := info_parts Tryz.infoI;clear Y M L;by_cases z : x = c
    ·have hb : (x == c) = true := by simp [z]
     have HF : Hid _ := zIZ HX.out z;go_wp2;go_roundw
     case rel => exact ⟨j + 1, by omega, by go_num, y, rfl, by rw [HF.out]; exact D.out⟩
     case measure => simp [intOf]; omega
    ·have hb : (x == c) = false := by simp [z]
     have HF : Hid _ := zHC HX.out z;go_wp2_with (at_builtin; refine zCc (w0 := W1) (wr := wr) (w1 := wr) rfl _ _ 28 rfl zBf 2 ti (nI 0) 8 Tryz.underlying28 hi I F H rfl (by decide) (by decide) y (zDT c ((hoI o s).take j)) [nI x] x 1 rfl _ rfl rfl D.out (Below.refl _ _) ⟨rfl, J.out⟩ ?c1 ?c2 ?c3 ?_)
     case c1 => intro q U; simp at U; rcases U with rfl; rfl
     case c2 => exact Nat.le_trans (Nat.succ_le_succ N.out) (by unfold maxLen; decide)
     case c3 => exact Nat.le_trans (Nat.mul_le_mul_right 8 (Nat.succ_le_succ N.out)) (by decide)
     intro g' Z w2 E NC;rw [← HF.out] at E;have cA : Hid _ := E;clear E NC D;go_wp2;go_roundw
     case rel => exact ⟨j + 1, by omega, by go_num, _, rfl, cA.out⟩
     case measure => simp [intOf]; omega
   ·have iA : j = (hoI o s).length := by omega
    subst iA;rw [List.take_length] at M;have D : Hid (zAD zAm w wr [y] (zJF o s kind c)) := T.out ▸ zCn G.out M;clear M;go_wp2;go_ret
    exact ⟨_, rfl, D.out⟩
end Go.Proofs.YtmaopldahnejdaaGreatDoor
