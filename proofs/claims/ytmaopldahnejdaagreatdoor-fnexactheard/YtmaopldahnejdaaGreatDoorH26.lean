import Derived.Test.YtmaopldahnejdaaGreatDoorH00Box
import Derived.Test.YtmaopldahnejdaaGreatDoorH25
import Derived.Test.YtmaopldahnejdaaGreatDoorH20
namespace Go.Proofs.YtmaopldahnejdaaGreatDoor
set_option maxHeartbeats 4000000
set_option maxRecDepth 20000
open Go.ChangeShapes Go.WideShapes Go.ChangeAt Go.RowKit
set_option linter.unusedVariables false
set_option linter.unusedSimpArgs false
theorem made_from9 {α : Type} {R : Rep α} {w w1 w2 : World} {cs : List Value} {u : α} (hb : Bl w w1) (h : MadeR R w1 w2 cs u) : MadeR R w w2 cs u :=
 ⟨R.own_mono h.1 (rng_sub hb.size (Nat.le_refl _)), below_step hb h.2⟩
theorem infoMsgH : (Tryz.prog.info? 30).map (fun i => (i.zero, i.size, i.bytes)) = some (some (.agg #[nI 0, nI 0, nI 0, nI 0, nI 0, sL none 0 0, nI 0]), 7, 72) := by kernel_rfl
theorem orders_step {k kind : Int} {ls : List Int} {j : Nat} {x : Int} (h : ls[j]? = some x) : ordersA k kind (ls.take j) ++ [letA k 1 x (if kind = 1 ∨ kind = 3 then 6 else 7) [] 0] = ordersA k kind (ls.take (j + 1)) := by
 unfold ordersA;rw [List.take_add_one, h, List.map_append];rfl
theorem orders_any (k : Int) (ua : Option Addr) (un uc : Nat) (o s kd f l mk : Int) (b : Bool) (va : Option Addr) (vn vc : Nat) (ls : List Int) (ga : Option Addr) (gc : Nat) (w : World) (hk : In64 k) (hd : SlRd intR w ga ls) (hm : ls.length ≤ 1000) :
    Calls Tryz.prog 144 #[.agg #[nI k, sL ua un uc, nI o, nI s, .bool b, nI kd, nI f, nI l, nI mk, sL va vn vc], sL ga ls.length gc] w fun e w' => ∃ v, e = .returned v ∧ MadeR msgsR w w' [v] (ordersA k kd ls) := by
 have HD : Hid (∀ W, Bl w W → SlRd intR W ga ls) := fun W hb => slrd_next hd hb;have U : Hid _ := hk;obtain ⟨kq, eA⟩ : ∃ q : Int, q = if kd = 1 ∨ kd = 3 then 6 else 7 := ⟨_, rfl⟩
 have D : Hid _ := eA;have V : Hid (In64 kq) := by
  unfold Hid;rw [eA];split <;> constructor <;> decide
 clear hd hk eA;have B := Below.refl w.heap.size w;go_enter Tryz.func144, Tryz.ntmps144;go_upto_region 1 with fail
 generalize K : w.alloc _ = u1w;have X := boxH K;have bz := boxB K;clear K;replace B := below_step B bz;clear bz;by_cases q1 : kd = 1
 ·have e6 : kq = 6 := by rw [D.out, if_pos (Or.inl q1)]
  have z1 : (kd == 1) = true := by simp [q1]
  subst e6;clear q1;have MN := made_cap (e := 30) (R := msgR) u1w #[] 0 (Nat.zero_le _) rfl;have g : Hid _ := aI B X;have E := row_keep (box_below u1w (.cells #[] 30)) X;have Xd := cells_acc X;have Xc := cells_acc E;have Xlt := (ltH E);clear B X;go_wp2;clear Xc Xlt Xd;go_loopw [6, 22] (fun r i wr => ∃ j : Nat, j ≤ ls.length ∧ i = nI j ∧ ∃ p, p = r ∧ MadeR msgsR u1w wr [p] (ordersA k kd (ls.take j))) (fun _ i _ => ls.length - (intOf i).toNat)
  case atStart => exact ⟨0, Nat.zero_le _, rfl, _, rfl, MN⟩
  case round =>
   clear MN E;obtain ⟨j, hj, rfl, p, rfl, M⟩ := hrel;by_cases N : j < ls.length
   ·have dA : (j : Int) < (ls.length : Int) := by omega
    obtain ⟨x, J⟩ : ∃ x, ls[j]? = some x := ⟨_, List.getElem?_eq_getElem N⟩;obtain ⟨bb, z, cs, rfl, n, a⟩ := slrd_at (HD.out _ (below_step g.out.1 M.2)) J;obtain ⟨rfl, c⟩ := n;have Z := a 0 _ rfl;rw [show z + (j * intR.size + 0) = z + j from by rw [show intR.size = 1 from rfl]; omega] at Z;have A : Hid _ := c;have m : Hid _ := orders_step (k := k) (kind := kd) J;have y : Hid ((ordersA k kd (ls.take j)).length = j) := by unfold Hid ordersA; rw [List.length_map, List.length_take]; omega
    obtain ⟨ti, hi, I, S, H⟩ := info_parts infoMsgH;have C : Hid _ := M;have X := row_keep M.2 g.out.2;clear a J M c;have Xc := cells_acc X;have Xlt := (ltH X);go_wp2_with fail
    clear Xc Xlt Z;refine (letter_any k 1 x 6 ua un uc o s kd f l mk b va vn vc _).mono ?_;rintro e w9 ⟨rfl, mb⟩;have d : Hid _ := mb;clear mb X;rw [← D.out] at m;have G := C.out.2.size;have T := d.out.size;go_wp2_with (at_builtin; refine wpList_pm (w0 := u1w) (wr := wr) (w1 := w9) rfl _ _ 33 rfl msgR 30 ti (.agg #[nI 0, nI 0, nI 0, nI 0, nI 0, sL none 0 0, nI 0]) 72 Tryz.underlying33 hi I S H rfl (by decide) (by decide) p (ordersA k kd (ls.take j)) [nI 1, nI 4, nI x, nI 6, nI k, sL none 0 0, nI 0] (letA k 1 x 6 [] 0) 1 rfl _ rfl rfl C.out d.out (own_msg (sm64 1) (sm64 4) A.out V.out U.out (sm64 0) (own_noneH _ _)) ?c1 ?c2 ?c3 ?_)
    case c1 => intro q hq; simp at hq; rcases hq with rfl | rfl | rfl | rfl | rfl | rfl | rfl <;> rfl
    case c2 => rw [y.out]; unfold maxLen; omega
    case c3 => rw [y.out]; omega
    intro g' Y w2 F NC;rw [m.out] at F;have O : Hid _ := F;clear F NC C d G T;go_wp2;go_roundw
    case rel => exact ⟨j + 1, by omega, by go_num, _, rfl, O.out⟩
    case measure => simp [intOf]; omega
   ·have L : j = ls.length := by omega
    subst L;rw [List.take_length] at M;have C : Hid (MadeR msgsR w wr [p] (ordersA k kd ls)) := made_from9 g.out.1 M;clear M;go_wp2;go_ret
    exact ⟨_, rfl, C.out⟩
 ·have z1 : (kd == 1) = false := by simp [q1]
  by_cases q3 : kd = 3
  ·have e6 : kq = 6 := by rw [D.out, if_pos (Or.inr q3)]
   have z3 : (kd == 3) = true := by simp [q3]
   subst e6;clear q1 q3;have MN := made_cap (e := 30) (R := msgR) u1w #[] 0 (Nat.zero_le _) rfl;have g : Hid _ := aI B X;have E := row_keep (box_below u1w (.cells #[] 30)) X;have Xd := cells_acc X;have Xc := cells_acc E;have Xlt := (ltH E);clear B X;go_wp2;clear Xc Xlt Xd;go_loopw [6, 22] (fun r i wr => ∃ j : Nat, j ≤ ls.length ∧ i = nI j ∧ ∃ p, p = r ∧ MadeR msgsR u1w wr [p] (ordersA k kd (ls.take j))) (fun _ i _ => ls.length - (intOf i).toNat)
   case atStart => exact ⟨0, Nat.zero_le _, rfl, _, rfl, MN⟩
   case round =>
    clear MN E;obtain ⟨j, hj, rfl, p, rfl, M⟩ := hrel;by_cases N : j < ls.length
    ·have dA : (j : Int) < (ls.length : Int) := by omega
     obtain ⟨x, J⟩ : ∃ x, ls[j]? = some x := ⟨_, List.getElem?_eq_getElem N⟩;obtain ⟨bb, z, cs, rfl, n, a⟩ := slrd_at (HD.out _ (below_step g.out.1 M.2)) J;obtain ⟨rfl, c⟩ := n;have Z := a 0 _ rfl;rw [show z + (j * intR.size + 0) = z + j from by rw [show intR.size = 1 from rfl]; omega] at Z;have A : Hid _ := c;have m : Hid _ := orders_step (k := k) (kind := kd) J;have y : Hid ((ordersA k kd (ls.take j)).length = j) := by unfold Hid ordersA; rw [List.length_map, List.length_take]; omega
     obtain ⟨ti, hi, I, S, H⟩ := info_parts infoMsgH;have C : Hid _ := M;have X := row_keep M.2 g.out.2;clear a J M c;have Xc := cells_acc X;have Xlt := (ltH X);go_wp2_with fail
     clear Xc Xlt Z;refine (letter_any k 1 x 6 ua un uc o s kd f l mk b va vn vc _).mono ?_;rintro e w9 ⟨rfl, mb⟩;have d : Hid _ := mb;clear mb X;rw [← D.out] at m;have G := C.out.2.size;have T := d.out.size;go_wp2_with (at_builtin; refine wpList_pm (w0 := u1w) (wr := wr) (w1 := w9) rfl _ _ 33 rfl msgR 30 ti (.agg #[nI 0, nI 0, nI 0, nI 0, nI 0, sL none 0 0, nI 0]) 72 Tryz.underlying33 hi I S H rfl (by decide) (by decide) p (ordersA k kd (ls.take j)) [nI 1, nI 4, nI x, nI 6, nI k, sL none 0 0, nI 0] (letA k 1 x 6 [] 0) 1 rfl _ rfl rfl C.out d.out (own_msg (sm64 1) (sm64 4) A.out V.out U.out (sm64 0) (own_noneH _ _)) ?c1 ?c2 ?c3 ?_)
     case c1 => intro q hq; simp at hq; rcases hq with rfl | rfl | rfl | rfl | rfl | rfl | rfl <;> rfl
     case c2 => rw [y.out]; unfold maxLen; omega
     case c3 => rw [y.out]; omega
     intro g' Y w2 F NC;rw [m.out] at F;have O : Hid _ := F;clear F NC C d G T;go_wp2;go_roundw
     case rel => exact ⟨j + 1, by omega, by go_num, _, rfl, O.out⟩
     case measure => simp [intOf]; omega
    ·have L : j = ls.length := by omega
     subst L;rw [List.take_length] at M;have C : Hid (MadeR msgsR w wr [p] (ordersA k kd ls)) := made_from9 g.out.1 M;clear M;go_wp2;go_ret
     exact ⟨_, rfl, C.out⟩
  ·have e7 : kq = 7 := by rw [D.out, if_neg (by omega)]
   have z3 : (kd == 3) = false := by simp [q3]
   subst e7;clear q1 q3;have MN := made_cap (e := 30) (R := msgR) u1w #[] 0 (Nat.zero_le _) rfl;have g : Hid _ := aI B X;have E := row_keep (box_below u1w (.cells #[] 30)) X;have Xd := cells_acc X;have Xc := cells_acc E;have Xlt := (ltH E);clear B X;go_wp2;clear Xc Xlt Xd;go_loopw [6, 22] (fun r i wr => ∃ j : Nat, j ≤ ls.length ∧ i = nI j ∧ ∃ p, p = r ∧ MadeR msgsR u1w wr [p] (ordersA k kd (ls.take j))) (fun _ i _ => ls.length - (intOf i).toNat)
   case atStart => exact ⟨0, Nat.zero_le _, rfl, _, rfl, MN⟩
   case round =>
    clear MN E;obtain ⟨j, hj, rfl, p, rfl, M⟩ := hrel;by_cases N : j < ls.length
    ·have dA : (j : Int) < (ls.length : Int) := by omega
     obtain ⟨x, J⟩ : ∃ x, ls[j]? = some x := ⟨_, List.getElem?_eq_getElem N⟩;obtain ⟨bb, z, cs, rfl, n, a⟩ := slrd_at (HD.out _ (below_step g.out.1 M.2)) J;obtain ⟨rfl, c⟩ := n;have Z := a 0 _ rfl;rw [show z + (j * intR.size + 0) = z + j from by rw [show intR.size = 1 from rfl]; omega] at Z;have A : Hid _ := c;have m : Hid _ := orders_step (k := k) (kind := kd) J;have y : Hid ((ordersA k kd (ls.take j)).length = j) := by unfold Hid ordersA; rw [List.length_map, List.length_take]; omega
     obtain ⟨ti, hi, I, S, H⟩ := info_parts infoMsgH;have C : Hid _ := M;have X := row_keep M.2 g.out.2;clear a J M c;have Xc := cells_acc X;have Xlt := (ltH X);go_wp2_with fail
     clear Xc Xlt Z;refine (letter_any k 1 x 7 ua un uc o s kd f l mk b va vn vc _).mono ?_;rintro e w9 ⟨rfl, mb⟩;have d : Hid _ := mb;clear mb X;rw [← D.out] at m;have G := C.out.2.size;have T := d.out.size;go_wp2_with (at_builtin; refine wpList_pm (w0 := u1w) (wr := wr) (w1 := w9) rfl _ _ 33 rfl msgR 30 ti (.agg #[nI 0, nI 0, nI 0, nI 0, nI 0, sL none 0 0, nI 0]) 72 Tryz.underlying33 hi I S H rfl (by decide) (by decide) p (ordersA k kd (ls.take j)) [nI 1, nI 4, nI x, nI 7, nI k, sL none 0 0, nI 0] (letA k 1 x 7 [] 0) 1 rfl _ rfl rfl C.out d.out (own_msg (sm64 1) (sm64 4) A.out V.out U.out (sm64 0) (own_noneH _ _)) ?c1 ?c2 ?c3 ?_)
     case c1 => intro q hq; simp at hq; rcases hq with rfl | rfl | rfl | rfl | rfl | rfl | rfl <;> rfl
     case c2 => rw [y.out]; unfold maxLen; omega
     case c3 => rw [y.out]; omega
     intro g' Y w2 F NC;rw [m.out] at F;have O : Hid _ := F;clear F NC C d G T;go_wp2;go_roundw
     case rel => exact ⟨j + 1, by omega, by go_num, _, rfl, O.out⟩
     case measure => simp [intOf]; omega
    ·have L : j = ls.length := by omega
     subst L;rw [List.take_length] at M;have C : Hid (MadeR msgsR w wr [p] (ordersA k kd ls)) := made_from9 g.out.1 M;clear M;go_wp2;go_ret
     exact ⟨_, rfl, C.out⟩
theorem has_true {xs : List Int} {k : Nat} {c : Int} (hk : k < xs.length) (h : xs.getD k 0 = c) : decide (c ∈ xs) = true := by
 rw [decide_eq_true_eq];rw [← h, List.getD_eq_getElem?_getD, List.getElem?_eq_getElem hk];exact List.getElem_mem hk
theorem has_false {xs : List Int} {c : Int} (h : ∀ j, j < xs.length → xs.getD j 0 ≠ c) : decide (c ∈ xs) = false := by
 cases q : decide (c ∈ xs)
 ·rfl
 ·rw [decide_eq_true_eq] at q;obtain ⟨n, a, e⟩ := List.getElem_of_mem q;exact absurd (by rw [List.getD_eq_getElem?_getD, List.getElem?_eq_getElem a]; exact e) (h n a)
def filtL (c : Int) (xs : List Int) : List Int := xs.filter (fun y => decide (y ≠ c))
theorem filt_yes {xs : List Int} {k : Nat} {c x : Int} (h : xs[k]? = some x) (hx : ¬ x = c) : filtL c (xs.take (k + 1)) = filtL c (xs.take k) ++ [x] := by
 unfold filtL;rw [List.take_add_one, h, List.filter_append];simp [hx]
theorem filt_no {xs : List Int} {k : Nat} {c x : Int} (h : xs[k]? = some x) (hx : x = c) : filtL c (xs.take (k + 1)) = filtL c (xs.take k) := by
 unfold filtL;rw [List.take_add_one, h, List.filter_append];simp [hx]
theorem filt_len (xs : List Int) (k : Nat) (c : Int) : (filtL c (xs.take k)).length ≤ xs.length := Nat.le_trans (List.length_filter_le _ _) (by rw [List.length_take]; omega)
theorem slrd_mk {w : World} {S : Foot} {a : Option Addr} {n c : Nat} {xs : List Int} (h : intsR.own w S [sL a n c] xs) : SlRd intR w a xs := by
 obtain ⟨b, cp, e, -, -, q⟩ := intsR.own_rd h;simp only [List.cons.injEq, and_true, Value.slice.injEq] at e;obtain ⟨rfl, -⟩ := e;exact q
theorem l1Has_any (a : Option Addr) (xs : List Int) (cap : Nat) (c : Int) (w : World) (h : Reads w a xs) (hm : xs.length ≤ 1048576) :
    Calls Tryz.prog 126 #[sL a xs.length cap, nI c] w fun e w' => e = .returned (.bool (decide (c ∈ xs))) ∧ w' = w := by
 go_enter Tryz.func126, Tryz.ntmps126;go_wp2;go_loop [5] (fun i => ∃ k : Nat, k ≤ xs.length ∧ i = nI k ∧ ∀ j, j < k → xs.getD j 0 ≠ c) (fun i => xs.length - (intOf i).toNat)
 case atStart => exact ⟨0, Nat.zero_le _, rfl, fun j hj => by omega⟩
 case round =>
  obtain ⟨k, hk, rfl, d⟩ := hrel;by_cases g : k < xs.length
  ·have p : (k : Int) < (xs.length : Int) := by omega
   rcases h with rfl | ⟨b, r, rfl, m⟩
   ·simp at g
   have s := m k g;generalize l : xs.getD k 0 = x at s;by_cases f : x = c
   ·have o : Hid (decide (c ∈ xs) = true) := has_true g (by rw [l]; exact f);have q : (x == c) = true := by simp [f]
    clear d m l;go_wp2;go_ret
    exact ⟨ret_bool o.out.symm, rfl⟩
   ·have v : Hid (∀ j, j < k + 1 → xs.getD j 0 ≠ c) := fun j hj => by
      by_cases e : j = k
      ·subst e; rw [l]; exact f
      ·exact d j (by omega)
    have q : (x == c) = false := by simp [f]
    clear d m l;go_wp2;go_round
    case rel => exact ⟨k + 1, by omega, by go_num, v.out⟩
    case measure => simp [intOf]; omega
  ·have n : k = xs.length := by omega
   have o : Hid (decide (c ∈ xs) = false) := has_false (by rw [← n]; exact d);clear d;go_wp2;go_ret
   exact ⟨ret_bool o.out.symm, rfl⟩
theorem l10Asked_any (o s k f l m : Int) (b : Bool) (d : List Int) (a : Option Addr) (cap : Nat) (kind c : Int) (w : World) (hw : whoB o s = true) :
    Calls Tryz.prog 123 #[.agg #[nI o, nI s, .bool b, nI k, nI f, nI l, nI m, sL a d.length cap], nI kind, nI c] w fun e w' => ∃ v, e = .returned v ∧ MadeR intsR w w' [v] (askL o s kind c) := by
 have UA := who_bd hw;have bA : In64 o := ⟨by omega, by omega⟩;have dA : ∀ x ∈ hoI o s, In64 x := ho_64 hw;have sA : (hoI o s).length ≤ 100 := by have := hoI_len o s; omega
 have B := Below.refl w.heap.size w;go_enter Tryz.func123, Tryz.ntmps123;go_upto_region 1 with fail
 generalize yA : w.alloc _ = W0;have X := boxH yA;have bz := boxB yA;clear yA;replace B := below_step B bz;clear bz;obtain ⟨x0, x1, x2, x3, x4, x5, x6, x7⟩ := cells_8 X;have aA := (ltH X);go_wp2_with fail
 refine (l10Holders_any o s k f l m b d a cap _ hw).mono ?_;clear x0 x1 x2 x3 x4 x5 x6 x7 aA;rintro e w1 ⟨v, rfl, g1, c1, rfl, l1, m1, o1, b1⟩;replace X := row_keep b1 X;replace B := below_step B b1;have vA := reads_owni o1;clear b1 o1 l1 m1;by_cases q1 : kind = 1 ∨ kind = 3
 ·skip
  have HT : Hid ((kind == 1) = true ∨ ((kind == 1) = false ∧ (kind == 3) = true)) := by
   rcases q1 with q | q
   ·exact .inl (by simp [q])
   ·exact .inr ⟨by simp [q], by simp [q]⟩
  obtain ⟨x0, x1, x2, x3, x4, x5, x6, x7⟩ := cells_8 X;have kA := cell_keep (box_below w1 (.cells #[] 2)) x0 (cell_lt x0);have aA := (ltH X);clear x1 x2 x3 x4 x5 x6 x7 X vA sA dA;by_cases qo : 0 ≤ o
  ·have T : Hid (filtL c [o] = askL o s kind c) := by unfold Hid askL; rw [if_pos q1, if_pos qo]; rfl
   have K : ∀ x ∈ [o], In64 x := by simp; exact bA
   have ll : [o].length ≤ 100 := by simp
   obtain ⟨ti, hi, F, G, H⟩ := info_parts Tryz.infoI;clear q1;rcases HT.out with z1 | ⟨z1, z3⟩
   ·go_wp2_with (at_builtin; refine wpList_pm (w0 := w1) (wr := w1.alloc (.cells #[] 2)) (w1 := w1.alloc (.cells #[] 2)) rfl _ _ 28 rfl intR 2 ti (nI 0) 8 Tryz.underlying28 hi F G H rfl (by decide) (by decide) (sL (some ⟨w1.heap.size, 0, none⟩) 0 0) [] [nI o] o 1 rfl _ rfl (by simp) (made_cap (e := 2) (R := intR) w1 #[] 0 (Nat.zero_le _) rfl) (Below.refl _ _) ⟨rfl, bA⟩ ?c1 ?c2 ?c3 ?_)
    case c1 => intro q U; simp at U; rcases U with rfl; rfl
    case c2 => unfold maxLen; decide
    case c3 => decide
    intro g' V w2 E NC;obtain ⟨A, g⟩ : ∃ A, A = some (⟨g', 0, none⟩ : Addr) := ⟨_, rfl⟩;have S : Reads w2 A [o] := g ▸ reads_of (slrd_mk E.1);replace B := below_step B E.2;rw [← g];clear g E NC x0 kA aA;go_upto_region 6 with fail
    generalize w2 = W1 at S B ⊢;have C : Hid (Reads W1 A [o] ∧ [o].length ≤ 100) := aI S ll;clear S ll;have Z := made_cap (e := 2) (R := intR) W1 #[] 0 (Nat.zero_le _) rfl;have I : Hid _ := B;clear B;go_wp2;go_loopw [8, 9] (fun r i wr => ∃ j : Nat, j ≤ [o].length ∧ i = nI j ∧ ∃ y, y = r ∧ MadeR intsR W1 wr [y] (filtL c ([o].take j))) (fun _ i _ => [o].length - (intOf i).toNat)
    case atStart => exact ⟨0, Nat.zero_le _, rfl, _, rfl, Z⟩
    case round =>
     clear Z;obtain ⟨j, hj, rfl, y, rfl, M⟩ := hrel;by_cases p : j < [o].length
     ·have qA : (j : Int) < ([o].length : Int) := by omega
      have gA : j < 101 := by have := C.out.2; omega
      have AA : (j : Int) < 1 := by simp at p; omega
      obtain ⟨x, Y⟩ : ∃ x, [o][j]? = some x := ⟨_, List.getElem?_eq_getElem p⟩;obtain ⟨L, n, rfl, N⟩ : ∃ L n, A = some ⟨L, n, none⟩ ∧ W1.cell? ⟨L, n + j, none⟩ = some (nI x) := by
       rcases C.out.1 with e | ⟨L, n, e, N⟩
       ·rw [e] at p; simp at p
       ·exact ⟨L, n, e, by rw [N j p, List.getD_eq_getElem?_getD, Y]; rfl⟩
      have x0 := cell_keep M.2 N (cell_lt N);have O : Hid (In64 x) := K x (List.mem_of_getElem? Y);have HX : Hid _ := Y;have D : Hid _ := M;have J : Hid ((filtL c ([o].take j)).length ≤ 100) := Nat.le_trans (filt_len _ _ _) C.out.2;obtain ⟨ti, hi, F, G, H⟩ := info_parts Tryz.infoI;clear Y M N;by_cases z : x = c
      ·have hb : (x == c) = true := by simp [z]
       have HF : Hid _ := filt_no HX.out z;go_wp2;go_roundw
       case rel => exact ⟨j + 1, by omega, by go_num, y, rfl, by rw [HF.out]; exact D.out⟩
       case measure => simp [intOf]; omega
      ·have hb : (x == c) = false := by simp [z]
       have HF : Hid _ := filt_yes HX.out z;go_wp2_with (at_builtin; refine wpList_pm (w0 := W1) (wr := wr) (w1 := wr) rfl _ _ 28 rfl intR 2 ti (nI 0) 8 Tryz.underlying28 hi F G H rfl (by decide) (by decide) y (filtL c ([o].take j)) [nI x] x 1 rfl _ rfl rfl D.out (Below.refl _ _) ⟨rfl, O.out⟩ ?c1 ?c2 ?c3 ?_)
       case c1 => intro q U; simp at U; rcases U with rfl; rfl
       case c2 => exact Nat.le_trans (Nat.succ_le_succ J.out) (by unfold maxLen; decide)
       case c3 => exact Nat.le_trans (Nat.mul_le_mul_right 8 (Nat.succ_le_succ J.out)) (by decide)
       intro g' V w2 E NC;rw [← HF.out] at E;have cA : Hid _ := E;clear E NC D;go_wp2;go_roundw
       case rel => exact ⟨j + 1, by omega, by go_num, _, rfl, cA.out⟩
       case measure => simp [intOf]; omega
     ·have fA : j = [o].length := by omega
      subst fA;rw [List.take_length] at M;have D : Hid (MadeR intsR w wr [y] (askL o s kind c)) := T.out ▸ made_from9 I.out M;clear M;go_wp2;go_ret
      exact ⟨_, rfl, D.out⟩
   ·go_wp2_with (at_builtin; refine wpList_pm (w0 := w1) (wr := w1.alloc (.cells #[] 2)) (w1 := w1.alloc (.cells #[] 2)) rfl _ _ 28 rfl intR 2 ti (nI 0) 8 Tryz.underlying28 hi F G H rfl (by decide) (by decide) (sL (some ⟨w1.heap.size, 0, none⟩) 0 0) [] [nI o] o 1 rfl _ rfl (by simp) (made_cap (e := 2) (R := intR) w1 #[] 0 (Nat.zero_le _) rfl) (Below.refl _ _) ⟨rfl, bA⟩ ?c1 ?c2 ?c3 ?_)
    case c1 => intro q U; simp at U; rcases U with rfl; rfl
    case c2 => unfold maxLen; decide
    case c3 => decide
    intro g' V w2 E NC;obtain ⟨A, g⟩ : ∃ A, A = some (⟨g', 0, none⟩ : Addr) := ⟨_, rfl⟩;have S : Reads w2 A [o] := g ▸ reads_of (slrd_mk E.1);replace B := below_step B E.2;rw [← g];clear g E NC x0 kA aA;go_upto_region 6 with fail
    generalize w2 = W1 at S B ⊢;have C : Hid (Reads W1 A [o] ∧ [o].length ≤ 100) := aI S ll;clear S ll;have Z := made_cap (e := 2) (R := intR) W1 #[] 0 (Nat.zero_le _) rfl;have I : Hid _ := B;clear B;go_wp2;go_loopw [8, 9] (fun r i wr => ∃ j : Nat, j ≤ [o].length ∧ i = nI j ∧ ∃ y, y = r ∧ MadeR intsR W1 wr [y] (filtL c ([o].take j))) (fun _ i _ => [o].length - (intOf i).toNat)
    case atStart => exact ⟨0, Nat.zero_le _, rfl, _, rfl, Z⟩
    case round =>
     clear Z;obtain ⟨j, hj, rfl, y, rfl, M⟩ := hrel;by_cases p : j < [o].length
     ·have qA : (j : Int) < ([o].length : Int) := by omega
      have gA : j < 101 := by have := C.out.2; omega
      have AA : (j : Int) < 1 := by simp at p; omega
      obtain ⟨x, Y⟩ : ∃ x, [o][j]? = some x := ⟨_, List.getElem?_eq_getElem p⟩;obtain ⟨L, n, rfl, N⟩ : ∃ L n, A = some ⟨L, n, none⟩ ∧ W1.cell? ⟨L, n + j, none⟩ = some (nI x) := by
       rcases C.out.1 with e | ⟨L, n, e, N⟩
       ·rw [e] at p; simp at p
       ·exact ⟨L, n, e, by rw [N j p, List.getD_eq_getElem?_getD, Y]; rfl⟩
      have x0 := cell_keep M.2 N (cell_lt N);have O : Hid (In64 x) := K x (List.mem_of_getElem? Y);have HX : Hid _ := Y;have D : Hid _ := M;have J : Hid ((filtL c ([o].take j)).length ≤ 100) := Nat.le_trans (filt_len _ _ _) C.out.2;obtain ⟨ti, hi, F, G, H⟩ := info_parts Tryz.infoI;clear Y M N;by_cases z : x = c
      ·have hb : (x == c) = true := by simp [z]
       have HF : Hid _ := filt_no HX.out z;go_wp2;go_roundw
       case rel => exact ⟨j + 1, by omega, by go_num, y, rfl, by rw [HF.out]; exact D.out⟩
       case measure => simp [intOf]; omega
      ·have hb : (x == c) = false := by simp [z]
       have HF : Hid _ := filt_yes HX.out z;go_wp2_with (at_builtin; refine wpList_pm (w0 := W1) (wr := wr) (w1 := wr) rfl _ _ 28 rfl intR 2 ti (nI 0) 8 Tryz.underlying28 hi F G H rfl (by decide) (by decide) y (filtL c ([o].take j)) [nI x] x 1 rfl _ rfl rfl D.out (Below.refl _ _) ⟨rfl, O.out⟩ ?c1 ?c2 ?c3 ?_)
       case c1 => intro q U; simp at U; rcases U with rfl; rfl
       case c2 => exact Nat.le_trans (Nat.succ_le_succ J.out) (by unfold maxLen; decide)
       case c3 => exact Nat.le_trans (Nat.mul_le_mul_right 8 (Nat.succ_le_succ J.out)) (by decide)
       intro g' V w2 E NC;rw [← HF.out] at E;have cA : Hid _ := E;clear E NC D;go_wp2;go_roundw
       case rel => exact ⟨j + 1, by omega, by go_num, _, rfl, cA.out⟩
       case measure => simp [intOf]; omega
     ·have fA : j = [o].length := by omega
      subst fA;rw [List.take_length] at M;have D : Hid (MadeR intsR w wr [y] (askL o s kind c)) := T.out ▸ made_from9 I.out M;clear M;go_wp2;go_ret
      exact ⟨_, rfl, D.out⟩
  ·have T : Hid (filtL c ([] : List Int) = askL o s kind c) := by unfold Hid askL; rw [if_pos q1, if_neg qo]; rfl
   have K : ∀ x ∈ ([] : List Int), In64 x := by simp
   have ll : ([] : List Int).length ≤ 100 := by simp
   obtain ⟨ti, hi, F, G, H⟩ := info_parts Tryz.infoI;clear q1;rcases HT.out with z1 | ⟨z1, z3⟩
   ·go_upto_region 6 with fail
    obtain ⟨A, g⟩ : ∃ A, A = some (⟨w1.heap.size, 0, none⟩ : Addr) := ⟨_, rfl⟩;have S : Reads (w1.alloc (.cells #[] 2)) A [] := .inl rfl;replace B := below_step B (box_below w1 (.cells #[] 2));rw [← g];clear g x0 kA aA;generalize w1.alloc (.cells #[] 2) = W1 at S B ⊢;have Z := made_cap (e := 2) (R := intR) W1 #[] 0 (Nat.zero_le _) rfl;have I : Hid _ := B;clear B;go_wp2;go_loopw [8, 9] (fun r i wr => i = nI 0 ∧ ∃ y, y = r ∧ MadeR intsR W1 wr [y] []) (fun _ i _ => 0)
    case atStart => exact ⟨rfl, _, rfl, Z⟩
    case round =>
     clear Z;obtain ⟨rfl, y, rfl, M⟩ := hrel;have D : Hid (MadeR intsR w wr [y] (askL o s kind c)) := T.out ▸ made_from9 I.out M;clear M;go_wp2;go_ret
     exact ⟨_, rfl, D.out⟩
   ·go_upto_region 6 with fail
    obtain ⟨A, g⟩ : ∃ A, A = some (⟨w1.heap.size, 0, none⟩ : Addr) := ⟨_, rfl⟩;have S : Reads (w1.alloc (.cells #[] 2)) A [] := .inl rfl;replace B := below_step B (box_below w1 (.cells #[] 2));rw [← g];clear g x0 kA aA;generalize w1.alloc (.cells #[] 2) = W1 at S B ⊢;have Z := made_cap (e := 2) (R := intR) W1 #[] 0 (Nat.zero_le _) rfl;have I : Hid _ := B;clear B;go_wp2;go_loopw [8, 9] (fun r i wr => i = nI 0 ∧ ∃ y, y = r ∧ MadeR intsR W1 wr [y] []) (fun _ i _ => 0)
    case atStart => exact ⟨rfl, _, rfl, Z⟩
    case round =>
     clear Z;obtain ⟨rfl, y, rfl, M⟩ := hrel;have D : Hid (MadeR intsR w wr [y] (askL o s kind c)) := T.out ▸ made_from9 I.out M;clear M;go_wp2;go_ret
     exact ⟨_, rfl, D.out⟩
 ·have z1 : (kind == 1) = false := beq_false_of_ne fun e => q1 (.inl e);have z3 : (kind == 3) = false := beq_false_of_ne fun e => q1 (.inr e);have T : Hid (filtL c (hoI o s) = askL o s kind c) := by unfold Hid askL; rw [if_neg q1]; rfl
  clear q1;obtain ⟨A, g⟩ : ∃ A, A = some (⟨g1, 0, none⟩ : Addr) := ⟨_, rfl⟩;have S : Reads w1 A (hoI o s) := g ▸ vA;have ll := sA;have K := dA;rw [← g];clear g vA sA dA X;generalize w1 = W1 at S B ⊢;go_upto_region 6 with fail
  have C : Hid (Reads W1 A (hoI o s) ∧ (hoI o s).length ≤ 100) := aI S ll;clear S ll;have Z := made_cap (e := 2) (R := intR) W1 #[] 0 (Nat.zero_le _) rfl;have I : Hid _ := B;clear B;go_wp2;go_loopw [8, 9] (fun r i wr => ∃ j : Nat, j ≤ (hoI o s).length ∧ i = nI j ∧ ∃ y, y = r ∧ MadeR intsR W1 wr [y] (filtL c ((hoI o s).take j))) (fun _ i _ => (hoI o s).length - (intOf i).toNat)
  case atStart => exact ⟨0, Nat.zero_le _, rfl, _, rfl, Z⟩
  case round =>
   clear Z;obtain ⟨j, hj, rfl, y, rfl, M⟩ := hrel;by_cases p : j < (hoI o s).length
   ·have qA : (j : Int) < ((hoI o s).length : Int) := by omega
    have gA : j < 101 := by have := C.out.2; omega
    obtain ⟨x, Y⟩ : ∃ x, (hoI o s)[j]? = some x := ⟨_, List.getElem?_eq_getElem p⟩;obtain ⟨L, n, rfl, N⟩ : ∃ L n, A = some ⟨L, n, none⟩ ∧ W1.cell? ⟨L, n + j, none⟩ = some (nI x) := by
     rcases C.out.1 with e | ⟨L, n, e, N⟩
     ·rw [e] at p; simp at p
     ·exact ⟨L, n, e, by rw [N j p, List.getD_eq_getElem?_getD, Y]; rfl⟩
    have x0 := cell_keep M.2 N (cell_lt N);have O : Hid (In64 x) := K x (List.mem_of_getElem? Y);have HX : Hid _ := Y;have D : Hid _ := M;have J : Hid ((filtL c ((hoI o s).take j)).length ≤ 100) := Nat.le_trans (filt_len _ _ _) C.out.2;obtain ⟨ti, hi, F, G, H⟩ := info_parts Tryz.infoI;clear Y M N;by_cases z : x = c
    ·have hb : (x == c) = true := by simp [z]
     have HF : Hid _ := filt_no HX.out z;go_wp2;go_roundw
     case rel => exact ⟨j + 1, by omega, by go_num, y, rfl, by rw [HF.out]; exact D.out⟩
     case measure => simp [intOf]; omega
    ·have hb : (x == c) = false := by simp [z]
     have HF : Hid _ := filt_yes HX.out z;go_wp2_with (at_builtin; refine wpList_pm (w0 := W1) (wr := wr) (w1 := wr) rfl _ _ 28 rfl intR 2 ti (nI 0) 8 Tryz.underlying28 hi F G H rfl (by decide) (by decide) y (filtL c ((hoI o s).take j)) [nI x] x 1 rfl _ rfl rfl D.out (Below.refl _ _) ⟨rfl, O.out⟩ ?c1 ?c2 ?c3 ?_)
     case c1 => intro q U; simp at U; rcases U with rfl; rfl
     case c2 => exact Nat.le_trans (Nat.succ_le_succ J.out) (by unfold maxLen; decide)
     case c3 => exact Nat.le_trans (Nat.mul_le_mul_right 8 (Nat.succ_le_succ J.out)) (by decide)
     intro g' V w2 E NC;rw [← HF.out] at E;have cA : Hid _ := E;clear E NC D;go_wp2;go_roundw
     case rel => exact ⟨j + 1, by omega, by go_num, _, rfl, cA.out⟩
     case measure => simp [intOf]; omega
   ·have fA : j = (hoI o s).length := by omega
    subst fA;rw [List.take_length] at M;have D : Hid (MadeR intsR w wr [y] (askL o s kind c)) := T.out ▸ made_from9 I.out M;clear M;go_wp2;go_ret
    exact ⟨_, rfl, D.out⟩
end Go.Proofs.YtmaopldahnejdaaGreatDoor
