import Derived.Test.YtmaopldahnejdaaGreatDoorH00Box
import Derived.Test.YtmaopldahnejdaaGreatDoorH24
namespace Go.Proofs.YtmaopldahnejdaaGreatDoor
open Go.ChangeShapes Go.WideShapes Go.ChangeAt Go.RowKit
set_option linter.unusedVariables false
theorem msg_shape {w : World} {cs : List Value} {x : MsgD} (h : msgR.rd w cs x) : ∃ (ga : Option Addr) (gc : Nat), cs = [nI x.1, nI x.2.1, nI x.2.2.1, nI x.2.2.2.1, nI x.2.2.2.2.1, sL ga x.2.2.2.2.2.1.length gc, nI x.2.2.2.2.2.2] := by
 obtain ⟨a, b, e, -⟩ := msg_rd h;exact ⟨a, b, e⟩
theorem msg_cV (x : MsgD) : msgM.cV x = slcnt intM x.2.2.2.2.2.1 := by show 0 + (0 + (0 + (0 + (0 + (slcnt intM x.2.2.2.2.2.1 + 0))))) = _; omega
theorem msg_mV (k : Int) (x : MsgD) : msgM.mV k x = (x.1, x.2.1, x.2.2.1, x.2.2.2.1, x.2.2.2.2.1, slmark intM k x.2.2.2.2.2.1, x.2.2.2.2.2.2) := by
 show (x.1, x.2.1, x.2.2.1, x.2.2.2.1, x.2.2.2.2.1, slmark intM (k + 0 + 0 + 0 + 0 + 0) x.2.2.2.2.2.1, x.2.2.2.2.2.2) = _
 rw [Int.add_zero, Int.add_zero, Int.add_zero, Int.add_zero, Int.add_zero]
theorem szMsg_u : SzC 25 msgR msgM aggV := by
 intro cs x left w h g d;obtain ⟨a, b, rfl, i0, i1, i2, i3, i4, i6, c, f, l3⟩ := msg_rd h;exact szMsg_rep x.1 x.2.1 x.2.2.1 x.2.2.2.1 x.2.2.2.2.1 x.2.2.2.2.2.2 x.2.2.2.2.2.1 a b left w g d (Nat.le_trans c f)
theorem toMsg_u : ToC 27 msgR msgM aggV := by
 intro cs x w h k;obtain ⟨a, b, rfl, f, i, m, g, c, d, l1, l2, l⟩ := msg_rd h;refine (toMsg_rep x.1 x.2.1 x.2.2.1 x.2.2.2.1 x.2.2.2.2.1 x.2.2.2.2.2.2 x.2.2.2.2.2.1 a b w f i m g c d l (by rw [← bk_msg]; exact k)).mono ?_;rintro e w' ⟨av, cv, rfl, j⟩;exact ⟨_, rfl, j⟩
theorem eqMsg_u : EqC 30 msgR msgM aggV := by
 intro cs ds x w h k hm;obtain ⟨a, c, rfl, i0, i1, i2, i3, i4, i6, l1, l2, g⟩ := msg_rd h;obtain ⟨b, d, rfl, -, -, -, -, -, -, k1, k2, f⟩ := msg_rd k;exact eqMsg_rep x.1 x.2.1 x.2.2.1 x.2.2.2.1 x.2.2.2.2.1 x.2.2.2.2.2.2 x.2.2.2.2.2.1 a b c d w g f (by rw [← bk_msg]; have : lot = 4398046511104 := rfl; omega)
theorem mkMsg_u : MkC 32 msgR msgM aggV := by
 intro S cs x k w h i g hb;obtain ⟨v, rfl, c, f, j, d, a, b, o⟩ := msg_own h;have e : lot = 4398046511104 := rfl;rw [msg_cV] at g ⊢;rw [msg_mV];refine (markMsg_rep S x.1 x.2.1 x.2.2.1 x.2.2.2.1 x.2.2.2.2.1 x.2.2.2.2.2.2 v k x.2.2.2.2.2.1 w i (by omega) (by omega) o).mono ?_;rintro e w' ⟨q, r, s⟩;exact ⟨q, own_msg c f j d a b r, s⟩
theorem bv_msg (x : MsgD) : msgM.cV x ≤ 7 * msgM.bk x := by
 rw [msg_cV, bk_msg];have h : slcnt intM x.2.2.2.2.2.1 ≤ 1 * intsM.bk x.2.2.2.2.2.1 := bv_ints x.2.2.2.2.2.1;omega
theorem bd_msg : Bd msgM 7 := bd_prod bd_int (bd_prod bd_int (bd_prod bd_int (bd_prod bd_int (bd_prod bd_int (bd_prod (bd_sl bd_int) bd_int)))))
theorem bv_msgs : Bv msgsM 7 := bv_sl bd_msg
theorem sum_le {α : Type} {M : Mk α} {K : Nat} : ∀ {xs : List α}, (∀ x ∈ xs, M.bk x ≤ K) → sumbk M xs ≤ xs.length * K
 | [], _ => by simp [sumbk]
 | x :: xs, h => by
  have h1 := sum_le (xs := xs) (fun y hy => h y (List.mem_cons_of_mem _ hy));have h2 := h x List.mem_cons_self;have e : sumbk M (x :: xs) = M.bk x + sumbk M xs := by simp [sumbk]
  rw [e, List.length_cons, Nat.succ_mul];omega
def SmA (a : AccD) : Prop := a.1.length ≤ 2 ∧ a.2.2.2.2.2.2.2.2.length ≤ 2
def SmO (o : AccD × List MsgD) : Prop := SmA o.1 ∧ o.2.length ≤ 8 ∧ ∀ u ∈ o.2, u.2.2.2.2.2.1.length ≤ 2
theorem mask_sm (xs ys : List Int) (m : Int) : (maskL xs ys m).length ≤ 2 := by unfold maskL; split <;> simp
theorem told_sm {ws d : List Int} (h : ws.length ≤ 2) (hd : d.length ≤ 2) : (toldW ws d).length ≤ 2 := by unfold toldW; split <;> assumption
theorem one_sm {k r t n g : Int} {d : List Int} (h : d.length ≤ 2) : [letA k r t n d g].length ≤ 8 ∧ ∀ u ∈ [letA k r t n d g], u.2.2.2.2.2.1.length ≤ 2 := ⟨by simp, fun u hu => by rw [List.mem_singleton.1 hu]; exact h⟩
theorem end_sm {k : Int} {a : AccD} (h : SmA a) : SmO (endA k a) := by
 unfold endA;split
 ·unfold readA;split
  ·exact ⟨⟨h.1, h.2⟩, one_sm h.1⟩
  ·exact ⟨⟨h.1, h.2⟩, one_sm h.1⟩
 split
 ·exact ⟨⟨h.1, h.2⟩, one_sm h.1⟩
 split
 ·exact ⟨⟨h.1, by simp [freeE]⟩, one_sm h.1⟩
 ·exact ⟨⟨mask_sm _ _ _, by simp [freeE]⟩, one_sm (by simp)⟩
theorem ask_sm (o s kind f : Int) : (askA o s kind f).length ≤ 8 := by
 unfold askA;split
 ·split <;> simp
 ·exact hoI_len _ _
theorem hear_sm {k : Int} {a : AccD} {m : MsgD} (h : SmA a) (hm : m.2.2.2.2.2.1.length ≤ 2) : SmO (hearA k a m) := by
 have c : ∀ kind l, SmA (a.1, busyE a.2 kind m l) := fun kind l => ⟨h.1, by unfold busyE; simp only; split; exact hm; exact h.2⟩;have b : SmA (toldW a.1 m.2.2.2.2.2.1, ansE a.2 m.2.1 m.2.2.2.2.2.2) := ⟨told_sm h.1 hm, by unfold ansE; split <;> exact h.2⟩;unfold hearA;split
 ·unfold reqA;split
  ·exact end_sm (c _ _)
  ·refine ⟨c _ _, by simp only [ordersA, List.length_map]; exact ask_sm _ _ _ _, fun u hu => ?_⟩;obtain ⟨j, -, rfl⟩ := List.mem_map.1 hu;exact Nat.zero_le _
 split
 ·unfold putBackA;refine ⟨⟨?_, h.2⟩, one_sm (by simp)⟩;simp only
  split
  ·exact told_sm h.1 hm
  ·exact h.1
 split
 ·unfold ansA;split
  ·exact ⟨b, by simp, fun u hu => by cases hu⟩
  ·exact end_sm b
 ·exact ⟨⟨h.1, by simp [freeE]⟩, by simp, fun u hu => by cases hu⟩
theorem isL_sm {d : List Int} (h : isL d = true) : d.length ≤ 2 := by
 rcases isL_cases d with q | ⟨p, q, rfl, -⟩
 ·rw [q] at h; cases h
 ·exact Nat.le_refl _
theorem dat_sm {d : List Int} (h : dataB d = true) : d.length ≤ 2 := by
 unfold dataB at h;rcases Bool.or_eq_true_iff.1 h with q | q
 ·rw [List.isEmpty_iff.1 q]; decide
 ·exact isL_sm q
theorem ent_sm {u : EntryD} (h : entB u = true) : u.2.2.2.2.2.2.2.length ≤ 2 := by
 unfold entB at h;rw [Bool.and_eq_true] at h;have a := h.2;split at a
 ·unfold busyB loadB at a;simp only [Bool.and_eq_true] at a;have b := a.2.2.2;split at b
  ·rw [Bool.and_eq_true] at b;exact isL_sm b.2
  ·rw [Bool.and_eq_true, decide_eq_true_eq, decide_eq_true_eq] at b;omega
 ·unfold restB at a;simp only [Bool.and_eq_true, decide_eq_true_eq] at a;omega
theorem house_sm {h : HouseD} (h1 : h.1.length ≤ 16) (h2 : h.2.length ≤ 16) (r : ∀ x ∈ h.1, x.length ≤ 2) (s : ∀ u ∈ h.2, u.2.2.2.2.2.2.2.length ≤ 2) : houseM.bk h ≤ 8388608 := by
 have e : houseM.bk h = (h.1.length + sumbk intsM h.1) + (h.2.length + sumbk entM h.2) := rfl;have q1 := sum_le (M := intsM) (K := 2) (xs := h.1) (fun x hx => by rw [bk_ints7]; exact r x hx);have q2 := sum_le (M := entM) (K := 2) (xs := h.2) (fun u hu => by rw [bk_ent, bk_ints7]; exact s u hu);omega
theorem heard_small (x : HouseD) (m : MsgD) : houseM.bk x ≤ 1048576 → msgM.bk m ≤ 1048576 → houseM.bk (heardI x m).1 ≤ 8388608 ∧ msgsM.bk (heardI x m).2.1 ≤ 8388608 := by
 intro hx _;have e0 : msgsM.bk [] = 0 := rfl;unfold heardI;split
 ·rename_i hk
  split
  ·rename_i hl
   unfold lineB at hl;rw [Bool.and_eq_true] at hl;have o : m.2.2.2.2.2.1.length ≤ 2 := by
    have b := hl.1;unfold msgB at b;simp only [Bool.and_eq_true] at b;exact dat_sm b.2.2.2.1
   split
   ·exact ⟨show houseM.bk x ≤ 8388608 by omega, show msgsM.bk [] ≤ 8388608 by omega⟩
   ·obtain ⟨a, g⟩ := house_parts hk;have n := (memOk_len a).2;have r : ∀ y ∈ x.1, y.length ≤ 2 := fun y hy => by
     obtain ⟨j, d⟩ := List.getElem?_of_mem hy;exact isL_sm (memOk_get a d)
    have s : ∀ u ∈ x.2, u.2.2.2.2.2.2.2.length ≤ 2 := fun u hu => by
     obtain ⟨j, d⟩ := List.getElem?_of_mem hu;exact ent_sm (house_ent hk d)
    have i : SmA (accAt x m.2.2.2.2.1) := by
     unfold accAt;refine ⟨?_, ?_⟩
     ·simp only
      rw [List.getD_eq_getElem?_getD];cases c : x.1[m.2.2.2.2.1.toNat]? with
      | none => simp
      | some y => exact r y (List.mem_of_getElem? c)
     ·simp only
      rw [List.getD_eq_getElem?_getD];cases c : x.2[m.2.2.2.2.1.toNat]? with
      | none => simp [zeroE]
      | some y => exact s y (List.mem_of_getElem? c)
    obtain ⟨f, q2, p⟩ := hear_sm (k := m.2.2.2.2.1) i o;refine ⟨house_sm (by simp [withA]; omega) (by simp [withA]; omega) (fun y hy => ?_) (fun u hu => ?_), ?_⟩
    ·rcases List.mem_or_eq_of_mem_set hy with h | rfl
     ·exact r y h
     ·exact f.1
    ·rcases List.mem_or_eq_of_mem_set hu with h | rfl
     ·exact s u h
     ·exact f.2
    ·have e : ∀ l : List MsgD, msgsM.bk l = l.length + sumbk msgM l := fun _ => rfl;have q4 := sum_le (M := msgM) (K := 2) (xs := (hearA m.2.2.2.2.1 (accAt x m.2.2.2.2.1) m).2) (fun u hu => by rw [bk_msg, bk_ints7]; exact p u hu);show msgsM.bk (hearA m.2.2.2.2.1 (accAt x m.2.2.2.2.1) m).2 ≤ 8388608
     rw [e];omega
  ·exact ⟨show houseM.bk x ≤ 8388608 by omega, show msgsM.bk [] ≤ 8388608 by omega⟩
 ·have e1 : houseM.bk ([], []) = 0 := rfl;exact ⟨show houseM.bk ([], []) ≤ 8388608 by omega, show msgsM.bk [] ≤ 8388608 by omega⟩
theorem msg_dataH {m : MsgD} (h : msgM.bk m ≤ 1048576) : m.2.2.2.2.2.1.length ≤ 1048576 := by
 rw [bk_msg, bk_ints7] at h;exact h
theorem setCs_consH (w : World) (g o : Nat) (v : Value) (vs : List Value) : setCs w g o (v :: vs) = setCs (w.setCell ⟨g, o, none⟩ v) g (o + 1) vs := rfl
theorem setCs_nilH (w : World) (g o : Nat) : setCs w g o [] = w := rfl
theorem below_set2 {V w : World} {D g : Nat} {c0 c1 : Value} (h : Below D V w) (hg : D ≤ g) : Below D V ((w.setCell ⟨g, 0, none⟩ c0).setCell ⟨g, 1, none⟩ c1) :=
 below_setC (below_setC h hg) hg
def RegSH (V : World) (y : HouseD) (l : List MsgD) (k : Int) (p q r : Value) (wx : World) : Prop := ∃ (zb lo hi : Nat) (ga ha sa : Option Addr) (gc hc sc : Nat), p = .pointer (some ⟨zb, 0, none⟩) ∧ q = .slice sa l.length sc ∧ r = .int .i64 k ∧ V.heap.size ≤ zb ∧ V.heap.size ≤ lo ∧ (zb < lo ∨ hi ≤ zb) ∧ wx.heap[zb]? = some (.cells #[.slice ga y.1.length gc, .slice ha y.2.length hc] 27 (0, 0)) ∧ Owned houseR lo hi wx [.slice ga y.1.length gc, .slice ha y.2.length hc] y ∧ Owned msgsR lo hi wx [.slice sa l.length sc] l ∧ Below V.heap.size V wx
theorem RegSH_a {V cur wf : World} {y : HouseD} {l : List MsgD} {k : Int} {ga ha sa : Option Addr} {gc hc sc : Nat} (o0 : houseR.own wf (rng cur.heap.size wf.heap.size) [sL ga y.1.length gc, sL ha y.2.length hc] y) (o1 : msgsR.own wf (rng cur.heap.size wf.heap.size) [sL sa l.length sc] l) (hcur : V.heap.size ≤ cur.heap.size) (hb : Bl V wf) :
    RegSH V y l k (.pointer (some ⟨wf.heap.size, 0, none⟩)) (sL sa l.length sc) (nI k) (wf.alloc (.cells #[sL ga y.1.length gc, sL ha y.2.length hc] 27)) := by
 have a := box_below wf (.cells #[sL ga y.1.length gc, sL ha y.2.length hc] 27);exact ⟨wf.heap.size, cur.heap.size, wf.heap.size, ga, ha, sa, gc, hc, sc, rfl, rfl, rfl, hb.size, hcur, .inr (Nat.le_refl _), heap_at _ _, ⟨houseR.own_keep o0 (keeps_below a), by rw [alloc_len]; omega⟩, ⟨msgsR.own_keep o1 (keeps_below a), by rw [alloc_len]; omega⟩, below_step hb a⟩
theorem RegSH_b {V cur wf : World} {zb : Nat} {y : HouseD} {l : List MsgD} {k : Int} {ga ha sa : Option Addr} {gc hc sc : Nat} {z0 z1 : Value} (z : wf.heap[zb]? = some (.cells #[z0, z1] 27 (0, 0))) (o0 : houseR.own wf (rng cur.heap.size wf.heap.size) [sL ga y.1.length gc, sL ha y.2.length hc] y) (o1 : msgsR.own wf (rng cur.heap.size wf.heap.size) [sL sa l.length sc] l) (h1 : V.heap.size ≤ zb) (h2 : zb < cur.heap.size) (hcur : V.heap.size ≤ cur.heap.size) (hb : Bl V wf) :
    RegSH V y l k (.pointer (some ⟨zb, 0, none⟩)) (sL sa l.length sc) (nI k) ((wf.setCell ⟨zb, 0, none⟩ (sL ga y.1.length gc)).setCell ⟨zb, 1, none⟩ (sL ha y.2.length hc)) := by
 have b : (setCs wf zb 0 [sL ga y.1.length gc, sL ha y.2.length hc]).heap.size = wf.heap.size := setCs_size _ _ _;have a : RegSH V y l k (.pointer (some ⟨zb, 0, none⟩)) (sL sa l.length sc) (nI k) (setCs wf zb 0 [sL ga y.1.length gc, sL ha y.2.length hc]) := ⟨zb, cur.heap.size, wf.heap.size, ga, ha, sa, gc, hc, sc, rfl, rfl, rfl, h1, hcur, .inl h2, put_house (y0 := sL ga y.1.length gc) (y1 := sL ha y.2.length hc) z, ⟨own_setCs (g := zb) (o := 0) (vs := [sL ga y.1.length gc, sL ha y.2.length hc]) o0 (fun q => by have := q.1; omega), by rw [b]; omega⟩, ⟨own_setCs (g := zb) (o := 0) (vs := [sL ga y.1.length gc, sL ha y.2.length hc]) o1 (fun q => by have := q.1; omega), by rw [b]; omega⟩, below_setCs0 (g := zb) (o := 0) (vs := [sL ga y.1.length gc, sL ha y.2.length hc]) hb h1⟩;simp only [setCs_consH, setCs_nilH, Nat.reduceAdd] at a;exact a
def RegIH (V : World) (y : HouseD) (l : List MsgD) (k : Int) (p q r : Value) (wx : World) : Prop := ∃ (zb lo hi : Nat) (ga ha sa : Option Addr) (gc hc sc : Nat), p = .pointer (some ⟨zb, 0, none⟩) ∧ q = .slice sa l.length sc ∧ r = .int .i64 k ∧ V.heap.size ≤ zb ∧ V.heap.size ≤ lo ∧ (zb < lo ∨ hi ≤ zb) ∧ wx.heap[zb]? = some (.cells #[.slice ga y.1.length gc, .slice ha y.2.length hc] 27 (0, 0)) ∧ Owned (prodR houseR msgsR) lo hi wx ([.slice ga y.1.length gc, .slice ha y.2.length hc] ++ [.slice sa l.length sc]) (y, l) ∧ Below V.heap.size V wx
theorem RegIH_a {V cur wf : World} {y : HouseD} {l : List MsgD} {k : Int} {ga ha sa : Option Addr} {gc hc sc : Nat} (o0 : (prodR houseR msgsR).own wf (rng cur.heap.size wf.heap.size) ([sL ga y.1.length gc, sL ha y.2.length hc] ++ [sL sa l.length sc]) (y, l)) (hcur : V.heap.size ≤ cur.heap.size) (hb : Bl V wf) :
    RegIH V y l k (.pointer (some ⟨wf.heap.size, 0, none⟩)) (sL sa l.length sc) (nI k) (wf.alloc (.cells #[sL ga y.1.length gc, sL ha y.2.length hc] 27)) := by
 have a := box_below wf (.cells #[sL ga y.1.length gc, sL ha y.2.length hc] 27);exact ⟨wf.heap.size, cur.heap.size, wf.heap.size, ga, ha, sa, gc, hc, sc, rfl, rfl, rfl, hb.size, hcur, .inr (Nat.le_refl _), heap_at _ _, ⟨(prodR houseR msgsR).own_keep o0 (keeps_below a), by rw [alloc_len]; omega⟩, below_step hb a⟩
theorem RegIH_b {V cur wf : World} {zb : Nat} {y : HouseD} {l : List MsgD} {k : Int} {ga ha sa : Option Addr} {gc hc sc : Nat} {z0 z1 : Value} (z : wf.heap[zb]? = some (.cells #[z0, z1] 27 (0, 0))) (o0 : (prodR houseR msgsR).own wf (rng cur.heap.size wf.heap.size) ([sL ga y.1.length gc, sL ha y.2.length hc] ++ [sL sa l.length sc]) (y, l)) (h1 : V.heap.size ≤ zb) (h2 : zb < cur.heap.size) (hcur : V.heap.size ≤ cur.heap.size) (hb : Bl V wf) :
    RegIH V y l k (.pointer (some ⟨zb, 0, none⟩)) (sL sa l.length sc) (nI k) ((wf.setCell ⟨zb, 0, none⟩ (sL ga y.1.length gc)).setCell ⟨zb, 1, none⟩ (sL ha y.2.length hc)) := by
 have b : (setCs wf zb 0 [sL ga y.1.length gc, sL ha y.2.length hc]).heap.size = wf.heap.size := setCs_size _ _ _;have a : RegIH V y l k (.pointer (some ⟨zb, 0, none⟩)) (sL sa l.length sc) (nI k) (setCs wf zb 0 [sL ga y.1.length gc, sL ha y.2.length hc]) := ⟨zb, cur.heap.size, wf.heap.size, ga, ha, sa, gc, hc, sc, rfl, rfl, rfl, h1, hcur, .inl h2, put_house (y0 := sL ga y.1.length gc) (y1 := sL ha y.2.length hc) z, ⟨own_setCs (g := zb) (o := 0) (vs := [sL ga y.1.length gc, sL ha y.2.length hc]) o0 (fun q => by have := q.1; omega), by rw [b]; omega⟩, below_setCs0 (g := zb) (o := 0) (vs := [sL ga y.1.length gc, sL ha y.2.length hc]) hb h1⟩;simp only [setCs_consH, setCs_nilH, Nat.reduceAdd] at a;exact a
theorem eqMsgs_u : EqC 29 msgsR msgsM cell1 := by
 rintro cs ds x w ⟨a, c, rfl, l1, l2, i⟩ ⟨b, d, rfl, k1, k2, f⟩ g;exact eqMsgS_rep a b x c d w i f (Nat.le_trans g (by decide))
theorem mkMsgs_u : MkC 33 msgsR msgsM cell1 := by
 intro S cs x k w h a hm hb;obtain ⟨v, rfl⟩ := own_cell h;have e : lot = 4398046511104 := rfl;have e2 : msgsM.cV x = slcnt msgM x := rfl;exact markMsgS_rep S v k x w a (by omega) (by omega) h
theorem hdMsgs_u : HdC 35 msgsR msgsM cell1 := by
 rintro cs x k w ⟨a, b, rfl, l1, l2, d⟩ c hm hb;have e : lot = 4398046511104 := rfl;have e2 : msgsM.cV x = slcnt msgM x := rfl;have := heldMsgS_rep a b k x w c (by omega) (by omega) d;rw [show x.length = (msgsM.mV k x).length from (slmark_len _ _ _).symm] at this;exact this.mono fun e w' ⟨q, r⟩ => ⟨q, be_eq r⟩
end Go.Proofs.YtmaopldahnejdaaGreatDoor
