import Derived.Test.YthnfkacboijneaaGreatDoorP13Impl11
import Derived.Test.YthnfkacboijneaaGreatDoorP14OpSS
import Derived.Test.YthnfkacboijneaaGreatDoorP31FabricU
import Derived.Test.YthnfkacboijneaaGreatDoorP34House2
import Derived.Test.YthnfkacboijneaaGreatDoorP40NewCore
import Derived.Test.YthnfkacboijneaaGreatDoorP41DmaOkS
import Derived.Test.YthnfkacboijneaaGreatDoorP05Boxes
namespace Go.Proofs.YthnfkacboijneaaGreatDoor
open Go.ChangeShapes Go.WideShapes Go.ChangeAt Go.RowKit
set_option linter.unusedVariables false
set_option linter.unusedSimpArgs false
def codesI (c s y l : Int) : List (List OpD) → Int
 | [] => 0
 | p :: ps => if progI c s y l p = 0 then codesI c s y l ps else progI c s y l p
theorem codes_bad {c s y l : Int} : ∀ {ps : List (List OpD)} {k : Nat} {p : List OpD}, ps[k]? = some p → (∀ j q, j < k → ps[j]? = some q → progI c s y l q = 0) → progI c s y l p ≠ 0 → codesI c s y l ps = progI c s y l p
 | [], k, p, h, _, _ => by simp at h
 | q :: ps, 0, p, h, _, hn => by
  simp at h
  subst h
  simp [codesI, hn]
 | q :: ps, k + 1, p, h, hz, hn => by
  have h0 := hz 0 q (by omega) rfl
  simp only [codesI, h0, if_true]
  exact codes_bad (k := k) (by simpa using h) (fun j r hj hr => hz (j + 1) r (by omega) (by simpa using hr)) hn
theorem codes_good {c s y l : Int} : ∀ {ps : List (List OpD)}, (∀ (j : Nat) q, ps[j]? = some q → progI c s y l q = 0) → codesI c s y l ps = 0
 | [], _ => rfl
 | q :: ps, h => by
  have h0 := h 0 q rfl
  simp only [codesI, h0, if_true]
  exact codes_good fun j r hr => h (j + 1) r (by simpa using hr)
def fabC (g : CfgD) (ps : List (List OpD)) (ds : List DescD) : Int := if (ps.length : Int) = g.1 then (if codesI g.1 g.2.1 g.2.2.1 g.2.2.2 ps = 0 then descI g.1 g.2.1 g.2.2.1 g.2.2.2 ds else codesI g.1 g.2.1 g.2.2.1 g.2.2.2 ps) else 1
theorem fabC_no {g : CfgD} {ps : List (List OpD)} {ds : List DescD} (h : ¬ (ps.length : Int) = g.1) : fabC g ps ds = 1 := by unfold fabC; rw [if_neg h]
theorem fabC_bad {g : CfgD} {ps : List (List OpD)} {ds : List DescD} {k : Int} (h : (ps.length : Int) = g.1) (hc : codesI g.1 g.2.1 g.2.2.1 g.2.2.2 ps = k) (hk : ¬ k = 0) : fabC g ps ds = k := by unfold fabC; rw [if_pos h, hc, if_neg hk]
theorem fabC_go {g : CfgD} {ps : List (List OpD)} {ds : List DescD} (h : (ps.length : Int) = g.1) (hc : codesI g.1 g.2.1 g.2.2.1 g.2.2.2 ps = 0) : fabC g ps ds = descI g.1 g.2.1 g.2.2.1 g.2.2.2 ds := by unfold fabC; rw [if_pos h, hc, if_pos rfl]
theorem fabC_cfg {g : CfgD} {ps : List (List OpD)} {ds : List DescD} (h : codeI g.1 g.2.1 g.2.2.1 g.2.2.2 ≠ 0) : fabC g ps ds = 1 := by
 unfold fabC
 split
 ·cases ps with
  | nil => simp [codesI, descI, h]
  | cons p ps => simp [codesI, progI, h]
 ·rfl
noncomputable def coresI (g : CfgD) (ps : List (List OpD)) : List CoreD := ps.map (fun p => (newCoreI g.2.1 g.2.2.1 p).1)
theorem coresI_len (g : CfgD) (ps : List (List OpD)) : (coresI g ps).length = ps.length := by unfold coresI; simp
theorem coresI_push {g : CfgD} {ps : List (List OpD)} {k : Nat} {p : List OpD} (h : ps[k]? = some p) : coresI g (ps.take k) ++ [(newCoreI g.2.1 g.2.2.1 p).1] = coresI g (ps.take (k + 1)) := by
 unfold coresI
 rw [List.take_add_one, h]
 simp
noncomputable def newFabI (g : CfgD) (ps : List (List OpD)) (ds : List DescD) : FabricD × Int := if fabC g ps ds = 0 then ((g, (newHouseI g.2.2.2).1, coresI g ps, (ds, 0, false, []), [], []), 0) else (((0, 0, 0, 0), ([], []), [], ([], 0, false, []), [], []), fabC g ps ds)
set_option maxHeartbeats 4000000 in
set_option maxRecDepth 20000 in
theorem fabricCode_any (g : CfgD) (ps : List (List OpD)) (pa : Option Addr) (pc : Nat) (ds : List DescD) (da : Option Addr) (dc : Nat) (w : World) (hp : SlRd opsR w pa ps) (hpl : ps.length ≤ maxLen) (hd : SlRd descR w da ds) (hdl : ds.length ≤ maxLen) (hh : Hold w) :
    Calls Tryz.prog 61 #[.agg #[.int .i64 g.1, .int .i64 g.2.1, .int .i64 g.2.2.1, .int .i64 g.2.2.2], .slice pa ps.length pc, .slice da ds.length dc] w fun e w' => e = .returned (.int .i64 (fabC g ps ds)) ∧ Below w.heap.size w w' := by
 have HP : Hid (∀ W p a cap, Below w.heap.size w W → SlRd opR W a p → p.length ≤ maxLen → Calls Tryz.prog 128 #[.agg #[.int .i64 g.1, .int .i64 g.2.1, .int .i64 g.2.2.1, .int .i64 g.2.2.2], .slice a p.length cap] W fun e w' => e = .returned (.int .i64 (progI g.1 g.2.1 g.2.2.1 g.2.2.2 p)) ∧ Below W.heap.size W w') := fun W p a cap hb hr hl => implProgramCode_any g.1 g.2.1 g.2.2.1 g.2.2.2 a p cap W (hh.goes hb) hr hl
 have HDC : Hid (∀ W, Below w.heap.size w W → Calls Tryz.prog 109 #[.agg #[.int .i64 g.1, .int .i64 g.2.1, .int .i64 g.2.2.1, .int .i64 g.2.2.2], .slice da ds.length dc] W fun e w' => e = .returned (.int .i64 (descI g.1 g.2.1 g.2.2.1 g.2.2.2 ds)) ∧ Below W.heap.size W w') := fun W hb => implDescCode_any g.1 g.2.1 g.2.2.1 g.2.2.2 da ds dc W (hh.goes hb) (slrd_next hd hb) hdl
 have HS : Hid (∀ W, Below w.heap.size w W → SlRd opsR W pa ps) := fun W hb => slrd_next hp hb
 have hpl2 : ps.length ≤ 9223372036854775807 := hpl
 clear hd hp hh hdl hpl
 obtain ⟨fc, hfc⟩ : ∃ fc, fc = fabC g ps ds := ⟨_, rfl⟩
 rw [← hfc]
 have HF : Hid (fc = fabC g ps ds) := hfc
 clear hfc
 have B := Below.refl w.heap.size w
 by_cases hn : (ps.length : Int) = g.1
 ·have zn : ((ps.length : Int) != g.1) = false := by simp [hn]
  have HN : Hid ((ps.length : Int) = g.1) := hn
  clear hn
  go_enter Tryz.func61, Tryz.ntmps61
  go_upto_region 1 with fail
  have G := heap_at w (.cells #[.int .i64 g.1, .int .i64 g.2.1, .int .i64 g.2.2.1, .int .i64 g.2.2.2] 38)
  have bz := box_below w (.cells #[.int .i64 g.1, .int .i64 g.2.1, .int .i64 g.2.2.1, .int .i64 g.2.2.2] 38)
  have zG := alloc_len w (.cells #[.int .i64 g.1, .int .i64 g.2.1, .int .i64 g.2.2.1, .int .i64 g.2.2.2] 38)
  replace B := below_step B bz
  clear bz
  generalize w.alloc (.cells #[.int .i64 g.1, .int .i64 g.2.1, .int .i64 g.2.2.1, .int .i64 g.2.2.2] 38) = u1w at B G zG ⊢
  have zGa := Nat.le_of_eq zG
  have zGb := Nat.le_of_eq zG.symm
  clear zG
  have ST : Hid (∃ k : Nat, k ≤ ps.length ∧ (.int .i64 0 : Value) = .int .i64 k ∧ (∀ j q, j < k → ps[j]? = some q → progI g.1 g.2.1 g.2.2.1 g.2.2.2 q = 0) ∧ Below w.heap.size w u1w ∧ u1w.heap[w.heap.size]? = some (.cells #[.int .i64 g.1, .int .i64 g.2.1, .int .i64 g.2.2.1, .int .i64 g.2.2.2] 38 (0, 0))) := ⟨0, Nat.zero_le _, rfl, fun j q hj => by omega, B, G⟩
  obtain ⟨Gc0, Gc1, Gc2, Gc3⟩ := cells_4 G
  have Glt := (Array.getElem?_eq_some_iff.1 G).1
  go_wp2
  clear Gc0 Gc1 Gc2 Gc3 Glt
  clear G B
  go_loopw [17] (fun i wr => ∃ k : Nat, k ≤ ps.length ∧ i = .int .i64 k ∧ (∀ j q, j < k → ps[j]? = some q → progI g.1 g.2.1 g.2.2.1 g.2.2.2 q = 0) ∧ Below w.heap.size w wr ∧ wr.heap[w.heap.size]? = some (.cells #[.int .i64 g.1, .int .i64 g.2.1, .int .i64 g.2.2.1, .int .i64 g.2.2.2] 38 (0, 0))) (fun i _ => ps.length - (intOf i).toNat)
  case atStart => exact ST.out
  case round =>
   clear ST
   obtain ⟨k, hk, rfl, hno, B, G⟩ := hrel
   by_cases hlt : k < ps.length
   ·have hlt' : (k : Int) < (ps.length : Int) := by omega
    obtain ⟨p, hx⟩ : ∃ p, ps[k]? = some p := ⟨_, List.getElem?_eq_getElem hlt⟩
    obtain ⟨b, off, cs, rfl, hrdx, hcell⟩ := slrd_at (HS.out _ B) hx
    obtain ⟨oa, oc, rfl, l1, l2, l3⟩ := hrdx
    have x0 := hcell 0 _ rfl
    rw [show off + (k * opsR.size + 0) = off + k * 1 from rfl] at x0
    have HX : Hid (ps[k]? = some p) := hx
    have HC := HP.out wr p oa oc B l3 (Nat.le_trans l1 l2)
    clear hx hcell l1 l2 l3
    obtain ⟨kp, hkp⟩ : ∃ kp, kp = progI g.1 g.2.1 g.2.2.1 g.2.2.2 p := ⟨_, rfl⟩
    rw [← hkp] at HC
    have EK : Hid (progI g.1 g.2.1 g.2.2.1 g.2.2.2 p = kp) := hkp.symm
    clear hkp
    obtain ⟨Gc0, Gc1, Gc2, Gc3⟩ := cells_4 G
    have Glt := (Array.getElem?_eq_some_iff.1 G).1
    try rw [Nat.mul_one] at x0
    go_wp2_with fail
    clear Gc0 Gc1 Gc2 Gc3 Glt
    clear x0
    refine (HC).mono ?_
    rintro e u2w ⟨rfl, bq⟩
    have tu2w : wr.heap.size ≤ u2w.heap.size := bq.size
    replace B := below_step B bq
    replace G := row_keep bq G
    clear bq
    clear HC
    by_cases hz : kp = 0
    ·have zk : (kp != 0) = false := by simp [hz]
     have HE9 : Hid (∀ j q, j < k + 1 → ps[j]? = some q → progI g.1 g.2.1 g.2.2.1 g.2.2.2 q = 0) := fun j q hj hq => by
      by_cases he : j < k
      ·exact hno j q he hq
      ·have : j = k := by omega
       subst this
       rw [HX.out] at hq
       cases hq
       rw [EK.out, hz]
     have HZ : Hid _ := hz
     clear hz
     have HBG : Hid _ := And.intro B G
     obtain ⟨Gc0, Gc1, Gc2, Gc3⟩ := cells_4 G
     have Glt := (Array.getElem?_eq_some_iff.1 G).1
     clear B G
     go_wp2
     go_roundw
     case rel => exact ⟨k + 1, by omega, by go_num, HE9.out, HBG.out.1, HBG.out.2⟩
     case measure => simp [intOf]; omega
    ·have zk : (kp != 0) = true := by simp [hz]
     have HR : Hid (codesI g.1 g.2.1 g.2.2.1 g.2.2.2 ps = kp) := by
      unfold Hid
      rw [← EK.out]
      exact codes_bad HX.out hno (by rw [EK.out]; exact hz)
     have HZ : Hid (¬ kp = 0) := hz
     clear hz
     have HB : Hid _ := B
     obtain ⟨Gc0, Gc1, Gc2, Gc3⟩ := cells_4 G
     have Glt := (Array.getElem?_eq_some_iff.1 G).1
     clear B G
     go_wp2
     go_ret
     exact ⟨ret_int (HF.out.trans (fabC_bad HN.out HR.out HZ.out)).symm, HB.out⟩
   ·have HR : Hid (codesI g.1 g.2.1 g.2.2.1 g.2.2.2 ps = 0) := codes_good fun j q hq => hno j q (by have := (List.getElem?_eq_some_iff.1 hq).1; omega) hq
    obtain ⟨Gc0, Gc1, Gc2, Gc3⟩ := cells_4 G
    have Glt := (Array.getElem?_eq_some_iff.1 G).1
    go_wp2_with fail
    clear Gc0 Gc1 Gc2 Gc3 Glt
    refine (HDC.out _ B).mono ?_
    rintro e u3w ⟨rfl, bq⟩
    have tu3w : wr.heap.size ≤ u3w.heap.size := bq.size
    replace B := below_step B bq
    replace G := row_keep bq G
    clear bq
    have HB : Hid _ := B
    obtain ⟨Gc0, Gc1, Gc2, Gc3⟩ := cells_4 G
    have Glt := (Array.getElem?_eq_some_iff.1 G).1
    clear B G
    go_wp2
    go_ret
    exact ⟨ret_int (HF.out.trans (fabC_go HN.out HR.out)).symm, HB.out⟩
 ·have zn : ((ps.length : Int) != g.1) = true := by simp [hn]
  have HN : Hid _ := hn
  clear hn
  go_enter Tryz.func61, Tryz.ntmps61
  go_upto_region 1 with fail
  have G := heap_at w (.cells #[.int .i64 g.1, .int .i64 g.2.1, .int .i64 g.2.2.1, .int .i64 g.2.2.2] 38)
  have bz := box_below w (.cells #[.int .i64 g.1, .int .i64 g.2.1, .int .i64 g.2.2.1, .int .i64 g.2.2.2] 38)
  have zG := alloc_len w (.cells #[.int .i64 g.1, .int .i64 g.2.1, .int .i64 g.2.2.1, .int .i64 g.2.2.2] 38)
  replace B := below_step B bz
  clear bz
  generalize w.alloc (.cells #[.int .i64 g.1, .int .i64 g.2.1, .int .i64 g.2.2.1, .int .i64 g.2.2.2] 38) = u1w at B G zG ⊢
  have zGa := Nat.le_of_eq zG
  have zGb := Nat.le_of_eq zG.symm
  clear zG
  have HB : Hid _ := B
  obtain ⟨Gc0, Gc1, Gc2, Gc3⟩ := cells_4 G
  have Glt := (Array.getElem?_eq_some_iff.1 G).1
  clear B G
  go_wp2
  go_ret
  exact ⟨ret_int (HF.out.trans (fabC_no HN.out)).symm, HB.out⟩
variable {α : Type}
theorem appR_sep {base : Nat} {e : TypeId} {R : Rep α} {S T : Foot} {w w2 : World} {o : Obj} {v v' : Value} {xs : List α} {c : List Value} {x : α} (hty : e ∉ R.tys) (h : (slR e R).own w S [v] xs) (hx : R.own w T c x) (hd : Dis S T) (hSb : ∀ k, S k → base ≤ k) (hTb : ∀ k, T k → base ≤ k)
    (happ : ∀ rows, w.ownsRow base e R.size v xs.length rows → w2.ownsRow base e R.size v' (xs.length + 1) (rows ++ c)) (hg : (w.alloc o).grownBy w2 v.ownBlock) :
    (slR e R).own w2 (rng base w2.heap.size) [v'] (xs ++ [x]) ∧ Chg (Old w S) w w2 := by
 obtain ⟨v1, rows, S', hv, hr, hgg, hs, hl⟩ := own_old h
 simp only [List.cons.injEq, and_true] at hv
 subst hv
 have hr2 := happ rows (row_base hr fun g h => hSb g (hgg g h).1.1)
 have hx := R.own_tight (own_old hx)
 have lt := lown_tight hl
 have s2 : w.heap.size + 1 ≤ w2.heap.size := by have := hg.size; simpa using this
 have keepw : ∀ k, k < w.heap.size → v.ownBlock ≠ some k → w2.heap[k]? = w.heap[k]? := fun k hk hne => by
  rw [hg.block k (by simp; omega) (fun e => hne e.symm), Below.heap_alloc w o k hk]
 have L2 := lown_keep (w' := w2) lt fun k hk hlk => keepw k hlk (fun e => (hgg k e).2 hk.1)
 have O2 := R.own_keep (w' := w2) hx fun k hk hlk => keepw k hlk (fun e => hd k (hgg k e).1.1 hk.1.1)
 refine ⟨⟨v', rows ++ c, (fun k => (S' k ∧ ∃ cur t, t ∈ R.tys ∧ w.heap[k]? = some (.cells cur t (0, 0))) ∨ (Old w T k ∧ ∃ cur t, t ∈ R.tys ∧ w.heap[k]? = some (.cells cur t (0, 0)))), rfl, by rw [List.length_append]; exact row_base hr2 (fun _ _ => Nat.zero_le _), fun g hg' => ?_, ?_, lown_push L2 O2 ?_ (fun k h => .inl h) (fun k h => .inr h)⟩, ?_⟩
 ·obtain ⟨cur, hcur⟩ := row_block hr2 hg'
  have hin := World.ownsRow.lt hr2 g hg'
  refine ⟨⟨hin.1, hin.2⟩, ?_⟩
  have key : (∃ cur t, t ∈ R.tys ∧ w.heap[g]? = some (.cells cur t (0, 0))) → v.ownBlock ≠ some g → False := by
   rintro ⟨cur', t, ht, hh⟩ hne
   have hlk : g < w.heap.size := (Array.getElem?_eq_some_iff.1 hh).1
   have := keepw g hlk hne
   rw [hcur, hh] at this
   simp at this
   rw [this.2] at hty
   exact hty ht
  rintro (⟨h1, h2⟩ | ⟨h1, h2⟩)
  ·exact key h2 (fun e => (hgg g e).2 h1)
  ·exact key h2 (fun e => hd g (hgg g e).1.1 h1.1)
 ·rintro k (⟨h1, _⟩ | ⟨h1, _⟩)
  ·exact ⟨hSb k (hs k h1).1, by have := (hs k h1).2; omega⟩
  ·exact ⟨hTb k h1.1, by have := h1.2; omega⟩
 ·rintro k ⟨h1, _⟩ ⟨h2, _⟩
  exact hd k (hs k h1).1 h2.1
 ·exact ⟨hg.os, hg.tape, hg.output, by omega, fun k hk hn => keepw k hk (fun e => hn (hgg k e).1)⟩
theorem wpList_push {P : Program} {w : World} {ops : Array Oper} {rest : List Oper} {o : Oper} {a : Act} {Q : Exit → Act → World → Prop} (hgd : o.guard = none) (s x : Operand) (t : TypeId)
    (ho : o.op = .call { callee := .builtin .append, args := #[s, x], argTypes := #[t, t] })
    (R : Rep α) (e : TypeId) (i : TypeInfo) (z : Value) (bytes : Nat) (ht : P.underlying t = some (.slice e)) (hi : P.info? e = some i) (hz : i.zero = some z) (hsize : i.size = R.size) (hby : i.bytes = bytes) (hzs : z.cells.size = R.size) (hsz : 0 < R.size) (hty : e ∉ R.tys)
    (base : Nat) (S T : Foot) (v : Value) (xs : List α) (c : List Value) (y : α) (cc : Nat) (hs : a.eval s = v) (qb : Nat) (hx : a.eval x = .slice (some ⟨qb, 0, none⟩) 1 cc) (hq : qb = w.heap.size)
    (h : (slR e R).own w S [v] xs) (hy : R.own w T c y) (hd : Dis S T) (hSb : ∀ k, S k → base ≤ k) (hTb : ∀ k, T k → base ≤ k) (hb : base ≤ w.heap.size) (hone : ∀ u ∈ c, u.oneCell' = true) (hlen : xs.length + 1 ≤ maxLen) (hbytes : (xs.length + 1) * bytes ≤ 140737488355328)
    (k : ∀ g' cap' w2, (slR e R).own w2 (rng base w2.heap.size) [.slice (some ⟨g', 0, none⟩) (xs.length + 1) cap'] (xs ++ [y]) → Chg (Old w S) w w2 → wpList P ops Q rest (a.put o.dst (.slice (some ⟨g', 0, none⟩) (xs.length + 1) cap')) w2) :
    wpList P ops Q (o :: rest) a (w.alloc (.cells c.toArray e)) := by
 subst hq
 have h0 := h
 obtain ⟨v1, rows, S', hv, hr, hgg, hs', hl⟩ := h0
 simp only [List.cons.injEq, and_true] at hv
 subst hv
 have hr0 : w.ownsRow base e R.size v xs.length rows := row_base hr fun g hg => hSb g (hgg g hg).1
 have hrA : (w.alloc (.cells c.toArray e)).ownsRow base e R.size v xs.length rows := orow_keep hr0 fun g hg => by
  have hl := World.ownsRow.lt hr0 g hg
  rw [Below.heap_alloc _ _ _ hl.2]
 have hcl : c.length = 1 * R.size := by rw [R.rd_len (R.own_rd hy)]; omega
 refine wpList_append_own (w.alloc (.cells c.toArray e)) hgd s x t ho base e i z R.size bytes ht hi hz hsize hby hzs hsz v xs.length rows hs hrA ⟨w.heap.size, 0, none⟩ 1 cc c hx hcl (cells_news w c e) hone hlen hbytes (by simp; omega) ?_
 intro v' w9 hown' hgrow hnil
 obtain ⟨g', cap', rfl⟩ := owns_shape hown'
 obtain ⟨N1, N2⟩ := appR_sep (base := base) (e := e) (R := R) hty h hy hd hSb hTb (fun rows2 hr2 => by rw [rows_unique hr2 hr0]; exact hown') hgrow
 exact k _ _ _ N1 N2
end Go.Proofs.YthnfkacboijneaaGreatDoor
