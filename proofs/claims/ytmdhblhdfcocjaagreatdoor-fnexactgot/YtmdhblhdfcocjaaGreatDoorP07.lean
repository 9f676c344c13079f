import Derived.Test.YtmdhblhdfcocjaaGreatDoorP00Box
import Derived.Test.YtmdhblhdfcocjaaGreatDoorCards
import Derived.Test.YtmdhblhdfcocjaaGreatDoorTie
import Derived.Test.YtmdhblhdfcocjaaGreatDoorP06
import Derived.ChangeSame
import Derived.ChangeVars
import Derived.JoinedOf
import Derived.LaidLaws
import Derived.Deep.Strs
import Derived.RangeFuncNested
import Derived.RangeFuncBound
import Derived.RangeFuncLeaves
import Derived.Shelf.Abstract
namespace Go.Proofs.YtmdhblhdfcocjaaGreatDoor
open Go.ChangeShapes Go.WideShapes Go.RowKit
set_option linter.unusedVariables false
abbrev zCP : String := "loop.example/g00342/impl.holdings"
abbrev holdD {H : Type} : DataW H := .agg [.agg [.lit (.bool false), .lit (.bool false), .lit (.bool false)], .agg [.lit (.bool true), .lit (.bool false), .lit (.bool false)], .agg [.lit (.bool true), .lit (.bool true), .lit (.bool false)], .agg [.lit (.bool true), .lit (.bool true), .lit (.bool true)]]
abbrev holdLT : List (String × DataW Unit) := [(zCP, Rows.laid_loop_example_g00342_impl_holdings)]
theorem zMD : Tryz.prog.globalNamed zCP = some 0 := by kernel_rfl
theorem zG1 : (Tryz.prog.globals[0]?).map (·.type) = some 173 := by kernel_rfl
theorem zH6 {H : Type} (enc : TypeId × Value → H) (W : World) (sp : Nat → Bool) : DataW.trod enc Tryz.prog W 0 sp true 4 173 zEd.toList = some (holdD, []) := by kernel_rfl
theorem zEm {H : Type} {enc : TypeId × Value → H} {P : Program} {w : World} {base : Nat} {sp : Nat → Bool} {held : Bool} {fuel : Nat} {t : TypeId} {c : Value} {y : DataW H × List MemPlace}
    (ht : P.underlying t = some .bool) (h : DataW.trod enc P w base sp held fuel t [c] = some y) : ∃ b, c = .bool b ∧ y = (.lit (.bool b), []) := by
 cases fuel with
 | zero => simp [DataW.trod] at h
 | succ fuel =>
  cases c <;> simp [DataW.trod, ht] at h
  exact ⟨_, rfl, h.symm⟩
theorem zCW {H : Type} {enc : TypeId × Value → H} {P : Program} {w : World} {base : Nat} {sp : Nat → Bool} {held : Bool} {fuel : Nat} {t u : TypeId} {f0 f1 f2 : Field} {x y z : Value} {r : DataW H × List MemPlace} {a b c : Bool}
    (ht : P.underlying t = some (.struct #[f0, f1, f2])) (hu : P.underlying u = some .bool) (h0 : f0.type = u) (h1 : f1.type = u) (h2 : f2.type = u) (o0 : f0.offset = 0) (o1 : f1.offset = 1) (o2 : f2.offset = 2) (hc : P.cellsOf u = 1)
    (h : DataW.trod enc P w base sp held fuel t [x, y, z] = some r) (hr : r.1 = .agg [.lit (.bool a), .lit (.bool b), .lit (.bool c)]) : x = .bool a ∧ y = .bool b ∧ z = .bool c := by
 obtain ⟨y0, y1, y2, n, rfl, _, d, f, g⟩ := Deep.trod_struct3 ht h;rw [h0, o0, hc] at d;rw [h1, o1, hc] at f;rw [h2, o2, hc] at g;obtain ⟨p0, rfl, rfl⟩ := zEm hu d;obtain ⟨p1, rfl, rfl⟩ := zEm hu f;obtain ⟨p2, rfl, rfl⟩ := zEm hu g;simp at hr
 obtain ⟨rfl, rfl, rfl⟩ := hr;exact ⟨rfl, rfl, rfl⟩
theorem zHY {H : Type} {enc : TypeId × Value → H} {P : Program} {w : World} {base : Nat} {sp : Nat → Bool} {held : Bool} {fuel : Nat} {T t u : TypeId} {f0 f1 f2 : Field} {cs : List Value} {p : List MemPlace}
    (hT : P.underlying T = some (.array 4 t)) (hcT : P.cellsOf T = 12) (hct : P.cellsOf t = 3)
    (ht : P.underlying t = some (.struct #[f0, f1, f2])) (hu : P.underlying u = some .bool) (h0 : f0.type = u) (h1 : f1.type = u) (h2 : f2.type = u) (o0 : f0.offset = 0) (o1 : f1.offset = 1) (o2 : f2.offset = 2) (hc : P.cellsOf u = 1)
    (h : DataW.trod enc P w base sp held fuel T cs = some (holdD, p)) : cs = zEd.toList := by
 cases fuel with
 | zero => simp [DataW.trod] at h
 | succ fuel =>
  simp only [DataW.trod, hT, hcT, hct] at h;split at h
  ·rename_i hl
   obtain ⟨f, d, i, n, m, k, c, j, l, g, a, b, rfl⟩ : ∃ f d i n m k c j l g a b, cs = [f, d, i, n, m, k, c, j, l, g, a, b] := by
    match cs, hl with
    | [f, d, i, n, m, k, c, j, l, g, a, b], _ => exact ⟨f, d, i, n, m, k, c, j, l, g, a, b, rfl⟩
   rw [show List.range 4 = [0, 1, 2, 3] from rfl] at h;simp only [Option.map_eq_some_iff, List.mapM_cons, List.mapM_nil, Option.bind_eq_bind, Option.bind_eq_some_iff, Option.pure_def, Option.some.injEq] at h;obtain ⟨xs, ⟨y0, s, _, ⟨y1, z, _, ⟨y2, r, _, ⟨y3, v, _, rfl, rfl⟩, rfl⟩, rfl⟩, rfl⟩, o⟩ := h;simp only [List.map_cons, List.map_nil, Prod.mk.injEq, DataW.agg.injEq, List.cons.injEq, and_true] at o;obtain ⟨⟨q, B, y, A⟩, _⟩ := o;obtain ⟨rfl, rfl, rfl⟩ := zCW ht hu h0 h1 h2 o0 o1 o2 hc s q;obtain ⟨rfl, rfl, rfl⟩ := zCW ht hu h0 h1 h2 o0 o1 o2 hc z B;obtain ⟨rfl, rfl, rfl⟩ := zCW ht hu h0 h1 h2 o0 o1 o2 hc r y;obtain ⟨rfl, rfl, rfl⟩ := zCW ht hu h0 h1 h2 o0 o1 o2 hc v A;rfl
  ·cases h
theorem hold_var {W : World} (h : laidMet Tryz.prog holdLT W) : W.var? Tryz.prog zCP = some zEd := by
 obtain ⟨ps, ⟨g, t, i, b, p, q, c, f, a, d, _, _⟩, _⟩ := h;obtain rfl := Option.some.inj (zMD.symm.trans c);obtain rfl := Option.some.inj (zG1.symm.trans f);rw [a];have := zHY Tryz.underlying173 (by kernel_rfl) (by kernel_rfl) Tryz.underlying172 Tryz.underlying4 rfl rfl rfl rfl rfl rfl (by kernel_rfl) d;obtain ⟨l⟩ := i;rw [show l = zEd.toList from this]
theorem zJO {W : World} (h : W.var? Tryz.prog zCP = some zEd) : HoldT W := by
 simp only [World.var?, zMD, Option.bind_some] at h;split at h
 ·rename_i cs t fz e
  cases h;exact ⟨t, fz, e⟩
 ·cases h
theorem var_below {W W' : World} (h : W.var? Tryz.prog zCP = some zEd) (hB : Bl W W') : W'.var? Tryz.prog zCP = some zEd := by
 obtain ⟨t, fz, e⟩ := (zJO h).goes hB;simp only [World.var?, zMD, Option.bind_some, e]
theorem vars_hold {H : Type} (enc : TypeId × Value → H) {W : World} (sp : Nat → Bool) (h : W.var? Tryz.prog zCP = some zEd) : DataW.TrodVars enc Tryz.prog W sp [zCP] [holdD] (MemPlace.row ⟨0, 0, none⟩ zEd.size ++ [] ++ []) :=
 ⟨0, 173, zEd, 4, [], [], zMD, zG1, h, zH6 enc W sp, rfl, rfl⟩
theorem vars_one {H : Type} {enc : TypeId × Value → H} {W : World} {gs : List (DataW H)} {q : List MemPlace} (hV : DataW.TrodVars enc Tryz.prog W (fun _ => true) [zCP] gs q) (h : W.var? Tryz.prog zCP = some zEd) : gs = [holdD] := by
 obtain ⟨g, t, f, a, d, p', rfl, c, j, b, i, rfl⟩ := trodVars_one hV;obtain rfl := Option.some.inj (zMD.symm.trans c);obtain rfl := Option.some.inj (zG1.symm.trans j);obtain rfl : f = zEd := Option.some.inj (b.symm.trans h);obtain ⟨rfl, rfl⟩ := DataW.Trod.unique (v := .agg zEd) ⟨a, i⟩ ⟨4, zH6 enc W _⟩;rfl
noncomputable def zH7 (os : Os) : World :=
 { World.holding Tryz.prog os ⟨#[], #[], []⟩ with heap := (World.holding Tryz.prog os ⟨#[], #[], []⟩).heap.modify 0 fun
     | .cells _ t frozen => .cells zEd t frozen
     | o => o }
theorem zKX (os : Os) (args : Array Value) : ((zH7 os).forCall (fun _ _ => 0) ⟨#[], args, []⟩).memory.heap[0]? = some (.cells zEd 173 (0, 0)) := by kernel_rfl
set_option maxRecDepth 100000 in
theorem laid_metT (os : Os) (args : Array Value) : laidMet Tryz.prog holdLT ((zH7 os).forCall (fun _ _ => 0) ⟨#[], args, []⟩).memory := by
 refine ⟨_, ⟨0, 173, zEd, 8, [], [], by kernel_rfl, by kernel_rfl, by kernel_rfl, by kernel_rfl, rfl, rfl⟩, by decide, fun b off h => ?_⟩;have a : MemPlace.cell b off ∈ [MemPlace.cell 0 0, .cell 0 1, .cell 0 2, .cell 0 3, .cell 0 4, .cell 0 5, .cell 0 6, .cell 0 7, .cell 0 8, .cell 0 9, .cell 0 10, .cell 0 11] := h;have c : b = 0 := by
  simp at a
  omega
 subst c;refine ⟨⟨_, _, zKX os args⟩, fun u v hc => ?_⟩;simp only [World.cell?, zKX os args] at hc;simp at a
 rcases a with rfl | rfl | rfl | rfl | rfl | rfl | rfl | rfl | rfl | rfl | rfl | rfl <;> simp [zEd] at hc
open Go.ChangeShapes Go.WideShapes Go.ChangeAt Go.RowKit
abbrev zAR : Rep (Int × Int × List Int) := zBP zBC (zBP zBC zA5)
abbrev zBE : Mk (Int × Int × List Int) := zDH zBx (zDH zBx zBn)
abbrev zBl : Rep (List (Int × Int × List Int)) := slR 39 zAR
abbrev zBr : Mk (List (Int × Int × List Int)) := slM zBE
abbrev zBu : Rep (List (List (Int × Int × List Int))) := slR 115 zBl
abbrev zEU : Mk (List (List (Int × Int × List Int))) := slM zBr
abbrev zAA : Rep (List (List (Int × Int × List Int)) × List Int) := zBP zBu zA5
abbrev zBa : Mk (List (List (Int × Int × List Int)) × List Int) := zDH zEU zBn
theorem zIT : zEb Tryz.prog 28 zAR :=
 zCS Tryz.underlying28 (by kernel_rfl) (zBq rfl (by kernel_rfl) zBL (zBq rfl (by kernel_rfl) zBL (zD5 rfl (by kernel_rfl) zE2)))
theorem zL7 : zEb Tryz.prog 114 zBl := zDG Tryz.underlying114 (by kernel_rfl) (by decide) zIT
theorem zL8 : zEb Tryz.prog 22 zBu := zDG Tryz.underlying22 (by kernel_rfl) (by decide) zL7
theorem zJP : zEb Tryz.prog 25 zAA :=
 zCS Tryz.underlying25 (by kernel_rfl) (zBq rfl (by kernel_rfl) zL8 (zD5 rfl (by kernel_rfl) zE2))
theorem zAL {w : World} {cs : List Value} {u : Int × Int × List Int} (h : zAR.rd w cs u) :
    ∃ a b, cs = [nI u.1, nI u.2.1, sL a u.2.2.length b] ∧ zBk u.1 ∧ zBk u.2.1 ∧ u.2.2.length ≤ b ∧ b ≤ maxLen ∧ zBg zBC w a u.2.2 := by
 obtain ⟨c1, c2, rfl, ⟨rfl, c⟩, c3, c4, rfl, ⟨rfl, d⟩, a, b, rfl, g, i, f⟩ := h;exact ⟨a, b, rfl, c, d, g, i, f⟩
theorem rd_way {w : World} {l s : Int} {d : List Int} {a : Option Addr} {cap : Nat} (i1 : zBk l) (i2 : zBk s) (h1 : d.length ≤ cap) (h2 : cap ≤ maxLen) (h3 : zBg zBC w a d) :
    zAR.rd w [nI l, nI s, sL a d.length cap] (l, s, d) := ⟨[_], [_, _], rfl, ⟨rfl, i1⟩, [_], [_], rfl, ⟨rfl, i2⟩, a, cap, rfl, h1, h2, h3⟩
theorem zAH {w : World} {cs : List Value} {c : List (List (Int × Int × List Int)) × List Int} (h : zAA.rd w cs c) :
    ∃ a d b f, cs = [sL a c.1.length d, sL b c.2.length f] ∧ c.1.length ≤ d ∧ d ≤ maxLen ∧ c.2.length ≤ f ∧ f ≤ maxLen ∧ zBg zBl w a c.1 ∧ zBg zBC w b c.2 := by
 obtain ⟨c1, c2, rfl, ⟨a, d, rfl, l, m, i⟩, b, f, rfl, k, g, j⟩ := h;exact ⟨a, d, b, f, rfl, l, m, k, g, i, j⟩
theorem zHZ {w : World} {S : zAW} {cs : List Value} {u : Int × Int × List Int} (h : zAR.own w S cs u) :
    ∃ v, cs = [nI u.1, nI u.2.1, v] ∧ zBk u.1 ∧ zBk u.2.1 ∧ zA5.own w S [v] u.2.2 := by
 obtain ⟨c1, c2, S1, S2, rfl, ⟨rfl, f⟩, ⟨c3, g, S3, S4, rfl, ⟨rfl, b⟩, a, a3, j, d2⟩, a1, i, d⟩ := h;have c := zA5.rd_len (zA5.own_rd a);obtain ⟨v, rfl⟩ : ∃ v, g = [v] := List.length_eq_one_iff.1 c;exact ⟨v, rfl, f, b, zA5.own_mono a (j.trans i)⟩
theorem zCF {w : World} {S : zAW} {l s : Int} {d : List Int} {v : Value} (i1 : zBk l) (i2 : zBk s) (h : zA5.own w S [v] d) : zAR.own w S [nI l, nI s, v] (l, s, d) :=
 ⟨[_], [_, _], fun _ => False, S, rfl, ⟨rfl, i1⟩, ⟨[_], [_], fun _ => False, S, rfl, ⟨rfl, i2⟩, h, fun _ h => h.elim, Sub.refl _, fun _ h _ => h⟩, fun _ h => h.elim, Sub.refl _, fun _ h _ => h⟩
set_option maxHeartbeats 400000 in
theorem zG2 (l s : Int) (d : List Int) (a : Option Addr) (cap : Nat) (left : Int) (w : World) (h0 : 0 ≤ left) (h1 : left ≤ 1048576) (hm : d.length ≤ maxLen) :
    Calls Tryz.prog 20 #[.agg #[nI l, nI s, sL a d.length cap], nI left] w fun e c => e = .returned (nI (szI (zBE.bk (l, s, d)) left)) ∧ Bl w c := by
 have g : zBE.bk (l, s, d) = zBn.bk d := by show 0 + (0 + zBn.bk d) = _; omega
 rw [g];by_cases f : (zBn.bk d : Int) ≤ left
 ·have b : Hid (szI (zBn.bk d) left = _) := zC2 f;have i : ¬ (left - (zBn.bk d : Int) < 0) := by omega
  go_enter Tryz.func20, Tryz.ntmps20;go_wp2_with (go_at_call 21; refine (zCC _ d _ _ _ h0 h1 hm).mono ?_; rintro e c ⟨rfl, rfl⟩; rw [b.out])
  go_ret
  exact ⟨zAV b.out.symm, zAf w _⟩
 ·have b : Hid (szI (zBn.bk d) left = _) := zCz f;go_enter Tryz.func20, Tryz.ntmps20;go_wp2_with (go_at_call 21; refine (zCC _ d _ _ _ h0 h1 hm).mono ?_; rintro e c ⟨rfl, rfl⟩; rw [b.out])
  go_ret
  exact ⟨zAV b.out.symm, zAf w _⟩
open Go.ChangeShapes Go.WideShapes Go.ChangeAt Go.RowKit Go.Shelf
section
variable {P : Program}
def Kept (B : Nat) (W W' : World) : Prop := W.heap.size ≤ W'.heap.size ∧ ∀ k, B ≤ k → k < W.heap.size → W'.heap[k]? = W.heap[k]?
theorem Kept.refl (B : Nat) (W : World) : Kept B W W := ⟨Nat.le_refl _, fun _ _ _ => rfl⟩
theorem Kept.trans {B : Nat} {U V W : World} (h : Kept B U V) (k : Kept B V W) : Kept B U W := ⟨Nat.le_trans h.1 k.1, fun i hi hl => (k.2 i hi (Nat.lt_of_lt_of_le hl h.1)).trans (h.2 i hi hl)⟩
theorem Kept.mono {B B' : Nat} {W W' : World} (h : Kept B W W') (hb : B ≤ B') : Kept B' W W' := ⟨h.1, fun i hi hl => h.2 i (Nat.le_trans hb hi) hl⟩
theorem Kept.below {B : Nat} {W W' : World} (h : Bl W W') : Kept B W W' := ⟨h.size, fun i _ hl => h.block i hl⟩
theorem Kept.chg {B : Nat} {S : zAW} {W W' : World} (h : Chg S W W') (hS : ∀ k, S k → k < B) : Kept B W W' := ⟨h.size, fun i hi hl => h.block i hl fun x => by have := hS i x; omega⟩
theorem Kept.alloc (B : Nat) (W : World) (o : Obj) : Kept B W (W.alloc o) := ⟨by simp, fun i _ hl => Below.heap_alloc W o i hl⟩
theorem Kept.put {B l : Nat} (W : World) (o : Obj) (h : l < B) : Kept B W (W.putObj l o) := ⟨by simp, fun i hi _ => World.putObj_heap_other (by omega)⟩
theorem zG3 {β : Type} {B B' : Nat} {I : β → World → Prop} (h : OwnFrom B I) (hb : B ≤ B') : OwnFrom B' I := fun s W W' row hs hg hr => h s W W' row hs hg (fun r e => ⟨Nat.le_trans hb (hr r e).1, (hr r e).2⟩)
theorem zBo {β : Type} (B k : Nat) (cs : Array Value) (t : TypeId) : OwnFrom B (fun (_ : β) W => W.heap[k]? = some (.cells cs t (0, 0))) := fun s X Y row hs hg hr => by
 refine (hg.block k (ltH hs) fun e => ?_).trans hs;obtain ⟨o, a, b⟩ := (hr k e.symm).2;rw [hs] at a;cases a;cases b
def Iter (P : Program) (g : Nat) (lb : Array Value) (args : Nat → Array Value) (N : Nat) (R : World → Prop) : Prop :=
 ∀ (l : Nat) (J Jx : Nat → World → Prop) (W : World), OwnFrom W.heap.size J → OwnFrom W.heap.size Jx → (∀ k W1, J k W1 → R W1) →
  (∀ k W1, k < N → J k W1 → YieldAt Fence.wide 0 P l (args k) W1 fun e W' => Kept W.heap.size W1 W' ∧ ((e = .returned (.bool true) ∧ J (k + 1) W') ∨ (e = .returned (.bool false) ∧ Jx k W'))) →
  J 0 W → CallsIn Fence.wide 0 P g (#[.func (.yield l) #[] #[]] ++ lb) W fun e W' => (∃ v, e = .returned v) ∧ (J N W' ∨ ∃ k, k < N ∧ Jx k W')
def roundsOn (B : Nat) (I : Nat → World → Prop) (Ix : Code → Nat → World → Prop) (k : Nat) (W : World) : Exit → Act → World → Prop
 | .normal, _, W' => Kept B W W' ∧ I (k + 1) W'
 | .ret, _, W' => Kept B W W' ∧ Ix .ret k W'
 | .exit id, _, W' => Kept B W W' ∧ Ix (.exit id) k W'
 | .goto t, _, W' => Kept B W W' ∧ Ix (.goto t) k W'
 | .panic _, _, _ => False
 | .outgrown, _, _ => False
theorem zE3 {g : Operand} {ps : Array Tmp} {assign body : Code} {Q : Exit → Act → World → Prop} {a : Act} {w : World} {gf : Nat} {lb : Array Value}
    (hg : a.eval g = .func (.func gf) #[] lb) (eg : Enters P gf)
    {args : Nat → Array Value} {N : Nat} {R : World → Prop} (it : Iter P gf lb args N R) (hps : ∀ k, (args k).size = ps.size)
    (I : Nat → World → Prop) (Ix : Code → Nat → World → Prop) (hI : OwnFrom w.heap.size I) (hIx : ∀ c, OwnFrom w.heap.size (Ix c)) (hR : ∀ k W, I k W → R W) (h0 : I 0 w) (A : Nat → Act → World → Prop) (hA : ∀ k F, OwnFrom w.heap.size (fun (_ : Unit) W => A k F W))
    (hassign : ∀ (k : Nat) (W : World) (K : Act → World → Prop), k < N → I k W → w.heap.size + 1 < W.heap.size → (∀ F W', Kept w.heap.size W W' → A k F W' → K F W') → assign.wpIn (Fence.wide.inRound (w.heap.size + 1)) 0 P (Exit.then K (fun _ _ _ => False)) { tmps := (ps.zip (args k)).foldl (fun t (p, v) => t.setIfInBounds p v) a.tmps, defers := [] } W)
    (hbody : ∀ (k : Nat) (F : Act) (W : World), k < N → A k F W → w.heap.size + 1 < W.heap.size → W.heap[w.heap.size]? = some (.deferred (some [])) → (∃ r, W.heap[w.heap.size + 1]? = some (.loop r)) → body.wpIn (Fence.wide.inRound (w.heap.size + 1)) 0 P (roundsOn w.heap.size I Ix k W) F W)
    (hdone : ∀ W, I N W → W.heap[w.heap.size]? = some (.deferred (some [])) → Q .normal { a with defers := { target := .collected w.heap.size, args := #[] } :: a.defers } W)
    (hstop : ∀ c k W, k < N → Ix c k W → W.heap[w.heap.size]? = some (.deferred (some [])) → c.wpIn Fence.wide 0 P Q { a with defers := { target := .collected w.heap.size, args := #[] } :: a.defers } W) :
    (Code.rangeFunc g ps assign body).wpIn Fence.wide 0 P Q a w := by
 refine wpIn_rangeFunc fun fn hfn => ?_;let lp : LoopState → Option Code → Obj := fun st T => .loop { state := st, pending := T, fn, tmps := a.tmps, params := ps, assign, body, defers := w.heap.size }
 have H : ∀ {A B : World} {d : Option Nat} {st : LoopState} {T : Option Code}, A.grownBy B d → (∀ r, d = some r → w.heap.size + 2 ≤ r ∧ ∃ o : Obj, A.heap[r]? = some o ∧ o.isCells = false) → A.heap[w.heap.size + 1]? = some (lp st T) → A.heap[w.heap.size]? = some (.deferred (some [])) →
     B.heap[w.heap.size + 1]? = some (lp st T) ∧ B.heap[w.heap.size]? = some (.deferred (some [])) := by
  intro A B d st T i f M Y;have l1 := (ltH M);refine ⟨(i.block _ l1 fun e => ?_).trans M, (i.block _ (by omega) fun e => ?_).trans Y⟩
  ·have := (f _ e.symm).1;omega
  ·have := (f _ e.symm).1;omega
 have J : ∀ {A B : World} {d : Option Nat}, (∀ r, d = some r → w.heap.size + 2 ≤ r ∧ ∃ o : Obj, A.heap[r]? = some o ∧ o.isCells = false) → ∀ r, d = some r → w.heap.size ≤ r ∧ ∃ o : Obj, A.heap[r]? = some o ∧ o.isCells = false :=
  fun f r e => ⟨by have := (f r e).1; omega, (f r e).2⟩
 have X : ((w.alloc (.deferred (some []))).alloc (lp .ready none)).heap.size = w.heap.size + 2 := by simp
 refine ⟨w.heap.size + 1, [{ target := .collected w.heap.size, args := #[] }], (w.alloc (.deferred (some []))).alloc (lp .ready none), { target := .fn (.func gf) lb, args := #[.func (.yield (w.heap.size + 1)) #[] #[]] }, (w.alloc (.deferred (some []))).alloc (lp .ready none), gf,
  #[.func (.yield (w.heap.size + 1)) #[] #[]] ++ lb, (w.alloc (.deferred (some []))).alloc (lp .ready none), run_enterLoop_outer _ _ _ _ _, ?_, fun _ _ => trivial, ?_, (fun h => by cases h), ?_⟩
 ·simp only [resolve, hg];simp [go_sem]
 ·have fA : ∀ args w, (callFunc gf args).run P w = .ok (.enter gf args) w := eg;simp [invoke, go_sem, fA]
 refine (it (w.heap.size + 1) (fun k W => I k W ∧ W.heap[w.heap.size + 1]? = some (lp .ready none) ∧ W.heap[w.heap.size]? = some (.deferred (some [])))
  (fun k W => ∃ c, Ix c k W ∧ W.heap[w.heap.size + 1]? = some (lp .done (some c)) ∧ W.heap[w.heap.size]? = some (.deferred (some []))) _ ?_ ?_ (fun k W h => hR k W h.1) ?_ ⟨?_, ?_, ?_⟩).mono ?_
 ·rintro k A B d ⟨M, Y, h3⟩ i f;rw [X] at f;exact ⟨hI k A B d M i (J (B := B) f), H i f Y h3⟩
 ·rintro k A B d ⟨c, M, Y, h3⟩ i f;rw [X] at f;exact ⟨c, hIx c k A B d M i (J (B := B) f), H i f Y h3⟩
 ·rintro k W hk ⟨S, C, L⟩;have m := (ltH C);refine ⟨fn, _, assign, body, run_yield C (hps k), roundIn_of_wpIn hfn (hassign k W _ hk S m ?_)⟩;clear S;intro F Wa n eA;replace C := (n.2 _ (by omega) m).trans C;replace L := (n.2 _ (Nat.le_refl _) (by omega)).trans L;clear m;replace n : Kept ((w.alloc (.deferred (some []))).alloc (lp .ready none)).heap.size W Wa := n.mono (by rw [X]; omega);have bA : ∀ V o, Kept ((w.alloc (.deferred (some []))).alloc (lp .ready none)).heap.size V (V.putObj (w.heap.size + 1) o) := fun V o => Kept.put V o (by rw [X]; omega);revert n
  generalize W = Wb;intro n;obtain ⟨W, rfl⟩ : ∃ W, W = Wa := ⟨_, rfl⟩;have m := (ltH C);refine ⟨_, run_beginRound C rfl, ?_⟩;have U : (W.putObj (w.heap.size + 1) (lp .busy none)).heap[w.heap.size + 1]? = some (lp .busy none) := World.putObj_heap_same m;have Z : (W.putObj (w.heap.size + 1) (lp .busy none)).heap[w.heap.size]? = some (.deferred (some [])) := (World.putObj_heap_other (by omega)).trans L;refine wpIn_mono (hbody k F _ hk ((hA k F).putObj (s := ()) _ eA (by omega) C rfl) (by simpa using m) Z ⟨_, U⟩) ?_;have G : ∀ (b : Option Code) (D : World), Kept w.heap.size (W.putObj (w.heap.size + 1) (lp .busy none)) D →
      Kept ((w.alloc (.deferred (some []))).alloc (lp .ready none)).heap.size Wb (D.putObj (w.heap.size + 1) (lp (if b.isNone then .ready else .done) b)) ∧
      (Instr.endRound (w.heap.size + 1) b).run P D = .ok (.bool b.isNone) (D.putObj (w.heap.size + 1) (lp (if b.isNone then .ready else .done) b)) ∧ D.heap[w.heap.size + 1]? = some (lp .busy none) ∧
      (D.putObj (w.heap.size + 1) (lp (if b.isNone then .ready else .done) b)).heap[w.heap.size + 1]? = some (lp (if b.isNone then .ready else .done) b) ∧
      (D.putObj (w.heap.size + 1) (lp (if b.isNone then .ready else .done) b)).heap[w.heap.size]? = some (.deferred (some [])) := by
   intro b D E;have e2 := (E.2 _ (by omega) (by simpa using m)).trans U;have e1 := (E.2 _ (Nat.le_refl _) (by simp; omega)).trans Z;exact ⟨((n.trans (bA _ _)).trans (E.mono (by rw [X]; omega))).trans (bA _ _), run_endRound b e2, e2, World.putObj_heap_same (ltH e2), (World.putObj_heap_other (by omega)).trans e1⟩
  intro e a3 D O;cases e with
  | normal =>
   obtain ⟨E, l⟩ := O;obtain ⟨j, f, q, z, y⟩ := G none D E;exact ⟨_, _, f, j, .inl ⟨rfl, hI.putObj _ l (by omega) q rfl, z, y⟩⟩
  | ret =>
   obtain ⟨E, l⟩ := O;obtain ⟨j, f, q, z, y⟩ := G (some .ret) D E;exact ⟨_, _, f, j, .inr ⟨rfl, .ret, (hIx _).putObj _ l (by omega) q rfl, z, y⟩⟩
  | exit id =>
   obtain ⟨E, l⟩ := O;obtain ⟨j, f, q, z, y⟩ := G (some (.exit id)) D E;exact ⟨_, _, f, j, .inr ⟨rfl, .exit id, (hIx _).putObj _ l (by omega) q rfl, z, y⟩⟩
  | goto t =>
   obtain ⟨E, l⟩ := O;obtain ⟨j, f, q, z, y⟩ := G (some (.goto t)) D E;exact ⟨_, _, f, j, .inr ⟨rfl, .goto t, (hIx _).putObj _ l (by omega) q rfl, z, y⟩⟩
  | panic ch => exact O.elim
  | outgrown => exact O.elim
 ·exact hI.alloc _ (hI.alloc _ h0)
 ·have := World.alloc_heap_new (w.alloc (.deferred (some []))) (lp .ready none);rwa [World.size_alloc] at this
 ·exact (Below.heap_alloc _ _ _ (by simp)).trans (World.alloc_heap_new w _)
 ·rintro e W ⟨⟨v, rfl⟩, ⟨S, C, L⟩ | ⟨k, hk, c, S, C, L⟩⟩
  ·exact ⟨none, _, run_endLoop C (by simp), hdone _ (hI.putObj _ S (by omega) C rfl) ((World.putObj_heap_other (by omega)).trans L)⟩
  ·exact ⟨some c, _, run_endLoop C (by simp), hstop c k _ hk ((hIx c).putObj _ S (by omega) C rfl) ((World.putObj_heap_other (by omega)).trans L)⟩
end
open Go.RowKit
abbrev zAT := Int × Int × List Int
abbrev zAu := List (List zAT) × List Int
def zAF : zAT := (-1, 0, [])
def zB7 (u : zAT) : Bool := decide (u.1 = -1 ∧ u.2.1 = 0 ∧ u.2.2 = [])
def zIU (n : Nat) : Prop := n = 1 ∨ n = 2 ∨ n = 4
section
variable (ln : List Int → Bool) (tok : Int → Int → Bool) (tou : Int → Int → Int → Int) (vic : Int → Int → Int)
def zBi (u : zAT) : Bool := decide ((0 ≤ u.1 ∧ u.1 ≤ 15) ∧ (1 ≤ u.2.1 ∧ u.2.1 ≤ 3) ∧ ln u.2.2 = true)
def zIV (n s : Nat) (row : List zAT) : Prop :=
 (∀ (i : Nat) (u : zAT), row[i]? = some u → zB7 u = true ∨ (zBi ln u = true ∧ u.1 % (n : Int) = s)) ∧
 ∀ (i k : Nat) (u x : zAT), row[i]? = some u → row[k]? = some x → 0 ≤ u.1 → u.1 = x.1 → i = k
def OkC (c : zAu) : Prop :=
 zIU c.1.length ∧ c.2.length = c.1.length ∧ ∃ m, zIU m ∧ ∀ (s : Nat) (row : List zAT), c.1[s]? = some row → row.length = m ∧ (∃ t, c.2[s]? = some t ∧ tok t m = true) ∧ zIV ln c.1.length s row
def zAE (c : zAu) (line : Int) : Nat := (line % (c.1.length : Int)).toNat
def zAm (c : zAu) (line : Int) : List zAT := c.1.getD (zAE c line) []
def atC (c : zAu) (line : Int) : Option Nat := if line < 0 then none else (zAm c line).findIdx? fun u => u.1 == line
def zJQ (c : zAu) (line : Int) : Option Nat := (zAm c line).findIdx? zB7
def zB2 (c : zAu) (line : Int) : Option Nat := match atC c line with
 | some i => some i
 | none => zJQ c line
def zBs (c : zAu) (line : Int) : Int := c.2.getD (zAE c line) 0
def zCq (c : zAu) (u : zAT) (i : Nat) : zAu :=
 (c.1.set (zAE c u.1) ((zAm c u.1).set i u), c.2.set (zAE c u.1) (tou (zBs c u.1) (zAm c u.1).length i))
def dropX (c : zAu) (line : Int) (i : Nat) : zAu := (c.1.set (zAE c line) ((zAm c line).set i zAF), c.2)
open Classical in
noncomputable def okB (c : zAu) : Bool := decide (OkC ln tok c)
noncomputable def zEV (c : zAu) (line : Int) : zAT × Int := if okB ln tok c then (match atC c line with
 | some i => ((zAm c line).getD i zAF, (i : Int))
 | none => (zAF, -1)) else (zAF, -1)
noncomputable def zME (c : zAu) (u : zAT) : zAu × Bool := if okB ln tok c then (if zBi ln u then (match zB2 c u.1 with
 | some i => (zCq tou c u i, true)
 | none => (c, false)) else (c, false)) else (([], []), false)
end
section
variable {ln : List Int → Bool} {tok : Int → Int → Bool} {tou : Int → Int → Int → Int} {vic : Int → Int → Int}
theorem zCK {c : zAu} : okB ln tok c = true ↔ OkC ln tok c := by simp [okB]
theorem zDM : zB7 zAF = true := by decide
theorem zCQ {u : zAT} (h : zB7 u = true) : u = zAF := by
 simp [zB7] at h
 obtain ⟨a, b, d⟩ := u;simp at h
 simp [zAF, h]
theorem zBY {u : zAT} (h : zBi ln u = true) : 0 ≤ u.1 ∧ u.1 ≤ 15 := by
 simp [zBi] at h
 exact h.1
theorem zEJ {u : zAT} (h : zBi ln u = true) : zB7 u = false := by
 have := (zBY h).1;simp [zB7]
 omega
theorem zDv {n : Nat} (h : zIU n) : 0 < n := by rcases h with h | h | h <;> omega
theorem zFk {c : zAu} {line : Int} (h : zIU c.1.length) : zAE c line < c.1.length := by
 have := zDv h;have h1 := Int.emod_nonneg line (show (c.1.length : Int) ≠ 0 by omega);have h2 := Int.emod_lt_of_pos line (show (0 : Int) < c.1.length by omega);unfold zAE;omega
theorem zDa {c : zAu} {line : Int} (h : zIU c.1.length) : ((zAE c line : Nat) : Int) = line % (c.1.length : Int) := by
 have := zDv h;have h1 := Int.emod_nonneg line (show (c.1.length : Int) ≠ 0 by omega);unfold zAE;omega
theorem zDb {c : zAu} {line : Int} (h : zIU c.1.length) : c.1[zAE c line]? = some (zAm c line) := by
 have := zFk (line := line) h;unfold zAm;rw [List.getD_eq_getElem?_getD, List.getElem?_eq_getElem this];rfl
theorem zGk {p : zAT → Bool} {row : List zAT} {i : Nat} (h : row.findIdx? p = some i) : ∃ u, row[i]? = some u ∧ p u = true := by
 rw [List.findIdx?_eq_some_iff_getElem] at h;obtain ⟨a, b, _⟩ := h;exact ⟨row[i], List.getElem?_eq_getElem a, b⟩
theorem zIa {p : zAT → Bool} {row : List zAT} (h : row.findIdx? p = none) {i : Nat} {u : zAT} (hu : row[i]? = some u) : p u = false := by
 rw [List.findIdx?_eq_none_iff] at h;exact by simpa using h u (List.mem_of_getElem? hu)
theorem zKY {p : zAT → Bool} {row : List zAT} {i : Nat} {u : zAT} (hu : row[i]? = some u) (hp : p u = true) : ∃ k, row.findIdx? p = some k := by
 cases h : row.findIdx? p with
 | none => rw [zIa h hu] at hp; cases hp
 | some k => exact ⟨k, rfl⟩
theorem zD1 {c : zAu} {line : Int} {i : Nat} (h : atC c line = some i) : 0 ≤ line ∧ ∃ u, (zAm c line)[i]? = some u ∧ u.1 = line := by
 unfold atC at h;split at h
 ·cases h
 ·obtain ⟨u, a, b⟩ := zGk h;exact ⟨by omega, u, a, by simpa using b⟩
theorem zJR {c : zAu} {line : Int} (h : atC c line = none) (h0 : 0 ≤ line) {i : Nat} {u : zAT} (hu : (zAm c line)[i]? = some u) : u.1 ≠ line := by
 unfold atC at h;rw [if_neg (by omega)] at h;simpa using zIa h hu
theorem at_of {c : zAu} {line : Int} (h0 : 0 ≤ line) {i : Nat} {u : zAT} (hu : (zAm c line)[i]? = some u) (hl : u.1 = line) : ∃ k, atC c line = some k := by
 unfold atC;rw [if_neg (by omega)];exact zKY hu (by simp [hl])
theorem zMF {n s : Nat} {row : List zAT} {i : Nat} {x : zAT} (h : zIV ln n s row) (hx : zB7 x = true ∨ (zBi ln x = true ∧ x.1 % (n : Int) = s)) (hnew : ∀ (k : Nat) (u : zAT), row[k]? = some u → 0 ≤ x.1 → u.1 = x.1 → k = i) : zIV ln n s (row.set i x) := by
 have b : ∀ (k : Nat) (u : zAT), (row.set i x)[k]? = some u → (k = i ∧ u = x) ∨ (k ≠ i ∧ row[k]? = some u) := by
  intro k u a;rw [List.getElem?_set] at a;by_cases d : i = k
  ·rw [if_pos d] at a;split at a
   ·simp at a
    exact .inl ⟨d.symm, a.symm⟩
   ·cases a
  ·rw [if_neg d] at a;exact .inr ⟨fun e => d e.symm, a⟩
 refine ⟨fun k u a => ?_, fun k j u y a c h0 he => ?_⟩
 ·rcases b k u a with ⟨_, rfl⟩ | ⟨_, a⟩
  ·exact hx
  ·exact h.1 k u a
 ·have l := b k u a;have f := b j y c;clear a c b;rcases l with ⟨rfl, rfl⟩ | ⟨d, a⟩
  ·rcases f with ⟨rfl, rfl⟩ | ⟨g, c⟩
   ·rfl
   ·exact (hnew j y c h0 he.symm).symm
  ·rcases f with ⟨rfl, rfl⟩ | ⟨g, c⟩
   ·exact hnew k u a (by omega) he
   ·exact h.2 k j u y a c h0 he
theorem ok_set {c : zAu} {line : Int} {i : Nat} {x : zAT} {t : Int} {m : Nat} (h1 : zIU c.1.length) (h2 : c.2.length = c.1.length) (hm : zIU m)
    (h3 : ∀ (s : Nat) (row : List zAT), c.1[s]? = some row → row.length = m ∧ (∃ t, c.2[s]? = some t ∧ tok t m = true) ∧ zIV ln c.1.length s row)
    (ht : tok t m = true) (hr : zIV ln c.1.length (zAE c line) ((zAm c line).set i x)) :
    OkC ln tok (c.1.set (zAE c line) ((zAm c line).set i x), c.2.set (zAE c line) t) := by
 have b := zFk (line := line) h1;refine ⟨by simpa using h1, by simpa using h2, m, hm, fun s row hs => ?_⟩;simp only [List.length_set] at hs ⊢;rw [List.getElem?_set] at hs;by_cases a : zAE c line = s
 ·subst a;rw [if_pos rfl, if_pos b] at hs;simp at hs
  subst hs;refine ⟨?_, ⟨t, ?_, ht⟩, hr⟩
  ·rw [List.length_set];exact (h3 _ _ (zDb h1)).1
  ·rw [List.getElem?_set, if_pos rfl, if_pos (by omega)]
 ·rw [if_neg a] at hs;obtain ⟨j, ⟨d, k, f⟩, g⟩ := h3 s row hs;exact ⟨j, ⟨d, by rw [List.getElem?_set, if_neg a]; exact k, f⟩, g⟩
theorem zE4 {c : zAu} {line : Int} {m : Nat} (h1 : zIU c.1.length) (h2 : c.2.length = c.1.length)
    (h3 : ∀ (s : Nat) (row : List zAT), c.1[s]? = some row → row.length = m ∧ (∃ t, c.2[s]? = some t ∧ tok t m = true) ∧ zIV ln c.1.length s row) :
    (zAm c line).length = m ∧ c.2[zAE c line]? = some (zBs c line) ∧ tok (zBs c line) m = true ∧ zIV ln c.1.length (zAE c line) (zAm c line) := by
 obtain ⟨g, ⟨t, b, d⟩, f⟩ := h3 _ _ (zDb (line := line) h1);have : zBs c line = t := by
  unfold zBs;rw [List.getD_eq_getElem?_getD, b];rfl
 rw [this];exact ⟨g, b, d, f⟩
theorem zE5 {c : zAu} {line l : Int} {row : List zAT} {ts : List Int} (h1 : zIU c.1.length) :
    zAm (c.1.set (zAE c line) row, ts) l = if zAE c l = zAE c line then row else zAm c l := by
 have b := zFk (line := line) h1;have e : zAE (c.1.set (zAE c line) row, ts) l = zAE c l := by simp [zAE]
 unfold zAm;rw [e];simp only [List.getD_eq_getElem?_getD, List.getElem?_set];by_cases a : zAE c line = zAE c l
 ·rw [if_pos a, if_pos b, if_pos a.symm];rfl
 ·rw [if_neg a, if_neg (fun e => a e.symm)]
theorem zIb {c : zAu} {u : zAT} {i : Nat} (ht : ∀ t n y : Int, tok t n = true → 0 ≤ y → y < n → tok (tou t n y) n = true) (h : OkC ln tok c) (hu : zBi ln u = true) (hp : zB2 c u.1 = some i) :
    OkC ln tok (zCq tou c u i) ∧ ∃ x, (zAm c u.1)[i]? = some x ∧ (zB7 x = true ∨ x.1 = u.1) := by
 obtain ⟨g, o, m, s, l⟩ := h;obtain ⟨z, a2, r, p⟩ := zE4 (line := u.1) g o l;have hl := zBY hu;have d : ∃ x, (zAm c u.1)[i]? = some x ∧ ((zB7 x = true ∧ atC c u.1 = none) ∨ x.1 = u.1) := by
  unfold zB2 at hp;split at hp
  ·rename_i k hk
   simp at hp
   subst hp;obtain ⟨_, x, b, f⟩ := zD1 hk;exact ⟨x, b, .inr f⟩
  ·rename_i hk
   obtain ⟨x, b, B⟩ := zGk hp;exact ⟨x, b, .inl ⟨B, hk⟩⟩
 obtain ⟨x, b, a⟩ := d;have hi : i < m := by
  have := (List.getElem?_eq_some_iff.1 b).1;omega
 refine ⟨?_, x, b, a.imp (fun h => h.1) id⟩;unfold zCq;refine ok_set g o s l (by rw [z]; exact ht _ _ _ r (by omega) (by omega)) (zMF p (.inr ⟨hu, (zDa g).symm⟩) ?_);intro k y q v f;rcases a with ⟨_, A⟩ | j
 ·exact absurd f (zJR A v q)
 ·exact p.2 k i y x q b (by omega) (f.trans j.symm)
theorem zKZ {c : zAu} {l : Int} {k : Nat} {u : zAT} (hr : ∀ (i k : Nat) (u x : zAT), (zAm c l)[i]? = some u → (zAm c l)[k]? = some x → 0 ≤ u.1 → u.1 = x.1 → i = k) (h0 : 0 ≤ l) (hu : (zAm c l)[k]? = some u) (hl : u.1 = l) : atC c l = some k := by
 obtain ⟨j, a⟩ := at_of h0 hu hl;obtain ⟨_, x, b, he⟩ := zD1 a;rw [a, hr j k x u b hu (by omega) (by omega)]
theorem zG4 {row : List zAT} {i : Nat} {u : zAT} (h : row[i]? = some u) : row.getD i zAF = u := by
 rw [List.getD_eq_getElem?_getD, h];rfl
theorem zH8 {c : zAu} {u : zAT} {i : Nat} (ht : ∀ t n y : Int, tok t n = true → 0 ≤ y → y < n → tok (tou t n y) n = true) (h : OkC ln tok c) (hu : zBi ln u = true) (hp : zB2 c u.1 = some i) :
    zEV ln tok (zCq tou c u i) u.1 = (u, (i : Int)) := by
 obtain ⟨f, x, p, _⟩ := zIb ht h hu hp;have q := h.1;have o := zBY hu;have b : zAm (zCq tou c u i) u.1 = (zAm c u.1).set i u := by
  unfold zCq;rw [zE5 q, if_pos rfl]
 have a : (zAm (zCq tou c u i) u.1)[i]? = some u := by
  rw [b, List.getElem?_set, if_pos rfl, if_pos (List.getElem?_eq_some_iff.1 p).1]
 obtain ⟨j, k, m, l, g⟩ := f;have d : atC (zCq tou c u i) u.1 = some i := zKZ (zE4 j k g).2.2.2.2 o.1 a rfl;unfold zEV;rw [if_pos (zCK.2 ⟨j, k, m, l, g⟩), d];simp only [zG4 a]
theorem zG5 {c : zAu} {l : Int} (h : atC c l = none) : zEV ln tok c l = (zAF, -1) := by
 unfold zEV;rw [h];split <;> rfl
theorem zG6 {c : zAu} {l : Int} {i : Nat} {u : zAT} (h : OkC ln tok c) (ha : atC c l = some i) (hu : (zAm c l)[i]? = some u) : zEV ln tok c l = (u, (i : Int)) := by
 unfold zEV;rw [if_pos (zCK.2 h), ha];simp only [zG4 hu]
theorem zIW {c d : zAu} {l : Int} (h : OkC ln tok c) (k : OkC ln tok d) (hh : ∀ (u : zAT), u.1 = l → ((∃ i : Nat, (zAm c l)[i]? = some u) ↔ ∃ i : Nat, (zAm d l)[i]? = some u)) : (zEV ln tok c l).1 = (zEV ln tok d l).1 := by
 cases g : atC c l with
 | none =>
  cases b : atC d l with
  | none => rw [zG5 g, zG5 b]
  | some j =>
   obtain ⟨n, x, f, a⟩ := zD1 b;obtain ⟨i, v⟩ := (hh x a).2 ⟨j, f⟩;exact absurd a (zJR g n v)
 | some i =>
  obtain ⟨n, x, f, a⟩ := zD1 g;obtain ⟨j, p⟩ := (hh x a).1 ⟨i, f⟩;obtain ⟨q, r, m, s, o⟩ := k;have b := zKZ (zE4 q r o).2.2.2.2 n p a;rw [zG6 h g f, zG6 ⟨q, r, m, s, o⟩ b p]
theorem zL9 {c : zAu} {u : zAT} {i : Nat} {l : Int} (ht : ∀ t n y : Int, tok t n = true → 0 ≤ y → y < n → tok (tou t n y) n = true) (h : OkC ln tok c) (hu : zBi ln u = true) (hp : zB2 c u.1 = some i) (hl : l ≠ u.1) (h0 : 0 ≤ l) :
    (zEV ln tok c l).1 = (zEV ln tok (zCq tou c u i) l).1 := by
 obtain ⟨m, x, p, d⟩ := zIb ht h hu hp;refine zIW h m fun y hy => ?_;have f : zAm (zCq tou c u i) l = if zAE c l = zAE c u.1 then (zAm c u.1).set i u else zAm c l := by
  unfold zCq;rw [zE5 h.1]
 rw [f];by_cases g : zAE c l = zAE c u.1
 ·rw [if_pos g];have k : zAm c l = zAm c u.1 := by unfold zAm; rw [g]
  rw [k];constructor
  ·rintro ⟨j, a⟩;refine ⟨j, ?_⟩;rw [List.getElem?_set];by_cases b : i = j
   ·subst b;rw [p] at a;simp at a
    subst a;rcases d with o | o
    ·have := zCQ o;rw [this] at hy;simp [zAF] at hy
     omega
    ·exact absurd (hy.symm.trans o) hl
   ·rw [if_neg b];exact a
  ·rintro ⟨j, a⟩;rw [List.getElem?_set] at a;by_cases b : i = j
   ·rw [if_pos b] at a;split at a
    ·simp at a
     subst a;exact absurd hy.symm hl
    ·cases a
   ·rw [if_neg b] at a;exact ⟨j, a⟩
 ·rw [if_neg g]
theorem zJS {c : zAu} {line : Int} (hv : ∀ t n : Int, tok t n = true → 0 ≤ vic t n ∧ vic t n < n) (h : OkC ln tok c) (hp : zB2 c line = none) (h0 : 0 ≤ line) :
    ∃ (j : Nat) (u : zAT), (zAm c line)[j]? = some u ∧ (zAm c line).getD (vic (zBs c line) (zAm c line).length).toNat zAF = u ∧ zBi ln u = true ∧ zAE c u.1 = zAE c line ∧ u.1 ≠ line ∧ atC c u.1 = some j := by
 obtain ⟨o, z, m, hm, v⟩ := h;obtain ⟨y, a2, s, q⟩ := zE4 (line := line) o z v;have k := hv _ _ s;rw [← y] at k;have d : (vic (zBs c line) (zAm c line).length).toNat < (zAm c line).length := by omega
 generalize (vic (zBs c line) (zAm c line).length).toNat = j at d;have b : (zAm c line)[j]? = some (zAm c line)[j] := List.getElem?_eq_getElem d;generalize (zAm c line)[j] = u at b;have p : atC c line = none ∧ zJQ c line = none := by
  unfold zB2 at hp;split at hp
  ·cases hp
  ·rename_i hk
   exact ⟨hk, hp⟩
 have i := zJR p.1 h0 b;have g : zB7 u = false := zIa p.2 b;rcases q.1 j u b with r | ⟨l, hs⟩
 ·rw [g] at r;cases r
 ·have a : zAE c u.1 = zAE c line := by
    have e1 := zDa (line := u.1) o;omega
  have f : zAm c u.1 = zAm c line := by unfold zAm; rw [a]
  refine ⟨j, u, b, zG4 b, l, a, i, ?_⟩;exact zKZ (by rw [f]; exact q.2) (zBY l).1 (by rw [f]; exact b) rfl
end
end Go.Proofs.YtmdhblhdfcocjaaGreatDoor
