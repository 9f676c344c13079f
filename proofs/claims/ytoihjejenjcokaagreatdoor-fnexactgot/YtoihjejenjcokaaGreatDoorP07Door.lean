import Derived.Test.YtoihjejenjcokaaGreatDoorP00Box
import Derived.Test.YtoihjejenjcokaaGreatDoorCards
import Derived.Test.YtoihjejenjcokaaGreatDoorTie
import Derived.Test.YtoihjejenjcokaaGreatDoorP06MapsV
import Derived.ChangeSame
import Derived.ChangeVars
import Derived.JoinedOf
import Derived.RowKit
import Derived.LaidLaws
import Derived.SevenTiedAt
import Derived.Deep.Strs
import Derived.Test.YtoihjejenjcokaaGreatDoorP03OpensBase
import Derived.Test.YtoihjejenjcokaaGreatDoorP01Lists
import Derived.RangeFuncNested
import Derived.RangeFuncBound
import Derived.RangeFuncLeaves
import Derived.Shelf.Abstract
import Derived.Test.YtoihjejenjcokaaGreatDoorP02Nums
namespace Go.Proofs.YtoihjejenjcokaaGreatDoor
open Go.ChangeShapes Go.WideShapes Go.RowKit
set_option linter.unusedVariables false
abbrev zCP : String := "loop.example/g00342/impl.holdings"
abbrev holdD {H : Type} : DataW H := .agg [.agg [.lit (.bool false), .lit (.bool false), .lit (.bool false)], .agg [.lit (.bool true), .lit (.bool false), .lit (.bool false)], .agg [.lit (.bool true), .lit (.bool true), .lit (.bool false)], .agg [.lit (.bool true), .lit (.bool true), .lit (.bool true)]]
abbrev holdL : List (String × DataW Unit) := [(zCP, Rows.laid_loop_example_g00342_impl_holdings)]
theorem zMD : Tryz.prog.globalNamed zCP = some 0 := by kernel_rfl
theorem zG1 : (Tryz.prog.globals[0]?).map (·.type) = some 173 := by kernel_rfl
theorem zH6 {H : Type} (enc : TypeId × Value → H) (W : World) (sp : Nat → Bool) : DataW.trod enc Tryz.prog W 0 sp true 4 173 zEd.toList = some (holdD, []) := by kernel_rfl
theorem zEm {H : Type} {enc : TypeId × Value → H} {P : Program} {w : World} {base : Nat} {sp : Nat → Bool} {held : Bool} {fuel : Nat} {t : TypeId} {c : Value} {y : DataW H × List MemPlace}
    (ht : P.underlying t = some .bool) (h : DataW.trod enc P w base sp held fuel t [c] = some y) : ∃ b, c = .bool b ∧ y = (.lit (.bool b), []) := by
 cases fuel with
 | zero => simp [DataW.trod] at h
 | succ fuel =>
  cases c <;> simp [DataW.trod, ht] at h
  exact ⟨_, rfl, h.symm⟩
theorem zCW {H : Type} {enc : TypeId × Value → H} {P : Program} {w : World} {base : Nat} {sp : Nat → Bool} {held : Bool} {fuel : Nat} {t u : TypeId} {f0 f1 f2 : Field} {x y z : Value} {r : DataW H × List MemPlace} {a b c : Bool}
    (ht : P.underlying t = some (.struct #[f0, f1, f2])) (hu : P.underlying u = some .bool) (h0 : f0.type = u) (h1 : f1.type = u) (h2 : f2.type = u) (o0 : f0.offset = 0) (o1 : f1.offset = 1) (o2 : f2.offset = 2) (hc : P.cellsOf u = 1)
    (h : DataW.trod enc P w base sp held fuel t [x, y, z] = some r) (hr : r.1 = .agg [.lit (.bool a), .lit (.bool b), .lit (.bool c)]) : x = .bool a ∧ y = .bool b ∧ z = .bool c := by
 obtain ⟨y0, y1, y2, n, rfl, _, g0, g1, g2⟩ := Deep.trod_struct3 ht h
 rw [h0, o0, hc] at g0
 rw [h1, o1, hc] at g1
 rw [h2, o2, hc] at g2
 obtain ⟨p0, rfl, rfl⟩ := zEm hu g0
 obtain ⟨p1, rfl, rfl⟩ := zEm hu g1
 obtain ⟨p2, rfl, rfl⟩ := zEm hu g2
 simp at hr
 obtain ⟨rfl, rfl, rfl⟩ := hr
 exact ⟨rfl, rfl, rfl⟩
theorem zHX {H : Type} {enc : TypeId × Value → H} {P : Program} {w : World} {base : Nat} {sp : Nat → Bool} {held : Bool} {fuel : Nat} {T t u : TypeId} {f0 f1 f2 : Field} {cs : List Value} {p : List MemPlace}
    (hT : P.underlying T = some (.array 4 t)) (hcT : P.cellsOf T = 12) (hct : P.cellsOf t = 3)
    (ht : P.underlying t = some (.struct #[f0, f1, f2])) (hu : P.underlying u = some .bool) (h0 : f0.type = u) (h1 : f1.type = u) (h2 : f2.type = u) (o0 : f0.offset = 0) (o1 : f1.offset = 1) (o2 : f2.offset = 2) (hc : P.cellsOf u = 1)
    (h : DataW.trod enc P w base sp held fuel T cs = some (holdD, p)) : cs = zEd.toList := by
 cases fuel with
 | zero => simp [DataW.trod] at h
 | succ fuel =>
  simp only [DataW.trod, hT, hcT, hct] at h
  split at h
  ·rename_i hl
   obtain ⟨c0, c1, c2, c3, c4, c5, c6, c7, c8, c9, c10, c11, rfl⟩ : ∃ c0 c1 c2 c3 c4 c5 c6 c7 c8 c9 c10 c11, cs = [c0, c1, c2, c3, c4, c5, c6, c7, c8, c9, c10, c11] := by
    match cs, hl with
    | [c0, c1, c2, c3, c4, c5, c6, c7, c8, c9, c10, c11], _ => exact ⟨c0, c1, c2, c3, c4, c5, c6, c7, c8, c9, c10, c11, rfl⟩
   rw [show List.range 4 = [0, 1, 2, 3] from rfl] at h
   simp only [Option.map_eq_some_iff, List.mapM_cons, List.mapM_nil, Option.bind_eq_bind, Option.bind_eq_some_iff, Option.pure_def, Option.some.injEq] at h
   obtain ⟨xs, ⟨y0, g0, _, ⟨y1, g1, _, ⟨y2, g2, _, ⟨y3, g3, _, rfl, rfl⟩, rfl⟩, rfl⟩, rfl⟩, hx⟩ := h
   simp only [List.map_cons, List.map_nil, Prod.mk.injEq, DataW.agg.injEq, List.cons.injEq, and_true] at hx
   obtain ⟨⟨e0, e1, e2, e3⟩, _⟩ := hx
   obtain ⟨rfl, rfl, rfl⟩ := zCW ht hu h0 h1 h2 o0 o1 o2 hc g0 e0
   obtain ⟨rfl, rfl, rfl⟩ := zCW ht hu h0 h1 h2 o0 o1 o2 hc g1 e1
   obtain ⟨rfl, rfl, rfl⟩ := zCW ht hu h0 h1 h2 o0 o1 o2 hc g2 e2
   obtain ⟨rfl, rfl, rfl⟩ := zCW ht hu h0 h1 h2 o0 o1 o2 hc g3 e3
   rfl
  ·cases h
theorem hold_var {W : World} (h : laidMet Tryz.prog holdL W) : W.var? Tryz.prog zCP = some zEd := by
 obtain ⟨ps, ⟨g, t, cs, fuel, p, q, hg, ht, hvar, hd, _, _⟩, _⟩ := h
 obtain rfl := Option.some.inj (zMD.symm.trans hg)
 obtain rfl := Option.some.inj (zG1.symm.trans ht)
 rw [hvar]
 have := zHX Tryz.underlying173 (by kernel_rfl) (by kernel_rfl) Tryz.underlying172 Tryz.underlying4 rfl rfl rfl rfl rfl rfl (by kernel_rfl) hd
 obtain ⟨l⟩ := cs
 rw [show l = zEd.toList from this]
theorem zJO {W : World} (h : W.var? Tryz.prog zCP = some zEd) : Hold W := by
 simp only [World.var?, zMD, Option.bind_some] at h
 split at h
 ·rename_i cs t fz e
  cases h
  exact ⟨t, fz, e⟩
 ·cases h
theorem var_below {W W' : World} (h : W.var? Tryz.prog zCP = some zEd) (hB : Below W.heap.size W W') : W'.var? Tryz.prog zCP = some zEd := by
 obtain ⟨t, fz, e⟩ := (zJO h).goes hB
 simp only [World.var?, zMD, Option.bind_some, e]
theorem vars_hold {H : Type} (enc : TypeId × Value → H) {W : World} (sp : Nat → Bool) (h : W.var? Tryz.prog zCP = some zEd) : DataW.TrodVars enc Tryz.prog W sp [zCP] [holdD] (MemPlace.row ⟨0, 0, none⟩ zEd.size ++ [] ++ []) :=
 ⟨0, 173, zEd, 4, [], [], zMD, zG1, h, zH6 enc W sp, rfl, rfl⟩
theorem vars_one {H : Type} {enc : TypeId × Value → H} {W : World} {gs : List (DataW H)} {q : List MemPlace} (hV : DataW.TrodVars enc Tryz.prog W (fun _ => true) [zCP] gs q) (h : W.var? Tryz.prog zCP = some zEd) : gs = [holdD] := by
 obtain ⟨g, t, cs, fuel, d, p', rfl, hg, ht, hvar, hd, rfl⟩ := trodVars_one hV
 obtain rfl := Option.some.inj (zMD.symm.trans hg)
 obtain rfl := Option.some.inj (zG1.symm.trans ht)
 obtain rfl : cs = zEd := Option.some.inj (hvar.symm.trans h)
 obtain ⟨rfl, rfl⟩ := DataW.Trod.unique (v := .agg zEd) ⟨fuel, hd⟩ ⟨4, zH6 enc W _⟩
 rfl
noncomputable def zIS (os : Os) : World :=
 { World.holding Tryz.prog os ⟨#[], #[], []⟩ with heap := (World.holding Tryz.prog os ⟨#[], #[], []⟩).heap.modify 0 fun
     | .cells _ t frozen => .cells zEd t frozen
     | o => o }
theorem zKX (os : Os) (args : Array Value) : ((zIS os).forCall (fun _ _ => 0) ⟨#[], args, []⟩).memory.heap[0]? = some (.cells zEd 173 (0, 0)) := by kernel_rfl
set_option maxRecDepth 100000 in
theorem laid_met (os : Os) (args : Array Value) : laidMet Tryz.prog holdL ((zIS os).forCall (fun _ _ => 0) ⟨#[], args, []⟩).memory := by
 refine ⟨_, ⟨0, 173, zEd, 8, [], [], by kernel_rfl, by kernel_rfl, by kernel_rfl, by kernel_rfl, rfl, rfl⟩, by decide, fun b off h => ?_⟩
 have h' : MemPlace.cell b off ∈ [MemPlace.cell 0 0, .cell 0 1, .cell 0 2, .cell 0 3, .cell 0 4, .cell 0 5, .cell 0 6, .cell 0 7, .cell 0 8, .cell 0 9, .cell 0 10, .cell 0 11] := h
 have hb : b = 0 := by
  simp at h'
  omega
 subst hb
 refine ⟨⟨_, _, zKX os args⟩, fun u v hc => ?_⟩
 simp only [World.cell?, zKX os args] at hc
 simp at h'
 rcases h' with rfl | rfl | rfl | rfl | rfl | rfl | rfl | rfl | rfl | rfl | rfl | rfl <;> simp [zEd] at hc
open Go.ChangeShapes Go.WideShapes Go.ChangeAt Go.RowKit
abbrev zAS : Rep (Int × Int × List Int) := zBP zBC (zBP zBC zA5)
abbrev zBE : Mk (Int × Int × List Int) := zDH zBx (zDH zBx zBn)
abbrev zBl : Rep (List (Int × Int × List Int)) := slR 39 zAS
abbrev zBr : Mk (List (Int × Int × List Int)) := slM zBE
abbrev zBu : Rep (List (List (Int × Int × List Int))) := slR 115 zBl
abbrev zEU : Mk (List (List (Int × Int × List Int))) := slM zBr
abbrev zAB : Rep (List (List (Int × Int × List Int)) × List Int) := zBP zBu zA5
abbrev zBb : Mk (List (List (Int × Int × List Int)) × List Int) := zDH zEU zBn
theorem zIT : zEb Tryz.prog 28 zAS :=
 zCS Tryz.underlying28 (by kernel_rfl) (zBq rfl (by kernel_rfl) zBL (zBq rfl (by kernel_rfl) zBL (zD5 rfl (by kernel_rfl) zE2)))
theorem zL7 : zEb Tryz.prog 114 zBl := zDG Tryz.underlying114 (by kernel_rfl) (by decide) zIT
theorem zL8 : zEb Tryz.prog 22 zBu := zDG Tryz.underlying22 (by kernel_rfl) (by decide) zL7
theorem zJP : zEb Tryz.prog 25 zAB :=
 zCS Tryz.underlying25 (by kernel_rfl) (zBq rfl (by kernel_rfl) zL8 (zD5 rfl (by kernel_rfl) zE2))
theorem zAL {w : World} {cs : List Value} {u : Int × Int × List Int} (h : zAS.rd w cs u) :
    ∃ a cap, cs = [.int .i64 u.1, .int .i64 u.2.1, .slice a u.2.2.length cap] ∧ zBk u.1 ∧ zBk u.2.1 ∧ u.2.2.length ≤ cap ∧ cap ≤ maxLen ∧ zBh zBC w a u.2.2 := by
 obtain ⟨c1, c2, rfl, ⟨rfl, i1⟩, c3, c4, rfl, ⟨rfl, i2⟩, a, cap, rfl, h1, h2, h3⟩ := h
 exact ⟨a, cap, rfl, i1, i2, h1, h2, h3⟩
theorem rd_way {w : World} {l s : Int} {d : List Int} {a : Option Addr} {cap : Nat} (i1 : zBk l) (i2 : zBk s) (h1 : d.length ≤ cap) (h2 : cap ≤ maxLen) (h3 : zBh zBC w a d) :
    zAS.rd w [.int .i64 l, .int .i64 s, .slice a d.length cap] (l, s, d) := ⟨[_], [_, _], rfl, ⟨rfl, i1⟩, [_], [_], rfl, ⟨rfl, i2⟩, a, cap, rfl, h1, h2, h3⟩
theorem zAH {w : World} {cs : List Value} {c : List (List (Int × Int × List Int)) × List Int} (h : zAB.rd w cs c) :
    ∃ a cap b cp, cs = [.slice a c.1.length cap, .slice b c.2.length cp] ∧ c.1.length ≤ cap ∧ cap ≤ maxLen ∧ c.2.length ≤ cp ∧ cp ≤ maxLen ∧ zBh zBl w a c.1 ∧ zBh zBC w b c.2 := by
 obtain ⟨c1, c2, rfl, ⟨a, cap, rfl, h1, h2, h3⟩, b, cp, rfl, k1, k2, k3⟩ := h
 exact ⟨a, cap, b, cp, rfl, h1, h2, k1, k2, h3, k3⟩
theorem zHY {w : World} {S : zAX} {cs : List Value} {u : Int × Int × List Int} (h : zAS.own w S cs u) :
    ∃ v, cs = [.int .i64 u.1, .int .i64 u.2.1, v] ∧ zBk u.1 ∧ zBk u.2.1 ∧ zA5.own w S [v] u.2.2 := by
 obtain ⟨c1, c2, S1, S2, rfl, ⟨rfl, i1⟩, ⟨c3, c4, S3, S4, rfl, ⟨rfl, i2⟩, h3, a3, a4, d2⟩, a1, a2, d⟩ := h
 have hl := zA5.rd_len (zA5.own_rd h3)
 obtain ⟨v, rfl⟩ : ∃ v, c4 = [v] := List.length_eq_one_iff.1 hl
 exact ⟨v, rfl, i1, i2, zA5.own_mono h3 (a4.trans a2)⟩
theorem zCF {w : World} {S : zAX} {l s : Int} {d : List Int} {v : Value} (i1 : zBk l) (i2 : zBk s) (h : zA5.own w S [v] d) : zAS.own w S [.int .i64 l, .int .i64 s, v] (l, s, d) :=
 ⟨[_], [_, _], fun _ => False, S, rfl, ⟨rfl, i1⟩, ⟨[_], [_], fun _ => False, S, rfl, ⟨rfl, i2⟩, h, fun _ h => h.elim, Sub.refl _, fun _ h _ => h⟩, fun _ h => h.elim, Sub.refl _, fun _ h _ => h⟩
set_option maxHeartbeats 400000 in
theorem zG2 (l s : Int) (d : List Int) (a : Option Addr) (cap : Nat) (left : Int) (w : World) (h0 : 0 ≤ left) (h1 : left ≤ 1048576) (hm : d.length ≤ maxLen) :
    Calls Tryz.prog 20 #[.agg #[.int .i64 l, .int .i64 s, .slice a d.length cap], .int .i64 left] w fun e w' => e = .returned (.int .i64 (szI (zBE.bk (l, s, d)) left)) ∧ Below w.heap.size w w' := by
 have hb : zBE.bk (l, s, d) = zBn.bk d := by show 0 + (0 + zBn.bk d) = _; omega
 rw [hb]
 by_cases hl : (zBn.bk d : Int) ≤ left
 ·have HS : Hid (szI (zBn.bk d) left = _) := zC2 hl
  have hl' : ¬ (left - (zBn.bk d : Int) < 0) := by omega
  go_enter Tryz.func20, Tryz.ntmps20
  go_wp2_with (go_at_call 21; refine (zCC _ d _ _ _ h0 h1 hm).mono ?_; rintro e w' ⟨rfl, rfl⟩; rw [HS.out])
  go_ret
  exact ⟨zAW HS.out.symm, zAf w _⟩
 ·have HS : Hid (szI (zBn.bk d) left = _) := zCz hl
  go_enter Tryz.func20, Tryz.ntmps20
  go_wp2_with (go_at_call 21; refine (zCC _ d _ _ _ h0 h1 hm).mono ?_; rintro e w' ⟨rfl, rfl⟩; rw [HS.out])
  go_ret
  exact ⟨zAW HS.out.symm, zAf w _⟩
open Go.ChangeShapes Go.WideShapes Go.ChangeAt Go.RowKit Go.Shelf
section
variable {P : Program}
def Kept (B : Nat) (W W' : World) : Prop := W.heap.size ≤ W'.heap.size ∧ ∀ k, B ≤ k → k < W.heap.size → W'.heap[k]? = W.heap[k]?
theorem Kept.refl (B : Nat) (W : World) : Kept B W W := ⟨Nat.le_refl _, fun _ _ _ => rfl⟩
theorem Kept.trans {B : Nat} {U V W : World} (h : Kept B U V) (k : Kept B V W) : Kept B U W := ⟨Nat.le_trans h.1 k.1, fun i hi hl => (k.2 i hi (Nat.lt_of_lt_of_le hl h.1)).trans (h.2 i hi hl)⟩
theorem Kept.mono {B B' : Nat} {W W' : World} (h : Kept B W W') (hb : B ≤ B') : Kept B' W W' := ⟨h.1, fun i hi hl => h.2 i (Nat.le_trans hb hi) hl⟩
theorem Kept.below {B : Nat} {W W' : World} (h : Below W.heap.size W W') : Kept B W W' := ⟨h.size, fun i _ hl => h.block i hl⟩
theorem Kept.chg {B : Nat} {S : zAX} {W W' : World} (h : Chg S W W') (hS : ∀ k, S k → k < B) : Kept B W W' := ⟨h.size, fun i hi hl => h.block i hl fun x => by have := hS i x; omega⟩
theorem Kept.alloc (B : Nat) (W : World) (o : Obj) : Kept B W (W.alloc o) := ⟨by simp, fun i _ hl => Below.heap_alloc W o i hl⟩
theorem Kept.put {B l : Nat} (W : World) (o : Obj) (h : l < B) : Kept B W (W.putObj l o) := ⟨by simp, fun i hi _ => World.putObj_heap_other (by omega)⟩
theorem zG3 {β : Type} {B B' : Nat} {I : β → World → Prop} (h : OwnFrom B I) (hb : B ≤ B') : OwnFrom B' I := fun s W W' row hs hg hr => h s W W' row hs hg (fun r e => ⟨Nat.le_trans hb (hr r e).1, (hr r e).2⟩)
theorem zBo {β : Type} (B k : Nat) (cs : Array Value) (t : TypeId) : OwnFrom B (fun (_ : β) W => W.heap[k]? = some (.cells cs t (0, 0))) := fun s X Y row hs hg hr => by
 refine (hg.block k (Array.getElem?_eq_some_iff.1 hs).1 fun e => ?_).trans hs
 obtain ⟨o, ho, hc⟩ := (hr k e.symm).2
 rw [hs] at ho
 cases ho
 cases hc
def Iter (P : Program) (g : Nat) (lb : Array Value) (args : Nat → Array Value) (N : Nat) (R : World → Prop) : Prop :=
 ∀ (l : Nat) (J Jx : Nat → World → Prop) (W : World), OwnFrom W.heap.size J → OwnFrom W.heap.size Jx → (∀ k W1, J k W1 → R W1) →
  (∀ k W1, k < N → J k W1 → YieldAt Fence.wide 0 P l (args k) W1 fun e W' => Kept W.heap.size W1 W' ∧ ((e = .returned (.bool true) ∧ J (k + 1) W') ∨ (e = .returned (.bool false) ∧ Jx k W'))) →
  J 0 W → CallsIn Fence.wide 0 P g (#[.func (.yield l) #[] #[]] ++ lb) W fun e W' => (∃ v, e = .returned v) ∧ (J N W' ∨ ∃ k, k < N ∧ Jx k W')
def roundsOn (B : Nat) (I : Nat → World → Prop) (Ix : Code → Nat → World → Prop) (k : Nat) (W : World) : Exit → Act → World → Prop
 | .normal, _, W' => Kept B W W' ∧ I (k + 1) W'
 | .ret, _, W' => Kept B W W' ∧ Ix .ret k W'
 | .exit id, _, W' => Kept B W W' ∧ Ix (.exit id) k W'
 | .goto t, _, W' => Kept B W W' ∧ Ix (.goto t) k W'
 | .panic _, _, _ => False
 | .outgrown, _, _ => False
theorem zE3 {g : Operand} {ps : Array Tmp} {assign body : Code} {Q : Exit → Act → World → Prop} {a : Act} {w : World} {gf : Nat} {lb : Array Value}
    (hg : a.eval g = .func (.func gf) #[] lb) (eg : Enters P gf)
    {args : Nat → Array Value} {N : Nat} {R : World → Prop} (it : Iter P gf lb args N R) (hps : ∀ k, (args k).size = ps.size)
    (I : Nat → World → Prop) (Ix : Code → Nat → World → Prop) (hI : OwnFrom w.heap.size I) (hIx : ∀ c, OwnFrom w.heap.size (Ix c)) (hR : ∀ k W, I k W → R W) (h0 : I 0 w) (A : Nat → Act → World → Prop) (hA : ∀ k a', OwnFrom w.heap.size (fun (_ : Unit) W => A k a' W))
    (hassign : ∀ (k : Nat) (W : World) (K : Act → World → Prop), k < N → I k W → w.heap.size + 1 < W.heap.size → (∀ a' W', Kept w.heap.size W W' → A k a' W' → K a' W') → assign.wpIn (Fence.wide.inRound (w.heap.size + 1)) 0 P (Exit.then K (fun _ _ _ => False)) { tmps := (ps.zip (args k)).foldl (fun t (p, v) => t.setIfInBounds p v) a.tmps, defers := [] } W)
    (hbody : ∀ (k : Nat) (a' : Act) (W : World), k < N → A k a' W → w.heap.size + 1 < W.heap.size → W.heap[w.heap.size]? = some (.deferred (some [])) → (∃ r, W.heap[w.heap.size + 1]? = some (.loop r)) → body.wpIn (Fence.wide.inRound (w.heap.size + 1)) 0 P (roundsOn w.heap.size I Ix k W) a' W)
    (hdone : ∀ W, I N W → W.heap[w.heap.size]? = some (.deferred (some [])) → Q .normal { a with defers := { target := .collected w.heap.size, args := #[] } :: a.defers } W)
    (hstop : ∀ c k W, k < N → Ix c k W → W.heap[w.heap.size]? = some (.deferred (some [])) → c.wpIn Fence.wide 0 P Q { a with defers := { target := .collected w.heap.size, args := #[] } :: a.defers } W) :
    (Code.rangeFunc g ps assign body).wpIn Fence.wide 0 P Q a w := by
 refine wpIn_rangeFunc fun fn hfn => ?_
 let lp : LoopState → Option Code → Obj := fun st pe => .loop { state := st, pending := pe, fn, tmps := a.tmps, params := ps, assign, body, defers := w.heap.size }
 have keep : ∀ {A B : World} {row : Option Nat} {st : LoopState} {pe : Option Code}, A.grownBy B row → (∀ r, row = some r → w.heap.size + 2 ≤ r ∧ ∃ o : Obj, A.heap[r]? = some o ∧ o.isCells = false) → A.heap[w.heap.size + 1]? = some (lp st pe) → A.heap[w.heap.size]? = some (.deferred (some [])) →
     B.heap[w.heap.size + 1]? = some (lp st pe) ∧ B.heap[w.heap.size]? = some (.deferred (some [])) := by
  intro A B row st pe hgr hr h1 h2
  have l1 := (Array.getElem?_eq_some_iff.1 h1).1
  refine ⟨(hgr.block _ l1 fun e => ?_).trans h1, (hgr.block _ (by omega) fun e => ?_).trans h2⟩
  ·have := (hr _ e.symm).1
   omega
  ·have := (hr _ e.symm).1
   omega
 have more : ∀ {A B : World} {row : Option Nat}, (∀ r, row = some r → w.heap.size + 2 ≤ r ∧ ∃ o : Obj, A.heap[r]? = some o ∧ o.isCells = false) → ∀ r, row = some r → w.heap.size ≤ r ∧ ∃ o : Obj, A.heap[r]? = some o ∧ o.isCells = false :=
  fun hr r e => ⟨by have := (hr r e).1; omega, (hr r e).2⟩
 have sz : ((w.alloc (.deferred (some []))).alloc (lp .ready none)).heap.size = w.heap.size + 2 := by simp
 refine ⟨w.heap.size + 1, [{ target := .collected w.heap.size, args := #[] }], (w.alloc (.deferred (some []))).alloc (lp .ready none), { target := .fn (.func gf) lb, args := #[.func (.yield (w.heap.size + 1)) #[] #[]] }, (w.alloc (.deferred (some []))).alloc (lp .ready none), gf,
  #[.func (.yield (w.heap.size + 1)) #[] #[]] ++ lb, (w.alloc (.deferred (some []))).alloc (lp .ready none), run_enterLoop_outer _ _ _ _ _, ?_, fun _ _ => trivial, ?_, (fun h => by cases h), ?_⟩
 ·simp only [resolve, hg]
  simp [go_sem]
 ·have eg' : ∀ args w, (callFunc gf args).run P w = .ok (.enter gf args) w := eg
  simp [invoke, go_sem, eg']
 refine (it (w.heap.size + 1) (fun k W => I k W ∧ W.heap[w.heap.size + 1]? = some (lp .ready none) ∧ W.heap[w.heap.size]? = some (.deferred (some [])))
  (fun k W => ∃ c, Ix c k W ∧ W.heap[w.heap.size + 1]? = some (lp .done (some c)) ∧ W.heap[w.heap.size]? = some (.deferred (some []))) _ ?_ ?_ (fun k W h => hR k W h.1) ?_ ⟨?_, ?_, ?_⟩).mono ?_
 ·rintro k A B row ⟨h1, h2, h3⟩ hgr hr
  rw [sz] at hr
  exact ⟨hI k A B row h1 hgr (more (B := B) hr), keep hgr hr h2 h3⟩
 ·rintro k A B row ⟨c, h1, h2, h3⟩ hgr hr
  rw [sz] at hr
  exact ⟨c, hIx c k A B row h1 hgr (more (B := B) hr), keep hgr hr h2 h3⟩
 ·rintro k W hk ⟨hi, hl, hd⟩
  have hlt := (Array.getElem?_eq_some_iff.1 hl).1
  refine ⟨fn, _, assign, body, run_yield hl (hps k), roundIn_of_wpIn hfn (hassign k W _ hk hi hlt ?_)⟩
  clear hi
  intro a' Wa hka hax
  replace hl := (hka.2 _ (by omega) hlt).trans hl
  replace hd := (hka.2 _ (Nat.le_refl _) (by omega)).trans hd
  clear hlt
  replace hka : Kept ((w.alloc (.deferred (some []))).alloc (lp .ready none)).heap.size W Wa := hka.mono (by rw [sz]; omega)
  have hks : ∀ V o, Kept ((w.alloc (.deferred (some []))).alloc (lp .ready none)).heap.size V (V.putObj (w.heap.size + 1) o) := fun V o => Kept.put V o (by rw [sz]; omega)
  revert hka
  generalize W = Wb
  intro hka
  obtain ⟨W, rfl⟩ : ∃ W, W = Wa := ⟨_, rfl⟩
  have hlt := (Array.getElem?_eq_some_iff.1 hl).1
  refine ⟨_, run_beginRound hl rfl, ?_⟩
  have hl2 : (W.putObj (w.heap.size + 1) (lp .busy none)).heap[w.heap.size + 1]? = some (lp .busy none) := World.putObj_heap_same hlt
  have hd2 : (W.putObj (w.heap.size + 1) (lp .busy none)).heap[w.heap.size]? = some (.deferred (some [])) := (World.putObj_heap_other (by omega)).trans hd
  refine wpIn_mono (hbody k a' _ hk ((hA k a').putObj (s := ()) _ hax (by omega) hl rfl) (by simpa using hlt) hd2 ⟨_, hl2⟩) ?_
  have fin : ∀ (jump : Option Code) (W3 : World), Kept w.heap.size (W.putObj (w.heap.size + 1) (lp .busy none)) W3 →
      Kept ((w.alloc (.deferred (some []))).alloc (lp .ready none)).heap.size Wb (W3.putObj (w.heap.size + 1) (lp (if jump.isNone then .ready else .done) jump)) ∧
      (Instr.endRound (w.heap.size + 1) jump).run P W3 = .ok (.bool jump.isNone) (W3.putObj (w.heap.size + 1) (lp (if jump.isNone then .ready else .done) jump)) ∧ W3.heap[w.heap.size + 1]? = some (lp .busy none) ∧
      (W3.putObj (w.heap.size + 1) (lp (if jump.isNone then .ready else .done) jump)).heap[w.heap.size + 1]? = some (lp (if jump.isNone then .ready else .done) jump) ∧
      (W3.putObj (w.heap.size + 1) (lp (if jump.isNone then .ready else .done) jump)).heap[w.heap.size]? = some (.deferred (some [])) := by
   intro jump W3 e0
   have e2 := (e0.2 _ (by omega) (by simpa using hlt)).trans hl2
   have e1 := (e0.2 _ (Nat.le_refl _) (by simp; omega)).trans hd2
   exact ⟨((hka.trans (hks _ _)).trans (e0.mono (by rw [sz]; omega))).trans (hks _ _), run_endRound jump e2, e2, World.putObj_heap_same (Array.getElem?_eq_some_iff.1 e2).1, (World.putObj_heap_other (by omega)).trans e1⟩
  intro e a3 W3 hp
  cases e with
  | normal =>
   obtain ⟨e0, hi3⟩ := hp
   obtain ⟨hkk, hr, hl3, hl4, hk4⟩ := fin none W3 e0
   exact ⟨_, _, hr, hkk, .inl ⟨rfl, hI.putObj _ hi3 (by omega) hl3 rfl, hl4, hk4⟩⟩
  | ret =>
   obtain ⟨e0, hi3⟩ := hp
   obtain ⟨hkk, hr, hl3, hl4, hk4⟩ := fin (some .ret) W3 e0
   exact ⟨_, _, hr, hkk, .inr ⟨rfl, .ret, (hIx _).putObj _ hi3 (by omega) hl3 rfl, hl4, hk4⟩⟩
  | exit id =>
   obtain ⟨e0, hi3⟩ := hp
   obtain ⟨hkk, hr, hl3, hl4, hk4⟩ := fin (some (.exit id)) W3 e0
   exact ⟨_, _, hr, hkk, .inr ⟨rfl, .exit id, (hIx _).putObj _ hi3 (by omega) hl3 rfl, hl4, hk4⟩⟩
  | goto t =>
   obtain ⟨e0, hi3⟩ := hp
   obtain ⟨hkk, hr, hl3, hl4, hk4⟩ := fin (some (.goto t)) W3 e0
   exact ⟨_, _, hr, hkk, .inr ⟨rfl, .goto t, (hIx _).putObj _ hi3 (by omega) hl3 rfl, hl4, hk4⟩⟩
  | panic ch => exact hp.elim
  | outgrown => exact hp.elim
 ·exact hI.alloc _ (hI.alloc _ h0)
 ·have := World.alloc_heap_new (w.alloc (.deferred (some []))) (lp .ready none)
  rwa [World.size_alloc] at this
 ·exact (Below.heap_alloc _ _ _ (by simp)).trans (World.alloc_heap_new w _)
 ·rintro e W ⟨⟨v, rfl⟩, ⟨hi, hl, hd⟩ | ⟨k, hk, c, hi, hl, hd⟩⟩
  ·exact ⟨none, _, run_endLoop hl (by simp), hdone _ (hI.putObj _ hi (by omega) hl rfl) ((World.putObj_heap_other (by omega)).trans hd)⟩
  ·exact ⟨some c, _, run_endLoop hl (by simp), hstop c k _ hk ((hIx c).putObj _ hi (by omega) hl rfl) ((World.putObj_heap_other (by omega)).trans hd)⟩
end
open Go.RowKit
abbrev zAU := Int × Int × List Int
abbrev zAu := List (List zAU) × List Int
def zAA : zAU := (-1, 0, [])
def zB7 (u : zAU) : Bool := decide (u.1 = -1 ∧ u.2.1 = 0 ∧ u.2.2 = [])
def zIU (n : Nat) : Prop := n = 1 ∨ n = 2 ∨ n = 4
section
variable (ln : List Int → Bool) (tok : Int → Int → Bool) (tou : Int → Int → Int → Int) (vic : Int → Int → Int)
def zBi (u : zAU) : Bool := decide ((0 ≤ u.1 ∧ u.1 ≤ 15) ∧ (1 ≤ u.2.1 ∧ u.2.1 ≤ 3) ∧ ln u.2.2 = true)
def zIV (n s : Nat) (row : List zAU) : Prop :=
 (∀ (i : Nat) (u : zAU), row[i]? = some u → zB7 u = true ∨ (zBi ln u = true ∧ u.1 % (n : Int) = s)) ∧
 ∀ (i k : Nat) (u x : zAU), row[i]? = some u → row[k]? = some x → 0 ≤ u.1 → u.1 = x.1 → i = k
def OkC (c : zAu) : Prop :=
 zIU c.1.length ∧ c.2.length = c.1.length ∧ ∃ m, zIU m ∧ ∀ (s : Nat) (row : List zAU), c.1[s]? = some row → row.length = m ∧ (∃ t, c.2[s]? = some t ∧ tok t m = true) ∧ zIV ln c.1.length s row
def zAF (c : zAu) (line : Int) : Nat := (line % (c.1.length : Int)).toNat
def zAm (c : zAu) (line : Int) : List zAU := c.1.getD (zAF c line) []
def atC (c : zAu) (line : Int) : Option Nat := if line < 0 then none else (zAm c line).findIdx? fun u => u.1 == line
def zJQ (c : zAu) (line : Int) : Option Nat := (zAm c line).findIdx? zB7
def zB2 (c : zAu) (line : Int) : Option Nat := match atC c line with
 | some i => some i
 | none => zJQ c line
def zBs (c : zAu) (line : Int) : Int := c.2.getD (zAF c line) 0
def zCq (c : zAu) (u : zAU) (i : Nat) : zAu :=
 (c.1.set (zAF c u.1) ((zAm c u.1).set i u), c.2.set (zAF c u.1) (tou (zBs c u.1) (zAm c u.1).length i))
def dropX (c : zAu) (line : Int) (i : Nat) : zAu := (c.1.set (zAF c line) ((zAm c line).set i zAA), c.2)
open Classical in
noncomputable def okB (c : zAu) : Bool := decide (OkC ln tok c)
noncomputable def zEV (c : zAu) (line : Int) : zAU × Int := if okB ln tok c then (match atC c line with
 | some i => ((zAm c line).getD i zAA, (i : Int))
 | none => (zAA, -1)) else (zAA, -1)
noncomputable def zME (c : zAu) (u : zAU) : zAu × Bool := if okB ln tok c then (if zBi ln u then (match zB2 c u.1 with
 | some i => (zCq tou c u i, true)
 | none => (c, false)) else (c, false)) else (([], []), false)
end
section
variable {ln : List Int → Bool} {tok : Int → Int → Bool} {tou : Int → Int → Int → Int} {vic : Int → Int → Int}
theorem zCK {c : zAu} : okB ln tok c = true ↔ OkC ln tok c := by simp [okB]
theorem zDM : zB7 zAA = true := by decide
theorem zCQ {u : zAU} (h : zB7 u = true) : u = zAA := by
 simp [zB7] at h
 obtain ⟨a, b, d⟩ := u
 simp at h
 simp [zAA, h]
theorem zBY {u : zAU} (h : zBi ln u = true) : 0 ≤ u.1 ∧ u.1 ≤ 15 := by
 simp [zBi] at h
 exact h.1
theorem zEJ {u : zAU} (h : zBi ln u = true) : zB7 u = false := by
 have := (zBY h).1
 simp [zB7]
 omega
theorem zDv {n : Nat} (h : zIU n) : 0 < n := by rcases h with h | h | h <;> omega
theorem zFk {c : zAu} {line : Int} (h : zIU c.1.length) : zAF c line < c.1.length := by
 have := zDv h
 have h1 := Int.emod_nonneg line (show (c.1.length : Int) ≠ 0 by omega)
 have h2 := Int.emod_lt_of_pos line (show (0 : Int) < c.1.length by omega)
 unfold zAF
 omega
theorem zDa {c : zAu} {line : Int} (h : zIU c.1.length) : ((zAF c line : Nat) : Int) = line % (c.1.length : Int) := by
 have := zDv h
 have h1 := Int.emod_nonneg line (show (c.1.length : Int) ≠ 0 by omega)
 unfold zAF
 omega
theorem zDb {c : zAu} {line : Int} (h : zIU c.1.length) : c.1[zAF c line]? = some (zAm c line) := by
 have := zFk (line := line) h
 unfold zAm
 rw [List.getD_eq_getElem?_getD, List.getElem?_eq_getElem this]
 rfl
theorem zGk {p : zAU → Bool} {row : List zAU} {i : Nat} (h : row.findIdx? p = some i) : ∃ u, row[i]? = some u ∧ p u = true := by
 rw [List.findIdx?_eq_some_iff_getElem] at h
 obtain ⟨hi, hp, _⟩ := h
 exact ⟨row[i], List.getElem?_eq_getElem hi, hp⟩
theorem zHZ {p : zAU → Bool} {row : List zAU} (h : row.findIdx? p = none) {i : Nat} {u : zAU} (hu : row[i]? = some u) : p u = false := by
 rw [List.findIdx?_eq_none_iff] at h
 exact by simpa using h u (List.mem_of_getElem? hu)
theorem zKY {p : zAU → Bool} {row : List zAU} {i : Nat} {u : zAU} (hu : row[i]? = some u) (hp : p u = true) : ∃ k, row.findIdx? p = some k := by
 cases h : row.findIdx? p with
 | none => rw [zHZ h hu] at hp; cases hp
 | some k => exact ⟨k, rfl⟩
theorem zD1 {c : zAu} {line : Int} {i : Nat} (h : atC c line = some i) : 0 ≤ line ∧ ∃ u, (zAm c line)[i]? = some u ∧ u.1 = line := by
 unfold atC at h
 split at h
 ·cases h
 ·obtain ⟨u, hu, hp⟩ := zGk h
  exact ⟨by omega, u, hu, by simpa using hp⟩
theorem zJR {c : zAu} {line : Int} (h : atC c line = none) (h0 : 0 ≤ line) {i : Nat} {u : zAU} (hu : (zAm c line)[i]? = some u) : u.1 ≠ line := by
 unfold atC at h
 rw [if_neg (by omega)] at h
 simpa using zHZ h hu
theorem at_of {c : zAu} {line : Int} (h0 : 0 ≤ line) {i : Nat} {u : zAU} (hu : (zAm c line)[i]? = some u) (hl : u.1 = line) : ∃ k, atC c line = some k := by
 unfold atC
 rw [if_neg (by omega)]
 exact zKY hu (by simp [hl])
theorem zMF {n s : Nat} {row : List zAU} {i : Nat} {x : zAU} (h : zIV ln n s row) (hx : zB7 x = true ∨ (zBi ln x = true ∧ x.1 % (n : Int) = s)) (hnew : ∀ (k : Nat) (u : zAU), row[k]? = some u → 0 ≤ x.1 → u.1 = x.1 → k = i) : zIV ln n s (row.set i x) := by
 have key : ∀ (k : Nat) (u : zAU), (row.set i x)[k]? = some u → (k = i ∧ u = x) ∨ (k ≠ i ∧ row[k]? = some u) := by
  intro k u hu
  rw [List.getElem?_set] at hu
  by_cases hk : i = k
  ·rw [if_pos hk] at hu
   split at hu
   ·simp at hu
    exact .inl ⟨hk.symm, hu.symm⟩
   ·cases hu
  ·rw [if_neg hk] at hu
   exact .inr ⟨fun e => hk e.symm, hu⟩
 refine ⟨fun k u hu => ?_, fun k j u y hu hy h0 he => ?_⟩
 ·rcases key k u hu with ⟨_, rfl⟩ | ⟨_, hu⟩
  ·exact hx
  ·exact h.1 k u hu
 ·have ku := key k u hu
  have ky := key j y hy
  clear hu hy key
  rcases ku with ⟨rfl, rfl⟩ | ⟨hk, hu⟩
  ·rcases ky with ⟨rfl, rfl⟩ | ⟨hj, hy⟩
   ·rfl
   ·exact (hnew j y hy h0 he.symm).symm
  ·rcases ky with ⟨rfl, rfl⟩ | ⟨hj, hy⟩
   ·exact hnew k u hu (by omega) he
   ·exact h.2 k j u y hu hy h0 he
theorem ok_set {c : zAu} {line : Int} {i : Nat} {x : zAU} {t : Int} {m : Nat} (h1 : zIU c.1.length) (h2 : c.2.length = c.1.length) (hm : zIU m)
    (h3 : ∀ (s : Nat) (row : List zAU), c.1[s]? = some row → row.length = m ∧ (∃ t, c.2[s]? = some t ∧ tok t m = true) ∧ zIV ln c.1.length s row)
    (ht : tok t m = true) (hr : zIV ln c.1.length (zAF c line) ((zAm c line).set i x)) :
    OkC ln tok (c.1.set (zAF c line) ((zAm c line).set i x), c.2.set (zAF c line) t) := by
 have hlt := zFk (line := line) h1
 refine ⟨by simpa using h1, by simpa using h2, m, hm, fun s row hs => ?_⟩
 simp only [List.length_set] at hs ⊢
 rw [List.getElem?_set] at hs
 by_cases he : zAF c line = s
 ·subst he
  rw [if_pos rfl, if_pos hlt] at hs
  simp at hs
  subst hs
  refine ⟨?_, ⟨t, ?_, ht⟩, hr⟩
  ·rw [List.length_set]
   exact (h3 _ _ (zDb h1)).1
  ·rw [List.getElem?_set, if_pos rfl, if_pos (by omega)]
 ·rw [if_neg he] at hs
  obtain ⟨a1, ⟨t', a2, a3⟩, a4⟩ := h3 s row hs
  exact ⟨a1, ⟨t', by rw [List.getElem?_set, if_neg he]; exact a2, a3⟩, a4⟩
theorem zE4 {c : zAu} {line : Int} {m : Nat} (h1 : zIU c.1.length) (h2 : c.2.length = c.1.length)
    (h3 : ∀ (s : Nat) (row : List zAU), c.1[s]? = some row → row.length = m ∧ (∃ t, c.2[s]? = some t ∧ tok t m = true) ∧ zIV ln c.1.length s row) :
    (zAm c line).length = m ∧ c.2[zAF c line]? = some (zBs c line) ∧ tok (zBs c line) m = true ∧ zIV ln c.1.length (zAF c line) (zAm c line) := by
 obtain ⟨a1, ⟨t, a2, a3⟩, a4⟩ := h3 _ _ (zDb (line := line) h1)
 have : zBs c line = t := by
  unfold zBs
  rw [List.getD_eq_getElem?_getD, a2]
  rfl
 rw [this]
 exact ⟨a1, a2, a3, a4⟩
theorem zE5 {c : zAu} {line l : Int} {row : List zAU} {ts : List Int} (h1 : zIU c.1.length) :
    zAm (c.1.set (zAF c line) row, ts) l = if zAF c l = zAF c line then row else zAm c l := by
 have hlt := zFk (line := line) h1
 have e : zAF (c.1.set (zAF c line) row, ts) l = zAF c l := by simp [zAF]
 unfold zAm
 rw [e]
 simp only [List.getD_eq_getElem?_getD, List.getElem?_set]
 by_cases he : zAF c line = zAF c l
 ·rw [if_pos he, if_pos hlt, if_pos he.symm]
  rfl
 ·rw [if_neg he, if_neg (fun e => he e.symm)]
theorem zIa {c : zAu} {u : zAU} {i : Nat} (ht : ∀ t n y : Int, tok t n = true → 0 ≤ y → y < n → tok (tou t n y) n = true) (h : OkC ln tok c) (hu : zBi ln u = true) (hp : zB2 c u.1 = some i) :
    OkC ln tok (zCq tou c u i) ∧ ∃ x, (zAm c u.1)[i]? = some x ∧ (zB7 x = true ∨ x.1 = u.1) := by
 obtain ⟨h1, h2, m, hm, h3⟩ := h
 obtain ⟨a1, a2, a3, a4⟩ := zE4 (line := u.1) h1 h2 h3
 have hl := zBY hu
 have hput : ∃ x, (zAm c u.1)[i]? = some x ∧ ((zB7 x = true ∧ atC c u.1 = none) ∨ x.1 = u.1) := by
  unfold zB2 at hp
  split at hp
  ·rename_i k hk
   simp at hp
   subst hp
   obtain ⟨_, x, hx, he⟩ := zD1 hk
   exact ⟨x, hx, .inr he⟩
  ·rename_i hk
   obtain ⟨x, hx, hc⟩ := zGk hp
   exact ⟨x, hx, .inl ⟨hc, hk⟩⟩
 obtain ⟨x, hx, hcase⟩ := hput
 have hi : i < m := by
  have := (List.getElem?_eq_some_iff.1 hx).1
  omega
 refine ⟨?_, x, hx, hcase.imp (fun h => h.1) id⟩
 unfold zCq
 refine ok_set h1 h2 hm h3 (by rw [a1]; exact ht _ _ _ a3 (by omega) (by omega)) (zMF a4 (.inr ⟨hu, (zDa h1).symm⟩) ?_)
 intro k y hy h0 he
 rcases hcase with ⟨_, hn⟩ | hxe
 ·exact absurd he (zJR hn h0 hy)
 ·exact a4.2 k i y x hy hx (by omega) (he.trans hxe.symm)
theorem zKZ {c : zAu} {l : Int} {k : Nat} {u : zAU} (hr : ∀ (i k : Nat) (u x : zAU), (zAm c l)[i]? = some u → (zAm c l)[k]? = some x → 0 ≤ u.1 → u.1 = x.1 → i = k) (h0 : 0 ≤ l) (hu : (zAm c l)[k]? = some u) (hl : u.1 = l) : atC c l = some k := by
 obtain ⟨j, hj⟩ := at_of h0 hu hl
 obtain ⟨_, x, hx, he⟩ := zD1 hj
 rw [hj, hr j k x u hx hu (by omega) (by omega)]
theorem zG4 {row : List zAU} {i : Nat} {u : zAU} (h : row[i]? = some u) : row.getD i zAA = u := by
 rw [List.getD_eq_getElem?_getD, h]
 rfl
theorem zH7 {c : zAu} {u : zAU} {i : Nat} (ht : ∀ t n y : Int, tok t n = true → 0 ≤ y → y < n → tok (tou t n y) n = true) (h : OkC ln tok c) (hu : zBi ln u = true) (hp : zB2 c u.1 = some i) :
    zEV ln tok (zCq tou c u i) u.1 = (u, (i : Int)) := by
 obtain ⟨hok, x, hx, _⟩ := zIa ht h hu hp
 have h1 := h.1
 have hl := zBY hu
 have hrow : zAm (zCq tou c u i) u.1 = (zAm c u.1).set i u := by
  unfold zCq
  rw [zE5 h1, if_pos rfl]
 have hget : (zAm (zCq tou c u i) u.1)[i]? = some u := by
  rw [hrow, List.getElem?_set, if_pos rfl, if_pos (List.getElem?_eq_some_iff.1 hx).1]
 obtain ⟨g1, g2, m, gm, g3⟩ := hok
 have hat : atC (zCq tou c u i) u.1 = some i := zKZ (zE4 g1 g2 g3).2.2.2.2 hl.1 hget rfl
 unfold zEV
 rw [if_pos (zCK.2 ⟨g1, g2, m, gm, g3⟩), hat]
 simp only [zG4 hget]
theorem zG5 {c : zAu} {l : Int} (h : atC c l = none) : zEV ln tok c l = (zAA, -1) := by
 unfold zEV
 rw [h]
 split <;> rfl
theorem zG6 {c : zAu} {l : Int} {i : Nat} {u : zAU} (h : OkC ln tok c) (ha : atC c l = some i) (hu : (zAm c l)[i]? = some u) : zEV ln tok c l = (u, (i : Int)) := by
 unfold zEV
 rw [if_pos (zCK.2 h), ha]
 simp only [zG4 hu]
theorem zIW {c d : zAu} {l : Int} (h : OkC ln tok c) (k : OkC ln tok d) (hh : ∀ (u : zAU), u.1 = l → ((∃ i : Nat, (zAm c l)[i]? = some u) ↔ ∃ i : Nat, (zAm d l)[i]? = some u)) : (zEV ln tok c l).1 = (zEV ln tok d l).1 := by
 cases hc : atC c l with
 | none =>
  cases hd : atC d l with
  | none => rw [zG5 hc, zG5 hd]
  | some j =>
   obtain ⟨h0, x, hx, he⟩ := zD1 hd
   obtain ⟨i, hi⟩ := (hh x he).2 ⟨j, hx⟩
   exact absurd he (zJR hc h0 hi)
 | some i =>
  obtain ⟨h0, x, hx, he⟩ := zD1 hc
  obtain ⟨j, hj⟩ := (hh x he).1 ⟨i, hx⟩
  obtain ⟨g1, g2, m, gm, g3⟩ := k
  have hd := zKZ (zE4 g1 g2 g3).2.2.2.2 h0 hj he
  rw [zG6 h hc hx, zG6 ⟨g1, g2, m, gm, g3⟩ hd hj]
theorem zL9 {c : zAu} {u : zAU} {i : Nat} {l : Int} (ht : ∀ t n y : Int, tok t n = true → 0 ≤ y → y < n → tok (tou t n y) n = true) (h : OkC ln tok c) (hu : zBi ln u = true) (hp : zB2 c u.1 = some i) (hl : l ≠ u.1) (h0 : 0 ≤ l) :
    (zEV ln tok c l).1 = (zEV ln tok (zCq tou c u i) l).1 := by
 obtain ⟨hok, x, hx, hcase⟩ := zIa ht h hu hp
 refine zIW h hok fun y hy => ?_
 have hrow : zAm (zCq tou c u i) l = if zAF c l = zAF c u.1 then (zAm c u.1).set i u else zAm c l := by
  unfold zCq
  rw [zE5 h.1]
 rw [hrow]
 by_cases hs : zAF c l = zAF c u.1
 ·rw [if_pos hs]
  have hrr : zAm c l = zAm c u.1 := by unfold zAm; rw [hs]
  rw [hrr]
  constructor
  ·rintro ⟨j, hj⟩
   refine ⟨j, ?_⟩
   rw [List.getElem?_set]
   by_cases hij : i = j
   ·subst hij
    rw [hx] at hj
    simp at hj
    subst hj
    rcases hcase with hc | hc
    ·have := zCQ hc
     rw [this] at hy
     simp [zAA] at hy
     omega
    ·exact absurd (hy.symm.trans hc) hl
   ·rw [if_neg hij]
    exact hj
  ·rintro ⟨j, hj⟩
   rw [List.getElem?_set] at hj
   by_cases hij : i = j
   ·rw [if_pos hij] at hj
    split at hj
    ·simp at hj
     subst hj
     exact absurd hy.symm hl
    ·cases hj
   ·rw [if_neg hij] at hj
    exact ⟨j, hj⟩
 ·rw [if_neg hs]
theorem zJS {c : zAu} {line : Int} (hv : ∀ t n : Int, tok t n = true → 0 ≤ vic t n ∧ vic t n < n) (h : OkC ln tok c) (hp : zB2 c line = none) (h0 : 0 ≤ line) :
    ∃ (j : Nat) (u : zAU), (zAm c line)[j]? = some u ∧ (zAm c line).getD (vic (zBs c line) (zAm c line).length).toNat zAA = u ∧ zBi ln u = true ∧ zAF c u.1 = zAF c line ∧ u.1 ≠ line ∧ atC c u.1 = some j := by
 obtain ⟨h1, h2, m, hm, h3⟩ := h
 obtain ⟨a1, a2, a3, a4⟩ := zE4 (line := line) h1 h2 h3
 have hvv := hv _ _ a3
 rw [← a1] at hvv
 have hlt : (vic (zBs c line) (zAm c line).length).toNat < (zAm c line).length := by omega
 generalize (vic (zBs c line) (zAm c line).length).toNat = j at hlt
 have hu : (zAm c line)[j]? = some (zAm c line)[j] := List.getElem?_eq_getElem hlt
 generalize (zAm c line)[j] = u at hu
 have hn : atC c line = none ∧ zJQ c line = none := by
  unfold zB2 at hp
  split at hp
  ·cases hp
  ·rename_i hk
   exact ⟨hk, hp⟩
 have hne := zJR hn.1 h0 hu
 have hcl : zB7 u = false := zHZ hn.2 hu
 rcases a4.1 j u hu with hc | ⟨hf, hs⟩
 ·rw [hcl] at hc
  cases hc
 ·have hset : zAF c u.1 = zAF c line := by
    have e1 := zDa (line := u.1) h1
    omega
  have hrr : zAm c u.1 = zAm c line := by unfold zAm; rw [hset]
  refine ⟨j, u, hu, zG4 hu, hf, hset, hne, ?_⟩
  exact zKZ (by rw [hrr]; exact a4.2) (zBY hf).1 (by rw [hrr]; exact hu) rfl
end
end Go.Proofs.YtoihjejenjcokaaGreatDoor
