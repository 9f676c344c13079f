import Derived.Test.YtmaopldahnejdaaGreatDoorG00Box
import Derived.Test.YtmaopldahnejdaaGreatDoorCards
import Derived.Test.YtmaopldahnejdaaGreatDoorTie
import Derived.Test.YtmaopldahnejdaaGreatDoorG12
import Derived.ChangeSame
import Derived.ChangeVars
import Derived.JoinedOf
import Derived.LaidLaws
import Derived.Deep.Strs
namespace Go.Proofs.YtmaopldahnejdaaGreatDoor
open Go.ChangeShapes Go.WideShapes Go.RowKit
set_option linter.unusedVariables false
abbrev zCN : String := "loop.example/g00342/impl.holdings"
abbrev holdD {H : Type} : DataW H := .agg [.agg [.lit (.bool false), .lit (.bool false), .lit (.bool false)], .agg [.lit (.bool true), .lit (.bool false), .lit (.bool false)], .agg [.lit (.bool true), .lit (.bool true), .lit (.bool false)], .agg [.lit (.bool true), .lit (.bool true), .lit (.bool true)]]
abbrev holdLT : List (String × DataW Unit) := [(zCN, Rows.laid_loop_example_g00342_impl_holdings)]
theorem zMq : Tryz.prog.globalNamed zCN = some 0 := by kernel_rfl
theorem zGx : (Tryz.prog.globals[0]?).map (·.type) = some 161 := by kernel_rfl
theorem zHh {H : Type} (enc : TypeId × Value → H) (W : World) (sp : Nat → Bool) : DataW.trod enc Tryz.prog W 0 sp true 4 161 zDZ.toList = some (holdD, []) := by kernel_rfl
theorem zEp {H : Type} {enc : TypeId × Value → H} {P : Program} {w : World} {base : Nat} {sp : Nat → Bool} {held : Bool} {fuel : Nat} {t : TypeId} {c : Value} {y : DataW H × List MemPlace}
    (ht : P.underlying t = some .bool) (h : DataW.trod enc P w base sp held fuel t [c] = some y) : ∃ b, c = .bool b ∧ y = (.lit (.bool b), []) := by
 cases fuel with
 | zero => simp [DataW.trod] at h
 | succ fuel =>
  cases c <;> simp [DataW.trod, ht] at h
  exact ⟨_, rfl, h.symm⟩
theorem zDh {H : Type} {enc : TypeId × Value → H} {P : Program} {w : World} {base : Nat} {sp : Nat → Bool} {held : Bool} {fuel : Nat} {t u : TypeId} {f0 f1 f2 : Field} {x y z : Value} {r : DataW H × List MemPlace} {a b c : Bool}
    (ht : P.underlying t = some (.struct #[f0, f1, f2])) (hu : P.underlying u = some .bool) (h0 : f0.type = u) (h1 : f1.type = u) (h2 : f2.type = u) (o0 : f0.offset = 0) (o1 : f1.offset = 1) (o2 : f2.offset = 2) (hc : P.cellsOf u = 1)
    (h : DataW.trod enc P w base sp held fuel t [x, y, z] = some r) (hr : r.1 = .agg [.lit (.bool a), .lit (.bool b), .lit (.bool c)]) : x = .bool a ∧ y = .bool b ∧ z = .bool c := by
 obtain ⟨y0, y1, y2, n, rfl, _, d, f, g⟩ := Deep.trod_struct3 ht h;rw [h0, o0, hc] at d;rw [h1, o1, hc] at f;rw [h2, o2, hc] at g;obtain ⟨p0, rfl, rfl⟩ := zEp hu d;obtain ⟨p1, rfl, rfl⟩ := zEp hu f;obtain ⟨p2, rfl, rfl⟩ := zEp hu g;simp at hr
 obtain ⟨rfl, rfl, rfl⟩ := hr;exact ⟨rfl, rfl, rfl⟩
theorem zHT {H : Type} {enc : TypeId × Value → H} {P : Program} {w : World} {base : Nat} {sp : Nat → Bool} {held : Bool} {fuel : Nat} {T t u : TypeId} {f0 f1 f2 : Field} {cs : List Value} {p : List MemPlace}
    (hT : P.underlying T = some (.array 4 t)) (hcT : P.cellsOf T = 12) (hct : P.cellsOf t = 3)
    (ht : P.underlying t = some (.struct #[f0, f1, f2])) (hu : P.underlying u = some .bool) (h0 : f0.type = u) (h1 : f1.type = u) (h2 : f2.type = u) (o0 : f0.offset = 0) (o1 : f1.offset = 1) (o2 : f2.offset = 2) (hc : P.cellsOf u = 1)
    (h : DataW.trod enc P w base sp held fuel T cs = some (holdD, p)) : cs = zDZ.toList := by
 cases fuel with
 | zero => simp [DataW.trod] at h
 | succ fuel =>
  simp only [DataW.trod, hT, hcT, hct] at h;split at h
  ·rename_i hl
   obtain ⟨i, k, f, g, n, m, c, l, j, d, a, b, rfl⟩ : ∃ i k f g n m c l j d a b, cs = [i, k, f, g, n, m, c, l, j, d, a, b] := by
    match cs, hl with
    | [i, k, f, g, n, m, c, l, j, d, a, b], _ => exact ⟨i, k, f, g, n, m, c, l, j, d, a, b, rfl⟩
   rw [show List.range 4 = [0, 1, 2, 3] from rfl] at h;simp only [Option.map_eq_some_iff, List.mapM_cons, List.mapM_nil, Option.bind_eq_bind, Option.bind_eq_some_iff, Option.pure_def, Option.some.injEq] at h;obtain ⟨xs, ⟨y0, r, _, ⟨y1, B, _, ⟨y2, q, _, ⟨y3, s, _, rfl, rfl⟩, rfl⟩, rfl⟩, rfl⟩, o⟩ := h;simp only [List.map_cons, List.map_nil, Prod.mk.injEq, DataW.agg.injEq, List.cons.injEq, and_true] at o;obtain ⟨⟨y, v, z, A⟩, _⟩ := o;obtain ⟨rfl, rfl, rfl⟩ := zDh ht hu h0 h1 h2 o0 o1 o2 hc r y;obtain ⟨rfl, rfl, rfl⟩ := zDh ht hu h0 h1 h2 o0 o1 o2 hc B v;obtain ⟨rfl, rfl, rfl⟩ := zDh ht hu h0 h1 h2 o0 o1 o2 hc q z;obtain ⟨rfl, rfl, rfl⟩ := zDh ht hu h0 h1 h2 o0 o1 o2 hc s A;rfl
  ·cases h
theorem hold_var {W : World} (h : laidMet Tryz.prog holdLT W) : W.var? Tryz.prog zCN = some zDZ := by
 obtain ⟨ps, ⟨g, t, d, b, p, q, f, i, a, c, _, _⟩, _⟩ := h;obtain rfl := Option.some.inj (zMq.symm.trans f);obtain rfl := Option.some.inj (zGx.symm.trans i);rw [a];have := zHT Tryz.underlying161 (by kernel_rfl) (by kernel_rfl) Tryz.underlying160 Tryz.underlying4 rfl rfl rfl rfl rfl rfl (by kernel_rfl) c;obtain ⟨l⟩ := d;rw [show l = zDZ.toList from this]
theorem zJz {W : World} (h : W.var? Tryz.prog zCN = some zDZ) : HoldT W := by
 simp only [World.var?, zMq, Option.bind_some] at h;split at h
 ·rename_i cs t fz e
  cases h;exact ⟨t, fz, e⟩
 ·cases h
theorem var_below {W W' : World} (h : W.var? Tryz.prog zCN = some zDZ) (hB : Bl W W') : W'.var? Tryz.prog zCN = some zDZ := by
 obtain ⟨t, fz, e⟩ := (zJz h).goes hB;simp only [World.var?, zMq, Option.bind_some, e]
theorem vars_hold {H : Type} (enc : TypeId × Value → H) {W : World} (sp : Nat → Bool) (h : W.var? Tryz.prog zCN = some zDZ) : DataW.TrodVars enc Tryz.prog W sp [zCN] [holdD] (MemPlace.row ⟨0, 0, none⟩ zDZ.size ++ [] ++ []) :=
 ⟨0, 161, zDZ, 4, [], [], zMq, zGx, h, zHh enc W sp, rfl, rfl⟩
theorem vars_one {H : Type} {enc : TypeId × Value → H} {W : World} {gs : List (DataW H)} {q : List MemPlace} (hV : DataW.TrodVars enc Tryz.prog W (fun _ => true) [zCN] gs q) (h : W.var? Tryz.prog zCN = some zDZ) : gs = [holdD] := by
 obtain ⟨g, t, f, a, d, p', rfl, i, j, b, c, rfl⟩ := trodVars_one hV;obtain rfl := Option.some.inj (zMq.symm.trans i);obtain rfl := Option.some.inj (zGx.symm.trans j);obtain rfl : f = zDZ := Option.some.inj (b.symm.trans h);obtain ⟨rfl, rfl⟩ := DataW.Trod.unique (v := .agg zDZ) ⟨a, c⟩ ⟨4, zHh enc W _⟩;rfl
noncomputable def zHi (os : Os) : World :=
 { World.holding Tryz.prog os ⟨#[], #[], []⟩ with heap := (World.holding Tryz.prog os ⟨#[], #[], []⟩).heap.modify 0 fun
     | .cells _ t frozen => .cells zDZ t frozen
     | o => o }
theorem zJV (os : Os) (args : Array Value) : ((zHi os).forCall (fun _ _ => 0) ⟨#[], args, []⟩).memory.heap[0]? = some (.cells zDZ 161 (0, 0)) := by kernel_rfl
set_option maxRecDepth 100000 in
theorem laid_metT (os : Os) (args : Array Value) : laidMet Tryz.prog holdLT ((zHi os).forCall (fun _ _ => 0) ⟨#[], args, []⟩).memory := by
 refine ⟨_, ⟨0, 161, zDZ, 8, [], [], by kernel_rfl, by kernel_rfl, by kernel_rfl, by kernel_rfl, rfl, rfl⟩, by decide, fun b off h => ?_⟩;have a : MemPlace.cell b off ∈ [MemPlace.cell 0 0, .cell 0 1, .cell 0 2, .cell 0 3, .cell 0 4, .cell 0 5, .cell 0 6, .cell 0 7, .cell 0 8, .cell 0 9, .cell 0 10, .cell 0 11] := h;have c : b = 0 := by
  simp at a
  omega
 subst c;refine ⟨⟨_, _, zJV os args⟩, fun u v hc => ?_⟩;simp only [World.cell?, zJV os args] at hc;simp at a
 rcases a with rfl | rfl | rfl | rfl | rfl | rfl | rfl | rfl | rfl | rfl | rfl | rfl <;> simp [zDZ] at hc
end Go.Proofs.YtmaopldahnejdaaGreatDoor
