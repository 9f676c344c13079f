import Derived.Test.YthnfkacboijneaaGreatDoorP37WayCopy
import Derived.Test.YthnfkacboijneaaGreatDoorP38NewImpl
import Derived.Test.YthnfkacboijneaaGreatDoorP21Change
import Derived.Test.YthnfkacboijneaaGreatDoorP23StoreEnd
import Derived.Test.YthnfkacboijneaaGreatDoorP36CoreOk
import Derived.Test.YthnfkacboijneaaGreatDoorP35OpsBad
import Derived.Test.YthnfkacboijneaaGreatDoorP05Boxes
import Derived.Test.YthnfkacboijneaaGreatDoorP09OpL
import Derived.Test.YthnfkacboijneaaGreatDoorP33Mems6
import Derived.Lib.SliceRun
namespace Go.Proofs.YthnfkacboijneaaGreatDoor
open Go.ChangeShapes Go.WideShapes Go.ChangeAt Go.RowKit Go.Shelf
set_option linter.unusedVariables false
attribute [local go_sem] Oper.semAt_some
section
variable {W0 wx : World} {b0 o0 o1 : Nat} {u v : Value}
end
open Go.ChangeShapes Go.WideShapes Go.ChangeAt Go.RowKit
open Go.RowKit
theorem implNew_u (a b : Int) (w : World) :
    Calls Tryz.prog 132 #[.int .i64 a, .int .i64 b] w fun e w' => ∃ ds, e = .returned (.tuple #[aggV ds, .bool (newI a b).2]) ∧ MadeR cacheR w w' ds (newI a b).1 := by
 refine (implNew_any a b w).mono ?_
 rintro e w' ⟨av, cv, bv, dv, rfl, mm⟩
 exact ⟨_, rfl, mm⟩
theorem specNew_u (a b : Int) (w : World) :
    Calls Tryz.prog 123 #[.int .i64 a, .int .i64 b] w fun e w' => ∃ ds, e = .returned (.tuple #[aggV ds, .bool (newI a b).2]) ∧ MadeR cacheR w w' ds (newI a b).1 := by
 refine (specNew_any a b w).mono ?_
 rintro e w' ⟨av, cv, bv, dv, rfl, mm⟩
 exact ⟨_, rfl, mm⟩
def placeB (x : CoreD) : Bool := betw x.2.2.1 0 x.2.1.length && decide ((x.2.2.2.2.2.length : Int) = x.2.2.1)
noncomputable def phaseB (x : CoreD) : Bool := if x.2.2.2.1 = 0 then clearB x.2.2.2.2.1 else if x.2.2.2.1 = 1 then decide (atC x.1 x.2.2.2.2.1.1 = none) && (fullB isL x.2.2.2.2.1 || goneB x.2.2.2.2.1) else if x.2.2.2.1 = 2 then clearB x.2.2.2.2.1 && decide (x.2.2.1 < (x.2.1.length : Int)) else false
theorem core_all (x : CoreD) : coreB x = (okB isL treeB x.1 && (progB x.2.1 && (placeB x && phaseB x))) := by
 unfold coreB progB placeB phaseB restC
 cases okB isL treeB x.1
 ·rfl
 by_cases h1 : x.2.1.length ≤ 30
 ·simp only [h1, decide_true, Bool.true_and]
  cases h2 : betw x.2.2.1 0 x.2.1.length
  ·cases x.2.1.all opOkD <;> rfl
  ·cases h3 : decide ((x.2.2.2.2.2.length : Int) = x.2.2.1)
   ·cases x.2.1.all opOkD <;> rfl
   ·have hle : x.2.2.1 ≤ (x.2.1.length : Int) := by simp [betw] at h2; omega
    simp only [Bool.true_and]
    by_cases p0 : x.2.2.2.1 = 0
    ·rw [if_pos p0, if_neg (by omega)]
     simp [p0, betw]
    ·by_cases p1 : x.2.2.2.1 = 1
     ·rw [if_neg p0, if_pos p1, if_pos p1]
      simp only [p1, betw]
      rw [Bool.or_comm, Bool.and_comm (decide (atC x.1 x.2.2.2.2.1.1 = none))]
      simp
     ·by_cases p2 : x.2.2.2.1 = 2
      ·rw [if_neg p0, if_neg p1, if_pos p2, if_neg p1]
       have e : decide (x.2.2.1 < (x.2.1.length : Int)) = !decide (x.2.2.1 = (x.2.1.length : Int)) := by
        by_cases e : x.2.2.1 = (x.2.1.length : Int)
        ·simp [e]
        ·simp [e]; omega
       rw [e]
       simp only [p2, betw]
       cases x.2.1.all opOkD <;> cases clearB x.2.2.2.2.1 <;> cases decide (x.2.2.1 = (x.2.1.length : Int)) <;> simp
      ·rw [if_neg p0, if_neg p1, if_neg p2, if_neg p1]
       have e : betw x.2.2.2.1 0 2 = false := by simp [betw]; omega
       rw [e]
       cases x.2.1.all opOkD <;> rfl
 ·simp only [h1, decide_false, Bool.false_and, Bool.and_false]
theorem slrd_rows {α : Type} {R : Rep α} {w : World} {ad : Addr} {xs : List α} (h : SlRd R w (some ad) xs) : ∃ rows, lrd R w rows xs ∧ ∀ j u, rows[j]? = some u → w.cell? (ad.add j) = some u := by
 rcases h with rfl | ⟨b, off, rows, ha, hr, hc⟩
 ·exact ⟨[], rfl, by simp⟩
 ·simp only [Option.some.injEq] at ha
  subst ha
  exact ⟨rows, hr, fun j u hj => by rw [show (⟨b, off, none⟩ : Addr).add j = ⟨b, off + j, none⟩ from by simp [Addr.add]]; exact hc j u hj⟩
structure SP (V w : World) (e : TypeId) (size : Nat) (v : Value) (n : Nat) (rows : List Value) : Prop where
 own : w.ownsRow V.heap.size e size v n rows
 bel : Below V.heap.size V w
theorem sp_new {V w : World} {e : TypeId} {size : Nat} (hb : Below V.heap.size V w) : SP V (w.alloc (.cells #[] e)) e size (.slice (some ⟨w.heap.size, 0, none⟩) 0 0) 0 [] :=
 ⟨World.ownsRow_lit w #[] 0 hb.size (Nat.zero_le _) (by simp), hb.alloc hb.size _⟩
theorem sp_alloc {V w : World} {e : TypeId} {size : Nat} {v : Value} {n : Nat} {rows : List Value} (h : SP V w e size v n rows) (o : Obj) : SP V (w.alloc o) e size v n rows :=
 ⟨orow_keep h.own fun g hg => Below.heap_alloc _ _ _ (World.ownsRow.lt h.own g hg).2, h.bel.alloc h.bel.size _⟩
theorem step_spread {P : Program} {ops : Array Oper} {o : Oper} {a : Act} {w : World} {K : Act → World → Prop} {Q : Exit → Act → World → Prop} {E : Prop} (hgd : o.guard = none) (s x : Operand) (t : TypeId)
    (ho : o.op = .call { callee := .builtin .append, args := #[s, x], argTypes := #[t, t] })
    (V : World) (e : TypeId) (i : TypeInfo) (z : Value) (size bytes : Nat) (ht : P.underlying t = some (.slice e)) (hi : P.info? e = some i) (hz : i.zero = some z) (hsize : i.size = size) (hby : i.bytes = bytes) (hzs : z.cells.size = size) (hsz : 0 < size)
    (v : Value) (n : Nat) (rows : List Value) (hs : a.eval s = v) (ad : Addr) (m c : Nat) (news : List Value) (hx : a.eval x = .slice (some ad) m c) (h : SP V w e size v n rows) (hv : v ≠ .slice none 0 0) (hl : news.length = m * size)
    (hnews : Below V.heap.size V w → ∀ j u, news[j]? = some u → w.cell? (ad.add j) = some u) (h1 : ∀ u ∈ news, u.oneCell' = true) (q : Nat) (hq : n + m = q) (h63 : q ≤ maxLen) (hbytes : q * bytes ≤ 140737488355328)
    (k : ∀ g' cap' w', SP V w' e size (.slice (some ⟨g', 0, none⟩) q cap') q (rows ++ news) → w.grownBy w' v.ownBlock → K (a.put o.dst (.slice (some ⟨g', 0, none⟩) q cap')) w') :
    if Region.wanted o (yielded ops a.tmps) = true then Oper.wp P o a w K Q else E := by
 subst hq
 obtain ⟨v', w', hrun, hown, hgrow, hnil⟩ := run_append_own (P := P) (w := w) V.heap.size t o.type e i z size bytes ht hi hz hsize hby hzs hsz v n rows h.own ad m c news hl (hnews h.bel) h1 h63 hbytes h.bel.size
 have hv' : v' ≠ .slice none 0 0 := fun e => hv (hnil.1 e).1
 have hown2 := hown.2
 rcases hown2 with ⟨he, _⟩ | ⟨g', cap', cur, rfl, hbg, hh, _⟩
 ·exact absurd he hv'
 ·exact step_run hgd s x t o.type ho rfl v _ _ hs hx hrun (k g' cap' w' ⟨hown, h.bel.grown hgrow h.bel.size (fun k hk => (World.ownsRow.lt h.own k hk).1)⟩ hgrow)
theorem step_spread_none {P : Program} {ops : Array Oper} {o : Oper} {a : Act} {w : World} {K : Act → World → Prop} {Q : Exit → Act → World → Prop} {E : Prop} (hgd : o.guard = none) (s x : Operand) (t : TypeId)
    (ho : o.op = .call { callee := .builtin .append, args := #[s, x], argTypes := #[t, t] })
    (V : World) (e : TypeId) (i : TypeInfo) (size : Nat) (ht : P.underlying t = some (.slice e)) (hi : P.info? e = some i)
    (v : Value) (n : Nat) (rows : List Value) (hs : a.eval s = v) (c : Nat) (hx : a.eval x = .slice none 0 c) (h : SP V w e size v n rows)
    (k : K (a.put o.dst v) w) : if Region.wanted o (yielded ops a.tmps) = true then Oper.wp P o a w K Q else E := by
 refine step_run hgd s x t o.type ho rfl v _ _ hs hx ?_ k
 rcases h.own.2 with ⟨rfl, rfl⟩ | ⟨g, cap, cur, rfl, _, _, hnc, _⟩
 ·simp [Builtin.append_, run_underlying ht, sizeOf, typeInfo, hi, Builtin.lenOf, Builtin.firstCells]
 ·simp [Builtin.append_, run_underlying ht, sizeOf, typeInfo, hi, Builtin.lenOf, Builtin.firstCells, hnc, storeCells]
theorem Tryz.infoOps : (Tryz.prog.info? 98).map (fun i => (i.zero, i.size, i.bytes)) = some (some (.agg #[.int .i64 0, .int .i64 0, .int .i64 0, .int .i64 0]), 4, 32) := by kernel_rfl
theorem rows_ops {w w' : World} {S : Foot} : ∀ {rows : List Value} {xs : List OpD}, lrd opR w rows xs → lown opR w' S rows xs ∧ (∀ u ∈ rows, u.oneCell' = true) ∧ rows.length = xs.length * 4
 | rows, [], h => by
  have : rows = [] := h
  subst this
  exact ⟨rfl, by simp, rfl⟩
 | rows, x :: r, h => by
  obtain ⟨c1, c2, rfl, h1, h2⟩ := h
  obtain ⟨q1, q2, q3⟩ := rows_ops (w' := w') (S := S) h2
  obtain ⟨rfl, h4⟩ := op_rd h1
  refine ⟨⟨_, c2, fun _ => False, S, rfl, own_op h4, q1, fun _ h => h.elim, Sub.refl _, fun _ h _ => h⟩, ?_, ?_⟩
  ·intro u hu
   rcases List.mem_append.1 hu with hu | hu
   ·simp only [List.mem_cons, List.not_mem_nil, or_false] at hu
    rcases hu with rfl | rfl | rfl | rfl <;> rfl
   ·exact q2 u hu
  ·rw [List.length_append, q3]
   simp
   omega
theorem made_ops {w w0 w1 : World} {v' : Value} {o : Obj} {rows : List Value} {xs : List OpD} (hr : lrd opR w0 rows xs) (h : w1.ownsRow w.heap.size 98 4 v' xs.length rows)
    (hg : (w.alloc o).grownBy w1 (Value.slice (some ⟨w.heap.size, 0, none⟩) 0 0).ownBlock) (hv : v' ≠ .slice none 0 0) : MadeR opsR w w1 [v'] xs := by
 obtain ⟨q1, q2, q3⟩ := rows_ops (w' := w1) (S := fun _ => False) hr
 have hb : Below w.heap.size w w1 := ((Below.refl _ _).alloc (Nat.le_refl _) _).grown hg (by simp) (by
  intro r hr
  simp [Value.ownBlock] at hr
  omega)
 refine ⟨⟨v', rows, fun _ => False, rfl, row_base h (fun _ _ => Nat.zero_le _), fun g hg' => ⟨?_, fun h => h⟩, fun _ h => h.elim, q1⟩, hb⟩
 exact World.ownsRow.lt h g hg'
set_option maxRecDepth 100000 in
set_option maxHeartbeats 1000000 in
theorem clone_ops (v : Value) (d : List OpD) (w : World) (h : opsR.rd w [v] d) (hm : d.length ≤ 1048576) :
    Calls Tryz.prog 134 #[v] w fun e w' => ∃ v', e = .returned v' ∧ MadeR opsR w w' [v'] d := by
 obtain ⟨a, cap, e0, l1, l2, hs⟩ := h
 simp only [List.cons.injEq, and_true] at e0
 subst e0
 cases a with
 | some ad =>
  obtain ⟨rows, hr, hc⟩ := slrd_rows hs
  obtain ⟨q1, q2, q3⟩ := rows_ops (w' := w) (S := fun _ => False) hr
  obtain ⟨i0, hi, hz0, hz1, hz2⟩ := info_parts Tryz.infoOps
  have hown : (w.alloc (.cells #[] 98)).ownsRow w.heap.size 98 4 (.slice (some ⟨w.heap.size, 0, none⟩) 0 0) 0 [] := World.ownsRow_lit _ #[] 0 (Nat.le_refl _) (Nat.zero_le _) rfl
  have HR : Hid (lrd opR w rows d) := hr
  have he := fun W => Go.Lib.run_eql_slice_nil (P := Tryz.prog) W 82 98 (some ad) d.length cap 0 0 Tryz.underlying82
  have HC : Hid (∀ j u, rows[j]? = some u → (w.alloc (.cells #[] 98)).cell? (ad.add j) = some u) := fun j u hj => by
   have g0 := hc j u hj
   exact (World.cell?_of_block (Below.heap_alloc w (.cells #[] 98) _ (World.block_lt_of_cell? w _ g0))).trans g0
  clear hs hr q1 hc
  go_enter Tryz.func134, Tryz.ntmps134
  go_wp2_with (at_builtin; refine wpList_append_own _ rfl _ _ 82 rfl w.heap.size 98 i0 (.agg #[.int .i64 0, .int .i64 0, .int .i64 0, .int .i64 0]) 4 32 Tryz.underlying82 hi hz0 hz1 hz2 rfl (by decide) _ _ _ rfl hown ad d.length cap rows rfl q3 HC.out q2 ?c3 ?c4 ?c5 ?_)
  case c3 => unfold maxLen; omega
  case c4 => omega
  case c5 => simp
  ·intro v' w1 hown' hgrow hnil
   have hv : v' ≠ .slice none 0 0 := hnil
   have hown'' : w1.ownsRow w.heap.size 98 4 v' d.length rows := by simpa using hown'
   have HH : Hid _ := made_ops (w := w) HR.out hown'' hgrow hv
   clear hown' hgrow hnil hown hown'' hv
   go_wp2
   go_ret
   exact ⟨_, rfl, HH.out⟩
 | none =>
  obtain rfl : d = [] := by
   rcases hs with h | ⟨b, off, rows, ha, _⟩
   ·exact h
   ·cases ha
  rw [show ([] : List OpD).length = 0 from rfl]
  have he := fun W => Go.Lib.run_eql_slice_nil (P := Tryz.prog) W 82 98 none 0 cap 0 0 Tryz.underlying82
  go_enter Tryz.func134, Tryz.ntmps134
  go_wp2
  go_ret
  exact ⟨_, rfl, ⟨_, [], fun _ => False, rfl, World.ownsRow_nil _ _ _ _, fun g hg => by simp [Value.ownBlock] at hg, fun _ h => h.elim, rfl⟩, Below.refl _ w⟩
end Go.Proofs.YthnfkacboijneaaGreatDoor
