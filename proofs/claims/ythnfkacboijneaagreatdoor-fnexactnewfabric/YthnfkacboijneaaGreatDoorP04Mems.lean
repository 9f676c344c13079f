import Derived.Test.YthnfkacboijneaaGreatDoorP03Nums
import Derived.Test.YthnfkacboijneaaGreatDoorP02Own
import Derived.Deep.QuietTactic
import Derived.OrdersIn
import Derived.TacticsIn
import Derived.WalkKit
import Derived.ProofKit
import Derived.OpenShut
import Derived.LoopN
import Derived.Deep.RegionWith
import Derived.BigRegion
namespace Go.Proofs.YthnfkacboijneaaGreatDoor
set_option maxHeartbeats 1000000
open Go.ChangeShapes Go.WideShapes Go.ChangeAt Go.RowKit
structure Rw where
 g : Nat
 cap : Nat
 xs : List Int
def Rw.v (r : Rw) : Value := .slice (some ⟨r.g, 0, none⟩) r.xs.length r.cap
def Inn (lo hi : Nat) (w : World) (rs : List Rw) : Prop :=
 (∀ (i : Nat) (r : Rw), rs[i]? = some r → OwnI lo w r.g r.cap r.xs ∧ r.g < hi) ∧ ∀ (i j : Nat) (r s : Rw), rs[i]? = some r → rs[j]? = some s → r.g = s.g → i = j
def Out (lo : Nat) (w : World) (G cap n : Nat) (vs : List Value) : Prop := w.ownsRow lo 79 1 (.slice (some ⟨G, 0, none⟩) n cap) n vs
def OwnM (lo hi : Nat) (w : World) (G cap : Nat) (xss : List (List Int)) : Prop :=
 ∃ rs : List Rw, rs.map Rw.xs = xss ∧ Out lo w G cap xss.length (rs.map Rw.v) ∧ G < hi ∧ Inn lo hi w rs
def MadeM (w w' : World) (v : Value) (xss : List (List Int)) : Prop :=
 ∃ G cap, v = .slice (some ⟨G, 0, none⟩) xss.length cap ∧ w.heap.size ≤ G ∧ G < w'.heap.size ∧ OwnM w.heap.size w'.heap.size w' G cap xss ∧ Below w.heap.size w w'
structure Inside (lo hi : Nat) (w w' : World) : Prop where
 os : w'.os = w.os
 tape : w'.tape = w.tape
 output : w'.output = w.output
 size : w.heap.size ≤ w'.heap.size
 block : ∀ k, k < w.heap.size → (k < lo ∨ hi ≤ k) → w'.heap[k]? = w.heap[k]?
theorem Inside.refl (lo hi : Nat) (w : World) : Inside lo hi w w := ⟨rfl, rfl, rfl, Nat.le_refl _, fun _ _ _ => rfl⟩
theorem Inside.trans {lo hi : Nat} {a b c : World} (h : Inside lo hi a b) (k : Inside lo hi b c) : Inside lo hi a c :=
 ⟨k.os.trans h.os, k.tape.trans h.tape, k.output.trans h.output, Nat.le_trans h.size k.size, fun j hj hr => (k.block j (Nat.lt_of_lt_of_le hj h.size) hr).trans (h.block j hj hr)⟩
theorem own_block {w w' : World} {base e size g n cap : Nat} {xs : List Value} (h : w.ownsRow base e size (.slice (some ⟨g, 0, none⟩) n cap) n xs) (hb : w'.heap[g]? = w.heap[g]?) :
    w'.ownsRow base e size (.slice (some ⟨g, 0, none⟩) n cap) n xs := by
 refine ⟨h.1, ?_⟩
 rcases h.2 with ⟨h', _⟩ | ⟨g', cap', cur, h', hb', hgg, rest⟩
 ·simp at h'
 ·simp only [Value.slice.injEq, Option.some.injEq, Addr.mk.injEq, and_true, true_and] at h'
  obtain ⟨rfl, rfl⟩ := h'
  exact .inr ⟨g, cap, cur, rfl, hb', by rw [hb]; exact hgg, rest⟩
theorem own_mono {w : World} {B B' e size n : Nat} {v : Value} {xs : List Value} (h : w.ownsRow B e size v n xs) (hb : B' ≤ B) : w.ownsRow B' e size v n xs := by
 refine ⟨h.1, ?_⟩
 rcases h.2 with h' | ⟨g', cap', cur, h', hb', rest⟩
 ·exact .inl h'
 ·exact .inr ⟨g', cap', cur, h', Nat.le_trans hb hb', rest⟩
theorem own_type {w : World} {B g n cap e : Nat} {xs : List Value} (h : w.ownsRow B e 1 (.slice (some ⟨g, 0, none⟩) n cap) n xs) : ∃ cur, w.heap[g]? = some (.cells cur e (0, 0)) := by
 rcases h.2 with ⟨h', _⟩ | ⟨g', cap', cur, h', hb', hgg, rest⟩
 ·simp at h'
 ·simp only [Value.slice.injEq, Option.some.injEq, Addr.mk.injEq, and_true, true_and] at h'
  obtain ⟨rfl, rfl⟩ := h'
  exact ⟨_, hgg⟩
theorem out_ne {lo lo' G cap n g c : Nat} {w : World} {vs : List Value} {zs : List Int} (h : Out lo w G cap n vs) (k : OwnI lo' w g c zs) : g ≠ G := by
 rintro rfl
 obtain ⟨c1, h1⟩ := own_type h
 obtain ⟨c2, h2⟩ := own_type k
 rw [h1] at h2
 simp at h2
theorem inn_nil (lo hi : Nat) (w : World) : Inn lo hi w [] := ⟨by simp, by simp⟩
theorem inn_block {lo hi : Nat} {w w' : World} {rs : List Rw} (h : Inn lo hi w rs) (hb : ∀ (i : Nat) (r : Rw), rs[i]? = some r → w'.heap[r.g]? = w.heap[r.g]?) : Inn lo hi w' rs :=
 ⟨fun i r hr => ⟨own_block (h.1 i r hr).1 (hb i r hr), (h.1 i r hr).2⟩, h.2⟩
theorem inn_below {lo hi D : Nat} {w w' : World} {rs : List Rw} (h : Inn lo hi w rs) (hb : Below D w w') (hD : hi ≤ D) : Inn lo hi w' rs :=
 inn_block h fun i r hr => hb.block _ (Nat.lt_of_lt_of_le (h.1 i r hr).2 hD)
theorem inn_grown {lo hi x : Nat} {w w' : World} {rs : List Rw} (h : Inn lo hi w rs) (hb : w.grownBy w' (some x)) (hx : ∀ (i : Nat) (r : Rw), rs[i]? = some r → r.g ≠ x) : Inn lo hi w' rs :=
 inn_block h fun i r hr => hb.block _ (h.1 i r hr |>.1 |> owni_lt).2 (fun e => hx i r hr (by simpa using e))
theorem inn_mono {lo hi hi' : Nat} {w : World} {rs : List Rw} (h : Inn lo hi w rs) (hh : hi ≤ hi') : Inn lo hi' w rs :=
 ⟨fun i r hr => ⟨(h.1 i r hr).1, Nat.lt_of_lt_of_le (h.1 i r hr).2 hh⟩, h.2⟩
theorem inn_out {lo hi lo' G cap n : Nat} {w w' : World} {rs : List Rw} {vs : List Value} (h : Inn lo hi w rs) (ho : Out lo' w G cap n vs) (hb : w.grownBy w' (some G)) : Inn lo hi w' rs :=
 inn_grown h hb fun i r hr => out_ne ho (h.1 i r hr).1
theorem inn_push {lo hi hi' g cap : Nat} {w : World} {rs : List Rw} {xs : List Int} (h : Inn lo hi w rs) (o : OwnI lo w g cap xs) (hg : hi ≤ g) (hg2 : g < hi') : Inn lo hi' w (rs ++ [⟨g, cap, xs⟩]) := by
 refine ⟨fun i r hr => ?_, fun i j r s hr hs e => ?_⟩
 ·by_cases hi' : i < rs.length
  ·rw [List.getElem?_append_left hi'] at hr
   have := h.1 i r hr
   exact ⟨this.1, by omega⟩
  ·rw [List.getElem?_append_right (by omega)] at hr
   by_cases h0 : i - rs.length = 0
   ·rw [h0] at hr; simp at hr; subst hr; exact ⟨o, hg2⟩
   ·rw [List.getElem?_eq_none (by simp; omega)] at hr; cases hr
 ·have key : ∀ (i : Nat) (r : Rw), (rs ++ [(⟨g, cap, xs⟩ : Rw)])[i]? = some r → (rs[i]? = some r ∧ i < rs.length) ∨ (i = rs.length ∧ r = ⟨g, cap, xs⟩) := by
    intro i r hr
    by_cases hi' : i < rs.length
    ·rw [List.getElem?_append_left hi'] at hr
     exact .inl ⟨hr, hi'⟩
    ·rw [List.getElem?_append_right (by omega)] at hr
     by_cases h0 : i - rs.length = 0
     ·rw [h0] at hr; simp at hr; exact .inr ⟨by omega, hr.symm⟩
     ·rw [List.getElem?_eq_none (by simp; omega)] at hr; cases hr
  rcases key i r hr with ⟨a1, a2⟩ | ⟨a1, rfl⟩ <;> rcases key j s hs with ⟨b1, b2⟩ | ⟨b1, rfl⟩
  ·exact h.2 i j r s a1 b1 e
  ·have := (h.1 i r a1).2; simp at e; omega
  ·have := (h.1 j s b1).2; simp at e; omega
  ·omega
theorem madeM_step {w w1 w2 : World} {v : Value} {xss : List (List Int)} (h : Below w.heap.size w w1) (h2 : MadeM w1 w2 v xss) : MadeM w w2 v xss := by
 obtain ⟨G, cap, rfl, h3, h4, ⟨rs, e1, e2, e3, e4⟩, h6⟩ := h2
 have hs := h.size
 exact ⟨G, cap, rfl, Nat.le_trans h.size h3, h4, ⟨rs, e1, own_mono e2 hs, e3, ⟨fun i r hr => ⟨own_mono (e4.1 i r hr).1 hs, (e4.1 i r hr).2⟩, e4.2⟩⟩, below_step h h6⟩
theorem madeM_none (w : World) (k : Nat) (h : k = w.heap.size) : MadeM w (w.alloc (.cells #[] 79)) (.slice (some ⟨k, 0, none⟩) 0 0) [] := by
 subst h
 refine ⟨_, _, rfl, Nat.le_refl _, by simp, ⟨[], rfl, World.ownsRow_lit (base := w.heap.size) (e := 79) (size := 1) w #[] 0 (Nat.le_refl _) (Nat.zero_le _) rfl, by simp, inn_nil _ _ _⟩, (Below.refl _ _).alloc (Nat.le_refl _) _⟩
set_option linter.unusedVariables false
theorem opens_i64 : Opens Tryz.prog 2 intR := opens_int Tryz.underlying2
theorem opens_ints : Opens Tryz.prog 79 intsR := opens_slice Tryz.underlying79 (by kernel_rfl) Nat.zero_lt_one opens_i64
abbrev rowsR : Rep (List (List Int)) := slR 79 intsR
abbrev rowsM : Mk (List (List Int)) := slM intsM
open Go.RowKit
structure Cls (C : World → Prop) where
 w : World
 h : C w
theorem region_class {P : Program} {id : Nat} {Q : Exit → Act → World → Prop} {a : Act} {w : World} {l : List Oper} (C : World → Prop) (hm : P.follows .mixedOrders = true) (hB : Region.lexB .any l.toArray = true) (h0 : C w.drew)
    (h : Nonempty (Cls C) → wpQuiet P l.toArray (fun w' => ∃ n : Cls C, w' = n.w) (fun a' => ∀ w', C w' → Q .normal a' w') l a) : (Code.region id l.toArray true).wp P Q a w :=
 wp_region_quiet (C := fun w' => ∃ n : Cls C, w' = n.w) hm hB ⟨⟨w.drew, h0⟩, rfl⟩ (by
  have := h ⟨⟨w.drew, h0⟩⟩
  have e : (fun a' => ∀ w', C w' → Q .normal a' w') = (fun a' => ∀ w', (∃ n : Cls C, w' = n.w) → Q .normal a' w') := by
   funext a'
   exact propext ⟨fun h w' ⟨n, e⟩ => h w' (by rw [e]; exact n.h), fun h w' hc => h w' ⟨⟨w', hc⟩, rfl⟩⟩
  rw [e] at this
  simpa using this)
section
variable {P : Program} {C : World → Prop} {r : Nat}
end
theorem wpQuiet_skip {P : Program} {ops : Array Oper} {C : World → Prop} {Q : Act → Prop} {a : Act} {o : Oper} {rest : List Oper} {j : Nat} {b : Bool} {og : Oper} {d : Tmp} (ht : a.tmps[d]? = some (.bool (!b))) (hg : o.guard = some (j, b)) (ho : ops[j]? = some og) (hd : og.dst = some d)
    (hne : o.dst ≠ some d) (h : ∀ a', a' = a.put o.dst undef → a'.tmps[d]? = some (.bool (!b)) → wpQuiet P ops C Q rest a') : wpQuiet P ops C Q (o :: rest) a := by
 have hy : yielded ops a.tmps j = some (!b) := by
  unfold yielded
  simp [ho, hd, ht]
 have hw : Region.wanted o (yielded ops a.tmps) = false := by
  unfold Region.wanted
  simp [hg, hy]
 unfold wpQuiet
 rw [hw]
 refine h _ rfl ?_
 cases he : o.dst with
 | none => exact ht
 | some d' =>
  have : d' ≠ d := fun e => hne (by rw [he, e])
  show (a.tmps.setIfInBounds d' undef)[d]? = _
  rw [Array.getElem?_setIfInBounds_ne this]
  exact ht
theorem hid_act (K : Act → Prop) (a : Act) (h : ∀ A, A = a → K A) : K a := h a rfl
theorem calls_class {P : Program} {f : FuncId} {args : Array Value} {C : World → Prop} {n : Cls C} {v : Value} {R : World → Prop} (h : Calls P f args n.w fun e w' => e = .returned v ∧ R w') (hs : ∀ w', C n.w → R w' → C w') :
    Calls P f args n.w fun e w'' => e = .returned v ∧ ∃ m : Cls C, w'' = m.w := h.mono fun _ w' ⟨he, hr⟩ => ⟨he, ⟨w', hs w' n.h hr⟩, rfl⟩
theorem calls_class_same {P : Program} {f : FuncId} {args : Array Value} {C : World → Prop} {n : Cls C} {v : Value} (h : Calls P f args n.w fun e w' => e = .returned v ∧ w' = n.w) :
    Calls P f args n.w fun e w'' => e = .returned v ∧ ∃ m : Cls C, w'' = m.w := h.mono fun _ w' ⟨he, hr⟩ => ⟨he, n, hr⟩
def setB (s : Int) : Bool := decide (0 ≤ s ∧ s ≤ 255)
def itemB (i : Int) : Bool := decide (0 ≤ i ∧ i ≤ 7)
def memB (s i : Int) : Bool := (s / 2 ^ i.toNat) % 2 == 1
def inB (s i : Int) : Bool := setB s && itemB i && memB s i
def press (x : Int) : Int := min (max x 0) 9999
def okW (x : Int) : Bool := betw x 0 9999
theorem pressed_any (a b : Int) (w : World) :
    Calls Tryz.prog 293 #[.agg #[.int .i64 a, .int .i64 b]] w fun e w' => e = .returned (.agg #[.int .i64 (press a), .int .i64 (press b)]) ∧ Below w.heap.size w w' := by
 have B := (Below.refl w.heap.size w).alloc (Nat.le_refl _)
 go_enter Tryz.func293, Tryz.ntmps293
 go_wp2
 refine wp_loop_rounds 3 ?_
 rw [rounds_succ]
 go_wp2
 all_goals rw [rounds_succ]
 all_goals go_wp2
 all_goals rw [rounds_succ]
 all_goals go_wp2
 all_goals
  refine bodyPost_ret (v := .agg #[.int .i64 (press a), .int .i64 (press b)]) ?_ rfl ⟨rfl, ?_⟩
  ·simp [results, Tryz.results293, go_sem]; first | done | (unfold press; omega) | (constructor <;> unfold press <;> omega)
  ·exact (B _).alloc (by simp) _
theorem alloc_len (w : World) (o : Obj) : (w.alloc o).heap.size = w.heap.size + 1 := by simp
theorem cell_two {w : World} {g : Nat} {x y : Value} {t : TypeId} (h : w.heap[g]? = some (.cells #[x, y] t (0, 0))) :
    w.cell? ⟨g, 0, none⟩ = some x ∧ w.cell? ⟨g, 1, none⟩ = some y :=
 ⟨by rw [cell_of_row w g 0 _ t (0, 0) h]; rfl, by rw [cell_of_row w g 1 _ t (0, 0) h]; rfl⟩
theorem row_keep {w w' : World} {g : Nat} {o : Obj} (hb : Below w.heap.size w w') (h : w.heap[g]? = some o) : w'.heap[g]? = some o :=
 (hb.block g (Array.getElem?_eq_some_iff.1 h).1).trans h
theorem two_eq (a b c d : Int) (w : World) : (Op.equalIn 10000 274 (.agg #[.int .i64 a, .int .i64 b]) (.agg #[.int .i64 c, .int .i64 d])).run Tryz.prog w = .ok (a == c && b == d) w := by
 have u3 := Tryz.underlying2
 have a3 := Tryz.isAgg2
 have z3 := Tryz.sizeOf2
 rw [show (10000 : Nat) = 9999 + 1 from rfl, Op.equalIn]
 simp only [Sem.run_bind, run_underlying Tryz.underlying274, Result.andThen_ok]
 simp only [Std.Legacy.Range.forIn_eq_forIn_range', Std.Legacy.Range.size, Nat.sub_zero, Nat.add_sub_cancel, Nat.div_one, List.range'_succ, List.range'_zero, List.forIn_cons, List.forIn_nil]
 go_simp
 by_cases h1 : a = c <;> by_cases h2 : b = d <;> simp [h1, h2]
theorem press_eq (x : Int) : (x == press x) = okW x := by
 rw [Bool.eq_iff_iff]; simp [press, okW, betw]; omega
theorem twoOk_any (a b : Int) (w : World) :
    Calls Tryz.prog 285 #[.agg #[.int .i64 a, .int .i64 b]] w fun e w' => e = .returned (.bool (okW a && okW b)) ∧ Below w.heap.size w w' := by
 have B := (Below.refl w.heap.size w).alloc (Nat.le_refl _)
 go_enter Tryz.func285, Tryz.ntmps285
 go_wp2
 have R := heap_alloc_new w (.cells #[.int .i64 a, .int .i64 b] 274)
 have BB := (B (.cells #[.int .i64 a, .int .i64 b] 274)).drew
 generalize w.alloc (.cells #[.int .i64 a, .int .i64 b] 274) = W at R BB ⊢
 obtain ⟨q0, q1⟩ := cell_two R
 have E := two_eq a b (press a) (press b)
 go_region_with (go_at_call 293
                 refine (pressed_any a b _).mono ?_
                 rintro e w' ⟨rfl, hb⟩
                 replace R := row_keep hb R
                 replace BB := BB.trans (hb.mono BB.size)
                 clear q0 q1 hb
                 obtain ⟨q0, q1⟩ := cell_two R)
 all_goals
  go_wp2
  go_ret
  exact ⟨ret_bool (by rw [press_eq, press_eq]), BB⟩
theorem froz_two {w : World} {g : Nat} {cs : Array Value} {t : TypeId} (h : w.heap[g]? = some (.cells cs t (0, 0))) :
    w.frozen? ⟨g, 0, none⟩ = false ∧ w.frozen? ⟨g, 1, none⟩ = false := ⟨frozen_of_row w g 0 _ t h, frozen_of_row w g 1 _ t h⟩
theorem reads_two {w : World} {a : Option Addr} {x y : Int} (h : Reads w a [x, y]) : ∃ b off, a = some ⟨b, off, none⟩ ∧ w.cell? ⟨b, off, none⟩ = some (.int .i64 x) ∧ w.cell? ⟨b, off + 1, none⟩ = some (.int .i64 y) := by
 rcases h with h | ⟨b, off, ha, hc⟩
 ·simp at h
 ·exact ⟨b, off, ha, hc 0 (by simp), hc 1 (by simp)⟩
theorem wordsOf_not (a : Option Addr) (n cap : Nat) (w : World) (hn : n ≠ 2) :
    Calls Tryz.prog 263 #[.slice a n cap] w fun e w' => e = .returned (.tuple #[.agg #[.int .i64 0, .int .i64 0], .bool false]) ∧ Below w.heap.size w w' := by
 have B := (Below.refl w.heap.size w).alloc (Nat.le_refl _)
 have hn' : ((n : Int) == 2) = false := by simp; omega
 go_enter Tryz.func263, Tryz.ntmps263
 go_wp2
 refine bodyPost_ret (v := .tuple #[.agg #[.int .i64 0, .int .i64 0], .bool false]) (by simp [results, Tryz.results263, go_sem]) rfl ⟨rfl, B _⟩
theorem wordsOf_two (a : Option Addr) (x y : Int) (cap : Nat) (w : World) (h : Reads w a [x, y]) :
    Calls Tryz.prog 263 #[.slice a 2 cap] w fun e w' => e = .returned (.tuple #[.agg #[.int .i64 x, .int .i64 y], .bool (okW x && okW y)]) ∧ Below w.heap.size w w' := by
 have B := (Below.refl w.heap.size w).alloc (Nat.le_refl _)
 obtain ⟨b, off, rfl, c0, c1⟩ := reads_two h
 have l0 := World.block_lt_of_cell? w _ c0
 go_enter Tryz.func263, Tryz.ntmps263
 go_wp2
 go_region
 go_wp2
 have R : ((w.alloc (.cells #[.int .i64 0, .int .i64 0] 274)).alloc (.cells #[.int .i64 x, .int .i64 y] 274)).drew.heap[w.heap.size]? = some (.cells #[.int .i64 0, .int .i64 0] 274 (0, 0)) := by
  show ((w.alloc (.cells #[.int .i64 0, .int .i64 0] 274)).alloc (.cells #[.int .i64 x, .int .i64 y] 274)).heap[w.heap.size]? = _
  rw [Below.heap_alloc _ _ _ (by simp)]
  exact heap_alloc_new w _
 have X : ((w.alloc (.cells #[.int .i64 0, .int .i64 0] 274)).alloc (.cells #[.int .i64 x, .int .i64 y] 274)).drew.heap[w.heap.size + 1]? = some (.cells #[.int .i64 x, .int .i64 y] 274 (0, 0)) := by
  rw [← alloc_len w (.cells #[.int .i64 0, .int .i64 0] 274)]
  exact heap_alloc_new (w.alloc (.cells #[.int .i64 0, .int .i64 0] 274)) _
 have BB := (((B (.cells #[.int .i64 0, .int .i64 0] 274)).alloc (by simp) (.cells #[.int .i64 x, .int .i64 y] 274)).drew).drew
 clear c0 c1 h
 generalize ((w.alloc (.cells #[.int .i64 0, .int .i64 0] 274)).alloc (.cells #[.int .i64 x, .int .i64 y] 274)).drew = W at R X BB ⊢
 obtain ⟨q0, q1⟩ := cell_two R
 obtain ⟨f0, f1⟩ := froz_two R
 obtain ⟨y0, y1⟩ := cell_two X
 go_region_with (go_at_call 285
                 refine (twoOk_any x y _).mono ?_
                 rintro e w' ⟨rfl, hb⟩
                 replace R := row_keep hb R
                 replace X := row_keep hb X
                 replace BB := BB.trans (hb.mono BB.size)
                 clear q0 q1 hb y0 y1 f0 f1
                 obtain ⟨q0, q1⟩ := cell_two R
                 obtain ⟨f0, f1⟩ := froz_two R
                 obtain ⟨y0, y1⟩ := cell_two X)
 all_goals
  go_wp2
  refine bodyPost_ret (v := .tuple #[.agg #[.int .i64 x, .int .i64 y], .bool (okW x && okW y)]) (by simp [results, Tryz.results263, go_sem, q0, q1]) rfl ⟨rfl, ?_⟩
  exact (BB.setCell (Nat.le_refl _) _).setCell (Nat.le_refl _) _
def isL : List Int → Bool
 | [x, y] => okW x && okW y
 | _ => false
theorem isL_cases (xs : List Int) : isL xs = false ∨ ∃ x y, xs = [x, y] ∧ okW x = true ∧ okW y = true := by
 match xs with
 | [] => exact .inl rfl
 | [_] => exact .inl rfl
 | [x, y] =>
  cases h1 : okW x
  ·exact .inl (by simp [isL, h1])
  ·cases h2 : okW y
   ·exact .inl (by simp [isL, h2])
   ·exact .inr ⟨x, y, rfl, h1, h2⟩
 | _ :: _ :: _ :: _ => exact .inl rfl
theorem wordsOf_no (a : Option Addr) (xs : List Int) (cap : Nat) (w : World) (h : Reads w a xs) (hn : isL xs = false) :
    Calls Tryz.prog 263 #[.slice a xs.length cap] w fun e w' => ∃ x y : Int, e = .returned (.tuple #[.agg #[.int .i64 x, .int .i64 y], .bool false]) ∧ Below w.heap.size w w' := by
 match xs with
 | [x, y] =>
  refine (wordsOf_two a x y cap w h).mono ?_
  rintro e w' ⟨rfl, b⟩
  exact ⟨x, y, by simp only [isL] at hn; rw [hn], b⟩
 | [] => exact (wordsOf_not a 0 cap w (by simp)).mono fun e w' h => ⟨0, 0, h⟩
 | [_] => exact (wordsOf_not a 1 cap w (by simp)).mono fun e w' h => ⟨0, 0, h⟩
 | _ :: _ :: _ :: r => exact (wordsOf_not a (r.length + 1 + 1 + 1) cap w (by omega)).mono fun e w' h => ⟨0, 0, h⟩
theorem wordsOf_yes (a : Option Addr) (x y : Int) (cap : Nat) (w : World) (h : Reads w a [x, y]) (hx : okW x = true) (hy : okW y = true) :
    Calls Tryz.prog 263 #[.slice a 2 cap] w fun e w' => e = .returned (.tuple #[.agg #[.int .i64 x, .int .i64 y], .bool true]) ∧ Below w.heap.size w w' := by
 refine (wordsOf_two a x y cap w h).mono ?_
 rintro e w' ⟨rfl, b⟩
 exact ⟨by rw [hx, hy]; rfl, b⟩
theorem isL_yes {x y : Int} (hx : okW x = true) (hy : okW y = true) : isL [x, y] = true := by simp [isL, hx, hy]
theorem implLineOk_any (a : Option Addr) (xs : List Int) (cap : Nat) (w : World) (h : Reads w a xs) :
    Calls Tryz.prog 228 #[.slice a xs.length cap] w fun e w' => e = .returned (.bool (isL xs)) ∧ Below w.heap.size w w' := by
 rcases isL_cases xs with hn | ⟨x, y, rfl, hx, hy⟩
 ·go_enter Tryz.func228, Tryz.ntmps228
  go_wp2_with fail
  refine (wordsOf_no _ xs _ _ h hn).mono ?_
  rintro e w1 ⟨x, y, rfl, b1⟩
  go_wp2
  go_ret
  exact ⟨by rw [hn]; rfl, b1.alloc b1.size _⟩
 ·have hh := isL_yes hx hy
  go_enter Tryz.func228, Tryz.ntmps228
  go_wp2_with fail
  refine (wordsOf_yes _ x y _ _ h hx hy).mono ?_
  rintro e w1 ⟨rfl, b1⟩
  go_wp2
  go_ret
  exact ⟨by rw [hh]; rfl, b1.alloc b1.size _⟩
end Go.Proofs.YthnfkacboijneaaGreatDoor
