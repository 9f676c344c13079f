
/- Change, Classes, Copies, DrawLine, LastOp, LinesOk, Mems, Own. -/
import Derived.Test.YthbclkpmgcfdnaaGreatDoorJLists8CacheFacts
import Derived.Deep.QuietTactic
import Derived.OrdersIn
import Derived.TacticsIn
import Derived.Deep.OwnRows
import Derived.Deep.RegionWith
import Derived.BigRegion
import Derived.Test.YthbclkpmgcfdnaaGreatDoorRows
import Derived.WalkKit
import Derived.ProofKit
import Derived.OpenShut
import Derived.Below
import Derived.Laws.OwnMore
import Derived.ChangeArms
/- The contracts of With and Without, of the program and of the specification: both answer withI and withoutI at every set and number. No condition. -/
namespace Go.Proofs.YthbclkpmgcfdnaaGreatDoor
open Go.ChangeShapes Go.WideShapes Go.ChangeAt Go.RowKit
def orI (s i : Int) : Int := bits BinOp.or IntKind.i64 s (2 ^ i.toNat)
def andNotI (s i : Int) : Int := bits BinOp.andNot IntKind.i64 s (2 ^ i.toNat)
def withI (s i : Int) : Int := if setB s then (if itemB i then orI s i else s) else -1
def withoutI (s i : Int) : Int := if setB s then (if itemB i then andNotI s i else s) else -1

set_option maxHeartbeats 400000 in
theorem with_in (s i : Int) (w : World) (h5 : 0 ≤ i) (h6 : i ≤ 7) :
    Calls Tryz.prog 222 #[.int .i64 s, .int .i64 i] w fun e w' => e = .returned (.int .i64 (orI s i)) ∧ w' = w := by
  go_enter Tryz.func222, Tryz.ntmps222
  go_wp2_with (go_at_call 220; refine (bitOf_any _ _ h5 h6).mono ?_; rintro e w' ⟨rfl, rfl⟩)
  go_ret
  exact ⟨rfl, rfl⟩

set_option maxHeartbeats 400000 in
theorem without_in (s i : Int) (w : World) (h5 : 0 ≤ i) (h6 : i ≤ 7) :
    Calls Tryz.prog 221 #[.int .i64 s, .int .i64 i] w fun e w' => e = .returned (.int .i64 (andNotI s i)) ∧ w' = w := by
  go_enter Tryz.func221, Tryz.ntmps221
  go_wp2_with (go_at_call 220; refine (bitOf_any _ _ h5 h6).mono ?_; rintro e w' ⟨rfl, rfl⟩)
  go_ret
  exact ⟨rfl, rfl⟩




end Go.Proofs.YthbclkpmgcfdnaaGreatDoor
/- A region that draws its order and whose calls lay new memory: one walk, over a class of worlds. No program here. -/
namespace Go.Proofs.YthbclkpmgcfdnaaGreatDoor
open Go.RowKit
set_option linter.unusedVariables false
/-- The worlds of a class. -/
structure Cls (C : World → Prop) where
  w : World
  h : C w
theorem region_class {P : Program} {id : Nat} {Q : Exit → Act → World → Prop} {a : Act} {w : World} {l : List Oper} (C : World → Prop) (hm : P.follows .mixedOrders = true) (hB : Region.lexB .any l.toArray = true) (h0 : C w.drew)
    (h : Nonempty (Cls C) → wpQuiet P l.toArray (fun w' => ∃ n : Cls C, w' = n.w) (fun a' => ∀ w', C w' → Q .normal a' w') l a) : (Code.region id l.toArray true).wp P Q a w :=
  wp_region_quiet (C := fun w' => ∃ n : Cls C, w' = n.w) hm hB ⟨⟨w.drew, h0⟩, rfl⟩ (by
    have := h ⟨⟨w.drew, h0⟩⟩
    have e : (fun a' => ∀ w', C w' → Q .normal a' w') = (fun a' => ∀ w', (∃ n : Cls C, w' = n.w) → Q .normal a' w') := by
      funext a'
      exact propext ⟨fun h w' ⟨n, e⟩ => h w' (by rw [e]; exact n.h), fun h w' hc => h w' ⟨⟨w', hc⟩, rfl⟩⟩
    rw [e] at this
    simpa using this)
/- The same within a round of a range over a function. -/
def noDef (l : List Oper) : Bool := l.all fun o => match o.op with
  | .defer _ => false
  | _ => true
theorem noDef_at {l : List Oper} (h : noDef l = true) {o : Oper} (ho : o ∈ l) (c : Call) : o.op ≠ .defer c := fun e => by
  have := List.all_eq_true.1 h o ho
  rw [e] at this
  cases this
section
variable {P : Program} {C : World → Prop} {r : Nat}
theorem wpIn_of_quietR {o : Oper} {a : Act} {K : Act → Prop} {K' : Act → World → Prop} {Q' : Exit → Act → World → Prop} {w : World} (hdf : ∀ c, o.op ≠ .defer c) (hw : C w) (h : ∀ a w', C w' → K a → K' a w')
    (hh : o.quiet P a C K) : o.wpIn (Fence.wide.inRound r) 0 P a w K' Q' := by
  obtain ⟨v, h1, h2⟩ := hh
  have h3 := h1 w hw
  refine ⟨fun _ _ => trivial, ?_⟩
  show o.uponIn _ 0 P a K' Q' ((o.semAt (some r) a.eval).run P w)
  rw [Oper.semAt_some r a.eval o hdf]
  unfold Oper.quietAt at h3
  generalize (execOp a.eval o).run P w = x at h3
  cases x with
  | halt y w' => exact (show False from h3).elim
  | ok y w' =>
    cases y with
    | value u =>
      obtain ⟨rfl, rfl⟩ := (show w' = w ∧ u = v from h3)
      exact h _ _ hw h2
    | skip =>
      obtain ⟨rfl, rfl⟩ := (show w' = w ∧ v = undef from h3)
      exact h _ _ hw h2
    | enter f args =>
      obtain ⟨rfl, hc⟩ := (show w' = w ∧ Calls P f args w (fun e w'' => e = .returned v ∧ C w'') from h3)
      refine ⟨fun e => (by cases e), (callsIn_wide.2 hc).mono fun e w'' he => ?_⟩
      obtain ⟨rfl, hw''⟩ := he
      exact h _ _ hw'' h2
    | _ => exact (show False from h3).elim
theorem anyIn_of_quietR {l : List Oper} {md : Region.Mode} {Q : Act → Prop} {Q' : Exit → Act → World → Prop} (hdf : noDef l = true) (hQ : ∀ a w, C w → Q a → Q' .normal a w) : ∀ (fuel : Nat) (listed : Array Bool) (a : Act) (w : World), C w →
    wpAnyQ P md l.toArray C Q fuel listed a → wpAnyIn (Fence.wide.inRound r) 0 P md l.toArray Q' fuel listed a w
  | 0, _, _, _, hw, h => ⟨h.1, hQ _ _ hw h.2⟩
  | fuel + 1, listed, a, w, hw, h => by
    refine ⟨fun h0 => hQ _ _ hw (h.1 h0), fun i hi => ?_⟩
    have hq := h.2 i hi
    have ih : ∀ a' w', C w' → wpAnyQ P md l.toArray C Q fuel (listed.setIfInBounds i true) a' → wpAnyIn (Fence.wide.inRound r) 0 P md l.toArray Q' fuel (listed.setIfInBounds i true) a' w' := fun a' w' hw' => anyIn_of_quietR hdf hQ fuel _ a' w' hw'
    unfold qOp at hq
    unfold wpOpIn
    split
    · rename_i ho
      simp only [ho] at hq
      exact ih _ _ hw hq
    · rename_i o ho
      simp only [ho] at hq
      have hmem : o ∈ l := by
        simp at ho
        exact List.mem_of_getElem? ho
      by_cases hwt : Region.wanted o (yielded l.toArray a.tmps) = true
      · simp only [hwt, if_true] at hq ⊢
        exact wpIn_of_quietR (noDef_at hdf hmem) hw ih hq
      · simp only [hwt] at hq ⊢
        exact ⟨fun _ _ => trivial, ih _ _ hw hq⟩
end
theorem regionIn_class {P : Program} {id r : Nat} {Q : Exit → Act → World → Prop} {a : Act} {w : World} {l : List Oper} (C : World → Prop) (hm : P.follows .mixedOrders = true) (hB : Region.lexB .any l.toArray = true) (hdf : noDef l = true) (h0 : C w.drew)
    (h : Nonempty (Cls C) → wpQuiet P l.toArray (fun w' => ∃ n : Cls C, w' = n.w) (fun a' => ∀ w', C w' → Q .normal a' w') l a) : (Code.region id l.toArray true).wpIn (Fence.wide.inRound r) 0 P Q a w := by
  simp only [Region.lexB, Bool.and_eq_true] at hB
  refine wpIn_region_any hm (anyIn_of_quietR (C := fun w' => ∃ n : Cls C, w' = n.w) (Q := fun a' => ∀ w', C w' → Q .normal a' w') hdf (fun a' w' ⟨n, hn⟩ h => h w' (by rw [hn]; exact n.h)) _ _ _ _ ⟨⟨w.drew, h0⟩, rfl⟩ ?_)
  have := wpAnyQ_lex (P := P) (C := fun w' => ∃ n : Cls C, w' = n.w) (md := .any) hB.1 l 0 (Array.replicate l.toArray.size false) a (by simp) (by simpa using hB.2) (h ⟨⟨w.drew, h0⟩⟩)
  simpa using this
/-- An operation that is passed over: its guard says so. -/
theorem wpQuiet_skip {P : Program} {ops : Array Oper} {C : World → Prop} {Q : Act → Prop} {a : Act} {o : Oper} {rest : List Oper} {j : Nat} {b : Bool} {og : Oper} {d : Tmp} (ht : a.tmps[d]? = some (.bool (!b))) (hg : o.guard = some (j, b)) (ho : ops[j]? = some og) (hd : og.dst = some d)
    (hne : o.dst ≠ some d) (h : ∀ a', a' = a.put o.dst undef → a'.tmps[d]? = some (.bool (!b)) → wpQuiet P ops C Q rest a') : wpQuiet P ops C Q (o :: rest) a := by
  have hy : yielded ops a.tmps j = some (!b) := by
    unfold yielded
    simp [ho, hd, ht]
  have hw : Region.wanted o (yielded ops a.tmps) = false := by
    unfold Region.wanted
    simp [hg, hy]
  unfold wpQuiet
  rw [hw]
  refine h _ rfl ?_
  cases he : o.dst with
  | none => exact ht
  | some d' =>
    have : d' ≠ d := fun e => hne (by rw [he, e])
    show (a.tmps.setIfInBounds d' undef)[d]? = _
    rw [Array.getElem?_setIfInBounds_ne this]
    exact ht
theorem hid_act (K : Act → Prop) (a : Act) (h : ∀ A, A = a → K A) : K a := h a rfl
theorem calls_class {P : Program} {f : FuncId} {args : Array Value} {C : World → Prop} {n : Cls C} {v : Value} {R : World → Prop} (h : Calls P f args n.w fun e w' => e = .returned v ∧ R w') (hs : ∀ w', C n.w → R w' → C w') :
    Calls P f args n.w fun e w'' => e = .returned v ∧ ∃ m : Cls C, w'' = m.w := h.mono fun _ w' ⟨he, hr⟩ => ⟨he, ⟨w', hs w' n.h hr⟩, rfl⟩
theorem calls_class_same {P : Program} {f : FuncId} {args : Array Value} {C : World → Prop} {n : Cls C} {v : Value} (h : Calls P f args n.w fun e w' => e = .returned v ∧ w' = n.w) :
    Calls P f args n.w fun e w'' => e = .returned v ∧ ∃ m : Cls C, w'' = m.w := h.mono fun _ w' ⟨he, hr⟩ => ⟨he, n, hr⟩
end Go.Proofs.YthbclkpmgcfdnaaGreatDoor
/- The contracts of the copies of a list of numbers, of the laws and of the specification: a new slice that holds the same numbers; nothing that was there is changed. Conditions: at most 2^20 numbers. -/
namespace Go.Proofs.YthbclkpmgcfdnaaGreatDoor
open Go.ChangeShapes Go.WideShapes Go.ChangeAt Go.RowKit
theorem Tryz.infoI : (Tryz.prog.info? 2).map (fun i => (i.zero, i.size, i.bytes)) = some (some (.int .i64 0), 1, 8) := by kernel_rfl
def OwnI (B : Nat) (w : World) (g cap : Nat) (zs : List Int) : Prop :=
  w.ownsRow B 2 1 (.slice (some ⟨g, 0, none⟩) zs.length cap) zs.length (zs.map (Value.int .i64))
def Made (w w' : World) (v : Value) (zs : List Int) : Prop :=
  ∃ g cap, v = .slice (some ⟨g, 0, none⟩) zs.length cap ∧ w.heap.size ≤ g ∧ g < w'.heap.size ∧ OwnI w.heap.size w' g cap zs ∧ Below w.heap.size w w'
theorem owni_grown {B g cap r : Nat} {w w' : World} {zs : List Int} (h : OwnI B w g cap zs) (hb : w.grownBy w' (some r)) (hg : g ≠ r) : OwnI B w' g cap zs := own_grown h hb hg
theorem owni_lt {B g cap : Nat} {w : World} {zs : List Int} (h : OwnI B w g cap zs) : B ≤ g ∧ g < w.heap.size := h.lt g rfl
theorem owni_lit (w : World) (cs : Array Value) (zs : List Int) (h : cs.toList = zs.map (Value.int .i64)) (hm : zs.length ≤ maxLen) : OwnI w.heap.size (w.alloc (.cells cs 2)) w.heap.size zs.length zs := by
  have hs : cs.size = zs.length := by rw [← Array.length_toList, h]; simp
  have := World.ownsRow_lit (base := w.heap.size) (e := 2) (size := 1) w cs zs.length (Nat.le_refl _) hm (by simpa using hs)
  rw [h] at this
  exact this
theorem made_lit (w : World) (cs : Array Value) (zs : List Int) (h : cs.toList = zs.map (Value.int .i64)) (hm : zs.length ≤ maxLen) : Made w (w.alloc (.cells cs 2)) (.slice (some ⟨w.heap.size, 0, none⟩) zs.length zs.length) zs :=
  ⟨_, _, rfl, Nat.le_refl _, by simp, owni_lit w cs zs h hm, (Below.refl _ _).alloc (Nat.le_refl _) _⟩
theorem made_step {w w1 w2 : World} {v : Value} {zs : List Int} (h : Below w.heap.size w w1) (h2 : Made w1 w2 v zs) : Made w w2 v zs := by
  obtain ⟨g, cap, rfl, h3, h4, h5, h6⟩ := h2
  refine ⟨g, cap, rfl, Nat.le_trans h.size h3, h4, ?_, below_step h h6⟩
  refine ⟨h5.1, ?_⟩
  rcases h5.2 with h' | ⟨g', cap', cur, h', hb, rest⟩
  · exact .inl h'
  · exact .inr ⟨g', cap', cur, h', Nat.le_trans h.size hb, rest⟩
theorem take_step (j : Nat) (xs : List Int) (ys : List Value) (h : j < xs.length) (h2 : j < ys.length) :
    ((xs.take j).map (Value.int .i64) ++ ys.drop j).set j (.int .i64 xs[j]) = (xs.take (j + 1)).map (Value.int .i64) ++ ys.drop (j + 1) := by
  have hl : ((xs.take j).map (Value.int .i64)).length = j := by simp; omega
  rw [List.set_append_right _ _ (by omega), hl, Nat.sub_self, List.drop_eq_getElem_cons h2, List.take_add_one, List.getElem?_eq_getElem h]
  simp only [List.set_cons_zero, List.map_append, List.map_cons, List.map_nil, List.append_assoc, List.cons_append, List.nil_append, Option.toList_some]

set_option maxHeartbeats 1000000 in
theorem toInts_any (a : Option Addr) (xs : List Int) (cap : Nat) (w : World) (h : Reads w a xs) (hm : xs.length ≤ 1048576) :
    Calls Tryz.prog 88 #[.slice a xs.length cap] w fun e w' => ∃ v, e = .returned v ∧ Made w w' v xs := by
  obtain ⟨i0, hi, hz0, hz1, hz2⟩ := info_parts Tryz.infoI
  have hmk := Go.run_make_row' (P := Tryz.prog) 25 2 (.int .i64 0) 8 Tryz.underlying25 Tryz.infoI rfl .i64 .i64 xs.length (by omega) (by omega)
  go_enter Tryz.func88, Tryz.ntmps88
  go_wp2
  go_loopw [4] (fun i wr => ∃ k : Nat, k ≤ xs.length ∧ i = .int .i64 k ∧ wr.ownsRow w.heap.size 2 1 (.slice (some ⟨w.heap.size, 0, none⟩) xs.length xs.length) xs.length ((xs.take k).map (Value.int .i64) ++ (madeCells #[.int .i64 0] xs.length).toList.drop k) ∧ Below w.heap.size w wr)
    (fun i _ => xs.length - (intOf i).toNat)
  case atStart => exact ⟨0, Nat.zero_le _, rfl, by simpa using World.ownsRow_lit (base := w.heap.size) (e := 2) (size := 1) w (madeCells #[.int .i64 0] xs.length) xs.length (Nat.le_refl _) (by unfold maxLen; omega) (by simp [size_madeCells]), (Below.refl _ _).alloc (Nat.le_refl _) _⟩
  case round =>
    obtain ⟨k, hk, rfl, hr, hb⟩ := hrel
    by_cases hlt : k < xs.length
    · rcases h with rfl | ⟨b, off, rfl, hc⟩
      · simp at hlt
      have hlt' : (k : Int) < (xs.length : Int) := by omega
      have g0 := hc k hlt
      have g1 := (hb.cell (World.block_lt_of_cell? w ⟨b, off + k, none⟩ g0)).trans g0
      have hfz := hr.frozenAt k
      obtain ⟨v0, hv0⟩ : ∃ v0, wr.cell? ⟨w.heap.size, k, none⟩ = some v0 := by
        rw [hr.cellAt k (by omega)]
        exact ⟨_, List.getElem?_eq_getElem (by have := hr.1; omega)⟩
      have R := hr.stored k (.int .i64 xs[k])
      rw [take_step k xs _ hlt (by simp [size_madeCells]; omega)] at R
      have HR : Hid _ := R
      clear R hc
      go_wp2
      go_roundw
      case rel => exact ⟨k + 1, by omega, by go_num, HR.out.1, hb.grown HR.out.2 hb.size (by intro j hj; cases hj; exact Nat.le_refl _)⟩
      case measure => simp [intOf]; omega
    · have hkl : k = xs.length := by omega
      subst hkl
      go_wp2
      go_ret
      refine ⟨_, rfl, w.heap.size, xs.length, rfl, Nat.le_refl _, (hr.lt _ rfl).2, ?_, hb⟩
      rw [List.take_length, List.drop_of_length_le (by simp [size_madeCells]), List.append_nil] at hr
      exact hr
theorem made_app {w w1 : World} {v' : Value} {o : Obj} {xs : List Int} (h : w1.ownsRow w.heap.size 2 1 v' xs.length (xs.map (Value.int .i64)))
    (hg : (w.alloc o).grownBy w1 (Value.slice (some ⟨w.heap.size, 0, none⟩) 0 0).ownBlock) (hv : v' ≠ .slice none 0 0) : Made w w1 v' xs := by
  rcases h.2 with ⟨rfl, _⟩ | ⟨g, cap, cur, rfl, hb, hh, rest⟩
  · exact absurd rfl hv
  refine ⟨g, cap, rfl, hb, (Array.getElem?_eq_some_iff.1 hh).1, h, ((Below.refl _ _).alloc (Nat.le_refl _) _).grown hg (by simp) ?_⟩
  intro k hk
  simp [Value.ownBlock] at hk
  omega
set_option maxHeartbeats 1000000 in
theorem l1Copy_any (a : Addr) (xs : List Int) (cap : Nat) (w : World) (h : Reads w (some a) xs) (hm : xs.length ≤ 1048576) :
    Calls Tryz.prog 123 #[.slice (some a) xs.length cap] w fun e w' => ∃ v, e = .returned v ∧ Made w w' v xs := by
  obtain ⟨i0, hi, hz0, hz1, hz2⟩ := info_parts Tryz.infoI
  have hown : (w.alloc (.cells #[] 2)).ownsRow w.heap.size 2 1 (.slice (some ⟨w.heap.size, 0, none⟩) 0 0) 0 [] := World.ownsRow_lit _ #[] 0 (Nat.le_refl _) (Nat.zero_le _) rfl
  go_enter Tryz.func123, Tryz.ntmps123
  go_wp2_with (at_builtin; refine wpList_append_own _ rfl _ _ 25 rfl w.heap.size 2 i0 (.int .i64 0) 1 8 Tryz.underlying25 hi hz0 hz1 hz2 rfl (by decide) _ _ _ rfl hown a xs.length cap (xs.map (Value.int .i64)) rfl (by simp) ?c1 ?c2 ?c3 ?c4 ?c5 ?_)
  case c1 =>
    intro j u hj
    obtain ⟨hjl, rfl⟩ := List.getElem?_eq_some_iff.1 hj
    simp at hjl
    rcases h with rfl | ⟨b, off, ha, hc⟩
    · simp at hjl
    simp only [Option.some.injEq] at ha
    subst ha
    have g0 := hc j hjl
    rw [show (⟨b, off, none⟩ : Addr).add j = ⟨b, off + j, none⟩ from by simp [Addr.add], World.cell?_alloc_past _ _ _ (World.block_lt_of_cell? w _ g0), g0]
    simp [List.getD_eq_getElem?_getD, hjl]
  case c2 => intro u hu; simp at hu; obtain ⟨x, _, rfl⟩ := hu; rfl
  case c3 => unfold maxLen; omega
  case c4 => omega
  case c5 => simp
  · intro v' w1 hown' hgrow hnil
    have hv : v' ≠ .slice none 0 0 := hnil
    have HO : Hid (Made w w1 v' xs) := made_app hown' hgrow hv
    clear hown' hgrow hnil hown
    go_wp2
    go_ret
    exact ⟨_, rfl, HO.out⟩
end Go.Proofs.YthbclkpmgcfdnaaGreatDoor
/- The contracts of the draws of a line: some list of at most three numbers is drawn, in new memory, and nothing that was there turns but the cursor. Conditions: the bytes are at most 2^61. -/
namespace Go.Proofs.YthbclkpmgcfdnaaGreatDoor
open Go.ChangeShapes Go.WideShapes Go.ChangeAt Go.RowKit
theorem owni_mono {B B' g cap : Nat} {w : World} {zs : List Int} (h : OwnI B w g cap zs) (hb : B' ≤ B) : OwnI B' w g cap zs := by
  refine ⟨h.1, ?_⟩
  rcases h.2 with h' | ⟨g', cap', cur, h', hg, rest⟩
  · exact .inl h'
  · exact .inr ⟨g', cap', cur, h', Nat.le_trans hb hg, rest⟩
theorem owni_one {B g cap : Nat} {w : World} {x y : Int} (h : OwnI B w g cap [x, y]) : OwnI B w g cap [x] := by
  refine ⟨rfl, ?_⟩
  rcases h.2 with ⟨h', _⟩ | ⟨g', cap', cur, h', hg, hh, h1, h2, h3, h4⟩
  · simp at h'
  · simp only [Value.slice.injEq, Option.some.injEq, Addr.mk.injEq, and_true, true_and] at h'
    obtain ⟨rfl, rfl⟩ := h'
    refine .inr ⟨g, cap, cur, rfl, hg, hh, by simp at h1 ⊢; omega, h2, h3, ?_⟩
    have := congrArg (List.take 1) h4
    rw [List.take_take] at this
    simpa using this
theorem cur_grown {B g r : Nat} {w w' : World} (h : Cur B w g) (hg : w.grownBy w' (some r)) (hB : B ≤ r) (hne : r ≠ g) : Cur B w' g := by
  obtain ⟨hBg, a, len, cap, zs, i, hh, hi, hblk, hby⟩ := h
  exact ⟨hBg, a, len, cap, zs, i, hh, hi, (hg.block g (Array.getElem?_eq_some_iff.1 hblk).1 (by simp; omega)).trans hblk, bytes_of hby hg hB⟩
theorem grown_new {w a b : World} {g r : Nat} (h : w.grownBy a (some g)) (k : a.grownBy b (some r)) (hr : w.heap.size ≤ r) : w.grownBy b (some g) :=
  ⟨k.os.trans h.os, k.tape.trans h.tape, k.output.trans h.output, Nat.le_trans h.size k.size, fun j hj hne => (k.block j (Nat.lt_of_lt_of_le hj h.size) (by simp; omega)).trans (h.block j hj hne)⟩
theorem owni_alloc {B g cap : Nat} {w : World} {zs : List Int} (h : OwnI B w g cap zs) (o : Obj) : OwnI B (w.alloc o) g cap zs := World.ownsRow.alloc h o
def Drew (B g : Nat) (w w' : World) (v : Value) (xs : List Int) : Prop :=
  ∃ gl cap, v = .slice (some ⟨gl, 0, none⟩) xs.length cap ∧ w.heap.size ≤ gl ∧ OwnI w.heap.size w' gl cap xs ∧ Cur B w' g ∧ w.grownBy w' (some g)

set_option maxHeartbeats 1000000 in
theorem l3DrawLine_any (B g : Nat) (w : World) (hcur : Cur B w g) :
    Calls Tryz.prog 75 #[.pointer (some ⟨g, 0, none⟩)] w fun e w' => ∃ gl x y, e = .returned (.slice (some ⟨gl, 0, none⟩) 2 2) ∧ w.heap.size ≤ gl ∧ OwnI w.heap.size w' gl 2 [x, y] ∧ Cur B w' g ∧ w.grownBy w' (some g) := by
  go_enter Tryz.func75, Tryz.ntmps75
  go_wp2_with fail
  refine (l1Below_small B g 30 _ hcur (by omega) (by omega)).mono ?_
  rintro e w1 ⟨x, rfl, hx0, hx1, hc1, hg1⟩
  go_wp2_with fail
  refine (l1Below_small B g 30 _ hc1 (by omega) (by omega)).mono ?_
  rintro e w2 ⟨y, rfl, hy0, hy1, hc2, hg2⟩
  go_wp2
  go_ret
  have G := grown_trans hg1 hg2
  have O := owni_lit w2 #[.int .i64 x, .int .i64 y] [x, y] rfl (by unfold maxLen; simp)
  exact ⟨w2.heap.size, x, y, rfl, G.size, owni_mono O G.size, cur_alloc hc2 _, grown_trans G (World.grownBy_alloc _ _ _)⟩
set_option maxHeartbeats 1000000 in
theorem l3DrawAny_any (B g : Nat) (w : World) (hcur : Cur B w g) :
    Calls Tryz.prog 138 #[.pointer (some ⟨g, 0, none⟩)] w fun e w' => ∃ v xs, e = .returned v ∧ xs.length ≤ 3 ∧ Drew B g w w' v xs := by
  have hgw := cur_lt hcur
  go_enter Tryz.func138, Tryz.ntmps138
  go_wp2_with fail
  refine (l3DrawLine_any B g _ hcur).mono ?_
  rintro e w1 ⟨gl, x, y, rfl, l1, o1, hc1, hg1⟩
  have hne : gl ≠ g := by omega
  go_wp2_with fail
  refine (l1Once_small B g 8 _ hc1 (by omega) (by omega)).mono ?_
  rintro e w2 ⟨b, rfl, hc2, hg2⟩
  replace o1 := owni_grown o1 hg2 hne
  replace hg1 := grown_trans hg1 hg2
  clear hg2 hc1
  cases b
  · go_wp2
    go_ret
    exact ⟨_, [x, y], rfl, by simp, gl, 2, rfl, l1, o1, hc2, hg1⟩
  · go_wp2_with fail
    refine (l1Below_small B g 3 _ hc2 (by omega) (by omega)).mono ?_
    rintro e w3 ⟨k, rfl, hk0, hk1, hc3, hg3⟩
    replace o1 := owni_grown o1 hg3 hne
    replace hg1 := grown_trans hg1 hg3
    clear hg3 hc2
    obtain rfl | rfl | rfl : k = 0 ∨ k = 1 ∨ k = 2 := by omega
    · have hgs := cur_lt hc3
      go_wp2_with fail
      refine (l1Below_small B g _ _ (cur_alloc hc3 _) (by omega) (by omega)).mono ?_
      rintro e w4 ⟨k, rfl, hk0, hk1, hc4, hg4⟩
      obtain ⟨v, hv⟩ := lit_cell (n := 3) hg4 hgs k hk0 hk1 (by
        intro j hj
        obtain rfl | rfl | rfl : j = 0 ∨ j = 1 ∨ j = 2 := by omega
        all_goals exact ⟨_, rfl⟩)
      have o4 : OwnI w.heap.size w4 gl 2 [x, y] := owni_grown (owni_alloc o1 _) hg4 hne
      have G4 := grown_trans (grown_trans hg1 (World.grownBy_alloc _ _ _)) hg4
      have c0 : w4.cell? ⟨gl, 0, none⟩ = some (.int .i64 x) := by rw [World.ownsRow.cellAt o4 0 (by simp)]; rfl
      have f0 : w4.frozen? ⟨gl, 0, none⟩ = false := World.ownsRow.frozenAt o4 0
      have S := World.ownsRow.stored o4 0 (.int .i64 v)
      have HD : Hid (OwnI w.heap.size (w4.setCell ⟨gl, 0, none⟩ (.int .i64 v)) gl 2 [v, y] ∧ Cur B (w4.setCell ⟨gl, 0, none⟩ (.int .i64 v)) g ∧ w.grownBy (w4.setCell ⟨gl, 0, none⟩ (.int .i64 v)) (some g)) :=
        ⟨S.1, cur_grown hc4 S.2 (by have := hcur.1; omega) hne, grown_new G4 S.2 l1⟩
      clear S o4 G4 hc4 hg4 o1 hg1 hc3
      go_wp2
      go_ret
      exact ⟨_, [v, y], rfl, by simp, gl, 2, rfl, l1, HD.out.1, HD.out.2.1, HD.out.2.2⟩
    · go_wp2_with fail
      go_ret
      exact ⟨_, [x], rfl, by simp, gl, 2, rfl, l1, owni_one o1, hc3, hg1⟩
    · obtain ⟨i0, hi, hz0, hz1, hz2⟩ := info_parts Tryz.infoI
      go_wp2_with (at_builtin; refine wpList_append_own _ rfl _ _ 25 rfl w.heap.size 2 i0 (.int .i64 0) 1 8 Tryz.underlying25 hi hz0 hz1 hz2 rfl (by decide) _ _ _ rfl (o1.alloc _) ⟨_, 0, none⟩ 1 1 [.int .i64 0] rfl rfl ?c1 ?c2 ?c3 ?c4 ?c5 ?_)
      case c1 =>
        intro j u hj
        match j, hj with
        | 0, hj => simp at hj; subst hj; simp [Addr.add]
      case c2 => intro u hu; simp at hu; subst hu; rfl
      case c3 => unfold maxLen; simp
      case c4 => simp
      case c5 => have := hg1.size; simp; omega
      · intro v' w4 hown hgr hnil
        have HD : Hid (∃ gn cn, v' = .slice (some ⟨gn, 0, none⟩) 3 cn ∧ w.heap.size ≤ gn ∧ OwnI w.heap.size w4 gn cn [x, y, 0] ∧ Cur B w4 g ∧ w.grownBy w4 (some g)) := by
          have hgr' : (w3.alloc (.cells #[.int .i64 0] 2)).grownBy w4 (some gl) := hgr
          rcases hown.2 with ⟨h', _⟩ | ⟨gn, cn, cur, rfl, hb, hh, rest⟩
          · exact absurd h' hnil
          · exact ⟨gn, cn, rfl, hb, hown, cur_grown (cur_alloc hc3 _) hgr' (by have := hcur.1; omega) (by omega), grown_new (grown_trans hg1 (World.grownBy_alloc _ _ _)) hgr' l1⟩
        clear hown hgr hnil
        go_wp2
        go_ret
        obtain ⟨gn, cn, rfl, h1, h2, h3, h4⟩ := HD.out
        exact ⟨_, [x, y, 0], rfl, by simp, gn, cn, rfl, h1, h2, h3, h4⟩
end Go.Proofs.YthbclkpmgcfdnaaGreatDoor
/- A region that draws its order and whose last operation waits for all others: one walk over a class of worlds for all but the last, then the last one by itself. No program here. -/
namespace Go.Proofs.YthbclkpmgcfdnaaGreatDoor
open Go.RowKit
set_option linter.unusedVariables false
/-- What stands in the last one's place while the others are walked: it yields a constant. -/
def idle (o : Oper) : Oper := { o with op := .move (.const (.bool false)) }
def lastO : List Oper → Oper
  | [] => { dst := none, op := .move (.const (.bool false)), type := 0, pos := "", after := #[], guard := none }
  | [o] => o
  | _ :: o :: r => lastO (o :: r)
theorem lastO_eq : ∀ {l : List Oper}, l ≠ [] → l.dropLast ++ [lastO l] = l
  | [], h => (h rfl).elim
  | [o], _ => rfl
  | p :: o :: r, _ => by
    have := lastO_eq (l := o :: r) (by simp)
    rw [List.dropLast_cons_of_ne_nil (by simp), List.cons_append, lastO, this]
def lastOk (l : List Oper) (o : Oper) : Bool :=
  (List.range l.length).all (fun i => o.after.any (fun e => e.on == i && Region.binds .any e)) && (List.range (l.length + 1)).all (fun i => match (l ++ [o])[i]? with
    | none => true
    | some p => p.after.all (fun e => decide (e.on < i))) && o.guard.isNone && o.dst.isNone
section
variable {P : Program} {C : World → Prop} {l : List Oper} {o : Oper}
theorem ops_ne {i : Nat} (h : i ≠ l.length) : (l ++ [idle o]).toArray[i]? = (l ++ [o]).toArray[i]? := by
  simp only [List.getElem?_toArray, List.getElem?_append]
  by_cases hi : i < l.length
  · rw [if_pos hi, if_pos hi]
  · rw [if_neg hi, if_neg hi, List.getElem?_eq_none (by simp; omega), List.getElem?_eq_none (by simp; omega)]
theorem ops_at (p : Oper) : (l ++ [p]).toArray[l.length]? = some p := by simp
theorem ready_idle {listed : Array Bool} {j : Nat} : j ∈ Region.ready .any (l ++ [idle o]).toArray listed ↔ j ∈ Region.ready .any (l ++ [o]).toArray listed := by
  rw [mem_ready, mem_ready]
  by_cases h : j = l.length
  · subst h
    rw [ops_at, ops_at]
    constructor
    · rintro ⟨h1, p, hp, h2⟩
      cases hp
      exact ⟨h1, o, rfl, h2⟩
    · rintro ⟨h1, p, hp, h2⟩
      cases hp
      exact ⟨h1, idle o, rfl, h2⟩
  · rw [ops_ne h]
theorem yielded_idle (ts : Array Value) : yielded (l ++ [idle o]).toArray ts = yielded (l ++ [o]).toArray ts := by
  funext j
  unfold yielded
  by_cases h : j = l.length
  · subst h
    rw [ops_at, ops_at]
    rfl
  · rw [ops_ne h]
theorem ready_some {listed : Array Bool} (hL : lastOk l o = true) (hs : listed.size = l.length + 1) (hn : listed.getD l.length true = false) : ∃ j, j ∈ Region.ready .any (l ++ [o]).toArray listed := by
  simp only [lastOk, Bool.and_eq_true, List.all_eq_true, List.mem_range] at hL
  obtain ⟨⟨⟨-, h2⟩, -⟩, -⟩ := hL
  have key : ∀ k, k ≤ l.length → (∀ i, i < k → listed.getD i true = true) → ∃ j, j ∈ Region.ready .any (l ++ [o]).toArray listed := by
    intro k
    induction h : l.length - k generalizing k with
    | zero =>
      intro hk hall
      have e : k = l.length := by omega
      subst e
      refine ⟨l.length, mem_ready.2 ⟨hn, o, ops_at o, fun e he _ => ?_⟩⟩
      have h3 := h2 l.length (by omega)
      rw [show (l ++ [o])[l.length]? = some o from by simp] at h3
      have h4 := Array.all_eq_true_iff_forall_mem.1 h3 e he
      simp only [decide_eq_true_eq] at h4
      have h5 := hall e.on h4
      rw [Array.getD_eq_getD_getElem?, Array.getElem?_eq_getElem (by omega)] at h5 ⊢
      exact h5
    | succ m ih =>
      intro hk hall
      by_cases hu : listed.getD k true = true
      · exact ih (k + 1) (by omega) (by omega) fun i hi => by
          by_cases hik : i = k
          · rw [hik]
            exact hu
          · exact hall i (by omega)
      · have hkl : k < (l ++ [o]).length := by simp; omega
        refine ⟨k, mem_ready.2 ⟨by simpa using hu, (l ++ [o])[k], by simp [List.getElem?_eq_getElem hkl], fun e he _ => ?_⟩⟩
        have h3 := h2 k (by simp at hkl; omega)
        rw [List.getElem?_eq_getElem hkl] at h3
        have h4 := Array.all_eq_true_iff_forall_mem.1 h3 e he
        simp only [decide_eq_true_eq] at h4
        have h5 := hall e.on h4
        rw [Array.getD_eq_getD_getElem?, Array.getElem?_eq_getElem (by simp at hkl; omega)] at h5 ⊢
        exact h5
  exact key 0 (Nat.zero_le _) (fun i hi => by omega)
theorem ready_over {listed : Array Bool} (hL : lastOk l o = true) (hs : listed.size = l.length + 1) (hr : l.length ∈ Region.ready .any (l ++ [o]).toArray listed) : Region.ready .any (l ++ [o]).toArray (listed.setIfInBounds l.length true) = [] := by
  simp only [lastOk, Bool.and_eq_true, List.all_eq_true, List.mem_range] at hL
  obtain ⟨⟨⟨h1, -⟩, -⟩, -⟩ := hL
  obtain ⟨hn, p, hp, hall⟩ := mem_ready.1 hr
  rw [ops_at] at hp
  cases hp
  refine List.eq_nil_iff_forall_not_mem.2 fun j hj => ?_
  obtain ⟨hj1, -⟩ := mem_ready.1 hj
  by_cases hjn : j = l.length
  · subst hjn
    rw [Array.getD_eq_getD_getElem?, Array.getElem?_setIfInBounds_self_of_lt (by omega)] at hj1
    simp at hj1
  · rw [Array.getD_eq_getD_getElem?, Array.getElem?_setIfInBounds_ne (by omega)] at hj1
    by_cases hjl : j < l.length
    · obtain ⟨i, hi, heq⟩ := Array.any_eq_true.1 (h1 j hjl)
      have he := Array.getElem_mem hi
      simp only [Bool.and_eq_true, beq_iff_eq] at heq
      have h5 := hall _ he heq.2
      rw [heq.1, Array.getD_eq_getD_getElem?] at h5
      rw [Array.getElem?_eq_getElem (by omega)] at h5 hj1
      simp at h5 hj1
      rw [h5] at hj1
      cases hj1
    · rw [Array.getElem?_eq_none (by omega)] at hj1
      simp at hj1
theorem wpAny_last {Q : Act → Prop} {Q' : Exit → Act → World → Prop} (hL : lastOk l o = true) (hQ : ∀ a w, C w → Q a → o.wp P a w (fun a' w' => Q' .normal a' w') Q') : ∀ (fuel : Nat) (listed : Array Bool) (a : Act) (w : World), C w → listed.size = l.length + 1 → listed.getD l.length true = false →
    wpAnyQ P .any (l ++ [idle o]).toArray C Q fuel listed a → wpAny P .any (l ++ [o]).toArray Q' fuel listed a w := by
  have hg : o.guard = none ∧ o.dst = none := by
    simp only [lastOk, Bool.and_eq_true] at hL
    exact ⟨Option.isNone_iff_eq_none.1 hL.1.2, Option.isNone_iff_eq_none.1 hL.2⟩
  intro fuel
  induction fuel with
  | zero =>
    intro listed a w hw hs hn h
    obtain ⟨j, hj⟩ := ready_some hL hs hn
    rw [← ready_idle, h.1] at hj
    cases hj
  | succ fuel ih =>
    intro listed a w hw hs hn h
    refine ⟨fun h0 => ?_, fun i hi => ?_⟩
    · obtain ⟨j, hj⟩ := ready_some hL hs hn
      rw [h0] at hj
      cases hj
    · have hq := h.2 i (ready_idle.2 hi)
      by_cases hin : i = l.length
      · subst hin
        have hover := ready_over hL hs hi
        have hover' : Region.ready .any (l ++ [idle o]).toArray (listed.setIfInBounds l.length true) = [] := List.eq_nil_iff_forall_not_mem.2 fun j hj => by
          rw [ready_idle, hover] at hj
          cases hj
        have hqa : Q a := by
          unfold qOp at hq
          rw [ops_at] at hq
          have hwt : Region.wanted (idle o) (yielded (l ++ [idle o]).toArray a.tmps) = true := by
            unfold Region.wanted
            simp [idle, hg.1]
          simp only [hwt, if_true] at hq
          obtain ⟨v, -, hk⟩ := hq
          have e : a.put (idle o).dst v = a := by
            have : (idle o).dst = none := hg.2
            rw [this]
            rfl
          rw [e] at hk
          cases fuel with
          | zero => exact hk.2
          | succ f => exact hk.1 hover'
        unfold wpOp
        rw [ops_at]
        have hwt : Region.wanted o (yielded (l ++ [o]).toArray a.tmps) = true := by
          unfold Region.wanted
          simp [hg.1]
        simp only [hwt, if_true]
        refine .inl (Oper.wp_mono (fun a' w' h' => ?_) (hQ a w hw hqa))
        cases fuel with
        | zero => exact ⟨hover, h'⟩
        | succ f => exact ⟨fun _ => h', fun j hj => by rw [hover] at hj; cases hj⟩
      · refine wpOp_of_qOp (C := C) hw (fun a' w' hw' hk => ih (listed.setIfInBounds i true) a' w' hw' (by simpa using hs) (by rw [Array.getD_eq_getD_getElem?, Array.getElem?_setIfInBounds_ne hin, ← Array.getD_eq_getD_getElem?]; exact hn) hk) ?_
        unfold qOp at hq ⊢
        rw [ops_ne hin, yielded_idle] at hq
        exact hq
theorem wpQuiet_idle {ops : Array Oper} {Q : Act → Prop} (hg : o.guard = none ∧ o.dst = none) : ∀ (l : List Oper) (a : Act), wpQuiet P ops C Q l a → wpQuiet P ops C Q (l ++ [idle o]) a
  | [], a, h => by
    have hwt : Region.wanted (idle o) (yielded ops a.tmps) = true := by
      unfold Region.wanted
      simp [idle, hg.1]
    show if Region.wanted (idle o) (yielded ops a.tmps) then (idle o).quiet P a C (wpQuiet P ops C Q []) else _
    rw [if_pos hwt]
    refine ⟨.bool false, fun w hw => ?_, ?_⟩
    · unfold Oper.quietAt
      simp [idle, execOp, go_sem, Oper.quietUpon]
    · have : (idle o).dst = none := hg.2
      rw [this]
      exact h
  | p :: l, a, h => by
    unfold wpQuiet at h
    show wpQuiet P ops C Q (p :: (l ++ [idle o])) a
    unfold wpQuiet
    split
    · rename_i hwt
      rw [if_pos hwt] at h
      exact Oper.quiet_mono (fun a' h' => wpQuiet_idle hg l a' h') h
    · rename_i hwt
      rw [if_neg hwt] at h
      exact wpQuiet_idle hg l _ h
theorem region_last {id : Nat} {Q : Exit → Act → World → Prop} {a : Act} {w : World} {ll : List Oper} (C : World → Prop) (hm : P.follows .mixedOrders = true) (hB : Region.lexB .any (ll.dropLast ++ [idle (lastO ll)]).toArray = true) (hL : lastOk ll.dropLast (lastO ll) = true) (hne : ll ≠ []) (h0 : C w.drew)
    (h : Nonempty (Cls C) → wpQuiet P (ll.dropLast ++ [idle (lastO ll)]).toArray (fun w' => ∃ n : Cls C, w' = n.w) (fun a' => ∀ w', C w' → (lastO ll).wp P a' w' (fun a'' w'' => Q .normal a'' w'') Q) ll.dropLast a) : (Code.region id ll.toArray true).wp P Q a w := by
  have hg : (lastO ll).guard = none ∧ (lastO ll).dst = none := by
    simp only [lastOk, Bool.and_eq_true] at hL
    exact ⟨Option.isNone_iff_eq_none.1 hL.1.2, Option.isNone_iff_eq_none.1 hL.2⟩
  simp only [Region.lexB, Bool.and_eq_true] at hB
  have hq := wpQuiet_idle hg _ _ (h ⟨⟨w.drew, h0⟩⟩)
  have h1 := wpAnyQ_lex (P := P) (C := fun w' => ∃ n : Cls C, w' = n.w) (md := .any) hB.1 (ll.dropLast ++ [idle (lastO ll)]) 0 (Array.replicate (ll.dropLast ++ [idle (lastO ll)]).toArray.size false) a (by simp) (by simpa using hB.2) hq
  have h2 := wpAny_last (P := P) (C := fun w' => ∃ n : Cls C, w' = n.w) (Q' := Q) hL (fun a' w' hw' hQ => hQ w' (by obtain ⟨n, e⟩ := hw'; rw [e]; exact n.h)) _ _ a w.drew ⟨⟨w.drew, h0⟩, rfl⟩ (by simp) (by simp) h1
  rw [lastO_eq hne] at h2
  refine wp_region_any hm ?_
  have e1 : (ll.dropLast ++ [idle (lastO ll)]).length = ll.length := by
    have := congrArg List.length (lastO_eq hne)
    simpa using this
  simpa [e1] using h2
end
end Go.Proofs.YthbclkpmgcfdnaaGreatDoor
/- The contract of the test whether there may be so many lines. No condition. -/
namespace Go.Proofs.YthbclkpmgcfdnaaGreatDoor
open Go.ChangeShapes Go.WideShapes Go.ChangeAt Go.RowKit
end Go.Proofs.YthbclkpmgcfdnaaGreatDoor
/- Lists of lists of numbers: what they read as, and those that a call made for itself (an outer row, inner rows in blocks of their own): how both are carried on. No program here. -/
namespace Go.Proofs.YthbclkpmgcfdnaaGreatDoor
open Go.ChangeShapes Go.WideShapes Go.ChangeAt Go.RowKit
structure Rw where
  g : Nat
  cap : Nat
  xs : List Int
def Rw.v (r : Rw) : Value := .slice (some ⟨r.g, 0, none⟩) r.xs.length r.cap
/-- Only blocks from lo on and below hi may have turned. -/
structure Inside (lo hi : Nat) (w w' : World) : Prop where
  os : w'.os = w.os
  tape : w'.tape = w.tape
  output : w'.output = w.output
  size : w.heap.size ≤ w'.heap.size
  block : ∀ k, k < w.heap.size → (k < lo ∨ hi ≤ k) → w'.heap[k]? = w.heap[k]?
theorem Inside.refl (lo hi : Nat) (w : World) : Inside lo hi w w := ⟨rfl, rfl, rfl, Nat.le_refl _, fun _ _ _ => rfl⟩
theorem Inside.trans {lo hi : Nat} {a b c : World} (h : Inside lo hi a b) (k : Inside lo hi b c) : Inside lo hi a c :=
  ⟨k.os.trans h.os, k.tape.trans h.tape, k.output.trans h.output, Nat.le_trans h.size k.size, fun j hj hr => (k.block j (Nat.lt_of_lt_of_le hj h.size) hr).trans (h.block j hj hr)⟩
theorem own_mono {w : World} {B B' e size n : Nat} {v : Value} {xs : List Value} (h : w.ownsRow B e size v n xs) (hb : B' ≤ B) : w.ownsRow B' e size v n xs := by
  refine ⟨h.1, ?_⟩
  rcases h.2 with h' | ⟨g', cap', cur, h', hb', rest⟩
  · exact .inl h'
  · exact .inr ⟨g', cap', cur, h', Nat.le_trans hb hb', rest⟩
end Go.Proofs.YthbclkpmgcfdnaaGreatDoor
/- Whatever is laid in cells (numbers, truths, structs of these, slices of these): what it reads as, and what a call owns of it alone. No program here. -/
namespace Go.Proofs.YthbclkpmgcfdnaaGreatDoor
open Go.ChangeShapes Go.WideShapes Go.ChangeAt Go.RowKit
set_option linter.unusedVariables false
abbrev Foot := Nat → Prop
def Sub (S T : Foot) : Prop := ∀ k, S k → T k
def Dis (S T : Foot) : Prop := ∀ k, S k → T k → False
def rng (lo hi : Nat) : Foot := fun k => lo ≤ k ∧ k < hi
def Keeps (S : Foot) (w w' : World) : Prop := ∀ k, S k → k < w.heap.size → w'.heap[k]? = w.heap[k]?
theorem Sub.refl (S : Foot) : Sub S S := fun _ h => h
theorem Sub.trans {S T U : Foot} (h : Sub S T) (k : Sub T U) : Sub S U := fun i hi => k i (h i hi)
theorem Dis.symm {S T : Foot} (h : Dis S T) : Dis T S := fun k a b => h k b a
theorem Dis.sub {S T S' T' : Foot} (h : Dis S T) (a : Sub S' S) (b : Sub T' T) : Dis S' T' := fun k x y => h k (a k x) (b k y)
theorem Keeps.sub {S T : Foot} {w w' : World} (h : Keeps T w w') (s : Sub S T) : Keeps S w w' := fun k hk hl => h k (s k hk) hl
theorem rng_sub {lo hi lo' hi' : Nat} (h : lo' ≤ lo) (k : hi ≤ hi') : Sub (rng lo hi) (rng lo' hi') := fun _ hi => ⟨Nat.le_trans h hi.1, Nat.lt_of_lt_of_le hi.2 k⟩
theorem rng_dis {lo hi lo' hi' : Nat} (h : hi ≤ lo' ∨ hi' ≤ lo) : Dis (rng lo hi) (rng lo' hi') := fun k a b => by
  have a1 := a.1
  have a2 := a.2
  have b1 := b.1
  have b2 := b.2
  omega
/-- Only blocks of S may have turned. -/
structure Chg (S : Foot) (w w' : World) : Prop where
  os : w'.os = w.os
  tape : w'.tape = w.tape
  output : w'.output = w.output
  size : w.heap.size ≤ w'.heap.size
  block : ∀ k, k < w.heap.size → ¬ S k → w'.heap[k]? = w.heap[k]?
theorem Chg.refl (S : Foot) (w : World) : Chg S w w := ⟨rfl, rfl, rfl, Nat.le_refl _, fun _ _ _ => rfl⟩
theorem Chg.trans {S : Foot} {a b c : World} (h : Chg S a b) (k : Chg S b c) : Chg S a c :=
  ⟨k.os.trans h.os, k.tape.trans h.tape, k.output.trans h.output, Nat.le_trans h.size k.size, fun j hj hn => (k.block j (Nat.lt_of_lt_of_le hj h.size) hn).trans (h.block j hj hn)⟩
theorem Chg.mono {S T : Foot} {a b : World} (h : Chg S a b) (s : Sub S T) : Chg T a b := ⟨h.os, h.tape, h.output, h.size, fun k hk hn => h.block k hk fun x => hn (s k x)⟩
theorem Chg.keeps {S T : Foot} {a b : World} (h : Chg S a b) (d : Dis T S) : Keeps T a b := fun k hk hl => h.block k hl fun x => d k hk x
theorem Chg.below {S : Foot} {B : Nat} {a w w' : World} (hb : Below B a w) (h : Chg S w w') (hS : ∀ k, S k → B ≤ k) (h2 : B ≤ w.heap.size) : Below B a w' :=
  hb.trans ⟨h.os, h.tape, h.output, h.size, fun k hk => h.block k (by omega) (fun x => by have := hS k x; omega)⟩
theorem chg_grown {S : Foot} {g : Nat} {w w' : World} (h : w.grownBy w' (some g)) (hg : S g) : Chg S w w' :=
  ⟨h.os, h.tape, h.output, h.size, fun k hk hn => h.block k hk (fun e => by cases e; exact hn hg)⟩
theorem chg_below {S : Foot} {w w' : World} (h : Below w.heap.size w w') : Chg S w w' := ⟨h.os, h.tape, h.output, h.size, fun k hk _ => h.block k hk⟩
theorem keeps_below {S : Foot} {w w' : World} (h : Below w.heap.size w w') : Keeps S w w' := fun k _ hl => h.block k hl
structure Rep (α : Type) where
  size : Nat
  tys : List TypeId
  rd : World → List Value → α → Prop
  own : World → Foot → List Value → α → Prop
  rd_len : ∀ {w : World} {cs : List Value} {a : α}, rd w cs a → cs.length = size
  rd_keep : ∀ {w w' : World} {cs : List Value} {a : α}, rd w cs a → (∀ k, k < w.heap.size → w'.heap[k]? = w.heap[k]?) → rd w' cs a
  own_rd : ∀ {w : World} {S : Foot} {cs : List Value} {a : α}, own w S cs a → rd w cs a
  own_mono : ∀ {w : World} {S T : Foot} {cs : List Value} {a : α}, own w S cs a → Sub S T → own w T cs a
  own_keep : ∀ {w w' : World} {S : Foot} {cs : List Value} {a : α}, own w S cs a → Keeps S w w' → own w' S cs a
  own_tight : ∀ {w : World} {S : Foot} {cs : List Value} {a : α}, own w S cs a → own w (fun k => S k ∧ ∃ cur t, t ∈ tys ∧ w.heap[k]? = some (.cells cur t (0, 0))) cs a
def In64 (a : Int) : Prop := -9223372036854775808 ≤ a ∧ a ≤ 9223372036854775807
def intR : Rep Int where
  size := 1
  tys := []
  rd _ cs a := cs = [.int .i64 a] ∧ In64 a
  own _ _ cs a := cs = [.int .i64 a] ∧ In64 a
  rd_len h := by rw [h.1]; rfl
  rd_keep h _ := h
  own_rd h := h
  own_mono h _ := h
  own_keep h _ := h
  own_tight h := h
def boolR : Rep Bool where
  size := 1
  tys := []
  rd _ cs a := cs = [.bool a]
  own _ _ cs a := cs = [.bool a]
  rd_len h := by rw [h]; rfl
  rd_keep h _ := h
  own_rd h := h
  own_mono h _ := h
  own_keep h _ := h
  own_tight h := h
section
variable {α β : Type}
def prodR (R : Rep α) (Q : Rep β) : Rep (α × β) where
  size := R.size + Q.size
  tys := R.tys ++ Q.tys
  rd w cs a := ∃ c1 c2, cs = c1 ++ c2 ∧ R.rd w c1 a.1 ∧ Q.rd w c2 a.2
  own w S cs a := ∃ c1 c2 S1 S2, cs = c1 ++ c2 ∧ R.own w S1 c1 a.1 ∧ Q.own w S2 c2 a.2 ∧ Sub S1 S ∧ Sub S2 S ∧ Dis S1 S2
  rd_len := by
    rintro w cs a ⟨c1, c2, rfl, h1, h2⟩
    rw [List.length_append, R.rd_len h1, Q.rd_len h2]
  rd_keep := by
    rintro w w' cs a ⟨c1, c2, rfl, h1, h2⟩ hk
    exact ⟨c1, c2, rfl, R.rd_keep h1 hk, Q.rd_keep h2 hk⟩
  own_rd := by
    rintro w S cs a ⟨c1, c2, S1, S2, rfl, h1, h2, _⟩
    exact ⟨c1, c2, rfl, R.own_rd h1, Q.own_rd h2⟩
  own_mono := by
    rintro w S T cs a ⟨c1, c2, S1, S2, rfl, h1, h2, a1, a2, d⟩ hs
    exact ⟨c1, c2, S1, S2, rfl, h1, h2, a1.trans hs, a2.trans hs, d⟩
  own_keep := by
    rintro w w' S cs a ⟨c1, c2, S1, S2, rfl, h1, h2, a1, a2, d⟩ hk
    exact ⟨c1, c2, S1, S2, rfl, R.own_keep h1 (hk.sub a1), Q.own_keep h2 (hk.sub a2), a1, a2, d⟩
  own_tight := by
    rintro w S cs a ⟨c1, c2, S1, S2, rfl, h1, h2, a1, a2, d⟩
    refine ⟨c1, c2, _, _, rfl, R.own_tight h1, Q.own_tight h2, ?_, ?_, ?_⟩
    · rintro k ⟨hk, cur, t, ht, hh⟩
      exact ⟨a1 k hk, cur, t, List.mem_append.2 (.inl ht), hh⟩
    · rintro k ⟨hk, cur, t, ht, hh⟩
      exact ⟨a2 k hk, cur, t, List.mem_append.2 (.inr ht), hh⟩
    · exact d.sub (fun k h => h.1) (fun k h => h.1)
def lrd (R : Rep α) (w : World) : List Value → List α → Prop
  | cs, [] => cs = []
  | cs, a :: r => ∃ c1 c2, cs = c1 ++ c2 ∧ R.rd w c1 a ∧ lrd R w c2 r
def lown (R : Rep α) (w : World) : Foot → List Value → List α → Prop
  | _, cs, [] => cs = []
  | S, cs, a :: r => ∃ c1 c2 S1 S2, cs = c1 ++ c2 ∧ R.own w S1 c1 a ∧ lown R w S2 c2 r ∧ Sub S1 S ∧ Sub S2 S ∧ Dis S1 S2
theorem lrd_len {R : Rep α} {w : World} : ∀ {cs : List Value} {xs : List α}, lrd R w cs xs → cs.length = xs.length * R.size
  | _, [], h => by rw [show _ = [] from h]; simp
  | _, x :: xs, ⟨c1, c2, e, h1, h2⟩ => by
    rw [e, List.length_append, R.rd_len h1, lrd_len h2, List.length_cons, Nat.add_one_mul]
    omega
theorem lrd_keep {R : Rep α} {w w' : World} : ∀ {cs : List Value} {xs : List α}, lrd R w cs xs → (∀ k, k < w.heap.size → w'.heap[k]? = w.heap[k]?) → lrd R w' cs xs
  | _, [], h, _ => h
  | _, x :: xs, ⟨c1, c2, e, h1, h2⟩, hk => ⟨c1, c2, e, R.rd_keep h1 hk, lrd_keep h2 hk⟩
theorem lown_rd {R : Rep α} {w : World} : ∀ {S : Foot} {cs : List Value} {xs : List α}, lown R w S cs xs → lrd R w cs xs
  | _, _, [], h => h
  | _, _, x :: xs, ⟨c1, c2, _, _, e, h1, h2, _⟩ => ⟨c1, c2, e, R.own_rd h1, lown_rd h2⟩
theorem lown_len {R : Rep α} {w : World} {S : Foot} {cs : List Value} {xs : List α} (h : lown R w S cs xs) : cs.length = xs.length * R.size := lrd_len (lown_rd h)
theorem lown_keep {R : Rep α} {w w' : World} : ∀ {S : Foot} {cs : List Value} {xs : List α}, lown R w S cs xs → Keeps S w w' → lown R w' S cs xs
  | _, _, [], h, _ => h
  | _, _, x :: xs, ⟨c1, c2, S1, S2, e, h1, h2, a1, a2, d⟩, hk => ⟨c1, c2, S1, S2, e, R.own_keep h1 (hk.sub a1), lown_keep h2 (hk.sub a2), a1, a2, d⟩
theorem lown_tight {R : Rep α} {w : World} : ∀ {S : Foot} {cs : List Value} {xs : List α}, lown R w S cs xs → lown R w (fun k => S k ∧ ∃ cur t, t ∈ R.tys ∧ w.heap[k]? = some (.cells cur t (0, 0))) cs xs
  | _, _, [], h => h
  | _, _, x :: xs, ⟨c1, c2, S1, S2, e, h1, h2, a1, a2, d⟩ =>
    ⟨c1, c2, _, _, e, R.own_tight h1, lown_tight h2, fun k h => ⟨a1 k h.1, h.2⟩, fun k h => ⟨a2 k h.1, h.2⟩, d.sub (fun k h => h.1) (fun k h => h.1)⟩
theorem lrd_at {R : Rep α} {w : World} : ∀ {xs : List α} {cs : List Value} {j : Nat} {x : α}, lrd R w cs xs → xs[j]? = some x → R.rd w ((cs.drop (j * R.size)).take R.size) x
  | [], _, j, x, _, hx => by simp at hx
  | y :: ys, cs, 0, x, ⟨c1, c2, e, h1, h2⟩, hx => by
    simp at hx
    subst hx e
    have hl := R.rd_len h1
    rw [Nat.zero_mul, List.drop_zero, List.take_append_of_le_length (by omega), List.take_of_length_le (by omega)]
    exact h1
  | y :: ys, cs, j + 1, x, ⟨c1, c2, e, h1, h2⟩, hx => by
    simp at hx
    subst e
    have hl := R.rd_len h1
    have := lrd_at h2 hx
    rw [Nat.add_one_mul, List.drop_append, List.drop_of_length_le (by omega), List.nil_append, show j * R.size + R.size - c1.length = j * R.size by omega]
    exact this
theorem lown_push {R : Rep α} {w : World} {T U : Foot} {c : List Value} {x : α} : ∀ {S : Foot} {cs : List Value} {xs : List α}, lown R w S cs xs → R.own w T c x → Dis S T → Sub S U → Sub T U → lown R w U (cs ++ c) (xs ++ [x])
  | S, cs, [], h, ho, hd, s1, s2 => by
    rw [show cs = [] from h]
    exact ⟨c, [], T, fun _ => False, by simp, ho, rfl, s2, fun _ h => h.elim, fun _ _ h => h⟩
  | S, cs, y :: ys, ⟨c1, c2, S1, S2, e, h1, h2, a1, a2, d⟩, ho, hd, s1, s2 => by
    subst e
    refine ⟨c1, c2 ++ c, S1, (fun k => S2 k ∨ T k), by simp, h1, ?_, a1.trans s1, ?_, ?_⟩
    · exact lown_push h2 ho (hd.sub a2 (Sub.refl _)) (fun k h => .inl h) (fun k h => .inr h)
    · rintro k (h | h)
      · exact s1 k (a2 k h)
      · exact s2 k h
    · rintro k h (h' | h')
      · exact d k h h'
      · exact hd k (a1 k h) h'
/-- One of them, by itself; whatever becomes of it, the others stay. -/
theorem lown_focus {R : Rep α} {w : World} : ∀ {xs : List α} {S : Foot} {cs : List Value} {j : Nat} {x : α}, lown R w S cs xs → xs[j]? = some x →
    ∃ Sj T, R.own w Sj ((cs.drop (j * R.size)).take R.size) x ∧ Sub Sj S ∧ Sub T S ∧ Dis Sj T ∧
      ∀ w' c' x' U V, Keeps T w w' → R.own w' U c' x' → Dis U T → Sub U V → Sub T V → lown R w' V (cs.take (j * R.size) ++ (c' ++ cs.drop (j * R.size + R.size))) (xs.set j x')
  | [], S, _, j, x, _, hx => by simp at hx
  | y :: ys, S, cs, 0, x, ⟨c1, c2, S1, S2, e, h1, h2, a1, a2, d⟩, hx => by
    simp at hx
    subst hx e
    have hl := R.rd_len (R.own_rd h1)
    refine ⟨S1, S2, ?_, a1, a2, d, fun w' c' x' U V hk ho hd hs ht => ?_⟩
    · rw [Nat.zero_mul, List.drop_zero, List.take_append_of_le_length (by omega), List.take_of_length_le (by omega)]
      exact h1
    · rw [Nat.zero_mul, List.take_zero, List.nil_append, Nat.zero_add, List.drop_append, List.drop_of_length_le (by omega), List.nil_append, show R.size - c1.length = 0 by omega, List.drop_zero]
      exact ⟨c', c2, U, S2, rfl, ho, lown_keep h2 hk, hs, ht, hd⟩
  | y :: ys, S, cs, j + 1, x, ⟨c1, c2, S1, S2, e, h1, h2, a1, a2, d⟩, hx => by
    simp at hx
    subst e
    have hl := R.rd_len (R.own_rd h1)
    obtain ⟨Sj, T, o, b1, b2, b3, b4⟩ := lown_focus h2 hx
    have key : (j + 1) * R.size = c1.length + j * R.size := by rw [Nat.add_one_mul]; omega
    refine ⟨Sj, (fun k => S1 k ∨ T k), ?_, b1.trans a2, ?_, ?_, fun w' c' x' U V hk ho hd hs ht => ?_⟩
    · rw [key, List.drop_append, List.drop_of_length_le (by omega), List.nil_append, show c1.length + j * R.size - c1.length = j * R.size by omega]
      exact o
    · rintro k (h | h)
      · exact a1 k h
      · exact a2 k (b2 k h)
    · rintro k h (h' | h')
      · exact d k h' (b1 k h)
      · exact b3 k h h'
    · have hk1 : Keeps S1 w w' := hk.sub fun k h => .inl h
      have hk2 : Keeps T w w' := hk.sub fun k h => .inr h
      have hU : Dis U S1 := hd.sub (Sub.refl _) fun k h => .inl h
      have r := b4 w' c' x' U (fun k => U k ∨ T k) hk2 ho (hd.sub (Sub.refl _) fun k h => .inr h) (fun k h => .inl h) (fun k h => .inr h)
      rw [key, List.take_append, List.take_of_length_le (by omega), show c1.length + j * R.size - c1.length = j * R.size by omega,
        show c1.length + j * R.size + R.size = c1.length + (j * R.size + R.size) by omega, List.drop_append, List.drop_of_length_le (by omega), List.nil_append,
        show c1.length + (j * R.size + R.size) - c1.length = j * R.size + R.size by omega, List.append_assoc, List.set_cons_succ]
      refine ⟨c1, _, S1, _, rfl, R.own_keep h1 hk1, r, fun k h => ht k (.inl h), ?_, ?_⟩
      · rintro k (h | h)
        · exact hs k h
        · exact ht k (.inr h)
      · rintro k h (h' | h')
        · exact hU k h' h
        · exact d k h (b2 k h')
end
end Go.Proofs.YthbclkpmgcfdnaaGreatDoor
/- Slices of whatever is laid in cells: what they read as, and what a call owns of them alone. No program here. -/
namespace Go.Proofs.YthbclkpmgcfdnaaGreatDoor
open Go.ChangeShapes Go.WideShapes Go.ChangeAt Go.RowKit
set_option linter.unusedVariables false
section
variable {α β : Type}
theorem row_block {w : World} {base size n g : Nat} {e : TypeId} {v : Value} {xs : List Value} (h : w.ownsRow base e size v n xs) (hg : v.ownBlock = some g) : ∃ cur, w.heap[g]? = some (.cells cur e (0, 0)) := by
  rcases h.2 with ⟨rfl, _⟩ | ⟨g', cap, cur, rfl, _, hh, _⟩
  · simp [Value.ownBlock] at hg
  · simp [Value.ownBlock] at hg
    subst hg
    exact ⟨cur, hh⟩
theorem orow_keep {w w' : World} {base size n : Nat} {e : TypeId} {v : Value} {xs : List Value} (h : w.ownsRow base e size v n xs) (hk : ∀ g, v.ownBlock = some g → w'.heap[g]? = w.heap[g]?) : w'.ownsRow base e size v n xs := by
  refine ⟨h.1, ?_⟩
  rcases h.2 with h' | ⟨g, cap, cur, rfl, hb, hh, rest⟩
  · exact .inl h'
  · exact .inr ⟨g, cap, cur, rfl, hb, by rw [hk g rfl]; exact hh, rest⟩
theorem row_base {w : World} {base base' size n : Nat} {e : TypeId} {v : Value} {xs : List Value} (h : w.ownsRow base e size v n xs) (hb : ∀ g, v.ownBlock = some g → base' ≤ g) : w.ownsRow base' e size v n xs := by
  refine ⟨h.1, ?_⟩
  rcases h.2 with h' | ⟨g, cap, cur, rfl, _, rest⟩
  · exact .inl h'
  · exact .inr ⟨g, cap, cur, rfl, hb g rfl, rest⟩
def SlRd (R : Rep α) (w : World) (a : Option Addr) (xs : List α) : Prop :=
  xs = [] ∨ ∃ b off rows, a = some ⟨b, off, none⟩ ∧ lrd R w rows xs ∧ ∀ j u, rows[j]? = some u → w.cell? ⟨b, off + j, none⟩ = some u
def slR (e : TypeId) (R : Rep α) : Rep (List α) where
  size := 1
  tys := e :: R.tys
  rd w cs xs := ∃ a cap, cs = [.slice a xs.length cap] ∧ xs.length ≤ cap ∧ cap ≤ maxLen ∧ SlRd R w a xs
  own w S cs xs := ∃ v rows S', cs = [v] ∧ w.ownsRow 0 e R.size v xs.length rows ∧ (∀ g, v.ownBlock = some g → S g ∧ ¬ S' g) ∧ Sub S' S ∧ lown R w S' rows xs
  rd_len := by
    rintro w cs xs ⟨a, cap, rfl, _⟩
    rfl
  rd_keep := by
    rintro w w' cs xs ⟨a, cap, rfl, h1, h2, h3⟩ hk
    refine ⟨a, cap, rfl, h1, h2, ?_⟩
    rcases h3 with h3 | ⟨b, off, rows, rfl, h4, h5⟩
    · exact .inl h3
    · refine .inr ⟨b, off, rows, rfl, lrd_keep h4 hk, fun j u hu => ?_⟩
      have := h5 j u hu
      have hl := World.block_lt_of_cell? w ⟨b, off + j, none⟩ this
      rw [World.cell?_of_block (w := w) (hk b hl)]
      exact this
  own_rd := by
    rintro w S cs xs ⟨v, rows, S', rfl, hr, _, _, hl⟩
    rcases hr.2 with ⟨rfl, h0⟩ | ⟨g, cap, cur, rfl, hb, hh, hc, hm, hs, ht⟩
    · have : xs = [] := List.eq_nil_of_length_eq_zero h0
      subst this
      exact ⟨none, 0, rfl, Nat.le_refl _, Nat.zero_le _, .inl rfl⟩
    · refine ⟨_, cap, rfl, hc, hm, .inr ⟨g, 0, rows, rfl, lown_rd hl, fun j u hu => ?_⟩⟩
      have hj : j < rows.length := (List.getElem?_eq_some_iff.1 hu).1
      rw [Nat.zero_add, World.ownsRow.cellAt hr j (by have := hr.1; omega)]
      exact hu
  own_mono := by
    rintro w S T cs xs ⟨v, rows, S', rfl, hr, hg, hs, hl⟩ hst
    exact ⟨v, rows, S', rfl, hr, fun g h => ⟨hst g (hg g h).1, (hg g h).2⟩, hs.trans hst, hl⟩
  own_keep := by
    rintro w w' S cs xs ⟨v, rows, S', rfl, hr, hg, hs, hl⟩ hk
    refine ⟨v, rows, S', rfl, orow_keep hr fun g h => ?_, hg, hs, lown_keep hl (hk.sub hs)⟩
    obtain ⟨cur, hh⟩ := row_block hr h
    exact hk g (hg g h).1 (Array.getElem?_eq_some_iff.1 hh).1
  own_tight := by
    rintro w S cs xs ⟨v, rows, S', rfl, hr, hg, hs, hl⟩
    refine ⟨v, rows, _, rfl, hr, fun g h => ?_, ?_, lown_tight hl⟩
    · obtain ⟨cur, hh⟩ := row_block hr h
      exact ⟨⟨(hg g h).1, cur, e, by simp, hh⟩, fun h' => (hg g h).2 h'.1⟩
    · rintro k ⟨hk, cur, t, ht, hh⟩
      exact ⟨hs k hk, cur, t, List.mem_cons_of_mem _ ht, hh⟩
/- One element of a slice that reads: its cells. -/
theorem slrd_at {R : Rep α} {w : World} {a : Option Addr} {xs : List α} {j : Nat} {x : α} (h : SlRd R w a xs) (hx : xs[j]? = some x) :
    ∃ b off c, a = some ⟨b, off, none⟩ ∧ R.rd w c x ∧ ∀ i u, c[i]? = some u → w.cell? ⟨b, off + (j * R.size + i), none⟩ = some u := by
  rcases h with rfl | ⟨b, off, rows, rfl, h4, h5⟩
  · simp at hx
  · refine ⟨b, off, _, rfl, lrd_at h4 hx, fun i u hu => ?_⟩
    refine h5 (j * R.size + i) u ?_
    rw [List.getElem?_take] at hu
    split at hu
    · rw [List.getElem?_drop] at hu
      exact hu
    · cases hu
theorem slrd_keep {R : Rep α} {w w' : World} {a : Option Addr} {xs : List α} (h : SlRd R w a xs) (hk : ∀ k, k < w.heap.size → w'.heap[k]? = w.heap[k]?) : SlRd R w' a xs := by
  rcases h with h3 | ⟨b, off, rows, rfl, h4, h5⟩
  · exact .inl h3
  · refine .inr ⟨b, off, rows, rfl, lrd_keep h4 hk, fun j u hu => ?_⟩
    have := h5 j u hu
    have hl := World.block_lt_of_cell? w ⟨b, off + j, none⟩ this
    rw [World.cell?_of_block (w := w) (hk b hl)]
    exact this
/- One element of a slice that is owned: it by itself, and what becomes of the slice when its cells and its own memory turn. -/
theorem slown_focus {e : TypeId} {R : Rep α} {w : World} {S : Foot} {v : Value} {xs : List α} {j : Nat} {x : α} (h : (slR e R).own w S [v] xs) (hx : xs[j]? = some x) :
    ∃ g cap cur Sj T c, v = .slice (some ⟨g, 0, none⟩) xs.length cap ∧ S g ∧ w.heap[g]? = some (.cells cur e (0, 0)) ∧ (∀ i, i < R.size → cur[j * R.size + i]? = c[i]?) ∧ c.length = R.size ∧ R.own w Sj c x ∧
      Sub Sj S ∧ Sub T S ∧ Dis Sj T ∧ ¬ Sj g ∧ ¬ T g ∧
      ∀ w' cur' c' x' U V, w'.heap[g]? = some (.cells cur' e (0, 0)) → cur'.size = cur.size → (∀ i, ¬ (j * R.size ≤ i ∧ i < j * R.size + R.size) → cur'[i]? = cur[i]?) → (∀ i, i < R.size → cur'[j * R.size + i]? = c'[i]?) →
        Keeps T w w' → R.own w' U c' x' → Dis U T → ¬ U g → V g → Sub U V → Sub T V → (slR e R).own w' V [v] (xs.set j x') := by
  obtain ⟨v', rows, S', hv, hr, hg, hs, hl⟩ := h
  simp only [List.cons.injEq, and_true] at hv
  subst hv
  have hj : j < xs.length := (List.getElem?_eq_some_iff.1 hx).1
  obtain ⟨Sj, T, o, b1, b2, b3, b4⟩ := lown_focus hl hx
  have hrl := lown_len hl
  rcases hr.2 with ⟨rfl, h0⟩ | ⟨g, cap, cur, rfl, hb, hh, hc, hm, hsz, ht⟩
  · omega
  have hgg := hg g rfl
  have hlt : j * R.size + R.size ≤ xs.length * R.size := by
    have : (j + 1) * R.size ≤ xs.length * R.size := Nat.mul_le_mul_right _ hj
    rw [Nat.add_one_mul] at this
    exact this
  have hcl : xs.length * R.size ≤ cap * R.size := Nat.mul_le_mul_right _ hc
  have hrow : ∀ i, i < xs.length * R.size → cur[i]? = rows[i]? := by
    intro i hi
    rw [← ht, List.getElem?_take, if_pos hi, Array.getElem?_toList]
  refine ⟨g, cap, cur, Sj, T, _, rfl, hgg.1, hh, ?_, ?_, o, b1.trans hs, b2.trans hs, b3, fun h => hgg.2 (b1 g h), fun h => hgg.2 (b2 g h), ?_⟩
  · intro i hi
    rw [List.getElem?_take, if_pos hi, List.getElem?_drop, hrow _ (by omega)]
  · exact R.rd_len (R.own_rd o)
  · intro w' cur' c' x' U V hh' hsz' hout hin hkT hoU hd hug hvg hUV hTV
    have hcl' : c'.length = R.size := R.rd_len (R.own_rd hoU)
    refine ⟨_, rows.take (j * R.size) ++ (c' ++ rows.drop (j * R.size + R.size)), (fun k => U k ∨ T k), rfl, ⟨?_, .inr ⟨g, cap, cur', by rw [List.length_set], Nat.zero_le _, hh', by rw [List.length_set]; exact hc, hm, by omega, ?_⟩⟩, ?_, ?_, ?_⟩
    · simp only [List.length_append, List.length_take, List.length_drop, List.length_set, hcl']
      omega
    · rw [List.length_set]
      apply List.ext_getElem?
      intro i
      rw [List.getElem?_take]
      by_cases hi : i < xs.length * R.size
      · rw [if_pos hi, Array.getElem?_toList]
        by_cases h1 : i < j * R.size
        · rw [List.getElem?_append_left (by simp; omega), List.getElem?_take, if_pos h1, hout i (by omega), hrow i hi]
        · rw [List.getElem?_append_right (by simp; omega)]
          have e1 : (rows.take (j * R.size)).length = j * R.size := by simp; omega
          rw [e1]
          by_cases h2 : i < j * R.size + R.size
          · rw [List.getElem?_append_left (by omega), ← hin (i - j * R.size) (by omega), show j * R.size + (i - j * R.size) = i by omega]
          · rw [List.getElem?_append_right (by omega), List.getElem?_drop, hcl', show j * R.size + R.size + (i - j * R.size - R.size) = i by omega, hout i (by omega), hrow i hi]
      · rw [if_neg hi, List.getElem?_eq_none]
        simp only [List.length_append, List.length_take, List.length_drop, hcl']
        omega
    · rintro g' hg'
      simp [Value.ownBlock] at hg'
      subst hg'
      refine ⟨hvg, ?_⟩
      rintro (h | h)
      · exact hug h
      · exact hgg.2 (b2 _ h)
    · rintro k (h | h)
      · exact hUV k h
      · exact hTV k h
    · exact b4 w' c' x' U _ hkT hoU hd (fun k h => .inl h) (fun k h => .inr h)
end
end Go.Proofs.YthbclkpmgcfdnaaGreatDoor
/- An argument of any type made of numbers, truths, structs and slices, as it reads. No program here. -/
namespace Go.Proofs.YthbclkpmgcfdnaaGreatDoor
open Go.ChangeShapes Go.WideShapes Go.ChangeAt Go.RowKit
set_option linter.unusedVariables false
section
variable {α β : Type}
def Opens (P : Program) (t : TypeId) (R : Rep α) : Prop :=
  ∀ (H : Type) (enc : TypeId × Value → H) (w : World) (base : Nat) (spare : Nat → Bool) (held : Bool) (fuel : Nat) (cs : List Value) (x : DataW H × List MemPlace), DataW.trod enc P w base spare held fuel t cs = some x → ∃ a, R.rd w cs a
def OpensF (P : Program) (off : Nat) (fs : List Field) (R : Rep α) : Prop :=
  ∀ (H : Type) (enc : TypeId × Value → H) (w : World) (base : Nat) (spare : Nat → Bool) (held : Bool) (n : Nat) (cs : List Value), cs.length = off + R.size →
    (∀ f ∈ fs, ∃ x, DataW.trod enc P w base spare held n f.type ((cs.drop f.offset).take (P.cellsOf f.type)) = some x) → ∃ a, R.rd w (cs.drop off) a
theorem opens_int {P : Program} {t : TypeId} (ht : P.underlying t = some (.int .i64)) : Opens P t intR := by
  intro H enc w base spare held fuel cs x h
  obtain ⟨n, rfl, _, hw⟩ := DataW.trod_int ht h
  refine ⟨n, rfl, ?_⟩
  simp only [Lit.wf, Bool.and_eq_true, decide_eq_true_eq] at hw
  exact hw
theorem opens_bool {P : Program} {t : TypeId} (ht : P.underlying t = some .bool) : Opens P t boolR := by
  intro H enc w base spare held fuel cs x h
  obtain ⟨b, rfl, _⟩ := DataW.trod_bool ht h
  exact ⟨b, rfl⟩
theorem opensF_one {P : Program} {off : Nat} {f : Field} {R : Rep α} (hf : f.offset = off) (hc : P.cellsOf f.type = R.size) (h : Opens P f.type R) : OpensF P off [f] R := by
  intro H enc w base spare held n cs hl hx
  obtain ⟨x, hx⟩ := hx f (by simp)
  rw [hf, hc, List.take_of_length_le (by simp; omega)] at hx
  exact h H enc w base spare held n _ x hx
theorem opensF_cons {P : Program} {off : Nat} {f : Field} {fs : List Field} {R : Rep α} {Q : Rep β} (hf : f.offset = off) (hc : P.cellsOf f.type = R.size) (h : Opens P f.type R) (hr : OpensF P (off + R.size) fs Q) : OpensF P off (f :: fs) (prodR R Q) := by
  intro H enc w base spare held n cs hl hx
  have hl' : cs.length = off + (R.size + Q.size) := hl
  obtain ⟨x, h1⟩ := hx f (by simp)
  rw [hf, hc] at h1
  obtain ⟨a, ha⟩ := h H enc w base spare held n _ x h1
  obtain ⟨b, hb⟩ := hr H enc w base spare held n cs (by omega) (fun g hg => hx g (by simp [hg]))
  refine ⟨(a, b), _, _, ?_, ha, hb⟩
  rw [← List.drop_drop, List.take_append_drop]
theorem opens_struct {P : Program} {t : TypeId} {fs : Array Field} {R : Rep α} (ht : P.underlying t = some (.struct fs)) (hc : P.cellsOf t = R.size) (h : OpensF P 0 fs.toList R) : Opens P t R := by
  intro H enc w base spare held fuel cs x hx
  obtain ⟨xs, n, _, _, hl, hxs, hf⟩ := DataW.trod_struct ht hx
  have := h H enc w base spare held n cs (by omega) (fun f hf' => by
    obtain ⟨i, hi, rfl⟩ := List.getElem_of_mem hf'
    have hi' : i < fs.size := by simpa using hi
    refine ⟨xs[i]'(by omega), ?_⟩
    rw [hf i _ (by simp [hi']), List.getElem?_eq_getElem (by omega)])
  simpa using this
theorem lrd_from {R : Rep α} {w : World} {b off : Nat} : ∀ (n k : Nat), (∀ i, k ≤ i → i < k + n → ∃ c x, R.rd w c x ∧ ∀ r u, c[r]? = some u → w.cell? ⟨b, off + (i * R.size + r), none⟩ = some u) →
    ∃ (rows : List Value) (xs : List α), xs.length = n ∧ lrd R w rows xs ∧ ∀ j u, rows[j]? = some u → w.cell? ⟨b, off + (k * R.size + j), none⟩ = some u
  | 0, k, _ => ⟨[], [], rfl, rfl, by simp⟩
  | n + 1, k, h => by
    obtain ⟨c, x, h1, h2⟩ := h k (Nat.le_refl _) (by omega)
    obtain ⟨rows, xs, e1, e2, e3⟩ := lrd_from n (k + 1) (fun i h3 h4 => h i (by omega) (by omega))
    have hl := R.rd_len h1
    refine ⟨c ++ rows, x :: xs, by simp [e1], ⟨c, rows, rfl, h1, e2⟩, fun j u hu => ?_⟩
    by_cases hj : j < R.size
    · rw [List.getElem?_append_left (by omega)] at hu
      exact h2 j u hu
    · rw [List.getElem?_append_right (by omega)] at hu
      have := e3 _ u hu
      rw [hl, Nat.add_one_mul, show k * R.size + R.size + (j - R.size) = k * R.size + j by omega] at this
      exact this
theorem add_add (a : Addr) (m r : Nat) : (a.add m).add r = a.add (m + r) := by
  unfold Addr.add
  by_cases hm : m = 0
  · subst hm
    simp
  · by_cases hr : r = 0
    · subst hr
      simp
    · simp [hm, hr, Nat.add_assoc]
theorem opens_slice {P : Program} {t e e' : TypeId} {R : Rep α} (ht : P.underlying t = some (.slice e)) (hc : P.cellsOf e = R.size) (hpos : 0 < R.size) (h : Opens P e R) : Opens P t (slR e' R) := by
  intro H enc w base spare held fuel cs x hx
  rcases DataW.trod_slice ht hx with ⟨rfl, _⟩ | ⟨a, len, cap, elems, rest, n, _, rfl, _, hb, hl, hm, hel, hcell, _⟩
  · exact ⟨[], none, 0, rfl, Nat.le_refl _, Nat.zero_le _, .inl rfl⟩
  by_cases h0 : len = 0
  · subst h0
    exact ⟨[], some a, cap, rfl, Nat.zero_le _, hm, .inl rfl⟩
  have each : ∀ i, i < len → ∃ c y, R.rd w c y ∧ ∀ r u, c[r]? = some u → w.cell? (a.add (i * R.size + r)) = some u := by
    intro i hi
    have h1 := hcell i hi
    rw [List.getElem?_eq_getElem (by omega), Option.bind_eq_some_iff] at h1
    obtain ⟨c, h2, h3⟩ := h1
    obtain ⟨y, hy⟩ := h H enc w base spare held n c _ h3
    refine ⟨c, y, hy, fun r u hu => ?_⟩
    unfold World.cells? at h2
    split at h2
    · have hr : r < P.cellsOf e := by
        have := mapM_some_length h2
        have h4 := (List.getElem?_eq_some_iff.1 hu).1
        simp at this
        omega
      have := mapM_some_get h2 r r (by simp [hr])
      rw [hu, hc, add_add] at this
      exact this
    · cases h2
  have hspot : a.spot = none := by
    obtain ⟨c, y, hy, hcc⟩ := each 0 (by omega)
    have hl0 := R.rd_len hy
    obtain ⟨u, hu⟩ : ∃ u, c[0]? = some u := ⟨_, List.getElem?_eq_getElem (by omega)⟩
    have := World.cell?_spot (hcc 0 u hu)
    simpa [Addr.add] using this
  obtain ⟨b, off, spot⟩ := a
  simp at hspot
  subst hspot
  obtain ⟨rows, xs, e1, e2, e3⟩ := lrd_from (R := R) (w := w) (b := b) (off := off) len 0 (fun i _ hi => by
    obtain ⟨c, y, hy, hcc⟩ := each i (by omega)
    exact ⟨c, y, hy, fun r u hu => by have := hcc r u hu; rwa [Go.WideShapes.add_plain] at this⟩)
  refine ⟨xs, some ⟨b, off, none⟩, cap, by rw [e1], by omega, hm, .inr ⟨b, off, rows, rfl, e2, fun j u hu => ?_⟩⟩
  simpa using e3 j u hu
/- An argument: a struct comes as its cells in one row. -/
theorem open_rep {H : Type} {enc : TypeId × Value → H} {P : Program} {w : World} {base : Nat} {spare : Nat → Bool} {held : Bool} {t : TypeId} {v : Value} {d : DataW H} {p : List MemPlace} {R : Rep α} (ho : Opens P t R)
    (h : DataW.Trod enc P w base spare held t v d p) : ∃ a, R.rd w v.cells.toList a := by
  obtain ⟨fuel, hf⟩ := h
  exact ho H enc w base spare held fuel _ _ hf
theorem open_struct {H : Type} {enc : TypeId × Value → H} {P : Program} {w : World} {base b0 : Nat} {spare : Nat → Bool} {held : Bool} {r : Reach} {t : TypeId} {fs : Array Field} {v : Value} {d : DataW H} {p : List MemPlace} {R : Rep α}
    (hs : P.underlying t = some (.struct fs)) (ho : Opens P t R) (hv : Value.okWide P w r b0 t v) (h : DataW.Trod enc P w base spare held t v d p) : ∃ cs a, v = .agg cs ∧ R.rd w cs.toList a := by
  obtain ⟨a, ha⟩ := open_rep ho h
  unfold Value.okWide at hv
  rw [hs] at hv
  obtain ⟨cs, rfl, _⟩ := hv
  exact ⟨cs, a, rfl, by simpa [Value.cells] using ha⟩
/- The Lean type of what a Rep tells of. -/
abbrev RepOf {α : Type} (R : Rep α) : Type := α
end
end Go.Proofs.YthbclkpmgcfdnaaGreatDoor
/- What a call makes: whatever is laid in cells, in new memory alone; a row that is filled one by one, or appended to. No program here. -/
namespace Go.Proofs.YthbclkpmgcfdnaaGreatDoor
open Go.ChangeShapes Go.WideShapes Go.ChangeAt Go.RowKit
set_option linter.unusedVariables false
section
variable {α β : Type}
def MadeR (R : Rep α) (w w' : World) (cs : List Value) (a : α) : Prop := R.own w' (rng w.heap.size w'.heap.size) cs a ∧ Below w.heap.size w w'
theorem below_next {w w1 w2 : World} (h : Below w.heap.size w w1) (h2 : Below w1.heap.size w1 w2) : Below w.heap.size w w2 := h.trans (h2.mono h.size)
theorem own_next {R : Rep α} {lo : Nat} {w w1 : World} {cs : List Value} {a : α} (h : R.own w (rng lo w.heap.size) cs a) (hb : Below w.heap.size w w1) : R.own w1 (rng lo w.heap.size) cs a :=
  R.own_keep h fun k hk _ => hb.block k hk.2
theorem own_stay {R : Rep α} {lo hi D : Nat} {w w1 : World} {cs : List Value} {a : α} (h : R.own w (rng lo hi) cs a) (hb : Below D w w1) (hD : hi ≤ D) : R.own w1 (rng lo hi) cs a :=
  R.own_keep h fun k hk _ => hb.block k (Nat.lt_of_lt_of_le hk.2 hD)
theorem own_chg {R : Rep α} {S T : Foot} {w w1 : World} {cs : List Value} {a : α} (h : R.own w S cs a) (hb : Chg T w w1) (hd : Dis S T) : R.own w1 S cs a := R.own_keep h (hb.keeps hd)
theorem rd_next {R : Rep α} {w w1 : World} {cs : List Value} {a : α} (h : R.rd w cs a) (hb : Below w.heap.size w w1) : R.rd w1 cs a := R.rd_keep h fun k hk => hb.block k hk
theorem slrd_next {R : Rep α} {w w1 : World} {a : Option Addr} {xs : List α} (h : SlRd R w a xs) (hb : Below w.heap.size w w1) : SlRd R w1 a xs := slrd_keep h fun k hk => hb.block k hk
/- Cells that are laid one behind the other. -/
def putC (w : World) (g : Nat) : Nat → List Value → World
  | _, [] => w
  | off, c :: cs => putC (w.setCell ⟨g, off, none⟩ c) g (off + 1) cs
theorem set_take_drop (xs : List Value) (off : Nat) (c : Value) (h : off < xs.length) : xs.set off c = xs.take off ++ (c :: xs.drop (off + 1)) := by
  rw [List.set_eq_take_append_cons_drop, if_pos h]
theorem putC_row {base e size g n cap : Nat} : ∀ {cs : List Value} {w : World} {off : Nat} {xs : List Value}, w.ownsRow base e size (.slice (some ⟨g, 0, none⟩) n cap) n xs → off + cs.length ≤ n * size →
    (putC w g off cs).ownsRow base e size (.slice (some ⟨g, 0, none⟩) n cap) n (xs.take off ++ (cs ++ xs.drop (off + cs.length))) ∧ w.grownBy (putC w g off cs) (some g)
  | [], w, off, xs, h, hl => by
    simp only [putC, List.nil_append, List.length_nil, Nat.add_zero, List.take_append_drop]
    exact ⟨h, World.grownBy.refl _ _⟩
  | c :: cs, w, off, xs, h, hl => by
    simp only [List.length_cons] at hl
    have hx : off < xs.length := by have := h.1; omega
    have R := World.ownsRow.stored h off c
    have r := putC_row (cs := cs) (off := off + 1) R.1 (by omega)
    refine ⟨?_, grown_trans R.2 r.2⟩
    have e1 : (xs.set off c).take (off + 1) ++ (cs ++ (xs.set off c).drop (off + 1 + cs.length)) = xs.take off ++ (c :: cs ++ xs.drop (off + (c :: cs).length)) := by
      rw [set_take_drop xs off c hx]
      have hl2 : (xs.take off).length = off := by simp; omega
      rw [List.take_append, List.take_of_length_le (by omega), hl2, show off + 1 - off = 1 by omega, List.take_succ_cons, List.take_zero, List.drop_append, List.drop_of_length_le (by omega), List.nil_append, hl2,
        show off + 1 + cs.length - off = cs.length + 1 by omega, List.drop_succ_cons, List.drop_drop]
      simp only [List.length_cons, List.append_assoc, List.cons_append, List.nil_append]
      rw [show off + 1 + cs.length = off + (cs.length + 1) by omega]
    rw [← e1]
    exact r.1
/- A row of n that is made at once and filled one by one: xs are there, rest is still as it was made. -/
def Fill (e : TypeId) (R : Rep α) (w0 w : World) (n : Nat) (xs : List α) : Prop :=
  ∃ rows rest, w.ownsRow 0 e R.size (.slice (some ⟨w0.heap.size, 0, none⟩) n n) n (rows ++ rest) ∧ lown R w (rng (w0.heap.size + 1) w.heap.size) rows xs ∧ Below w0.heap.size w0 w ∧ w0.heap.size < w.heap.size
theorem fillR_start {e : TypeId} {R : Rep α} {w0 : World} {n : Nat} {cs : Array Value} (hm : n ≤ maxLen) (hs : cs.size = n * R.size) : Fill e R w0 (w0.alloc (.cells cs e)) n [] :=
  ⟨[], cs.toList, by simpa using World.ownsRow_lit (base := 0) (e := e) (size := R.size) w0 cs n (Nat.zero_le _) hm hs, rfl, (Below.refl _ _).alloc (Nat.le_refl _) _, by simp⟩
theorem fillR_step {e : TypeId} {R : Rep α} {w0 w w1 : World} {n k : Nat} {xs : List α} {c : List Value} {x : α} (h : Fill e R w0 w n xs) (hk : xs.length = k) (hkn : k < n) (hm : MadeR R w w1 c x) :
    (∀ i, i < R.size → ∃ u, w1.cell? ⟨w0.heap.size, k * R.size + i, none⟩ = some u) ∧ (∀ i, w1.frozen? ⟨w0.heap.size, i, none⟩ = false) ∧ Fill e R w0 (putC w1 w0.heap.size (k * R.size) c) n (xs ++ [x]) := by
  obtain ⟨rows, rest, hr, hl, hb, hlt⟩ := h
  have hc := R.rd_len (R.own_rd hm.1)
  have hrl := lown_len hl
  rw [hk] at hrl
  have hle : k * R.size + R.size ≤ n * R.size := by
    have : (k + 1) * R.size ≤ n * R.size := Nat.mul_le_mul_right _ hkn
    rwa [Nat.add_one_mul] at this
  have hr1 : w1.ownsRow 0 e R.size (.slice (some ⟨w0.heap.size, 0, none⟩) n n) n (rows ++ rest) := orow_keep hr fun g hg => by
    simp [Value.ownBlock] at hg
    subst hg
    exact hm.2.block _ hlt
  have hl1 : lown R w1 (rng (w0.heap.size + 1) w.heap.size) rows xs := lown_keep hl fun j hj _ => hm.2.block j hj.2
  obtain ⟨p1, p2⟩ := putC_row (cs := c) (off := k * R.size) hr1 (by omega)
  have hlen := hr1.1
  have hsz := hm.2.size
  refine ⟨fun i hi => ?_, fun i => World.ownsRow.frozenAt hr1 i, rows ++ c, (rows ++ rest).drop (k * R.size + c.length), ?_, ?_, ?_, ?_⟩
  · rw [World.ownsRow.cellAt hr1 _ (by omega)]
    exact ⟨_, List.getElem?_eq_getElem (by omega)⟩
  · rw [List.append_assoc]
    rw [List.take_append_of_le_length (by omega), List.take_of_length_le (by omega)] at p1
    exact p1
  · have hkeep : ∀ j, j ≠ w0.heap.size → j < w1.heap.size → (putC w1 w0.heap.size (k * R.size) c).heap[j]? = w1.heap[j]? := fun j hj hlj => p2.block j hlj (fun e => hj (by simpa using e))
    have o1 : R.own (putC w1 w0.heap.size (k * R.size) c) (rng w.heap.size w1.heap.size) c x := R.own_keep hm.1 fun j hj hlj => hkeep j (by have := hj.1; omega) hlj
    have l1 : lown R (putC w1 w0.heap.size (k * R.size) c) (rng (w0.heap.size + 1) w.heap.size) rows xs := lown_keep hl1 fun j hj hlj => hkeep j (by have := hj.1; omega) hlj
    exact lown_push l1 o1 (rng_dis (.inl (Nat.le_refl _))) (rng_sub (Nat.le_refl _) (Nat.le_trans hsz p2.size)) (rng_sub (by omega) p2.size)
  · exact (below_next hb hm.2).grown p2 (by omega) (fun j hj => by cases hj; exact Nat.le_refl _)
  · have := p2.size
    omega
theorem fillR_end {e : TypeId} {R : Rep α} {w0 w : World} {n : Nat} {xs : List α} (h : Fill e R w0 w n xs) (hn : xs.length = n) : MadeR (slR e R) w0 w [.slice (some ⟨w0.heap.size, 0, none⟩) xs.length n] xs := by
  obtain ⟨rows, rest, hr, hl, hb, hlt⟩ := h
  have hrl := lown_len hl
  have hlen := hr.1
  have : rest = [] := by
    rw [hn] at hrl
    rw [List.length_append] at hlen
    exact List.eq_nil_of_length_eq_zero (by omega)
  subst this
  rw [List.append_nil] at hr
  refine ⟨⟨_, rows, rng (w0.heap.size + 1) w.heap.size, rfl, by rw [hn]; exact hr, fun g hg => ?_, rng_sub (by omega) (Nat.le_refl _), hl⟩, hb⟩
  simp [Value.ownBlock] at hg
  subst hg
  exact ⟨⟨Nat.le_refl _, hlt⟩, fun h => by have := h.1; omega⟩
/- A row that grows by append. -/
theorem slown_row {e : TypeId} {R : Rep α} {lo hi : Nat} {w : World} {v : Value} {xs : List α} (h : (slR e R).own w (rng lo hi) [v] xs) : ∃ rows, w.ownsRow lo e R.size v xs.length rows ∧ rows.length = xs.length * R.size := by
  obtain ⟨v', rows, S', hv, hr, hg, hs, hl⟩ := h
  simp only [List.cons.injEq, and_true] at hv
  subst hv
  exact ⟨rows, row_base hr fun g h => (hg g h).1.1, lown_len hl⟩
theorem appR_step {e : TypeId} {R : Rep α} {w0 w w1 w2 : World} {o : Obj} {v v' : Value} {xs : List α} {c : List Value} {x : α} (hty : e ∉ R.tys) (h : MadeR (slR e R) w0 w [v] xs) (hm : MadeR R w w1 c x)
    (happ : ∀ rows, w.ownsRow w0.heap.size e R.size v xs.length rows → w2.ownsRow w0.heap.size e R.size v' (xs.length + 1) (rows ++ c)) (hg : (w1.alloc o).grownBy w2 v.ownBlock) : MadeR (slR e R) w0 w2 [v'] (xs ++ [x]) := by
  obtain ⟨⟨v1, rows, S', hv, hr, hgg, hs, hl⟩, hb⟩ := h
  simp only [List.cons.injEq, and_true] at hv
  subst hv
  have hr0 := row_base (base' := w0.heap.size) hr fun g h => (hgg g h).1.1
  have hr2 := happ rows hr0
  have s1 := hm.2.size
  have s0 := hb.size
  have s2 : w1.heap.size + 1 ≤ w2.heap.size := by have := hg.size; simpa using this
  have lt := lown_tight hl
  have ot := R.own_tight hm.1
  have keepw : ∀ k, k < w1.heap.size → v.ownBlock ≠ some k → w2.heap[k]? = w1.heap[k]? := fun k hk hne => by
    rw [hg.block k (by simp; omega) (fun e => hne e.symm), Below.heap_alloc w1 o k hk]
  have L2 : lown R w2 (fun k => S' k ∧ ∃ cur t, t ∈ R.tys ∧ w.heap[k]? = some (.cells cur t (0, 0))) rows xs := lown_keep lt fun k hk hlk => by
    rw [keepw k (by omega) (fun e => (hgg k e).2 hk.1), hm.2.block k hlk]
  have O2 : R.own w2 (fun k => rng w.heap.size w1.heap.size k ∧ ∃ cur t, t ∈ R.tys ∧ w1.heap[k]? = some (.cells cur t (0, 0))) c x := R.own_keep ot fun k hk hlk =>
    keepw k hlk (fun e => by have := (hgg k e).1.2; have := hk.1.1; omega)
  refine ⟨⟨v', rows ++ c, (fun k => (S' k ∧ ∃ cur t, t ∈ R.tys ∧ w.heap[k]? = some (.cells cur t (0, 0))) ∨ (rng w.heap.size w1.heap.size k ∧ ∃ cur t, t ∈ R.tys ∧ w1.heap[k]? = some (.cells cur t (0, 0)))), rfl, by rw [List.length_append]; exact row_base hr2 (fun _ _ => Nat.zero_le _), fun g hg' => ?_, ?_, lown_push L2 O2 ?_ (fun k h => .inl h) (fun k h => .inr h)⟩, ?_⟩
  · obtain ⟨cur, hcur⟩ := row_block hr2 hg'
    have hin := World.ownsRow.lt hr2 g hg'
    refine ⟨⟨hin.1, hin.2⟩, ?_⟩
    rintro (⟨h1, cur', t, ht, hh⟩ | ⟨h1, cur', t, ht, hh⟩)
    · have hlk : g < w.heap.size := (Array.getElem?_eq_some_iff.1 hh).1
      have : w2.heap[g]? = w.heap[g]? := by rw [keepw g (by omega) (fun e => (hgg g e).2 h1), hm.2.block g hlk]
      rw [hcur, hh] at this
      simp at this
      rw [this.2] at hty
      exact hty ht
    · have hlk : g < w1.heap.size := (Array.getElem?_eq_some_iff.1 hh).1
      have : w2.heap[g]? = w1.heap[g]? := keepw g hlk (fun e => by have := (hgg g e).1.2; have := h1.1; omega)
      rw [hcur, hh] at this
      simp at this
      rw [this.2] at hty
      exact hty ht
  · rintro k (⟨h1, _⟩ | ⟨h1, _⟩)
    · have := hs k h1
      exact ⟨this.1, by have := this.2; omega⟩
    · exact ⟨by have := h1.1; omega, by have := h1.2; omega⟩
  · rintro k ⟨h1, _⟩ ⟨h2, _⟩
    have := (hs k h1).2
    have := h2.1
    omega
  · exact ((below_next hb hm.2).alloc (by omega) o).grown hg (by simp; omega) (fun k hk => (hgg k hk).1.1)
end
end Go.Proofs.YthbclkpmgcfdnaaGreatDoor
