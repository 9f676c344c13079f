import Derived.Test.YtmdhblhdfcocjaaGreatDoorP00Box
import Derived.Test.YtmdhblhdfcocjaaGreatDoorP02
import Derived.OrdersIn
import Derived.TacticsIn
import Derived.Deep.RegionWith
import Derived.BigRegion
import Derived.Maps.AppendAt
import Derived.Deep.Cut
import Derived.Deep.DeepCutAuto
namespace Go.Proofs.YtmdhblhdfcocjaaGreatDoor
set_option maxHeartbeats 1000000
open Go.ChangeShapes Go.WideShapes Go.ChangeAt Go.RowKit
set_option linter.unusedVariables false
theorem zBL : zEb Tryz.prog 2 zBC := zM0 Tryz.underlying2
theorem zE2 : zEb Tryz.prog 23 zA5 := zDG Tryz.underlying23 (by kernel_rfl) Nat.zero_lt_one zBL
open Go.RowKit
structure Cls (C : World → Prop) where
 w : World
 h : C w
theorem zA8 {P : Program} {id : Nat} {Q : Exit → Act → World → Prop} {a : Act} {w : World} {l : List Oper} (C : World → Prop) (hm : P.follows .mixedOrders = true) (hB : Region.lexB .any l.toArray = true) (h0 : C w.drew)
    (h : Nonempty (Cls C) → wpQuiet P l.toArray (fun w' => ∃ n : Cls C, w' = n.w) (fun a' => ∀ w', C w' → Q .normal a' w') l a) : (Code.region id l.toArray true).wp P Q a w :=
 wp_region_quiet (C := fun w' => ∃ n : Cls C, w' = n.w) hm hB ⟨⟨w.drew, h0⟩, rfl⟩ (by
  have := h ⟨⟨w.drew, h0⟩⟩;have e : (fun a' => ∀ w', C w' → Q .normal a' w') = (fun a' => ∀ w', (∃ n : Cls C, w' = n.w) → Q .normal a' w') := by
   funext a'
   exact propext ⟨fun h w' ⟨n, e⟩ => h w' (by rw [e]; exact n.h), fun h w' hc => h w' ⟨⟨w', hc⟩, rfl⟩⟩
  rw [e] at this
  simpa using this)
def noDef (l : List Oper) : Bool := l.all fun o => match o.op with
 | .defer _ => false
 | _ => true
theorem noDef_at {l : List Oper} (h : noDef l = true) {o : Oper} (ho : o ∈ l) (c : Call) : o.op ≠ .defer c := fun e => by
 have := List.all_eq_true.1 h o ho;rw [e] at this;cases this
section
variable {P : Program} {C : World → Prop} {r : Nat}
theorem zHk {o : Oper} {a : Act} {K : Act → Prop} {K' : Act → World → Prop} {Q' : Exit → Act → World → Prop} {w : World} (hdf : ∀ c, o.op ≠ .defer c) (hw : C w) (h : ∀ a w', C w' → K a → K' a w')
    (hh : o.quiet P a C K) : o.wpIn (Fence.wide.inRound r) 0 P a w K' Q' := by
 obtain ⟨v, j, g⟩ := hh;have b := j w hw;refine ⟨fun _ _ => trivial, ?_⟩;show o.uponIn _ 0 P a K' Q' ((o.semAt (some r) a.eval).run P w)
 rw [Oper.semAt_some r a.eval o hdf];unfold Oper.quietAt at b;generalize (execOp a.eval o).run P w = x at b;cases x with
 | halt y w' => exact (show False from b).elim
 | ok y w' =>
  cases y with
  | value u =>
   obtain ⟨rfl, rfl⟩ := (show w' = w ∧ u = v from b);exact h _ _ hw g
  | skip =>
   obtain ⟨rfl, rfl⟩ := (show w' = w ∧ v = undef from b);exact h _ _ hw g
  | enter f args =>
   obtain ⟨rfl, i⟩ := (show w' = w ∧ Calls P f args w (fun e w'' => e = .returned v ∧ C w'') from b);refine ⟨fun e => (by cases e), (callsIn_wide.2 i).mono fun e w'' he => ?_⟩;obtain ⟨rfl, d⟩ := he;exact h _ _ d g
  | _ => exact (show False from b).elim
theorem zEi {l : List Oper} {md : Region.Mode} {Q : Act → Prop} {Q' : Exit → Act → World → Prop} (hdf : noDef l = true) (hQ : ∀ a w, C w → Q a → Q' .normal a w) : ∀ (fuel : Nat) (listed : Array Bool) (a : Act) (w : World), C w →
    wpAnyQ P md l.toArray C Q fuel listed a → wpAnyIn (Fence.wide.inRound r) 0 P md l.toArray Q' fuel listed a w
 | 0, _, _, _, hw, h => ⟨h.1, hQ _ _ hw h.2⟩
 | fuel + 1, listed, a, w, hw, h => by
  refine ⟨fun h0 => hQ _ _ hw (h.1 h0), fun i hi => ?_⟩;have b := h.2 i hi;have f : ∀ a' w', C w' → wpAnyQ P md l.toArray C Q fuel (listed.setIfInBounds i true) a' → wpAnyIn (Fence.wide.inRound r) 0 P md l.toArray Q' fuel (listed.setIfInBounds i true) a' w' := fun a' w' hw' => zEi hdf hQ fuel _ a' w' hw';unfold qOp at b;unfold wpOpIn;split
  ·rename_i ho
   simp only [ho] at b;exact f _ _ hw b
  ·rename_i o ho
   simp only [ho] at b;have c : o ∈ l := by
    simp at ho
    exact List.mem_of_getElem? ho
   by_cases d : Region.wanted o (yielded l.toArray a.tmps) = true
   ·simp only [d, if_true] at b ⊢;exact zHk (noDef_at hdf c) hw f b
   ·simp only [d] at b ⊢;exact ⟨fun _ _ => trivial, f _ _ hw b⟩
end
theorem zCO {P : Program} {id r : Nat} {Q : Exit → Act → World → Prop} {a : Act} {w : World} {l : List Oper} (C : World → Prop) (hm : P.follows .mixedOrders = true) (hB : Region.lexB .any l.toArray = true) (hdf : noDef l = true) (h0 : C w.drew)
    (h : Nonempty (Cls C) → wpQuiet P l.toArray (fun w' => ∃ n : Cls C, w' = n.w) (fun a' => ∀ w', C w' → Q .normal a' w') l a) : (Code.region id l.toArray true).wpIn (Fence.wide.inRound r) 0 P Q a w := by
 simp only [Region.lexB, Bool.and_eq_true] at hB;refine wpIn_region_any hm (zEi (C := fun w' => ∃ n : Cls C, w' = n.w) (Q := fun a' => ∀ w', C w' → Q .normal a' w') hdf (fun a' w' ⟨n, hn⟩ h => h w' (by rw [hn]; exact n.h)) _ _ _ _ ⟨⟨w.drew, h0⟩, rfl⟩ ?_);have := wpAnyQ_lex (P := P) (C := fun w' => ∃ n : Cls C, w' = n.w) (md := .any) hB.1 l 0 (Array.replicate l.toArray.size false) a (by simp) (by simpa using hB.2) (h ⟨⟨w.drew, h0⟩⟩);simpa using this
theorem zA4 {P : Program} {ops : Array Oper} {C : World → Prop} {Q : Act → Prop} {a : Act} {o : Oper} {rest : List Oper} {j : Nat} {b : Bool} {og : Oper} {d : Tmp} (ht : a.tmps[d]? = some (.bool (!b))) (hg : o.guard = some (j, b)) (ho : ops[j]? = some og) (hd : og.dst = some d)
    (hne : o.dst ≠ some d) (h : ∀ a', a' = a.put o.dst undef → a'.tmps[d]? = some (.bool (!b)) → wpQuiet P ops C Q rest a') : wpQuiet P ops C Q (o :: rest) a := by
 have f : yielded ops a.tmps j = some (!b) := by
  unfold yielded;simp [ho, hd, ht]
 have c : Region.wanted o (yielded ops a.tmps) = false := by
  unfold Region.wanted;simp [hg, f]
 unfold wpQuiet;rw [c];refine h _ rfl ?_;cases g : o.dst with
 | none => exact ht
 | some d' =>
  have : d' ≠ d := fun e => hne (by rw [g, e]);show (a.tmps.setIfInBounds d' undef)[d]? = _
  rw [Array.getElem?_setIfInBounds_ne this];exact ht
theorem zGy (K : Act → Prop) (a : Act) (h : ∀ A, A = a → K A) : K a := h a rfl
theorem zAz {P : Program} {f : FuncId} {args : Array Value} {C : World → Prop} {n : Cls C} {v : Value} {R : World → Prop} (h : Calls P f args n.w fun e w' => e = .returned v ∧ R w') (hs : ∀ w', C n.w → R w' → C w') :
    Calls P f args n.w fun e w'' => e = .returned v ∧ ∃ m : Cls C, w'' = m.w := h.mono fun _ w' ⟨he, hr⟩ => ⟨he, ⟨w', hs w' n.h hr⟩, rfl⟩
theorem zAS {P : Program} {f : FuncId} {args : Array Value} {C : World → Prop} {n : Cls C} {v : Value} (h : Calls P f args n.w fun e w' => e = .returned v ∧ w' = n.w) :
    Calls P f args n.w fun e w'' => e = .returned v ∧ ∃ m : Cls C, w'' = m.w := h.mono fun _ w' ⟨he, hr⟩ => ⟨he, n, hr⟩
def setB (s : Int) : Bool := decide (0 ≤ s ∧ s ≤ 255)
def itemB (i : Int) : Bool := decide (0 ≤ i ∧ i ≤ 7)
theorem zM5 (i : Int) (h1 : 0 ≤ i) (h2 : i ≤ 7) : wrap64 (2 ^ i.toNat) = 2 ^ i.toNat := by
 have h : i = 0 ∨ i = 1 ∨ i = 2 ∨ i = 3 ∨ i = 4 ∨ i = 5 ∨ i = 6 ∨ i = 7 := by omega
 rcases h with rfl | rfl | rfl | rfl | rfl | rfl | rfl | rfl <;> decide +kernel
theorem zIL (i : Int) (w : World) (h1 : 0 ≤ i) (h2 : i ≤ 7) :
    Calls Tryz.prog 165 #[nI i] w fun e w' => e = .returned (nI (2 ^ i.toNat)) ∧ w' = w := by
 go_enter Tryz.func165, Tryz.ntmps165;go_wp2;go_ret
 exact ⟨zAV (zM5 i h1 h2), rfl⟩
def zHl (x : Int) : Int := min (max x 0) 9999
def okW (x : Int) : Bool := zAP x 0 9999
theorem zJJ (a b : Int) (w : World) :
    Calls Tryz.prog 159 #[.agg #[nI a, nI b]] w fun e w' => e = .returned (.agg #[nI (zHl a), nI (zHl b)]) ∧ Bl w w' := by
 have B := (Below.refl w.heap.size w).alloc (Nat.le_refl _);go_enter Tryz.func159, Tryz.ntmps159;go_wp2;refine wp_loop_rounds 3 ?_;rw [rounds_succ];go_wp2
 all_goals rw [rounds_succ]
 all_goals go_wp2
 all_goals rw [rounds_succ]
 all_goals go_wp2
 all_goals
  refine bodyPost_ret (v := .agg #[nI (zHl a), nI (zHl b)]) ?_ rfl ⟨rfl, ?_⟩
  ·simp [results, Tryz.results159, go_sem]; first | done | (unfold zHl; omega) | (constructor <;> unfold zHl <;> omega)
  ·exact (B _).alloc (by simp) _
theorem zAp (w : World) (o : Obj) : (w.alloc o).heap.size = w.heap.size + 1 := by simp
theorem zBb {w : World} {g : Nat} {x y : Value} {t : TypeId} (h : w.heap[g]? = some (.cells #[x, y] t (0, 0))) :
    w.cell? ⟨g, 0, none⟩ = some x ∧ w.cell? ⟨g, 1, none⟩ = some y :=
 ⟨by rw [cell_of_row w g 0 _ t (0, 0) h]; rfl, by rw [cell_of_row w g 1 _ t (0, 0) h]; rfl⟩
theorem zAa {w w' : World} {g : Nat} {o : Obj} (hb : Bl w w') (h : w.heap[g]? = some o) : w'.heap[g]? = some o :=
 (hb.block g (ltH h)).trans h
theorem two_eq (a b c d : Int) (w : World) : (Op.equalIn 10000 167 (.agg #[nI a, nI b]) (.agg #[nI c, nI d])).run Tryz.prog w = .ok (a == c && b == d) w := by
 have u3 := Tryz.underlying2;have a3 := Tryz.isAgg2;have z3 := Tryz.sizeOf2;rw [show (10000 : Nat) = 9999 + 1 from rfl, Op.equalIn];simp only [Sem.run_bind, run_underlying Tryz.underlying167, Result.andThen_ok];simp only [Std.Legacy.Range.forIn_eq_forIn_range', Std.Legacy.Range.size, Nat.sub_zero, Nat.add_sub_cancel, Nat.div_one, List.range'_succ, List.range'_zero, List.forIn_cons, List.forIn_nil];go_simp
 by_cases f : a = c <;> by_cases g : b = d <;> simp [f, g]
theorem zKS (x : Int) : (x == zHl x) = okW x := by
 rw [Bool.eq_iff_iff]; simp [zHl, okW, zAP]; omega
theorem zM6 (a b : Int) (w : World) :
    Calls Tryz.prog 156 #[.agg #[nI a, nI b]] w fun e g => e = .returned (.bool (okW a && okW b)) ∧ Bl w g := by
 have B := (Below.refl w.heap.size w).alloc (Nat.le_refl _);go_enter Tryz.func156, Tryz.ntmps156;go_wp2;have R := heap_alloc_new w (.cells #[nI a, nI b] 167);have c := (B (.cells #[nI a, nI b] 167)).drew;generalize w.alloc (.cells #[nI a, nI b] 167) = W at R c ⊢;obtain ⟨i, f⟩ := zBb R;have E := two_eq a b (zHl a) (zHl b)
 go_region_with (go_at_call 159
                 refine (zJJ a b _).mono ?_;rintro e g ⟨rfl, d⟩;replace R := zAa d R;replace c := c.trans (d.mono c.size);clear i f d
                 obtain ⟨i, f⟩ := zBb R)
 all_goals
  go_wp2;go_ret
  exact ⟨zA2 (by rw [zKS, zKS]), c⟩
theorem zDJ (a b : Int) (w : World) :
    Calls Tryz.prog 155 #[.agg #[nI a, nI b]] w fun e w' => ∃ v, e = .returned v ∧ zM2 w w' v [a, b] := by
 have B := (Below.refl w.heap.size w).alloc (Nat.le_refl _);go_enter Tryz.func155, Tryz.ntmps155;go_wp2;go_ret
 have M := zKQ (w.alloc (.cells #[nI a, nI b] 167)) #[nI a, nI b] [a, b] rfl (by unfold maxLen; simp);rw [zAp] at M;exact ⟨_, rfl, zD6 (B _) M⟩
theorem zKT {w : World} {g : Nat} {cs : Array Value} {t : TypeId} (h : w.heap[g]? = some (.cells cs t (0, 0))) :
    w.frozen? ⟨g, 0, none⟩ = false ∧ w.frozen? ⟨g, 1, none⟩ = false := ⟨frozen_of_row w g 0 _ t h, frozen_of_row w g 1 _ t h⟩
theorem zIM {w : World} {a : Option Addr} {x y : Int} (h : zDF w a [x, y]) : ∃ b c, a = some ⟨b, c, none⟩ ∧ w.cell? ⟨b, c, none⟩ = some (nI x) ∧ w.cell? ⟨b, c + 1, none⟩ = some (nI y) := by
 rcases h with h | ⟨b, c, f, d⟩
 ·simp at h
 ·exact ⟨b, c, f, d 0 (by simp), d 1 (by simp)⟩
theorem zER (a : Option Addr) (n cap : Nat) (w : World) (hn : n ≠ 2) :
    Calls Tryz.prog 146 #[sL a n cap] w fun e w' => e = .returned (.tuple #[.agg #[nI 0, nI 0], .bool false]) ∧ Bl w w' := by
 have B := (Below.refl w.heap.size w).alloc (Nat.le_refl _);have b : ((n : Int) == 2) = false := by simp; omega
 go_enter Tryz.func146, Tryz.ntmps146;go_wp2;refine bodyPost_ret (v := .tuple #[.agg #[nI 0, nI 0], .bool false]) (by simp [results, Tryz.results146, go_sem]) rfl ⟨rfl, B _⟩
theorem zGz (a : Option Addr) (x y : Int) (cap : Nat) (w : World) (h : zDF w a [x, y]) :
    Calls Tryz.prog 146 #[sL a 2 cap] w fun e n => e = .returned (.tuple #[.agg #[nI x, nI y], .bool (okW x && okW y)]) ∧ Bl w n := by
 have B := (Below.refl w.heap.size w).alloc (Nat.le_refl _);obtain ⟨b, p, rfl, i, o⟩ := zIM h;have l0 := World.block_lt_of_cell? w _ i;go_enter Tryz.func146, Tryz.ntmps146;go_wp2;go_region
 go_wp2;have R : ((w.alloc (.cells #[nI 0, nI 0] 167)).alloc (.cells #[nI x, nI y] 167)).drew.heap[w.heap.size]? = some (.cells #[nI 0, nI 0] 167 (0, 0)) := by
  show ((w.alloc (.cells #[nI 0, nI 0] 167)).alloc (.cells #[nI x, nI y] 167)).heap[w.heap.size]? = _
  rw [Below.heap_alloc _ _ _ (by simp)];exact heap_alloc_new w _
 have X : ((w.alloc (.cells #[nI 0, nI 0] 167)).alloc (.cells #[nI x, nI y] 167)).drew.heap[w.heap.size + 1]? = some (.cells #[nI x, nI y] 167 (0, 0)) := by
  rw [← zAp w (.cells #[nI 0, nI 0] 167)];exact heap_alloc_new (w.alloc (.cells #[nI 0, nI 0] 167)) _
 have c := (((B (.cells #[nI 0, nI 0] 167)).alloc (by simp) (.cells #[nI x, nI y] 167)).drew).drew;clear i o h;generalize ((w.alloc (.cells #[nI 0, nI 0] 167)).alloc (.cells #[nI x, nI y] 167)).drew = W at R X c ⊢;obtain ⟨f, g⟩ := zBb R;obtain ⟨l, k⟩ := zKT R;obtain ⟨j, m⟩ := zBb X
 go_region_with (go_at_call 156
                 refine (zM6 x y _).mono ?_;rintro e n ⟨rfl, d⟩;replace R := zAa d R;replace X := zAa d X;replace c := c.trans (d.mono c.size);clear f g d j m l k;obtain ⟨f, g⟩ := zBb R;obtain ⟨l, k⟩ := zKT R
                 obtain ⟨j, m⟩ := zBb X)
 all_goals
  go_wp2;refine bodyPost_ret (v := .tuple #[.agg #[nI x, nI y], .bool (okW x && okW y)]) (by simp [results, Tryz.results146, go_sem, f, g]) rfl ⟨rfl, ?_⟩;exact (c.setCell (Nat.le_refl _) _).setCell (Nat.le_refl _) _
def isL : List Int → Bool
 | [x, y] => okW x && okW y
 | _ => false
theorem zFh (xs : List Int) : isL xs = false ∨ ∃ x y, xs = [x, y] ∧ okW x = true ∧ okW y = true := by
 match xs with
 | [] => exact .inl rfl
 | [_] => exact .inl rfl
 | [x, y] =>
  cases b : okW x
  ·exact .inl (by simp [isL, b])
  ·cases a : okW y
   ·exact .inl (by simp [isL, a])
   ·exact .inr ⟨x, y, rfl, b, a⟩
 | _ :: _ :: _ :: _ => exact .inl rfl
theorem zF8 (a : Option Addr) (xs : List Int) (cap : Nat) (w : World) (h : zDF w a xs) (hn : isL xs = false) :
    Calls Tryz.prog 146 #[sL a xs.length cap] w fun e c => ∃ x y : Int, e = .returned (.tuple #[.agg #[nI x, nI y], .bool false]) ∧ Bl w c := by
 match xs with
 | [x, y] =>
  refine (zGz a x y cap w h).mono ?_;rintro e c ⟨rfl, b⟩;exact ⟨x, y, by simp only [isL] at hn; rw [hn], b⟩
 | [] => exact (zER a 0 cap w (by simp)).mono fun e c h => ⟨0, 0, h⟩
 | [_] => exact (zER a 1 cap w (by simp)).mono fun e c h => ⟨0, 0, h⟩
 | _ :: _ :: _ :: r => exact (zER a (r.length + 1 + 1 + 1) cap w (by omega)).mono fun e c h => ⟨0, 0, h⟩
theorem zCA (a : Option Addr) (x y : Int) (cap : Nat) (w : World) (h : zDF w a [x, y]) (hx : okW x = true) (hy : okW y = true) :
    Calls Tryz.prog 146 #[sL a 2 cap] w fun e c => e = .returned (.tuple #[.agg #[nI x, nI y], .bool true]) ∧ Bl w c := by
 refine (zGz a x y cap w h).mono ?_;rintro e c ⟨rfl, b⟩;exact ⟨by rw [hx, hy]; rfl, b⟩
def zIN (xs : List Int) (k : Int) : Int := if isL xs then (if zAP k 0 1 then xs.getD k.toNat 0 else -1) else -1
def zL4 (xs : List Int) (k v : Int) : List Int := if isL xs then (if zAP k 0 1 then (if okW v then xs.set k.toNat v else xs) else xs) else []
def putB (xs : List Int) (k v : Int) : Bool := isL xs && (zAP k 0 1 && okW v)
theorem zJK {x y : Int} (hx : okW x = true) (hy : okW y = true) : isL [x, y] = true := by simp [isL, hx, hy]
theorem zKU {k : Int} (h : zAP k 0 1 = true) : k = 0 ∨ k = 1 := by simp [zAP] at h; omega
theorem zCZ (k : Int) (w : World) : Calls Tryz.prog 154 #[nI k] w fun e a => e = .returned (.bool (zAP k 0 1)) ∧ a = w := by
 go_enter Tryz.func154, Tryz.ntmps154;go_wp2_with (go_at_call 68; refine (zBd _ _ _ _).mono ?_; rintro e a ⟨rfl, rfl⟩)
 go_ret
 exact ⟨rfl, rfl⟩
theorem zBV (k : Int) (w : World) : Calls Tryz.prog 153 #[nI k] w fun e a => e = .returned (.bool (okW k)) ∧ a = w := by
 go_enter Tryz.func153, Tryz.ntmps153;go_wp2_with (go_at_call 68; refine (zBd _ _ _ _).mono ?_; rintro e a ⟨rfl, rfl⟩)
 go_ret
 exact ⟨rfl, rfl⟩
theorem zHm (a : Option Addr) (xs : List Int) (cap : Nat) (w : World) (h : zDF w a xs) :
    Calls Tryz.prog 119 #[sL a xs.length cap] w fun e w' => e = .returned (.bool (isL xs)) ∧ Bl w w' := by
 rcases zFh xs with f | ⟨x, y, rfl, c, d⟩
 ·go_enter Tryz.func119, Tryz.ntmps119;go_wp2_with fail
  refine (zF8 _ xs _ _ h f).mono ?_;rintro e g ⟨x, y, rfl, b⟩;go_wp2;go_ret
  exact ⟨by rw [f]; rfl, b.alloc b.size _⟩
 ·have i := zJK c d;go_enter Tryz.func119, Tryz.ntmps119;go_wp2_with fail
  refine (zCA _ x y _ _ h c d).mono ?_;rintro e g ⟨rfl, b⟩;go_wp2;go_ret
  exact ⟨by rw [i]; rfl, b.alloc b.size _⟩
theorem zHn (a : Option Addr) (xs : List Int) (cap : Nat) (k : Int) (w : World) (h : zDF w a xs) :
    Calls Tryz.prog 135 #[sL a xs.length cap, nI k] w fun e c => e = .returned (nI (zIN xs k)) ∧ Bl w c := by
 rcases zFh xs with j | ⟨x, y, rfl, d, f⟩
 ·have H : Hid (zIN xs k = -1) := by unfold Hid zIN; simp [j]
  go_enter Tryz.func135, Tryz.ntmps135;go_wp2_with fail
  refine (zF8 _ xs _ _ h j).mono ?_;rintro e g ⟨x, y, rfl, b⟩;go_wp2;go_ret
  exact ⟨zAV H.out.symm, b.alloc b.size _⟩
 ·have l := zJK d f;cases i : zAP k 0 1
  ·have H : Hid (zIN [x, y] k = -1) := by unfold Hid zIN; simp [i]
   go_enter Tryz.func135, Tryz.ntmps135;go_wp2_with fail
   refine (zCA _ x y _ _ h d f).mono ?_;rintro e g ⟨rfl, b⟩;go_wp2_with (go_at_call 154; refine (zCZ _ _).mono ?_; rintro e c ⟨rfl, rfl⟩)
   go_ret
   exact ⟨zAV H.out.symm, b.alloc b.size _⟩
  ·rcases zKU i with rfl | rfl
   all_goals
    go_enter Tryz.func135, Tryz.ntmps135;go_wp2_with fail
    refine (zCA _ x y _ _ h d f).mono ?_;rintro e g ⟨rfl, b⟩;go_wp2_with (go_at_call 154; refine (zCZ _ _).mono ?_; rintro e c ⟨rfl, rfl⟩)
    go_ret
    exact ⟨zAV (by simp [zIN, l, zAP]), b.alloc b.size _⟩
theorem zAf (w : World) (o : Obj) : Bl w (w.alloc o) := (Below.refl _ w).alloc (Nat.le_refl _) o
theorem zAx (w : World) (o : Obj) : (w.alloc o).heap[w.heap.size]? = some o := heap_alloc_new w o
theorem zAK {w : World} {k : Nat} {x : Obj} (o : Obj) (h : w.heap[k]? = some x) : (w.alloc o).heap[k]? = some x := (Below.heap_alloc w o k (ltH h)).trans h
theorem zBt {B : Nat} {a w : World} (h : Below B a w) (n : Nat) : Below B a (w.drewN n) := ⟨h.os, h.tape, h.output, h.size, h.block⟩
theorem zAd {w w' : World} {D b o : Nat} {u : Value} (hb : Below D w w') (h : w.cell? ⟨b, o, none⟩ = some u) (hl : b < D) : w'.cell? ⟨b, o, none⟩ = some u :=
 (World.cell?_of_block (w := w) (a := ⟨b, o, none⟩) (hb.block b hl)).trans h
theorem zAi {w : World} {b o : Nat} {u : Value} (h : w.cell? ⟨b, o, none⟩ = some u) : b < w.heap.size := World.block_lt_of_cell? w _ h
theorem zAl {α : Type} {R : Rep α} {w : World} {S : zAW} {cs : List Value} {x : α} {g o : Nat} {v : Value} (h : R.own w S cs x) (hg : ¬ S g) : R.own (w.setCell ⟨g, o, none⟩ v) S cs x :=
 R.own_keep h fun k hk _ => heap_setCell_other w ⟨g, o, none⟩ k v (fun e => hg (by have a : k = g := e; rw [← a]; exact hk))
theorem zAq {w w' : World} {B g o : Nat} {v : Value} (h : Below B w w') (hg : B ≤ g) : Below B w (w'.setCell ⟨g, o, none⟩ v) := h.setCell (p := ⟨g, o, none⟩) hg v
theorem zAO {w : World} {g k o : Nat} {v : Value} {x : Obj} (h : w.heap[k]? = some x) (hne : k ≠ g) : (w.setCell ⟨g, o, none⟩ v).heap[k]? = some x := (heap_setCell_other w ⟨g, o, none⟩ k v hne).trans h
theorem zDK {P : Program} (t e : TypeId) (z : Value) (size bytes : Nat) (ht : P.underlying t = some (.slice e)) (hinfo : (P.info? e).map (fun i => (i.zero, i.size, i.bytes)) = some (some z, size, bytes))
    (n : Nat) (hbytes : bytes * n ≤ 281474976710656) (h63 : n ≤ 9223372036854775807) (w : World) :
    (Instr.makeSlice t (nI (n : Int)) (nI (n : Int))).run P w = .ok (sL (some ⟨w.heap.size, 0, none⟩) n n) (w.alloc (.cells (madeCells z.cells (n * size)) e)) := by
 obtain ⟨i, f, a⟩ := Option.map_eq_some_iff.1 hinfo;simp only [Prod.mk.injEq] at a;obtain ⟨b, c, d⟩ := a;have g : (i.bytes : Int) * (n : Int) ≤ 281474976710656 := by rw [d, ← Int.natCast_mul]; omega
 have := run_make (P := P) w t e i z ht f b .i64 .i64 (n : Int) (n : Int) (by omega) (Int.le_refl _) g (by omega);simpa [c] using this
theorem zFi {α : Type} (M : Mk α) (xs : List α) {x : α} {k : Nat} (hx : xs[k]? = some x) : M.bk x ≤ zBz M xs := by
 have := zGw (M := M) hx;omega
theorem arr_of {cs : Array Value} {l : List Value} (h : cs.toList = l) : cs = l.toArray := by rw [← h]
theorem zGi {B : Nat} {a w : World} (h : Below B a w) (n : Nat) : Below B a (w.drewN n) := ⟨h.os, h.tape, h.output, h.size, h.block⟩
def Old (w : World) (S : zAW) : zAW := fun k => S k ∧ k < w.heap.size
theorem zBM {α : Type} {R : Rep α} {w : World} {S : zAW} {cs : List Value} {x : α} (h : R.own w S cs x) : R.own w (Old w S) cs x :=
 R.own_mono (R.own_tight h) fun k hk => ⟨hk.1, by obtain ⟨_, a, t, _, b⟩ := hk; exact (ltH b)⟩
theorem zB6 {w : World} {S : zAW} : Sub (Old w S) S := fun _ h => h.1
theorem zBQ {α : Type} {R : Rep α} {w : World} {S : zAW} {cs : List Value} {x : α} (o : Obj) (h : R.own w S cs x) : R.own (w.alloc o) S cs x := R.own_keep h fun k _ hl => Below.heap_alloc w o k hl
section
variable {α : Type}
theorem zKV {e : TypeId} {R : Rep α} {S : zAW} {w w1 w2 : World} {o : Obj} {v v' : Value} {xs : List α} {c : List Value} {x : α} (hty : e ∉ R.tys) (h : (slR e R).own w S [v] xs) (hm : zAX R w w1 c x)
    (happ : ∀ b, w.ownsRow 0 e R.size v xs.length b → w2.ownsRow 0 e R.size v' (xs.length + 1) (b ++ c)) (hg : (w1.alloc o).grownBy w2 v.ownBlock) (y : v'.ownBlock = v.ownBlock ∨ ∃ k, v'.ownBlock = some k ∧ w.heap.size ≤ k) :
    (slR e R).own w2 (fun k => Old w S k ∨ w.heap.size ≤ k) [v'] (xs ++ [x]) ∧ Chg (Old w S) w w2 := by
 obtain ⟨v1, b, B, A, G, i, z, E⟩ := zBM h;simp only [List.cons.injEq, and_true] at A;subst A;have n := happ b G;have s1 := hm.2.size;have s2 : w1.heap.size + 1 ≤ w2.heap.size := by have := hg.size; simpa using this
 have D := zEz E;have C := R.own_tight hm.1;have a : ∀ k, k < w1.heap.size → v.ownBlock ≠ some k → w2.heap[k]? = w1.heap[k]? := fun k j hne => by
  rw [hg.block k (by simp; omega) (fun e => hne e.symm), Below.heap_alloc w1 o k j]
 have J : zHi R w2 (fun k => B k ∧ ∃ d t, t ∈ R.tys ∧ w.heap[k]? = some (.cells d t (0, 0))) b xs := zDf D fun k j f => by
  rw [a k (by omega) (fun e => (i k e).2 j.1), hm.2.block k f]
 have L : R.own w2 (fun k => rng w.heap.size w1.heap.size k ∧ ∃ d t, t ∈ R.tys ∧ w1.heap[k]? = some (.cells d t (0, 0))) c x := R.own_keep C fun k j f =>
  a k f (fun e => by have := (i k e).1.2; have := j.1.1; omega)
 refine ⟨⟨v', b ++ c, (fun k => (B k ∧ ∃ d t, t ∈ R.tys ∧ w.heap[k]? = some (.cells d t (0, 0))) ∨ (rng w.heap.size w1.heap.size k ∧ ∃ d t, t ∈ R.tys ∧ w1.heap[k]? = some (.cells d t (0, 0)))), rfl, by rw [List.length_append]; exact n, fun g hg' => ?_, ?_, zFe J L ?_ (fun k h => .inl h) (fun k h => .inr h)⟩, ?_⟩
 ·obtain ⟨d, m⟩ := zDg n hg';refine ⟨?_, ?_⟩
  ·rcases y with y | ⟨k, j, r⟩
   ·rw [y] at hg';exact .inl (i g hg').1
   ·rw [hg'] at j;cases j;exact .inr r
  ·rintro (⟨l, q, t, s, p⟩ | ⟨l, q, t, s, p⟩)
   ·have f : g < w.heap.size := (ltH p);have : w2.heap[g]? = w.heap[g]? := by rw [a g (by omega) (fun e => (i g e).2 l), hm.2.block g f]
    rw [m, p] at this;simp at this
    rw [this.2] at hty;exact hty s
   ·have f : g < w1.heap.size := (ltH p);have : w2.heap[g]? = w1.heap[g]? := a g f (fun e => by have := (i g e).1.2; have := l.1; omega);rw [m, p] at this;simp at this
    rw [this.2] at hty;exact hty s
 ·rintro k (⟨l, _⟩ | ⟨l, _⟩)
  ·exact .inl (z k l)
  ·exact .inr l.1
 ·rintro k ⟨l, _⟩ ⟨F, _⟩;have := (z k l).2;have := F.1;omega
 ·have K : w2.os = w.os := hg.os.trans hm.2.os;have H : w2.tape = w.tape := hg.tape.trans hm.2.tape;have I : w2.output = w.output := hg.output.trans hm.2.output;refine ⟨K, H, I, by omega, fun k j hn => ?_⟩;rw [a k (by omega) (fun e => hn (i k e).1), hm.2.block k j]
end
theorem zES {w : World} {base base' e size n : Nat} {v : Value} {xs ys : List Value} (h : w.ownsRow base e size v n xs) (k : w.ownsRow base' e size v n ys) : xs = ys := by
 rcases h.2 with ⟨rfl, rfl⟩ | ⟨g, m, i, rfl, _, j, _, _, _, o⟩
 ·have q := h.1;have p := k.1;rw [List.eq_nil_of_length_eq_zero (l := xs) (by rw [q]; omega), List.eq_nil_of_length_eq_zero (l := ys) (by rw [p]; omega)]
 ·rcases k.2 with ⟨b, _⟩ | ⟨g', f, d, b, _, a, _, _, _, c⟩
  ·simp at b
  ·simp only [Value.slice.injEq, Option.some.injEq, Addr.mk.injEq, and_true, true_and] at b;obtain ⟨rfl, rfl⟩ := b;rw [j] at a;simp only [Option.some.injEq, Obj.cells.injEq] at a;rw [← o, ← c, a.1]
theorem zF9 {w : World} {base e size n : Nat} {v : Value} {xs : List Value} (h : w.ownsRow base e size v (n + 1) xs) : ∃ g a, v = sL (some ⟨g, 0, none⟩) (n + 1) a := by
 rcases h.2 with ⟨_, h0⟩ | ⟨g, a, b, rfl, _⟩
 ·omega
 ·exact ⟨g, a, rfl⟩
section
variable {α : Type}
theorem app_made {e : TypeId} {R : Rep α} {w0 w w1 w2 : World} {o : Obj} {v v' : Value} {xs : List α} {c : List Value} {x : α} {rows0 : List Value} (hty : e ∉ R.tys) (h : zAX (slR e R) w0 w [v] xs) (hm : zAX R w w1 c x)
    (hr : w.ownsRow w0.heap.size e R.size v xs.length rows0) (hown' : w2.ownsRow w0.heap.size e R.size v' (xs.length + 1) (rows0 ++ c)) (hg : (w1.alloc o).grownBy w2 v.ownBlock) : zAX (slR e R) w0 w2 [v'] (xs ++ [x]) :=
 zM1 hty h hm (fun rows hr' => by rw [zES hr' hr]; exact hown') hg
theorem zM7 {e : TypeId} {R : Rep α} (w : World) : zAX (slR e R) w (w.alloc (.cells #[] e)) [sL (some ⟨w.heap.size, 0, none⟩) 0 0] [] := by
 refine ⟨⟨_, [], fun _ => False, rfl, World.ownsRow_lit (base := 0) (e := e) (size := R.size) w #[] 0 (Nat.zero_le _) (Nat.zero_le _) (by simp), fun g hg => ?_, fun _ h => h.elim, rfl⟩, zAf w _⟩;simp [Value.ownBlock] at hg
 subst hg;exact ⟨⟨Nat.le_refl _, by simp⟩, fun h => h⟩
end
theorem zL5 (w : World) (cs : List Value) (t : TypeId) : ∀ j u, cs[j]? = some u → (w.alloc (.cells cs.toArray t)).cell? ((⟨w.heap.size, 0, none⟩ : Addr).add j) = some u := by
 intro j u a;have X := zAx w (.cells cs.toArray t);rw [show (⟨w.heap.size, 0, none⟩ : Addr).add j = ⟨w.heap.size, j, none⟩ from by simp [Addr.add] <;> omega, cell_of_row _ _ j _ _ (0, 0) X];simpa using a
variable {α : Type}
def zCp (R : Rep α) (lo hi : Nat) (w : World) (cs : List Value) (x : α) : Prop := R.own w (rng lo hi) cs x ∧ hi ≤ w.heap.size
theorem zA6 {R : Rep α} {lo hi : Nat} {w w' : World} {cs : List Value} {x : α} (h : zCp R lo hi w cs x) (hb : Bl w w') : zCp R lo hi w' cs x :=
 ⟨zDs h.1 hb h.2, Nat.le_trans h.2 hb.size⟩
theorem owned_chg {R : Rep α} {lo hi lo' hi' : Nat} {w w' : World} {cs : List Value} {x : α} (h : zCp R lo hi w cs x) (hc : Chg (rng lo' hi') w w') (hd : hi ≤ lo' ∨ hi' ≤ lo) : zCp R lo hi w' cs x :=
 ⟨zAN h.1 hc (zC1 hd), Nat.le_trans h.2 hc.size⟩
theorem zAQ {R : Rep α} {w w1 : World} {cs : List Value} {x : α} (h : zAX R w w1 cs x) : zCp R w.heap.size w1.heap.size w1 cs x := ⟨h.1, Nat.le_refl _⟩
theorem zCJ {R : Rep α} {lo hi : Nat} {w : World} {cs : List Value} {x : α} (h : zCp R lo hi w cs x) : zCp R lo hi w.drew cs x := ⟨R.own_keep h.1 fun _ _ _ => rfl, h.2⟩
theorem row_chg {w w' : World} {k lo hi : Nat} {o : Obj} (h : w.heap[k]? = some o) (hc : Chg (rng lo hi) w w') (hk : k < lo ∨ hi ≤ k) : w'.heap[k]? = some o :=
 (hc.block k (ltH h) fun x => by have := x.1; have := x.2; omega).trans h
theorem chg_b0 {w0 w w' : World} {lo hi : Nat} (hb : Bl w0 w) (hc : Chg (rng lo hi) w w') (hl : w0.heap.size ≤ lo) : Bl w0 w' :=
 hc.below hb (fun k hk => by have := hk.1; omega) hb.size
theorem zGj (d : List Int) : zBn.bk d = d.length := by
 have h1 : zBn.bk d = d.length + zBz zBx d := rfl;have h2 : zBz zBx d = 0 := by
  induction d with
  | nil => rfl
  | cons x xs ih => simp only [zBz, List.map_cons, List.sum_cons] at ih ⊢; rw [ih rfl]; rfl
 omega
theorem zEj {w w' : World} {S : zAW} {o : Obj} (h : Chg S (w.alloc o) w') : Chg S w w' :=
 ⟨h.os, h.tape, h.output, Nat.le_trans (by simp) h.size, fun k hk hn => (h.block k (by simp; omega) hn).trans (Below.heap_alloc w o k hk)⟩
section
variable {α : Type}
def zEc : List Value → Value
 | [v] => v
 | _ => undef
def zBh (cs : List Value) : Value := .agg cs.toArray
theorem aE {cs : List Value} : zBh cs = .agg cs.toArray := rfl
abbrev lot : Nat := 4398046511104
def SzC (f : Nat) (R : Rep α) (M : Mk α) (V : List Value → Value) : Prop := ∀ (cs : List Value) (x : α) (left : Int) (w : World), R.rd w cs x → 0 ≤ left → left ≤ 1048576 →
 Calls Tryz.prog f #[V cs, .int .i64 left] w fun e w' => e = .returned (.int .i64 (szI (M.bk x) left)) ∧ Below w.heap.size w w'
def ToC (f : Nat) (R : Rep α) (M : Mk α) (V : List Value → Value) : Prop := ∀ (cs : List Value) (x : α) (w : World), R.rd w cs x → M.bk x ≤ 1048576 →
 Calls Tryz.prog f #[V cs] w fun e w' => ∃ ds, e = .returned (V ds) ∧ zAX R w w' ds x
def EqC (f : Nat) (R : Rep α) (M : Mk α) (V : List Value → Value) : Prop := ∀ (cs ds : List Value) (x : α) (w : World), R.rd w cs x → R.rd w ds x → M.bk x ≤ lot →
 Calls Tryz.prog f #[V cs, V ds] w fun e w' => e = .returned (.bool true) ∧ Below w.heap.size w w'
def MkC (f : Nat) (R : Rep α) (M : Mk α) (V : List Value → Value) : Prop := ∀ (S : zAW) (cs : List Value) (x : α) (k : Int) (w : World), R.own w S cs x → 0 ≤ k → k + (M.cV x : Int) ≤ (lot : Int) → M.bk x ≤ lot →
 Calls Tryz.prog f #[V cs, .int .i64 k] w fun e w' => e = .returned (.int .i64 (k + (M.cV x : Int))) ∧ R.own w' S cs (M.mV k x) ∧ Chg S w w'
def HdC (f : Nat) (R : Rep α) (M : Mk α) (V : List Value → Value) : Prop := ∀ (cs : List Value) (x : α) (k : Int) (w : World), R.rd w cs (M.mV k x) → 0 ≤ k → k + (M.cV x : Int) ≤ (lot : Int) → M.bk x ≤ lot →
 Calls Tryz.prog f #[V cs, .int .i64 k] w fun e w' => e = .returned (.int .i64 (k + (M.cV x : Int))) ∧ Below w.heap.size w w'
end
theorem zHU {α : Type} {e : TypeId} {R : Rep α} {w : World} {S : zAW} {cs : List Value} {x : List α} (h : (slR e R).own w S cs x) : ∃ v, cs = [v] := List.length_eq_one_iff.1 ((slR e R).rd_len ((slR e R).own_rd h))
theorem zFj {w w' : World} (h : w' = w) : Bl w w' := by rw [h]; exact Below.refl _ _
theorem szInts_u : SzC 21 zA5 zBn zEc := by
 rintro cs x left w ⟨a, b, rfl, d, c, l3⟩ f g;exact (zCC a x b left w f g (Nat.le_trans d c)).mono fun e w' ⟨q, r⟩ => ⟨q, zFj r⟩
theorem toInts_u : ToC 29 zA5 zBn zEc := by
 rintro cs x w ⟨a, b, rfl, l1, l2, c⟩ d;refine (zDt a x b w c d).mono ?_;rintro e w' ⟨v, rfl, f⟩;exact ⟨[v], rfl, f⟩
theorem eqInts_u : EqC 40 zA5 zBn zEc := by
 rintro cs ds x w ⟨a, c, rfl, l1, l2, d⟩ ⟨b, f, rfl, k1, k2, g⟩ hm;refine (zDu a b x c f w d g (by have : lot = 4398046511104 := rfl; omega)).mono ?_;rintro e w' ⟨q, n, rfl⟩;exact ⟨q, zBt (Below.refl _ _) n⟩
theorem mkInts_u : MkC 44 zA5 zBn zEc := by
 intro S cs x k w h a hm hb;obtain ⟨v, rfl⟩ := zHU h;have e : lot = 4398046511104 := rfl;have e2 : zBn.cV x = zA1 zBx x := rfl;exact zCi S v k x w a (by omega) (by omega) h
theorem hdInts_u : HdC 48 zA5 zBn zEc := by
 rintro cs x k w ⟨a, b, rfl, l1, l2, c⟩ d hm hb;have e : lot = 4398046511104 := rfl;have e2 : zBn.cV x = zA1 zBx x := rfl;have := zC6 a b k x w d (by omega) (by omega) c;rw [show x.length = (zBn.mV k x).length from (zBF _ _ _).symm] at this;exact this.mono fun e w' ⟨q, r⟩ => ⟨q, zFj r⟩
variable {α β : Type}
theorem zIO {R : Rep α} {Q : Rep β} {w : World} {S : zAW} {cs ds : List Value} {x : α} {y : β} (h : (zBP R Q).own w S (cs ++ ds) (x, y)) (hl : cs.length = R.size) :
    ∃ b a, R.own w b cs x ∧ Q.own w a ds y ∧ Sub b S ∧ Sub a S ∧ Dis b a := by
 obtain ⟨c1, c2, b, a, e, c, i, g, f, d⟩ := h;obtain ⟨rfl, rfl⟩ := List.append_inj e (hl.trans (R.rd_len (R.own_rd c)).symm);exact ⟨b, a, c, i, g, f, d⟩
theorem pair_rd {R : Rep α} {Q : Rep β} {w : World} {cs ds : List Value} {x : α} {y : β} (h : (zBP R Q).rd w (cs ++ ds) (x, y)) (hl : cs.length = R.size) : R.rd w cs x ∧ Q.rd w ds y := by
 obtain ⟨c1, c2, e, a, b⟩ := h;obtain ⟨rfl, rfl⟩ := List.append_inj e (hl.trans (R.rd_len a).symm);exact ⟨a, b⟩
theorem zDL {R : Rep α} {Q : Rep β} {w : World} {S S1 S2 : zAW} {cs ds : List Value} {x : α} {y : β} (h1 : R.own w S1 cs x) (h2 : Q.own w S2 ds y) (a1 : Sub S1 S) (a2 : Sub S2 S) (d : Dis S1 S2) : (zBP R Q).own w S (cs ++ ds) (x, y) :=
 ⟨cs, ds, S1, S2, rfl, h1, h2, a1, a2, d⟩
theorem mk_fst {f : Nat} {R : Rep α} {M : Mk α} {V : List Value → Value} {Q : Rep β} (H : MkC f R M V) (S : zAW) (cs ds : List Value) (x : α) (y : β) (k : Int) (w : World) (h : (zBP R Q).own w S (cs ++ ds) (x, y)) (hl : cs.length = R.size) (h0 : 0 ≤ k) (h1 : k + (M.cV x : Int) ≤ (lot : Int)) (h2 : M.bk x ≤ lot) :
    Calls Tryz.prog f #[V cs, nI k] w fun e a => e = .returned (nI (k + (M.cV x : Int))) ∧ (zBP R Q).own a S (cs ++ ds) (M.mV k x, y) ∧ Chg S w a := by
 obtain ⟨g, S2, j, i, b, l, d⟩ := zIO h hl;refine (H g cs x k w j h0 h1 h2).mono ?_;rintro e a ⟨rfl, q, c⟩;exact ⟨rfl, zDL q (zAN i c fun k p r => d k r p) b l d, c.mono b⟩
theorem mk_snd {f : Nat} {Q : Rep β} {M : Mk β} {V : List Value → Value} {R : Rep α} (H : MkC f Q M V) (S : zAW) (cs ds : List Value) (x : α) (y : β) (k : Int) (w : World) (h : (zBP R Q).own w S (cs ++ ds) (x, y)) (hl : cs.length = R.size) (h0 : 0 ≤ k) (h1 : k + (M.cV y : Int) ≤ (lot : Int)) (h2 : M.bk y ≤ lot) :
    Calls Tryz.prog f #[V ds, nI k] w fun e a => e = .returned (nI (k + (M.cV y : Int))) ∧ (zBP R Q).own a S (cs ++ ds) (x, M.mV k y) ∧ Chg S w a := by
 obtain ⟨S1, g, l, i, j, b, d⟩ := zIO h hl;refine (H g ds y k w i h0 h1 h2).mono ?_;rintro e a ⟨rfl, q, c⟩;exact ⟨rfl, zDL (zAN l c d) q j b d, c.mono b⟩
def zHV (R : Rep α) (n : Nat) (w : World) (cs : List Value) (x : α) : Prop := ∃ w0 : World, R.rd w0 cs x ∧ w0.heap.size = n ∧ n ≤ w.heap.size ∧ ∀ k, k < n → w.heap[k]? = w0.heap[k]?
theorem sight_of {R : Rep α} {w : World} {cs : List Value} {x : α} (h : R.rd w cs x) : zHV R w.heap.size w cs x := ⟨w, h, rfl, Nat.le_refl _, fun _ _ => rfl⟩
theorem sight_rd {R : Rep α} {n : Nat} {w : World} {cs : List Value} {x : α} (h : zHV R n w cs x) : R.rd w cs x := by
 obtain ⟨w0, b, c, h3, a⟩ := h;exact R.rd_keep b fun k hk => a k (c ▸ hk)
theorem sight_next {R : Rep α} {n : Nat} {w w' : World} {cs : List Value} {x : α} (h : zHV R n w cs x) (hb : Bl w w') : zHV R n w' cs x := by
 obtain ⟨d, c, f, a, b⟩ := h;exact ⟨d, c, f, Nat.le_trans a hb.size, fun k hk => (hb.block k (Nat.lt_of_lt_of_le hk a)).trans (b k hk)⟩
theorem sight_chg {R : Rep α} {n lo hi : Nat} {w w' : World} {cs : List Value} {x : α} (h : zHV R n w cs x) (hc : Chg (rng lo hi) w w') (hl : n ≤ lo) : zHV R n w' cs x := by
 obtain ⟨d, c, f, a, b⟩ := h;exact ⟨d, c, f, Nat.le_trans a hc.size, fun k hk => (hc.block k (Nat.lt_of_lt_of_le hk a) fun p => by have := p.1; omega).trans (b k hk)⟩
theorem sight_drew {R : Rep α} {n : Nat} {w : World} {cs : List Value} {x : α} (h : zHV R n w cs x) : zHV R n w.drew cs x := h
theorem sight_lt {R : Rep α} {n : Nat} {w : World} {cs : List Value} {x : α} (h : zHV R n w cs x) : n ≤ w.heap.size := by
 obtain ⟨w0, h1, h2, a, h4⟩ := h;exact a
section
variable {α β : Type}
def Bv (M : Mk α) (K : Nat) : Prop := ∀ x, M.cV x ≤ K * M.bk x
theorem zKW : Bv zBx 0 := fun _ => by simp [zBx]
theorem zEk {M : Mk α} {N : Mk β} {K L : Nat} (h : Bv M K) (k : Bv N L) : Bv (zDH M N) (K + L) := fun x => by
 have h1 := h x.1;have h2 := k x.2;show M.cV x.1 + N.cV x.2 ≤ (K + L) * (M.bk x.1 + N.bk x.2)
 have e1 : K * M.bk x.1 ≤ K * (M.bk x.1 + N.bk x.2) := Nat.mul_le_mul_left _ (by omega);have e2 : L * N.bk x.2 ≤ L * (M.bk x.1 + N.bk x.2) := Nat.mul_le_mul_left _ (by omega);rw [Nat.add_mul];omega
theorem bv_sl {M : Mk α} {K : Nat} (h : Bd M K) : Bv (slM M) K := zKR h
theorem zHW : Bv zBn 1 := bv_sl zDh
end
end Go.Proofs.YtmdhblhdfcocjaaGreatDoor
