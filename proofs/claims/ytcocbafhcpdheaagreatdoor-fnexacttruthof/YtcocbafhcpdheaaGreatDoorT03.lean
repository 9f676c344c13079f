import Derived.Test.YtcocbafhcpdheaaGreatDoorT00Box
import Derived.Test.YtcocbafhcpdheaaGreatDoorT02
import Derived.OrdersIn
import Derived.TacticsIn
import Derived.Deep.RegionWith
import Derived.BigRegion
import Derived.Maps.AppendAt
import Derived.Deep.Cut
import Derived.Deep.DeepCutAuto
namespace Go.Proofs.YtcocbafhcpdheaaGreatDoor
set_option maxHeartbeats 1000000
open Go.ChangeShapes Go.WideShapes Go.ChangeAt Go.RowKit
structure Rw where
 g : Nat
 cap : Nat
 xs : List Int
def Rw.v (r : Rw) : Value := .slice (some ⟨r.g, 0, none⟩) r.xs.length r.cap
def zGv (w : World) (a : Option Addr) (xss : List (List Int)) : Prop :=
 xss = [] ∨ ∃ b off, a = some ⟨b, off, none⟩ ∧ ∀ j xs, xss[j]? = some xs → ∃ aj cj, w.cell? ⟨b, off + j, none⟩ = some (.slice aj xs.length cj) ∧ zDr w aj xs
structure Inside (lo hi : Nat) (w w' : World) : Prop where
 os : w'.os = w.os
 tape : w'.tape = w.tape
 output : w'.output = w.output
 size : w.heap.size ≤ w'.heap.size
 block : ∀ k, k < w.heap.size → (k < lo ∨ hi ≤ k) → w'.heap[k]? = w.heap[k]?
theorem Inside.refl (lo hi : Nat) (w : World) : Inside lo hi w w := ⟨rfl, rfl, rfl, Nat.le_refl _, fun _ _ _ => rfl⟩
theorem Inside.trans {lo hi : Nat} {a b c : World} (h : Inside lo hi a b) (k : Inside lo hi b c) : Inside lo hi a c :=
 ⟨k.os.trans h.os, k.tape.trans h.tape, k.output.trans h.output, Nat.le_trans h.size k.size, fun j hj hr => (k.block j (Nat.lt_of_lt_of_le hj h.size) hr).trans (h.block j hj hr)⟩
theorem own_mono {w : World} {B B' e size n : Nat} {v : Value} {xs : List Value} (h : w.ownsRow B e size v n xs) (hb : B' ≤ B) : w.ownsRow B' e size v n xs := by
 refine ⟨h.1, ?_⟩;rcases h.2 with d | ⟨f, a, c, d, b, rest⟩
 ·exact .inl d
 ·exact .inr ⟨f, a, c, d, Nat.le_trans hb b, rest⟩
theorem zIM {w w' : World} {a : Option Addr} {xss : List (List Int)} (h : zGv w a xss) (hb : Below w.heap.size w w') : zGv w' a xss := by
 rcases h with h | ⟨b, c, i, l⟩
 ·exact .inl h
 ·refine .inr ⟨b, c, i, fun j xs hx => ?_⟩;obtain ⟨f, g, d, k⟩ := l j xs hx;exact ⟨f, g, (hb.cell (World.block_lt_of_cell? w ⟨b, c + j, none⟩ d)).trans d, zGt k hb⟩
theorem zIN {w : World} {a : Option Addr} {xss : List (List Int)} (h : zGv w a xss) {j : Nat} {xs : List Int} (hx : xss[j]? = some xs) :
    ∃ b c d f, a = some ⟨b, c, none⟩ ∧ w.cell? ⟨b, c + j, none⟩ = some (.slice d xs.length f) ∧ zDr w d xs := by
 rcases h with rfl | ⟨b, c, i, l⟩
 ·simp at hx
 ·obtain ⟨d, f, g, k⟩ := l j xs hx;exact ⟨b, c, d, f, i, g, k⟩
theorem zGw {α : Type} {l : List α} {j : Nat} (h : j < l.length) : ∃ x, l[j]? = some x := ⟨_, List.getElem?_eq_getElem h⟩
set_option linter.unusedVariables false
theorem zAD : zC2 Tryz.prog 2 zAG := zNe Tryz.underlying2
theorem zC9 : zC2 Tryz.prog 37 zA0 := zBI Tryz.underlying37 (by kernel_rfl) Nat.zero_lt_one zAD
abbrev zCM : Rep (List (List Int)) := slR 37 zA0
abbrev zBN : Mk (List (List Int)) := slM zAs
theorem zH1 : zC2 Tryz.prog 24 zCM := zBI Tryz.underlying24 (by kernel_rfl) Nat.zero_lt_one zC9
theorem zIO {w : World} {a : Option Addr} {xss : List (List Int)} (h : zA4 zA0 w a xss) : zGv w a xss := by
 rcases h with h | ⟨b, f, g, rfl, n, p⟩
 ·exact .inl h
 ·refine .inr ⟨b, f, rfl, fun j xs hx => ?_⟩;obtain ⟨b', k, c, l, ⟨m, o, rfl, _, _, i⟩, d⟩ := zAy (.inr ⟨b, f, g, rfl, n, p⟩) hx;cases l;have := d 0 _ rfl;rw [show j * zA0.size + 0 = j from Nat.mul_one j] at this;exact ⟨m, o, this, zBv i⟩
open Go.RowKit
structure Cls (C : World → Prop) where
 w : World
 h : C w
theorem zAz {P : Program} {id : Nat} {Q : Exit → Act → World → Prop} {a : Act} {w : World} {l : List Oper} (C : World → Prop) (hm : P.follows .mixedOrders = true) (hB : Region.lexB .any l.toArray = true) (h0 : C w.drew)
    (h : Nonempty (Cls C) → wpQuiet P l.toArray (fun w' => ∃ n : Cls C, w' = n.w) (fun a' => ∀ w', C w' → Q .normal a' w') l a) : (Code.region id l.toArray true).wp P Q a w :=
 wp_region_quiet (C := fun w' => ∃ n : Cls C, w' = n.w) hm hB ⟨⟨w.drew, h0⟩, rfl⟩ (by
  have := h ⟨⟨w.drew, h0⟩⟩;have e : (fun a' => ∀ w', C w' → Q .normal a' w') = (fun a' => ∀ w', (∃ n : Cls C, w' = n.w) → Q .normal a' w') := by
   funext a'
   exact propext ⟨fun h w' ⟨n, e⟩ => h w' (by rw [e]; exact n.h), fun h w' hc => h w' ⟨⟨w', hc⟩, rfl⟩⟩
  rw [e] at this
  simpa using this)
def noDef (l : List Oper) : Bool := l.all fun o => match o.op with
 | .defer _ => false
 | _ => true
theorem noDef_at {l : List Oper} (h : noDef l = true) {o : Oper} (ho : o ∈ l) (c : Call) : o.op ≠ .defer c := fun e => by
 have := List.all_eq_true.1 h o ho;rw [e] at this;cases this
section
variable {P : Program} {C : World → Prop} {r : Nat}
theorem zHf {o : Oper} {a : Act} {K : Act → Prop} {K' : Act → World → Prop} {Q' : Exit → Act → World → Prop} {w : World} (hdf : ∀ c, o.op ≠ .defer c) (hw : C w) (h : ∀ a w', C w' → K a → K' a w')
    (hh : o.quiet P a C K) : o.wpIn (Fence.wide.inRound r) 0 P a w K' Q' := by
 obtain ⟨v, i, g⟩ := hh;have b := i w hw;refine ⟨fun _ _ => trivial, ?_⟩;show o.uponIn _ 0 P a K' Q' ((o.semAt (some r) a.eval).run P w)
 rw [Oper.semAt_some r a.eval o hdf];unfold Oper.quietAt at b;generalize (execOp a.eval o).run P w = x at b;cases x with
 | halt y w' => exact (show False from b).elim
 | ok y w' =>
  cases y with
  | value u =>
   obtain ⟨rfl, rfl⟩ := (show w' = w ∧ u = v from b);exact h _ _ hw g
  | skip =>
   obtain ⟨rfl, rfl⟩ := (show w' = w ∧ v = undef from b);exact h _ _ hw g
  | enter f args =>
   obtain ⟨rfl, j⟩ := (show w' = w ∧ Calls P f args w (fun e w'' => e = .returned v ∧ C w'') from b);refine ⟨fun e => (by cases e), (callsIn_wide.2 j).mono fun e w'' he => ?_⟩;obtain ⟨rfl, d⟩ := he;exact h _ _ d g
  | _ => exact (show False from b).elim
theorem zEe {l : List Oper} {md : Region.Mode} {Q : Act → Prop} {Q' : Exit → Act → World → Prop} (hdf : noDef l = true) (hQ : ∀ a w, C w → Q a → Q' .normal a w) : ∀ (fuel : Nat) (listed : Array Bool) (a : Act) (w : World), C w →
    wpAnyQ P md l.toArray C Q fuel listed a → wpAnyIn (Fence.wide.inRound r) 0 P md l.toArray Q' fuel listed a w
 | 0, _, _, _, hw, h => ⟨h.1, hQ _ _ hw h.2⟩
 | fuel + 1, listed, a, w, hw, h => by
  refine ⟨fun h0 => hQ _ _ hw (h.1 h0), fun i hi => ?_⟩;have b := h.2 i hi;have f : ∀ a' w', C w' → wpAnyQ P md l.toArray C Q fuel (listed.setIfInBounds i true) a' → wpAnyIn (Fence.wide.inRound r) 0 P md l.toArray Q' fuel (listed.setIfInBounds i true) a' w' := fun a' w' hw' => zEe hdf hQ fuel _ a' w' hw';unfold qOp at b;unfold wpOpIn;split
  ·rename_i ho
   simp only [ho] at b;exact f _ _ hw b
  ·rename_i o ho
   simp only [ho] at b;have d : o ∈ l := by
    simp at ho
    exact List.mem_of_getElem? ho
   by_cases c : Region.wanted o (yielded l.toArray a.tmps) = true
   ·simp only [c, if_true] at b ⊢;exact zHf (noDef_at hdf d) hw f b
   ·simp only [c] at b ⊢;exact ⟨fun _ _ => trivial, f _ _ hw b⟩
end
theorem zCX {P : Program} {id r : Nat} {Q : Exit → Act → World → Prop} {a : Act} {w : World} {l : List Oper} (C : World → Prop) (hm : P.follows .mixedOrders = true) (hB : Region.lexB .any l.toArray = true) (hdf : noDef l = true) (h0 : C w.drew)
    (h : Nonempty (Cls C) → wpQuiet P l.toArray (fun w' => ∃ n : Cls C, w' = n.w) (fun a' => ∀ w', C w' → Q .normal a' w') l a) : (Code.region id l.toArray true).wpIn (Fence.wide.inRound r) 0 P Q a w := by
 simp only [Region.lexB, Bool.and_eq_true] at hB;refine wpIn_region_any hm (zEe (C := fun w' => ∃ n : Cls C, w' = n.w) (Q := fun a' => ∀ w', C w' → Q .normal a' w') hdf (fun a' w' ⟨n, hn⟩ h => h w' (by rw [hn]; exact n.h)) _ _ _ _ ⟨⟨w.drew, h0⟩, rfl⟩ ?_);have := wpAnyQ_lex (P := P) (C := fun w' => ∃ n : Cls C, w' = n.w) (md := .any) hB.1 l 0 (Array.replicate l.toArray.size false) a (by simp) (by simpa using hB.2) (h ⟨⟨w.drew, h0⟩⟩);simpa using this
theorem zAg {P : Program} {ops : Array Oper} {C : World → Prop} {Q : Act → Prop} {a : Act} {o : Oper} {rest : List Oper} {j : Nat} {b : Bool} {og : Oper} {d : Tmp} (ht : a.tmps[d]? = some (.bool (!b))) (hg : o.guard = some (j, b)) (ho : ops[j]? = some og) (hd : og.dst = some d)
    (hne : o.dst ≠ some d) (h : ∀ a', a' = a.put o.dst undef → a'.tmps[d]? = some (.bool (!b)) → wpQuiet P ops C Q rest a') : wpQuiet P ops C Q (o :: rest) a := by
 have c : yielded ops a.tmps j = some (!b) := by
  unfold yielded;simp [ho, hd, ht]
 have f : Region.wanted o (yielded ops a.tmps) = false := by
  unfold Region.wanted;simp [hg, c]
 unfold wpQuiet;rw [f];refine h _ rfl ?_;cases g : o.dst with
 | none => exact ht
 | some d' =>
  have : d' ≠ d := fun e => hne (by rw [g, e]);show (a.tmps.setIfInBounds d' undef)[d]? = _
  rw [Array.getElem?_setIfInBounds_ne this];exact ht
theorem zCp (K : Act → Prop) (a : Act) (h : ∀ A, A = a → K A) : K a := h a rfl
theorem zAj {P : Program} {f : FuncId} {args : Array Value} {C : World → Prop} {n : Cls C} {v : Value} {R : World → Prop} (h : Calls P f args n.w fun e w' => e = .returned v ∧ R w') (hs : ∀ w', C n.w → R w' → C w') :
    Calls P f args n.w fun e w'' => e = .returned v ∧ ∃ m : Cls C, w'' = m.w := h.mono fun _ w' ⟨he, hr⟩ => ⟨he, ⟨w', hs w' n.h hr⟩, rfl⟩
theorem zAY {P : Program} {f : FuncId} {args : Array Value} {C : World → Prop} {n : Cls C} {v : Value} (h : Calls P f args n.w fun e w' => e = .returned v ∧ w' = n.w) :
    Calls P f args n.w fun e w'' => e = .returned v ∧ ∃ m : Cls C, w'' = m.w := h.mono fun _ w' ⟨he, hr⟩ => ⟨he, n, hr⟩
def setB (s : Int) : Bool := decide (0 ≤ s ∧ s ≤ 255)
def zHP (i : Int) : Bool := decide (0 ≤ i ∧ i ≤ 7)
theorem zNj (s : Int) (w : World) :
    Calls Tryz.prog 267 #[.int .i64 s] w fun e w' => e = .returned (.bool (setB s)) ∧ w' = w := by
 by_cases b : 0 ≤ s
 ·by_cases a : s ≤ 255
  all_goals
   go_enter Tryz.func267, Tryz.ntmps267;go_wp2;go_ret
   exact ⟨by simp [setB, b, a], rfl⟩
 ·go_enter Tryz.func267, Tryz.ntmps267;go_wp2;go_ret
  exact ⟨by simp only [setB]; congr 2; simp; omega, rfl⟩
theorem zH2 (s : Int) (w : World) :
    Calls Tryz.prog 268 #[.int .i64 s] w fun e w' => e = .returned (.bool (zHP s)) ∧ w' = w := by
 by_cases b : 0 ≤ s
 ·by_cases a : s ≤ 7
  all_goals
   go_enter Tryz.func268, Tryz.ntmps268;go_wp2;go_ret
   exact ⟨by simp [zHP, b, a], rfl⟩
 ·go_enter Tryz.func268, Tryz.ntmps268;go_wp2;go_ret
  exact ⟨by simp only [zHP]; congr 2; simp; omega, rfl⟩
theorem zNk (i : Int) (h1 : 0 ≤ i) (h2 : i ≤ 7) : wrap64 (2 ^ i.toNat) = 2 ^ i.toNat := by
 have h : i = 0 ∨ i = 1 ∨ i = 2 ∨ i = 3 ∨ i = 4 ∨ i = 5 ∨ i = 6 ∨ i = 7 := by omega
 rcases h with rfl | rfl | rfl | rfl | rfl | rfl | rfl | rfl <;> decide +kernel
theorem zNl (i : Int) (w : World) (h1 : 0 ≤ i) (h2 : i ≤ 7) :
    Calls Tryz.prog 269 #[.int .i64 i] w fun e w' => e = .returned (.int .i64 (2 ^ i.toNat)) ∧ w' = w := by
 go_enter Tryz.func269, Tryz.ntmps269;go_wp2;go_ret
 exact ⟨zAx (zNk i h1 h2), rfl⟩
def memB (s i : Int) : Bool := (s / 2 ^ i.toNat) % 2 == 1
def inB (s i : Int) : Bool := setB s && zHP i && memB s i
theorem and_fin : ∀ s : Fin 256, ∀ i : Fin 8, (bits BinOp.and IntKind.i64 (s.val : Int) (2 ^ (i.val : Int).toNat) != 0) = memB (s.val : Int) (i.val : Int) := by
 decide +kernel
theorem and_mem (s i : Int) (h7 : 0 ≤ s) (h8 : s ≤ 255) (h5 : 0 ≤ i) (h6 : i ≤ 7) :
    (bits BinOp.and IntKind.i64 s (2 ^ i.toNat) != 0) = memB s i := by
 have := and_fin ⟨s.toNat, by omega⟩ ⟨i.toNat, by omega⟩;simpa [Int.toNat_of_nonneg h7, Int.toNat_of_nonneg h5] using this
theorem setB_bd {s : Int} (h : setB s = true) : 0 ≤ s ∧ s ≤ 255 := by simpa [setB] using h
theorem itemB_bd {i : Int} (h : zHP i = true) : 0 ≤ i ∧ i ≤ 7 := by simpa [zHP] using h
theorem has_any (s i : Int) (w : World) :
    Calls Tryz.prog 245 #[.int .i64 s, .int .i64 i] w fun e a => e = .returned (.bool (inB s i)) ∧ a = w := by
 cases b : setB s
 ·have H : Hid (inB s i = false) := by unfold Hid; simp [inB, b]
  go_enter Tryz.func245, Tryz.ntmps245;go_wp2_with (go_at_call 267; refine (zNj _ _).mono ?_; rintro e a ⟨rfl, rfl⟩)
  go_ret
  exact ⟨zAl H.out.symm, rfl⟩
 ·cases c : zHP i
  ·have H : Hid (inB s i = false) := by unfold Hid; simp [inB, c]
   go_enter Tryz.func245, Tryz.ntmps245
   go_wp2_with (first
    | (go_at_call 267; refine (zNj _ _).mono ?_; rintro e a ⟨rfl, rfl⟩)
    | (go_at_call 268; refine (zH2 _ _).mono ?_; rintro e a ⟨rfl, rfl⟩))
   go_ret
   exact ⟨zAl H.out.symm, rfl⟩
  ·obtain ⟨d, f⟩ := itemB_bd c;obtain ⟨j, g⟩ := setB_bd b;have H : Hid (inB s i = (bits BinOp.and IntKind.i64 s (2 ^ i.toNat) != 0)) := by unfold Hid; rw [and_mem s i j g d f]; simp [inB, b, c]
   go_enter Tryz.func245, Tryz.ntmps245
   go_wp2_with (first
    | (go_at_call 267; refine (zNj _ _).mono ?_; rintro e a ⟨rfl, rfl⟩)
    | (go_at_call 268; refine (zH2 _ _).mono ?_; rintro e a ⟨rfl, rfl⟩)
    | (go_at_call 269; refine (zNl _ _ d f).mono ?_; rintro e a ⟨rfl, rfl⟩))
   go_ret
   exact ⟨zAl H.out.symm, rfl⟩
def zHg (x : Int) : Int := min (max x 0) 9999
def okW (x : Int) : Bool := zA8 x 0 9999
theorem zJT (a b : Int) (w : World) :
    Calls Tryz.prog 286 #[.agg #[.int .i64 a, .int .i64 b]] w fun e w' => e = .returned (.agg #[.int .i64 (zHg a), .int .i64 (zHg b)]) ∧ Below w.heap.size w w' := by
 have B := (Below.refl w.heap.size w).alloc (Nat.le_refl _);go_enter Tryz.func286, Tryz.ntmps286;go_wp2;refine wp_loop_rounds 3 ?_;rw [rounds_succ];go_wp2
 all_goals rw [rounds_succ]
 all_goals go_wp2
 all_goals rw [rounds_succ]
 all_goals go_wp2
 all_goals
  refine bodyPost_ret (v := .agg #[.int .i64 (zHg a), .int .i64 (zHg b)]) ?_ rfl ⟨rfl, ?_⟩
  ·simp [results, Tryz.results286, go_sem]; first | done | (unfold zHg; omega) | (constructor <;> unfold zHg <;> omega)
  ·exact (B _).alloc (by simp) _
theorem zAv (w : World) (o : Obj) : (w.alloc o).heap.size = w.heap.size + 1 := by simp
theorem zBE {w : World} {g : Nat} {x y : Value} {t : TypeId} (h : w.heap[g]? = some (.cells #[x, y] t (0, 0))) :
    w.cell? ⟨g, 0, none⟩ = some x ∧ w.cell? ⟨g, 1, none⟩ = some y :=
 ⟨by rw [cell_of_row w g 0 _ t (0, 0) h]; rfl, by rw [cell_of_row w g 1 _ t (0, 0) h]; rfl⟩
theorem zAb {w w' : World} {g : Nat} {o : Obj} (hb : Below w.heap.size w w') (h : w.heap[g]? = some o) : w'.heap[g]? = some o :=
 (hb.block g (ltH h)).trans h
theorem two_eq (a b c d : Int) (w : World) : (Op.equalIn 10000 259 (.agg #[.int .i64 a, .int .i64 b]) (.agg #[.int .i64 c, .int .i64 d])).run Tryz.prog w = .ok (a == c && b == d) w := by
 have u3 := Tryz.underlying2;have a3 := Tryz.isAgg2;have z3 := Tryz.sizeOf2;rw [show (10000 : Nat) = 9999 + 1 from rfl, Op.equalIn];simp only [Sem.run_bind, run_underlying Tryz.underlying259, Result.andThen_ok];simp only [Std.Legacy.Range.forIn_eq_forIn_range', Std.Legacy.Range.size, Nat.sub_zero, Nat.add_sub_cancel, Nat.div_one, List.range'_succ, List.range'_zero, List.forIn_cons, List.forIn_nil];go_simp
 by_cases f : a = c <;> by_cases g : b = d <;> simp [f, g]
theorem zLd (x : Int) : (x == zHg x) = okW x := by
 rw [Bool.eq_iff_iff]; simp [zHg, okW, zA8]; omega
theorem zNm (a b : Int) (w : World) :
    Calls Tryz.prog 272 #[.agg #[.int .i64 a, .int .i64 b]] w fun e f => e = .returned (.bool (okW a && okW b)) ∧ Below w.heap.size w f := by
 have B := (Below.refl w.heap.size w).alloc (Nat.le_refl _);go_enter Tryz.func272, Tryz.ntmps272;go_wp2;have R := heap_alloc_new w (.cells #[.int .i64 a, .int .i64 b] 259);have c := (B (.cells #[.int .i64 a, .int .i64 b] 259)).drew;generalize w.alloc (.cells #[.int .i64 a, .int .i64 b] 259) = W at R c ⊢;obtain ⟨i, g⟩ := zBE R;have E := two_eq a b (zHg a) (zHg b)
 go_region_with (go_at_call 286
                 refine (zJT a b _).mono ?_;rintro e f ⟨rfl, d⟩;replace R := zAb d R;replace c := c.trans (d.mono c.size);clear i g d
                 obtain ⟨i, g⟩ := zBE R)
 all_goals
  go_wp2;go_ret
  exact ⟨zAl (by rw [zLd, zLd]), c⟩
theorem zLe {w : World} {g : Nat} {cs : Array Value} {t : TypeId} (h : w.heap[g]? = some (.cells cs t (0, 0))) :
    w.frozen? ⟨g, 0, none⟩ = false ∧ w.frozen? ⟨g, 1, none⟩ = false := ⟨frozen_of_row w g 0 _ t h, frozen_of_row w g 1 _ t h⟩
theorem zGx {w : World} {a : Option Addr} {x y : Int} (h : zDr w a [x, y]) : ∃ b c, a = some ⟨b, c, none⟩ ∧ w.cell? ⟨b, c, none⟩ = some (.int .i64 x) ∧ w.cell? ⟨b, c + 1, none⟩ = some (.int .i64 y) := by
 rcases h with h | ⟨b, c, f, d⟩
 ·simp at h
 ·exact ⟨b, c, f, d 0 (by simp), d 1 (by simp)⟩
theorem zEN (a : Option Addr) (n cap : Nat) (w : World) (hn : n ≠ 2) :
    Calls Tryz.prog 256 #[.slice a n cap] w fun e w' => e = .returned (.tuple #[.agg #[.int .i64 0, .int .i64 0], .bool false]) ∧ Below w.heap.size w w' := by
 have B := (Below.refl w.heap.size w).alloc (Nat.le_refl _);have b : ((n : Int) == 2) = false := by simp; omega
 go_enter Tryz.func256, Tryz.ntmps256;go_wp2;refine bodyPost_ret (v := .tuple #[.agg #[.int .i64 0, .int .i64 0], .bool false]) (by simp [results, Tryz.results256, go_sem]) rfl ⟨rfl, B _⟩
theorem zGy (a : Option Addr) (x y : Int) (cap : Nat) (w : World) (h : zDr w a [x, y]) :
    Calls Tryz.prog 256 #[.slice a 2 cap] w fun e k => e = .returned (.tuple #[.agg #[.int .i64 x, .int .i64 y], .bool (okW x && okW y)]) ∧ Below w.heap.size w k := by
 have B := (Below.refl w.heap.size w).alloc (Nat.le_refl _);obtain ⟨b, p, rfl, n, o⟩ := zGx h;have l0 := World.block_lt_of_cell? w _ n;go_enter Tryz.func256, Tryz.ntmps256;go_wp2;go_region
 go_wp2;have R : ((w.alloc (.cells #[.int .i64 0, .int .i64 0] 259)).alloc (.cells #[.int .i64 x, .int .i64 y] 259)).drew.heap[w.heap.size]? = some (.cells #[.int .i64 0, .int .i64 0] 259 (0, 0)) := by
  show ((w.alloc (.cells #[.int .i64 0, .int .i64 0] 259)).alloc (.cells #[.int .i64 x, .int .i64 y] 259)).heap[w.heap.size]? = _
  rw [Below.heap_alloc _ _ _ (by simp)];exact heap_alloc_new w _
 have X : ((w.alloc (.cells #[.int .i64 0, .int .i64 0] 259)).alloc (.cells #[.int .i64 x, .int .i64 y] 259)).drew.heap[w.heap.size + 1]? = some (.cells #[.int .i64 x, .int .i64 y] 259 (0, 0)) := by
  rw [← zAv w (.cells #[.int .i64 0, .int .i64 0] 259)];exact heap_alloc_new (w.alloc (.cells #[.int .i64 0, .int .i64 0] 259)) _
 have c := (((B (.cells #[.int .i64 0, .int .i64 0] 259)).alloc (by simp) (.cells #[.int .i64 x, .int .i64 y] 259)).drew).drew;clear n o h;generalize ((w.alloc (.cells #[.int .i64 0, .int .i64 0] 259)).alloc (.cells #[.int .i64 x, .int .i64 y] 259)).drew = W at R X c ⊢;obtain ⟨f, g⟩ := zBE R;obtain ⟨i, j⟩ := zLe R;obtain ⟨l, m⟩ := zBE X
 go_region_with (go_at_call 272
                 refine (zNm x y _).mono ?_;rintro e k ⟨rfl, d⟩;replace R := zAb d R;replace X := zAb d X;replace c := c.trans (d.mono c.size);clear f g d l m i j;obtain ⟨f, g⟩ := zBE R;obtain ⟨i, j⟩ := zLe R
                 obtain ⟨l, m⟩ := zBE X)
 all_goals
  go_wp2;refine bodyPost_ret (v := .tuple #[.agg #[.int .i64 x, .int .i64 y], .bool (okW x && okW y)]) (by simp [results, Tryz.results256, go_sem, f, g]) rfl ⟨rfl, ?_⟩;exact (c.setCell (Nat.le_refl _) _).setCell (Nat.le_refl _) _
def isL : List Int → Bool
 | [x, y] => okW x && okW y
 | _ => false
theorem zGz (xs : List Int) : isL xs = false ∨ ∃ x y, xs = [x, y] ∧ okW x = true ∧ okW y = true := by
 match xs with
 | [] => exact .inl rfl
 | [_] => exact .inl rfl
 | [x, y] =>
  cases b : okW x
  ·exact .inl (by simp [isL, b])
  ·cases a : okW y
   ·exact .inl (by simp [isL, a])
   ·exact .inr ⟨x, y, rfl, b, a⟩
 | _ :: _ :: _ :: _ => exact .inl rfl
theorem zLT (a : Option Addr) (xs : List Int) (cap : Nat) (w : World) (h : zDr w a xs) (hn : isL xs = false) :
    Calls Tryz.prog 256 #[.slice a xs.length cap] w fun e c => ∃ x y : Int, e = .returned (.tuple #[.agg #[.int .i64 x, .int .i64 y], .bool false]) ∧ Below w.heap.size w c := by
 match xs with
 | [x, y] =>
  refine (zGy a x y cap w h).mono ?_;rintro e c ⟨rfl, b⟩;exact ⟨x, y, by simp only [isL] at hn; rw [hn], b⟩
 | [] => exact (zEN a 0 cap w (by simp)).mono fun e c h => ⟨0, 0, h⟩
 | [_] => exact (zEN a 1 cap w (by simp)).mono fun e c h => ⟨0, 0, h⟩
 | _ :: _ :: _ :: r => exact (zEN a (r.length + 1 + 1 + 1) cap w (by omega)).mono fun e c h => ⟨0, 0, h⟩
theorem zJU (a : Option Addr) (x y : Int) (cap : Nat) (w : World) (h : zDr w a [x, y]) (hx : okW x = true) (hy : okW y = true) :
    Calls Tryz.prog 256 #[.slice a 2 cap] w fun e c => e = .returned (.tuple #[.agg #[.int .i64 x, .int .i64 y], .bool true]) ∧ Below w.heap.size w c := by
 refine (zGy a x y cap w h).mono ?_;rintro e c ⟨rfl, b⟩;exact ⟨by rw [hx, hy]; rfl, b⟩
theorem zNn {x y : Int} (hx : okW x = true) (hy : okW y = true) : isL [x, y] = true := by simp [isL, hx, hy]
theorem zDn (k : Int) (w : World) : Calls Tryz.prog 233 #[.int .i64 k] w fun e a => e = .returned (.bool (zA8 k 0 3)) ∧ a = w := by
 go_enter Tryz.func233, Tryz.ntmps233;go_wp2_with (go_at_call 76; refine (zAw _ _ _ _).mono ?_; rintro e a ⟨rfl, rfl⟩)
 go_ret
 exact ⟨rfl, rfl⟩
theorem zBK (a : Option Addr) (xs : List Int) (cap : Nat) (w : World) (h : zDr w a xs) :
    Calls Tryz.prog 224 #[.slice a xs.length cap] w fun e w' => e = .returned (.bool (isL xs)) ∧ Below w.heap.size w w' := by
 rcases zGz xs with c | ⟨x, y, rfl, f, d⟩
 ·go_enter Tryz.func224, Tryz.ntmps224;go_wp2_with fail
  refine (zLT _ xs _ _ h c).mono ?_;rintro e i ⟨x, y, rfl, b⟩;go_wp2;go_ret
  exact ⟨by rw [c]; rfl, b.alloc b.size _⟩
 ·have g := zNn f d;go_enter Tryz.func224, Tryz.ntmps224;go_wp2_with fail
  refine (zJU _ x y _ _ h f d).mono ?_;rintro e i ⟨rfl, b⟩;go_wp2;go_ret
  exact ⟨by rw [g]; rfl, b.alloc b.size _⟩
theorem zAf (w : World) (o : Obj) : Below w.heap.size w (w.alloc o) := (Below.refl _ w).alloc (Nat.le_refl _) o
theorem zAn (w : World) (o : Obj) : (w.alloc o).heap[w.heap.size]? = some o := heap_alloc_new w o
theorem zA3 {w : World} {k : Nat} {x : Obj} (o : Obj) (h : w.heap[k]? = some x) : (w.alloc o).heap[k]? = some x := (Below.heap_alloc w o k (ltH h)).trans h
theorem zCG {B : Nat} {a w : World} (h : Below B a w) (n : Nat) : Below B a (w.drewN n) := ⟨h.os, h.tape, h.output, h.size, h.block⟩
theorem zAe {w w' : World} {D b o : Nat} {u : Value} (hb : Below D w w') (h : w.cell? ⟨b, o, none⟩ = some u) (hl : b < D) : w'.cell? ⟨b, o, none⟩ = some u :=
 (World.cell?_of_block (w := w) (a := ⟨b, o, none⟩) (hb.block b hl)).trans h
theorem zAk {w : World} {b o : Nat} {u : Value} (h : w.cell? ⟨b, o, none⟩ = some u) : b < w.heap.size := World.block_lt_of_cell? w _ h
theorem zAc {α : Type} {R : Rep α} {w : World} {S : zBo} {cs : List Value} {x : α} {g o : Nat} {v : Value} (h : R.own w S cs x) (hg : ¬ S g) : R.own (w.setCell ⟨g, o, none⟩ v) S cs x :=
 R.own_keep h fun k hk _ => heap_setCell_other w ⟨g, o, none⟩ k v (fun e => hg (by have a : k = g := e; rw [← a]; exact hk))
theorem zAi {w w' : World} {B g o : Nat} {v : Value} (h : Below B w w') (hg : B ≤ g) : Below B w (w'.setCell ⟨g, o, none⟩ v) := h.setCell (p := ⟨g, o, none⟩) hg v
theorem zAp {w : World} {g k o : Nat} {v : Value} {x : Obj} (h : w.heap[k]? = some x) (hne : k ≠ g) : (w.setCell ⟨g, o, none⟩ v).heap[k]? = some x := (heap_setCell_other w ⟨g, o, none⟩ k v hne).trans h
theorem zBW {P : Program} (t e : TypeId) (z : Value) (size bytes : Nat) (ht : P.underlying t = some (.slice e)) (hinfo : (P.info? e).map (fun i => (i.zero, i.size, i.bytes)) = some (some z, size, bytes))
    (n : Nat) (hbytes : bytes * n ≤ 281474976710656) (h63 : n ≤ 9223372036854775807) (w : World) :
    (Instr.makeSlice t (.int .i64 (n : Int)) (.int .i64 (n : Int))).run P w = .ok (.slice (some ⟨w.heap.size, 0, none⟩) n n) (w.alloc (.cells (madeCells z.cells (n * size)) e)) := by
 obtain ⟨i, b, a⟩ := Option.map_eq_some_iff.1 hinfo;simp only [Prod.mk.injEq] at a;obtain ⟨g, d, c⟩ := a;have f : (i.bytes : Int) * (n : Int) ≤ 281474976710656 := by rw [c, ← Int.natCast_mul]; omega
 have := run_make (P := P) w t e i z ht b g .i64 .i64 (n : Int) (n : Int) (by omega) (Int.le_refl _) f (by omega);simpa [d] using this
theorem zBX {α : Type} (M : Mk α) (xs : List α) {x : α} {k : Nat} (hx : xs[k]? = some x) : M.bk x ≤ zA6 M xs := by
 have := zCm (M := M) hx;omega
theorem arr_of {cs : Array Value} {l : List Value} (h : cs.toList = l) : cs = l.toArray := by rw [← h]
theorem zHQ {B : Nat} {a w : World} (h : Below B a w) (n : Nat) : Below B a (w.drewN n) := ⟨h.os, h.tape, h.output, h.size, h.block⟩
def Old (w : World) (S : zBo) : zBo := fun k => S k ∧ k < w.heap.size
theorem zD9 {α : Type} {R : Rep α} {w : World} {S : zBo} {cs : List Value} {x : α} (h : R.own w S cs x) : R.own w (Old w S) cs x :=
 R.own_mono (R.own_tight h) fun k hk => ⟨hk.1, by obtain ⟨_, b, t, _, a⟩ := hk; exact (ltH a)⟩
theorem zAA {w : World} {S : zBo} : Sub (Old w S) S := fun _ h => h.1
theorem zDA {α : Type} {R : Rep α} {w : World} {S : zBo} {cs : List Value} {x : α} (o : Obj) (h : R.own w S cs x) : R.own (w.alloc o) S cs x := R.own_keep h fun k _ hl => Below.heap_alloc w o k hl
section
variable {α : Type}
end
section
variable {α : Type}
end
variable {α : Type}
def zJV (R : Rep α) (lo hi : Nat) (w : World) (cs : List Value) (x : α) : Prop := R.own w (rng lo hi) cs x ∧ hi ≤ w.heap.size
theorem owned_next {R : Rep α} {lo hi : Nat} {w w' : World} {cs : List Value} {x : α} (h : zJV R lo hi w cs x) (hb : Below w.heap.size w w') : zJV R lo hi w' cs x :=
 ⟨zAS h.1 hb h.2, Nat.le_trans h.2 hb.size⟩
theorem owned_chg {R : Rep α} {lo hi lo' hi' : Nat} {w w' : World} {cs : List Value} {x : α} (h : zJV R lo hi w cs x) (hc : Chg (rng lo' hi') w w') (hd : hi ≤ lo' ∨ hi' ≤ lo) : zJV R lo hi w' cs x :=
 ⟨zAC h.1 hc (zBk hd), Nat.le_trans h.2 hc.size⟩
theorem zLU {R : Rep α} {w w1 : World} {cs : List Value} {x : α} (h : zAI R w w1 cs x) : zJV R w.heap.size w1.heap.size w1 cs x := ⟨h.1, Nat.le_refl _⟩
theorem owned_drew {R : Rep α} {lo hi : Nat} {w : World} {cs : List Value} {x : α} (h : zJV R lo hi w cs x) : zJV R lo hi w.drew cs x := ⟨R.own_keep h.1 fun _ _ _ => rfl, h.2⟩
theorem row_chg {w w' : World} {k lo hi : Nat} {o : Obj} (h : w.heap[k]? = some o) (hc : Chg (rng lo hi) w w') (hk : k < lo ∨ hi ≤ k) : w'.heap[k]? = some o :=
 (hc.block k (ltH h) fun x => by have := x.1; have := x.2; omega).trans h
theorem chg_b0 {w0 w w' : World} {lo hi : Nat} (hb : Below w0.heap.size w0 w) (hc : Chg (rng lo hi) w w') (hl : w0.heap.size ≤ lo) : Below w0.heap.size w0 w' :=
 hc.below hb (fun k hk => by have := hk.1; omega) hb.size
theorem zEf {w w' : World} {S : zBo} {o : Obj} (h : Chg S (w.alloc o) w') : Chg S w w' :=
 ⟨h.os, h.tape, h.output, Nat.le_trans (by simp) h.size, fun k hk hn => (h.block k (by simp; omega) hn).trans (Below.heap_alloc w o k hk)⟩
section
variable {α : Type}
def zCk : List Value → Value
 | [v] => v
 | _ => undef
def zBq (cs : List Value) : Value := .agg cs.toArray
theorem aE {cs : List Value} : zBq cs = .agg cs.toArray := rfl
abbrev lot : Nat := 4398046511104
def SzC (f : Nat) (R : Rep α) (M : Mk α) (V : List Value → Value) : Prop := ∀ (cs : List Value) (x : α) (left : Int) (w : World), R.rd w cs x → 0 ≤ left → left ≤ 1048576 →
 Calls Tryz.prog f #[V cs, .int .i64 left] w fun e w' => e = .returned (.int .i64 (szI (M.bk x) left)) ∧ Below w.heap.size w w'
def ToC (f : Nat) (R : Rep α) (M : Mk α) (V : List Value → Value) : Prop := ∀ (cs : List Value) (x : α) (w : World), R.rd w cs x → M.bk x ≤ 1048576 →
 Calls Tryz.prog f #[V cs] w fun e w' => ∃ ds, e = .returned (V ds) ∧ zAI R w w' ds x
def EqC (f : Nat) (R : Rep α) (M : Mk α) (V : List Value → Value) : Prop := ∀ (cs ds : List Value) (x : α) (w : World), R.rd w cs x → R.rd w ds x → M.bk x ≤ lot →
 Calls Tryz.prog f #[V cs, V ds] w fun e w' => e = .returned (.bool true) ∧ Below w.heap.size w w'
def MkC (f : Nat) (R : Rep α) (M : Mk α) (V : List Value → Value) : Prop := ∀ (S : zBo) (cs : List Value) (x : α) (k : Int) (w : World), R.own w S cs x → 0 ≤ k → k + (M.cV x : Int) ≤ (lot : Int) → M.bk x ≤ lot →
 Calls Tryz.prog f #[V cs, .int .i64 k] w fun e w' => e = .returned (.int .i64 (k + (M.cV x : Int))) ∧ R.own w' S cs (M.mV k x) ∧ Chg S w w'
def HdC (f : Nat) (R : Rep α) (M : Mk α) (V : List Value → Value) : Prop := ∀ (cs : List Value) (x : α) (k : Int) (w : World), R.rd w cs (M.mV k x) → 0 ≤ k → k + (M.cV x : Int) ≤ (lot : Int) → M.bk x ≤ lot →
 Calls Tryz.prog f #[V cs, .int .i64 k] w fun e w' => e = .returned (.int .i64 (k + (M.cV x : Int))) ∧ Below w.heap.size w w'
end
theorem zDg {α : Type} {e : TypeId} {R : Rep α} {w : World} {S : zBo} {cs : List Value} {x : List α} (h : (slR e R).own w S cs x) : ∃ v, cs = [v] := List.length_eq_one_iff.1 ((slR e R).rd_len ((slR e R).own_rd h))
theorem zEO {w w' : World} (h : w' = w) : Below w.heap.size w w' := by rw [h]; exact Below.refl _ _
theorem zLf : SzC 106 zA0 zAs zCk := by
 rintro cs x b w ⟨a, c, rfl, i, g, l3⟩ d f;exact (zBg a x c b w d f (Nat.le_trans i g)).mono fun e w' ⟨q, r⟩ => ⟨q, zEO r⟩
theorem zLg : ToC 112 zA0 zAs zCk := by
 rintro cs x w ⟨a, b, rfl, l1, l2, d⟩ c;refine (zCn a x b w d c).mono ?_;rintro e w' ⟨v, rfl, f⟩;exact ⟨[v], rfl, f⟩
theorem zLh : EqC 11 zA0 zAs zCk := by
 rintro cs ds x w ⟨a, c, rfl, l1, l2, g⟩ ⟨b, f, rfl, k1, k2, d⟩ hm;refine (zCo a b x c f w g d (by have : lot = 4398046511104 := rfl; omega)).mono ?_;rintro e w' ⟨q, n, rfl⟩;exact ⟨q, zCG (Below.refl _ _) n⟩
theorem zHR : MkC 14 zA0 zAs zCk := by
 intro S cs x k w h a hm hb;obtain ⟨v, rfl⟩ := zDg h;have e : lot = 4398046511104 := rfl;have e2 : zAs.cV x = zAt zBa x := rfl;exact zBJ S v k x w a (by omega) (by omega) h
theorem hdInts_u : HdC 15 zA0 zAs zCk := by
 rintro cs x k w ⟨a, b, rfl, l1, l2, d⟩ c hm hb;have e : lot = 4398046511104 := rfl;have e2 : zAs.cV x = zAt zBa x := rfl;have := zHe a b k x w c (by omega) (by omega) d;rw [show x.length = (zAs.mV k x).length from (zDE _ _ _).symm] at this;exact this.mono fun e w' ⟨q, r⟩ => ⟨q, zEO r⟩
variable {α β : Type}
def zHS (R : Rep α) (n : Nat) (w : World) (cs : List Value) (x : α) : Prop := ∃ w0 : World, R.rd w0 cs x ∧ w0.heap.size = n ∧ n ≤ w.heap.size ∧ ∀ k, k < n → w.heap[k]? = w0.heap[k]?
theorem sight_of {R : Rep α} {w : World} {cs : List Value} {x : α} (h : R.rd w cs x) : zHS R w.heap.size w cs x := ⟨w, h, rfl, Nat.le_refl _, fun _ _ => rfl⟩
theorem sight_rd {R : Rep α} {n : Nat} {w : World} {cs : List Value} {x : α} (h : zHS R n w cs x) : R.rd w cs x := by
 obtain ⟨w0, a, b, h3, c⟩ := h;exact R.rd_keep a fun k hk => c k (b ▸ hk)
theorem sight_next {R : Rep α} {n : Nat} {w w' : World} {cs : List Value} {x : α} (h : zHS R n w cs x) (hb : Below w.heap.size w w') : zHS R n w' cs x := by
 obtain ⟨d, b, c, a, f⟩ := h;exact ⟨d, b, c, Nat.le_trans a hb.size, fun k hk => (hb.block k (Nat.lt_of_lt_of_le hk a)).trans (f k hk)⟩
theorem sight_chg {R : Rep α} {n lo hi : Nat} {w w' : World} {cs : List Value} {x : α} (h : zHS R n w cs x) (hc : Chg (rng lo hi) w w') (hl : n ≤ lo) : zHS R n w' cs x := by
 obtain ⟨d, b, c, a, f⟩ := h;exact ⟨d, b, c, Nat.le_trans a hc.size, fun k hk => (hc.block k (Nat.lt_of_lt_of_le hk a) fun p => by have := p.1; omega).trans (f k hk)⟩
theorem sight_drew {R : Rep α} {n : Nat} {w : World} {cs : List Value} {x : α} (h : zHS R n w cs x) : zHS R n w.drew cs x := h
theorem sight_lt {R : Rep α} {n : Nat} {w : World} {cs : List Value} {x : α} (h : zHS R n w cs x) : n ≤ w.heap.size := by
 obtain ⟨w0, h1, h2, a, h4⟩ := h;exact a
section
variable {α β : Type}
def Bv (M : Mk α) (K : Nat) : Prop := ∀ x, M.cV x ≤ K * M.bk x
theorem zIP : Bv zBa 0 := fun _ => by simp [zBa]
theorem bv_bool : Bv zED 0 := fun _ => by simp [zED]
theorem zDf {M : Mk α} {N : Mk β} {K L : Nat} (h : Bv M K) (k : Bv N L) : Bv (zBm M N) (K + L) := fun x => by
 have h1 := h x.1;have h2 := k x.2;show M.cV x.1 + N.cV x.2 ≤ (K + L) * (M.bk x.1 + N.bk x.2)
 have e1 : K * M.bk x.1 ≤ K * (M.bk x.1 + N.bk x.2) := Nat.mul_le_mul_left _ (by omega);have e2 : L * N.bk x.2 ≤ L * (M.bk x.1 + N.bk x.2) := Nat.mul_le_mul_left _ (by omega);rw [Nat.add_mul];omega
theorem zIQ {M : Mk α} {K : Nat} (h : Bd M K) : Bv (slM M) K := zLc h
theorem bv_ints : Bv zAs 1 := zIQ zBl
end
end Go.Proofs.YtcocbafhcpdheaaGreatDoor
