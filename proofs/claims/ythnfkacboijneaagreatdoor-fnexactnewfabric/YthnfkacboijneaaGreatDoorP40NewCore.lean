import Derived.Test.YthnfkacboijneaaGreatDoorP39CopyImpl
import Derived.Test.YthnfkacboijneaaGreatDoorP17UEnt
import Derived.Test.YthnfkacboijneaaGreatDoorP05Boxes
import Derived.Test.YthnfkacboijneaaGreatDoorP28MsgMarks
import Derived.Test.YthnfkacboijneaaGreatDoorP10Ops
import Derived.Test.YthnfkacboijneaaGreatDoorP14OpSS
import Derived.Test.YthnfkacboijneaaGreatDoorP18Ways
import Derived.Test.YthnfkacboijneaaGreatDoorP11Descs
import Derived.Test.YthnfkacboijneaaGreatDoorP20Ways2
import Derived.Test.YthnfkacboijneaaGreatDoorP21Change
import Derived.Test.YthnfkacboijneaaGreatDoorP22OkLink
import Derived.BigQuiet
import Derived.Test.YthnfkacboijneaaGreatDoorP13Impl11
import Derived.Test.YthnfkacboijneaaGreatDoorP36CoreOk
import Derived.Test.YthnfkacboijneaaGreatDoorP33Mems6
import Derived.Test.YthnfkacboijneaaGreatDoorP26CoresL
import Derived.Test.YthnfkacboijneaaGreatDoorP32BadP
import Derived.Test.YthnfkacboijneaaGreatDoorP27Msgs
import Derived.Test.YthnfkacboijneaaGreatDoorP09OpL
import Derived.Test.YthnfkacboijneaaGreatDoorP31FabricU
import Derived.Test.YthnfkacboijneaaGreatDoorP04Mems
namespace Go.Proofs.YthnfkacboijneaaGreatDoor
set_option maxHeartbeats 4000000
set_option maxRecDepth 20000
open Go.ChangeShapes Go.WideShapes Go.ChangeAt Go.RowKit
set_option linter.unusedVariables false
def zeroC : CoreD := (([], []), [], 0, 0, (0, 0, []), [])
def newQ (y : Bool) (c : CacheD) (p : List OpD) : CoreD × Bool := if y then ((c, p, 0, 0, emptyW, []), true) else (zeroC, false)
noncomputable def newCoreI (a b : Int) (p : List OpD) : CoreD × Bool := newQ ((newI a b).2 && progB p) (newI a b).1 p
abbrev zCells : List Value := [.slice none 0 0, .slice none 0 0, .slice none 0 0, .int .i64 0, .int .i64 0, .int .i64 0, .int .i64 0, .slice none 0 0, .slice none 0 0]
theorem own_nil0 {α : Type} {e : TypeId} {R : Rep α} (w : World) (S : Foot) : (slR e R).own w S [.slice none 0 0] [] := ⟨_, [], fun _ => False, rfl, World.ownsRow_nil _ _ _ _, fun g hg => by simp [Value.ownBlock] at hg, fun _ h => h.elim, rfl⟩
theorem i64_0C : In64 0 := by constructor <;> omega
theorem own_zeroC (w : World) (S : Foot) : coreR.own w S zCells zeroC :=
 own_core (x := zeroC) (S0 := fun _ => False) (S1 := fun _ => False) (S4 := fun _ => False) (S5 := fun _ => False) i64_0C i64_0C (own_cache (S1 := fun _ => False) (S2 := fun _ => False) (own_nil0 w _) (own_nil0 w _) (fun _ h => h.elim) (fun _ h => h.elim) (fun _ h _ => h)) (own_nil0 w _) (own_way i64_0C i64_0C (own_nil0 w _)) (own_nil0 w _)
  (fun _ h => h.elim) (fun _ h => h.elim) (fun _ h => h.elim) (fun _ h => h.elim) (fun _ h _ => h) (fun _ h _ => h) (fun _ h _ => h) (fun _ h _ => h) (fun _ h _ => h) (fun _ h _ => h)
theorem made_core {w w' : World} {c : CacheD} {p : List OpD} {a ph : Int} {u : WayD} {t : List Int} {v0 v1 v2 v5 v6 v7 v8 : Value} {l0 h0 l1 h1 l4 h4 l5 h5 : Nat} (i2 : In64 a) (i3 : In64 ph) (o0 : cacheR.own w' (rng l0 h0) [v0, v1] c) (o1 : opsR.own w' (rng l1 h1) [v2] p) (o4 : wayR.own w' (rng l4 h4) [v5, v6, v7] u) (o5 : intsR.own w' (rng l5 h5) [v8] t)
    (b : Below w.heap.size w w') (k0 : w.heap.size ≤ l0) (k1 : w.heap.size ≤ l1) (k4 : w.heap.size ≤ l4) (k5 : w.heap.size ≤ l5) (m0 : h0 ≤ w'.heap.size) (m1 : h1 ≤ w'.heap.size) (m4 : h4 ≤ w'.heap.size) (m5 : h5 ≤ w'.heap.size)
    (d01 : h0 ≤ l1 ∨ h1 ≤ l0) (d04 : h0 ≤ l4 ∨ h4 ≤ l0) (d05 : h0 ≤ l5 ∨ h5 ≤ l0) (d14 : h1 ≤ l4 ∨ h4 ≤ l1) (d15 : h1 ≤ l5 ∨ h5 ≤ l1) (d45 : h4 ≤ l5 ∨ h5 ≤ l4) :
    MadeR coreR w w' [v0, v1, v2, .int .i64 a, .int .i64 ph, v5, v6, v7, v8] (c, p, a, ph, u, t) :=
 ⟨own_core (x := (c, p, a, ph, u, t)) i2 i3 o0 o1 o4 o5 (fun k h => ⟨Nat.le_trans k0 h.1, Nat.lt_of_lt_of_le h.2 m0⟩) (fun k h => ⟨Nat.le_trans k1 h.1, Nat.lt_of_lt_of_le h.2 m1⟩) (fun k h => ⟨Nat.le_trans k4 h.1, Nat.lt_of_lt_of_le h.2 m4⟩) (fun k h => ⟨Nat.le_trans k5 h.1, Nat.lt_of_lt_of_le h.2 m5⟩) (rng_dis d01) (rng_dis d04) (rng_dis d05) (rng_dis d14) (rng_dis d15) (rng_dis d45), b⟩
theorem prog_small {p : List OpD} (h : progB p = true) : p.length ≤ 1048576 := by
 unfold progB at h
 simp only [Bool.and_eq_true, decide_eq_true_eq] at h
 omega
theorem implNewCore_u (a b : Int) (v : Value) (p : List OpD) (w : World) (h : opsR.rd w [v] p) :
    Calls Tryz.prog 63 #[.int .i64 a, .int .i64 b, v] w fun e w' => ∃ ds, e = .returned (.tuple #[aggV ds, .bool (newCoreI a b p).2]) ∧ MadeR coreR w w' ds (newCoreI a b p).1 := by
 have HO : Hid (∀ W, Below w.heap.size w W → Calls Tryz.prog 133 #[v] W fun e w' => e = .returned (.bool (progB p)) ∧ Below W.heap.size W w') := fun W hb => by
  obtain ⟨a1, c1, e1, k1, k2, q⟩ := rd_next h hb
  simp only [List.cons.injEq, and_true] at e1
  obtain rfl := e1
  exact implOpsOk_any _ _ _ W q (Nat.le_trans k1 k2)
 have HC : Hid (∀ W, Below w.heap.size w W → progB p = true → Calls Tryz.prog 134 #[v] W fun e w' => ∃ v', e = .returned v' ∧ MadeR opsR W w' [v'] p) := fun W hb hp => clone_ops v p W (rd_next h hb) (prog_small hp)
 obtain ⟨a1, c1, e1, -, -, -⟩ := h
 simp only [List.cons.injEq, and_true] at e1
 obtain rfl := e1
 unfold newCoreI
 have HN : Hid (∀ W, Calls Tryz.prog 132 #[.int .i64 a, .int .i64 b] W fun e w' => ∃ ds, e = .returned (.tuple #[aggV ds, .bool (newI a b).2]) ∧ MadeR cacheR W w' ds (newI a b).1) := fun W => implNew_u a b W
 obtain ⟨q, hq⟩ : ∃ q, q = (newI a b).2 := ⟨_, rfl⟩
 obtain ⟨x, hx⟩ : ∃ x, x = progB p := ⟨_, rfl⟩
 rw [← hq] at HN ⊢
 rw [← hx] at HO HC ⊢
 generalize (newI a b).1 = nc at HN ⊢
 clear hq hx
 have R := heap_at w (.cells #[.slice none 0 0, .slice none 0 0, .slice none 0 0, .int .i64 0, .int .i64 0, .int .i64 0, .int .i64 0, .slice none 0 0, .slice none 0 0] 86)
 have B := box_below w (.cells #[.slice none 0 0, .slice none 0 0, .slice none 0 0, .int .i64 0, .int .i64 0, .int .i64 0, .int .i64 0, .slice none 0 0, .slice none 0 0] 86)
 have zR : w.heap.size + 1 = (w.alloc (.cells #[.slice none 0 0, .slice none 0 0, .slice none 0 0, .int .i64 0, .int .i64 0, .int .i64 0, .int .i64 0, .slice none 0 0, .slice none 0 0] 86)).heap.size := by simp
 go_enter Tryz.func63, Tryz.ntmps63
 go_wp2_with fail
 generalize w.alloc (.cells #[.slice none 0 0, .slice none 0 0, .slice none 0 0, .int .i64 0, .int .i64 0, .int .i64 0, .int .i64 0, .slice none 0 0, .slice none 0 0] 86) = W0 at R B zR ⊢
 refine (HN.out _).mono ?_
 rintro e w1 ⟨ds, rfl, mm⟩
 obtain ⟨ac, cc, bc, dc, rfl, -, -, -, -, -, -⟩ := cache_rd (cacheR.own_rd mm.1)
 rw [show aggV [.slice ac nc.1.length cc, .slice bc nc.2.length dc] = .agg #[.slice ac nc.1.length cc, .slice bc nc.2.length dc] from rfl]
 have s1 := mm.2.size
 replace R := heap_on (.cells #[.slice ac nc.1.length cc, .slice bc nc.2.length dc] 81) (row_keep mm.2 R)
 replace B := below_step (below_step B mm.2) (box_below w1 (.cells #[.slice ac nc.1.length cc, .slice bc nc.2.length dc] 81))
 have X := heap_at w1 (.cells #[.slice ac nc.1.length cc, .slice bc nc.2.length dc] 81)
 have P := owned_next (owned_made mm) (box_below w1 (.cells #[.slice ac nc.1.length cc, .slice bc nc.2.length dc] 81))
 clear mm
 have s2 := P.2
 cases q
 ·obtain ⟨y0, y1, y2, y3, y4, y5, y6, y7, y8⟩ := cells_core R
  obtain ⟨f0, f1, f2, f3, f4, f5, f6, f7, f8⟩ := froz_core R
  have HK : Hid _ := And.intro R B
  clear R B X P
  go_wp2
  obtain ⟨r0, r1, r2, r3, r4, r5, r6, r7, r8⟩ := cells_core (put_core (y0 := .slice none 0 0) (y1 := .slice none 0 0) (y2 := .slice none 0 0) (y3 := .int .i64 0) (y4 := .int .i64 0) (y5 := .int .i64 0) (y6 := .int .i64 0) (y7 := .slice none 0 0) (y8 := .slice none 0 0) HK.out.1)
  refine bodyPost_ret (v := .tuple #[.agg #[.slice none 0 0, .slice none 0 0, .slice none 0 0, .int .i64 0, .int .i64 0, .int .i64 0, .int .i64 0, .slice none 0 0, .slice none 0 0], .bool false]) (by simp [results, Tryz.results63, go_sem, r0, r1, r2, r3, r4, r5, r6, r7, r8]) rfl ⟨zCells, rfl, own_zeroC _ _, ?_⟩
  exact below_setCs0 (g := w.heap.size) (o := 0) (vs := zCells) HK.out.2 (Nat.le_refl _)
 generalize hW1 : w1.alloc (.cells #[.slice ac nc.1.length cc, .slice bc nc.2.length dc] 81) = W1 at R B X P s2
 go_wp2_with fail
 clear hW1
 refine (HO.out _ B).mono ?_
 rintro e w2 ⟨rfl, b2⟩
 replace R := row_keep b2 R
 replace X := row_keep b2 X
 replace B := below_step B b2
 replace P := owned_next P b2
 have s3 := b2.size
 clear b2 HO
 cases x
 ·obtain ⟨y0, y1, y2, y3, y4, y5, y6, y7, y8⟩ := cells_core R
  obtain ⟨f0, f1, f2, f3, f4, f5, f6, f7, f8⟩ := froz_core R
  have HK : Hid _ := And.intro R B
  clear R B X P
  go_wp2
  obtain ⟨r0, r1, r2, r3, r4, r5, r6, r7, r8⟩ := cells_core (put_core (y0 := .slice none 0 0) (y1 := .slice none 0 0) (y2 := .slice none 0 0) (y3 := .int .i64 0) (y4 := .int .i64 0) (y5 := .int .i64 0) (y6 := .int .i64 0) (y7 := .slice none 0 0) (y8 := .slice none 0 0) HK.out.1)
  refine bodyPost_ret (v := .tuple #[.agg #[.slice none 0 0, .slice none 0 0, .slice none 0 0, .int .i64 0, .int .i64 0, .int .i64 0, .int .i64 0, .slice none 0 0, .slice none 0 0], .bool false]) (by simp [results, Tryz.results63, go_sem, r0, r1, r2, r3, r4, r5, r6, r7, r8]) rfl ⟨zCells, rfl, own_zeroC _ _, ?_⟩
  exact below_setCs0 (g := w.heap.size) (o := 0) (vs := zCells) HK.out.2 (Nat.le_refl _)
 replace B := B.drew
 replace P := owned_drew P
 obtain ⟨k0, k1⟩ := cells_two X
 obtain ⟨y0, y1, y2, y3, y4, y5, y6, y7, y8⟩ := cells_core R
 obtain ⟨f0, f1, f2, f3, f4, f5, f6, f7, f8⟩ := froz_core R
 go_wp2_with fail
 go_region_with (first | (go_at_call 134; refine (HC.out _ B (by first | rfl | trivial)).mono ?_; rintro e wo ⟨vo, rfl, mo⟩; obtain ⟨ao, co, ro, -, -, -⟩ := opsR.own_rd mo.1; simp only [List.cons.injEq, and_true] at ro; obtain rfl := ro; have mb := mo.2; replace R := row_keep mb R; replace X := row_keep mb X; replace B := below_step B mb; replace P := owned_next P mb; clear mb k0 k1 y0 y1 y2 y3 y4 y5 y6 y7 y8 f0 f1 f2 f3 f4 f5 f6 f7 f8; obtain ⟨k0, k1⟩ := cells_two X; obtain ⟨y0, y1, y2, y3, y4, y5, y6, y7, y8⟩ := cells_core R; obtain ⟨f0, f1, f2, f3, f4, f5, f6, f7, f8⟩ := froz_core R) | (go_at_call 135; refine (emptyWay_any _).mono ?_; rintro e we ⟨ae, ce, rfl, me⟩; have mb := me.2; replace R := row_keep mb R; replace X := row_keep mb X; replace B := below_step B mb; replace P := owned_next P mb; clear mb k0 k1 y0 y1 y2 y3 y4 y5 y6 y7 y8 f0 f1 f2 f3 f4 f5 f6 f7 f8; obtain ⟨k0, k1⟩ := cells_two X; obtain ⟨y0, y1, y2, y3, y4, y5, y6, y7, y8⟩ := cells_core R; obtain ⟨f0, f1, f2, f3, f4, f5, f6, f7, f8⟩ := froz_core R))
 all_goals
  have HK : Hid _ := And.intro R (And.intro B P)
  clear R B P X
  go_wp2
  first
   | (have O := owned_made mo; have E := owned_next (owned_made me) mo.2; have t1 : w2.heap.size ≤ we.heap.size := me.2.size; have t2 : we.heap.size ≤ wo.heap.size := mo.2.size; have t0 : w2.drew.heap.size = w2.heap.size := rfl; obtain ⟨r0, r1, r2, r3, r4, r5, r6, r7, r8⟩ := cells_core (put_core (y0 := .slice ac nc.1.length cc) (y1 := .slice bc nc.2.length dc) (y2 := .slice ao p.length co) (y3 := .int .i64 0) (y4 := .int .i64 0) (y5 := .int .i64 (-1)) (y6 := .int .i64 0) (y7 := .slice ae 0 ce) (y8 := .slice none 0 0) HK.out.1); refine bodyPost_ret (v := .tuple #[.agg #[.slice ac nc.1.length cc, .slice bc nc.2.length dc, .slice ao p.length co, .int .i64 0, .int .i64 0, .int .i64 (-1), .int .i64 0, .slice ae 0 ce, .slice none 0 0], .bool true]) (by simp [results, Tryz.results63, go_sem, r0, r1, r2, r3, r4, r5, r6, r7, r8]) rfl ⟨[.slice ac nc.1.length cc, .slice bc nc.2.length dc, .slice ao p.length co, .int .i64 0, .int .i64 0, .int .i64 (-1), .int .i64 0, .slice ae 0 ce, .slice none 0 0], rfl, made_core i64_0C i64_0C (owned_setCs (g := w.heap.size) (o := 0) (vs := [.slice ac nc.1.length cc, .slice bc nc.2.length dc, .slice ao p.length co, .int .i64 0, .int .i64 0, .int .i64 (-1), .int .i64 0, .slice ae 0 ce, .slice none 0 0]) HK.out.2.2 (.inl (by omega))).1 (owned_setCs (g := w.heap.size) (o := 0) (vs := [.slice ac nc.1.length cc, .slice bc nc.2.length dc, .slice ao p.length co, .int .i64 0, .int .i64 0, .int .i64 (-1), .int .i64 0, .slice ae 0 ce, .slice none 0 0]) O (.inl (by omega))).1 (owned_setCs (g := w.heap.size) (o := 0) (vs := [.slice ac nc.1.length cc, .slice bc nc.2.length dc, .slice ao p.length co, .int .i64 0, .int .i64 0, .int .i64 (-1), .int .i64 0, .slice ae 0 ce, .slice none 0 0]) E (.inl (by omega))).1 (own_nil0 _ (rng wo.heap.size wo.heap.size)) (below_setCs0 (o := 0) (vs := [.slice ac nc.1.length cc, .slice bc nc.2.length dc, .slice ao p.length co, .int .i64 0, .int .i64 0, .int .i64 (-1), .int .i64 0, .slice ae 0 ce, .slice none 0 0]) HK.out.2.1 (Nat.le_refl _)) (by omega) (by omega) (by omega) (by omega) (Nat.le_trans (m := wo.heap.size) (by omega) (Nat.le_of_eq (setCs_size [.slice ac nc.1.length cc, .slice bc nc.2.length dc, .slice ao p.length co, .int .i64 0, .int .i64 0, .int .i64 (-1), .int .i64 0, .slice ae 0 ce, .slice none 0 0] 0 wo (g := w.heap.size)).symm)) (Nat.le_trans (m := wo.heap.size) (by omega) (Nat.le_of_eq (setCs_size [.slice ac nc.1.length cc, .slice bc nc.2.length dc, .slice ao p.length co, .int .i64 0, .int .i64 0, .int .i64 (-1), .int .i64 0, .slice ae 0 ce, .slice none 0 0] 0 wo (g := w.heap.size)).symm)) (Nat.le_trans (m := wo.heap.size) (by omega) (Nat.le_of_eq (setCs_size [.slice ac nc.1.length cc, .slice bc nc.2.length dc, .slice ao p.length co, .int .i64 0, .int .i64 0, .int .i64 (-1), .int .i64 0, .slice ae 0 ce, .slice none 0 0] 0 wo (g := w.heap.size)).symm)) (Nat.le_trans (m := wo.heap.size) (by omega) (Nat.le_of_eq (setCs_size [.slice ac nc.1.length cc, .slice bc nc.2.length dc, .slice ao p.length co, .int .i64 0, .int .i64 0, .int .i64 (-1), .int .i64 0, .slice ae 0 ce, .slice none 0 0] 0 wo (g := w.heap.size)).symm)) (by omega) (by omega) (by omega) (by omega) (by omega) (by omega)⟩)
   | (have O := owned_next (owned_made mo) me.2; have E := owned_made me; have t1 : w2.heap.size ≤ wo.heap.size := mo.2.size; have t2 : wo.heap.size ≤ we.heap.size := me.2.size; have t0 : w2.drew.heap.size = w2.heap.size := rfl; obtain ⟨r0, r1, r2, r3, r4, r5, r6, r7, r8⟩ := cells_core (put_core (y0 := .slice ac nc.1.length cc) (y1 := .slice bc nc.2.length dc) (y2 := .slice ao p.length co) (y3 := .int .i64 0) (y4 := .int .i64 0) (y5 := .int .i64 (-1)) (y6 := .int .i64 0) (y7 := .slice ae 0 ce) (y8 := .slice none 0 0) HK.out.1); refine bodyPost_ret (v := .tuple #[.agg #[.slice ac nc.1.length cc, .slice bc nc.2.length dc, .slice ao p.length co, .int .i64 0, .int .i64 0, .int .i64 (-1), .int .i64 0, .slice ae 0 ce, .slice none 0 0], .bool true]) (by simp [results, Tryz.results63, go_sem, r0, r1, r2, r3, r4, r5, r6, r7, r8]) rfl ⟨[.slice ac nc.1.length cc, .slice bc nc.2.length dc, .slice ao p.length co, .int .i64 0, .int .i64 0, .int .i64 (-1), .int .i64 0, .slice ae 0 ce, .slice none 0 0], rfl, made_core i64_0C i64_0C (owned_setCs (g := w.heap.size) (o := 0) (vs := [.slice ac nc.1.length cc, .slice bc nc.2.length dc, .slice ao p.length co, .int .i64 0, .int .i64 0, .int .i64 (-1), .int .i64 0, .slice ae 0 ce, .slice none 0 0]) HK.out.2.2 (.inl (by omega))).1 (owned_setCs (g := w.heap.size) (o := 0) (vs := [.slice ac nc.1.length cc, .slice bc nc.2.length dc, .slice ao p.length co, .int .i64 0, .int .i64 0, .int .i64 (-1), .int .i64 0, .slice ae 0 ce, .slice none 0 0]) O (.inl (by omega))).1 (owned_setCs (g := w.heap.size) (o := 0) (vs := [.slice ac nc.1.length cc, .slice bc nc.2.length dc, .slice ao p.length co, .int .i64 0, .int .i64 0, .int .i64 (-1), .int .i64 0, .slice ae 0 ce, .slice none 0 0]) E (.inl (by omega))).1 (own_nil0 _ (rng we.heap.size we.heap.size)) (below_setCs0 (o := 0) (vs := [.slice ac nc.1.length cc, .slice bc nc.2.length dc, .slice ao p.length co, .int .i64 0, .int .i64 0, .int .i64 (-1), .int .i64 0, .slice ae 0 ce, .slice none 0 0]) HK.out.2.1 (Nat.le_refl _)) (by omega) (by omega) (by omega) (by omega) (Nat.le_trans (m := we.heap.size) (by omega) (Nat.le_of_eq (setCs_size [.slice ac nc.1.length cc, .slice bc nc.2.length dc, .slice ao p.length co, .int .i64 0, .int .i64 0, .int .i64 (-1), .int .i64 0, .slice ae 0 ce, .slice none 0 0] 0 we (g := w.heap.size)).symm)) (Nat.le_trans (m := we.heap.size) (by omega) (Nat.le_of_eq (setCs_size [.slice ac nc.1.length cc, .slice bc nc.2.length dc, .slice ao p.length co, .int .i64 0, .int .i64 0, .int .i64 (-1), .int .i64 0, .slice ae 0 ce, .slice none 0 0] 0 we (g := w.heap.size)).symm)) (Nat.le_trans (m := we.heap.size) (by omega) (Nat.le_of_eq (setCs_size [.slice ac nc.1.length cc, .slice bc nc.2.length dc, .slice ao p.length co, .int .i64 0, .int .i64 0, .int .i64 (-1), .int .i64 0, .slice ae 0 ce, .slice none 0 0] 0 we (g := w.heap.size)).symm)) (Nat.le_trans (m := we.heap.size) (by omega) (Nat.le_of_eq (setCs_size [.slice ac nc.1.length cc, .slice bc nc.2.length dc, .slice ao p.length co, .int .i64 0, .int .i64 0, .int .i64 (-1), .int .i64 0, .slice ae 0 ce, .slice none 0 0] 0 we (g := w.heap.size)).symm)) (by omega) (by omega) (by omega) (by omega) (by omega) (by omega)⟩)
theorem code_cores {c s y l : Int} (h : codeI c s y l = 0) : (1 ≤ c ∧ c ≤ 4) ∧ (1 ≤ l ∧ l ≤ 16) := by
 have h2 := code_zero h
 refine ⟨?_, h2.1⟩
 unfold codeI at h
 split at h
 ·rename_i q; simpa [betw] using q
 ·cases h
open Go.ChangeShapes Go.WideShapes Go.ChangeAt Go.RowKit Go.Shelf
attribute [local go_sem] Oper.semAt_some
def endsB (r f t : Int) : Bool := betw r 0 2 && (betw f 0 5 && betw t 0 5)
def dataB (d : List Int) : Bool := d.isEmpty || isL d
def msgB (u : MsgD) : Bool := endsB u.1 u.2.1 u.2.2.1 && (betw u.2.2.2.1 1 15 && (betw u.2.2.2.2.1 0 15 && (dataB u.2.2.2.2.2.1 && betw u.2.2.2.2.2.2 0 15)))
theorem mb {r f t k l g : Int} {d : List Int} : msgB (r, f, t, k, l, d, g) = (endsB r f t && (betw k 1 15 && (betw l 0 15 && (dataB d && betw g 0 15)))) := rfl
def toldB (u : DescD) (ws : List Int) : Bool := if u.1 then decide (ws.length = 0) else isL ws
def toldL (xs : List DescD) (ys : List (List Int)) : Bool := decide (xs.length = ys.length) && (xs.zip ys).all fun z => toldB z.1 z.2
def descsB (xs : List DescD) : Bool := decide (xs.length ≤ 30) && xs.all descB
def placeB1 (x : DmaD) : Bool := betw x.2.1 0 x.1.length
def waitB1 (x : DmaD) : Bool := !x.2.2.1 || decide (x.2.1 < (x.1.length : Int))
def dmaB (x : DmaD) : Bool := descsB x.1 && (placeB1 x && (waitB1 x && toldL (x.1.take x.2.1.toNat) x.2.2.2))
theorem toldL_no {xs : List DescD} {ys : List (List Int)} {k : Nat} {u : DescD} {v : List Int} (hu : xs[k]? = some u) (hv : ys[k]? = some v) (h : toldB u v = false) : toldL xs ys = false := by
 have hm : (u, v) ∈ xs.zip ys := List.mem_of_getElem? (by rw [List.getElem?_zip_eq_some]; exact ⟨hu, hv⟩)
 have : (xs.zip ys).all (fun z => toldB z.1 z.2) = false := by
  cases q : (xs.zip ys).all (fun z => toldB z.1 z.2)
  ·rfl
  ·have := List.all_eq_true.1 q _ hm
   simp only at this
   rw [h] at this
   cases this
 unfold toldL
 rw [this, Bool.and_false]
theorem toldL_yes {xs : List DescD} {ys : List (List Int)} (hl : xs.length = ys.length) (h : ∀ (k : Nat) u v, xs[k]? = some u → ys[k]? = some v → toldB u v = true) : toldL xs ys = true := by
 unfold toldL
 rw [decide_eq_true hl, Bool.true_and, List.all_eq_true]
 rintro ⟨u, v⟩ hm
 obtain ⟨k, hk⟩ := List.getElem?_of_mem hm
 rw [List.getElem?_zip_eq_some] at hk
 exact h k u v hk.1 hk.2
theorem desc_shape {w : World} {cs : List Value} {u : DescD} (h : descR.rd w cs u) : ∃ (ua : Option Addr) (uc : Nat), cs = [.bool u.1, .int .i64 u.2.1, .int .i64 u.2.2.1, .slice ua u.2.2.2.length uc] ∧ SlRd intR w ua u.2.2.2 := by
 obtain ⟨a, c, rfl, -, -, -, -, q⟩ := desc_rd h
 exact ⟨a, c, rfl, q⟩
theorem descsOk1_any (u : DescD) (ua : Option Addr) (uc : Nat) (w : World) (h : SlRd intR w ua u.2.2.2) :
    Calls Tryz.prog 203 #[.agg #[.bool u.1, .int .i64 u.2.1, .int .i64 u.2.2.1, .slice ua u.2.2.2.length uc]] w fun e w' => e = .returned (.bool (!descB u)) ∧ Below w.heap.size w w' := by
 have B := box_below w (.cells #[.bool u.1, .int .i64 u.2.1, .int .i64 u.2.2.1, .slice ua u.2.2.2.length uc] 125)
 have HM : Hid (∀ W, Below w.heap.size w W → Calls Tryz.prog 204 #[.agg #[.bool u.1, .int .i64 u.2.1, .int .i64 u.2.2.1, .slice ua u.2.2.2.length uc]] W fun e w' => e = .returned (.bool (descB u)) ∧ Below W.heap.size W w') := fun W hb => implDescOk_any u.1 u.2.1 u.2.2.1 u.2.2.2 ua uc W (slrd_next h hb)
 generalize descB u = q at HM ⊢
 clear h
 go_enter Tryz.func203, Tryz.ntmps203
 go_wp2_with fail
 generalize w.alloc (.cells #[.bool u.1, .int .i64 u.2.1, .int .i64 u.2.2.1, .slice ua u.2.2.2.length uc] 125) = W0 at B ⊢
 refine (HM.out _ B).mono ?_
 rintro e w1 ⟨rfl, b1⟩
 go_wp2
 go_ret
 exact ⟨rfl, below_step B b1⟩
theorem idxBadD (a : Option Addr) (xs : List DescD) (cap : Nat) (w : World) (h : SlRd descR w a xs) (hm : xs.length ≤ maxLen) :
    Calls Tryz.prog 245 #[.slice a xs.length cap, .func (.func 203) #[] #[]] w fun e w' => e = .returned (.int .i64 (badP descB xs)) ∧ Below w.heap.size w w' := by
 have hm' : xs.length ≤ 9223372036854775807 := hm
 have H0 : Hid (∀ W, Below w.heap.size w W → SlRd descR W a xs) := fun W hb => slrd_keep h fun k hk => hb.block k hk
 clear h hm
 go_enter Tryz.func245, Tryz.ntmps245
 go_wp2
 go_loopw [8] (fun i wr => ∃ k : Nat, k ≤ xs.length ∧ i = .int .i64 k ∧ (∀ j v, j < k → xs[j]? = some v → descB v = true) ∧ Below w.heap.size w wr) (fun i _ => xs.length - (intOf i).toNat)
 case atStart => exact ⟨0, Nat.zero_le _, rfl, fun j v hj => by omega, Below.refl _ _⟩
 case round =>
  obtain ⟨k, hk, rfl, hno, BB⟩ := hrel
  by_cases hlt : k < xs.length
  ·have hlt' : (k : Int) < (xs.length : Int) := by omega
   obtain ⟨u, hx⟩ : ∃ x, xs[k]? = some x := ⟨_, List.getElem?_eq_getElem hlt⟩
   obtain ⟨bb, off, cs, rfl, hrdx, hcell⟩ := slrd_at (H0.out _ BB) hx
   obtain ⟨ua, uc, rfl, hd⟩ := desc_shape hrdx
   have HC := descsOk1_any u ua uc wr hd
   have x0 := hcell 0 _ rfl
   rw [show off + (k * descR.size + 0) = off + k * 4 from rfl] at x0
   have x1 := hcell 1 _ rfl
   rw [show off + (k * descR.size + 1) = off + k * 4 + 1 from rfl] at x1
   have x2 := hcell 2 _ rfl
   rw [show off + (k * descR.size + 2) = off + k * 4 + 2 from rfl] at x2
   have x3 := hcell 3 _ rfl
   rw [show off + (k * descR.size + 3) = off + k * 4 + 3 from rfl] at x3
   have HX : Hid (xs[k]? = some u) := hx
   clear hx hcell hrdx hd
   cases hb : descB u
   ·have HR : Hid (badP descB xs = k) := badP_at HX.out hb hno
    rw [hb] at HC
    go_wp2_with fail
    refine HC.mono ?_
    rintro e w2 ⟨rfl, b2⟩
    replace BB := below_step BB b2
    clear b2 x0 x1 x2 x3
    go_wp2
    go_ret
    exact ⟨ret_int HR.out.symm, BB⟩
   ·rw [hb] at HC
    go_wp2_with fail
    refine HC.mono ?_
    rintro e w2 ⟨rfl, b2⟩
    replace BB := below_step BB b2
    clear b2 x0 x1 x2 x3
    go_wp2
    go_roundw
    case rel =>
     refine ⟨k + 1, by omega, by go_num, fun j v hj hv => ?_, BB⟩
     by_cases he : j < k
     ·exact hno j v he hv
     ·have : j = k := by omega
      subst this
      rw [HX.out] at hv
      cases hv
      exact hb
    case measure => simp [intOf]; omega
  ·have HR : Hid (badP descB xs = -1) := badP_no fun j v hv => hno j v (by have := (List.getElem?_eq_some_iff.1 hv).1; omega) hv
   go_wp2
   go_ret
   exact ⟨ret_int HR.out.symm, BB⟩
theorem conBadD (a : Option Addr) (xs : List DescD) (cap : Nat) (w : World) (h : SlRd descR w a xs) (hm : xs.length ≤ maxLen) :
    Calls Tryz.prog 202 #[.slice a xs.length cap, .func (.func 203) #[] #[]] w fun e w' => e = .returned (.bool (!xs.all descB)) ∧ Below w.heap.size w w' := by
 have HI := idxBadD a xs cap w h hm
 have hab := badP_all descB xs
 clear h hm
 generalize badP descB xs = q at HI hab
 generalize xs.all descB = y at hab ⊢
 subst hab
 by_cases hq : q < 0
 ·have hq2 : ¬ (0 ≤ q) := by omega
  go_enter Tryz.func202, Tryz.ntmps202
  go_wp2_with fail
  refine HI.mono ?_
  rintro e w1 ⟨rfl, b1⟩
  go_wp2
  go_ret
  exact ⟨by simp [hq], b1⟩
 ·have hq2 : 0 ≤ q := by omega
  go_enter Tryz.func202, Tryz.ntmps202
  go_wp2_with fail
  refine HI.mono ?_
  rintro e w1 ⟨rfl, b1⟩
  go_wp2
  go_ret
  exact ⟨by simp [hq], b1⟩
theorem implDescsOk_any (a : Option Addr) (xs : List DescD) (cap : Nat) (w : World) (h : SlRd descR w a xs) (hm : xs.length ≤ maxLen) :
    Calls Tryz.prog 136 #[.slice a xs.length cap] w fun e w' => e = .returned (.bool (descsB xs)) ∧ Below w.heap.size w w' := by
 have HC := conBadD a xs cap w h hm
 have hm' : xs.length ≤ 9223372036854775807 := hm
 unfold descsB
 generalize xs.all descB = y at HC ⊢
 clear h hm
 by_cases hl : xs.length ≤ 30
 ·have hl' : (xs.length : Int) ≤ 30 := by omega
  go_enter Tryz.func136, Tryz.ntmps136
  go_wp2_with fail
  refine HC.mono ?_
  rintro e w1 ⟨rfl, b1⟩
  go_wp2
  go_ret
  exact ⟨by simp [hl], b1⟩
 ·have hl' : ¬ ((xs.length : Int) ≤ 30) := by omega
  go_enter Tryz.func136, Tryz.ntmps136
  go_wp2
  go_ret
  exact ⟨by simp, Below.refl _ _⟩
end Go.Proofs.YthnfkacboijneaaGreatDoor
