
/- NewCore. -/
import Derived.Test.YtgpkpjjbcmegjaaGreatDoorImpl12
import Derived.Test.YtgpkpjjbcmegjaaGreatDoorJWayCopy3CloneOps
import Derived.Test.YtgpkpjjbcmegjaaGreatDoorJLines614Iters
/- A new core, of the program and of its specification. Condition: a list of ops that reads as told. -/
namespace Go.Proofs.YtgpkpjjbcmegjaaGreatDoor
open Go.ChangeShapes Go.WideShapes Go.ChangeAt Go.RowKit
set_option linter.unusedVariables false

def zeroC : CoreD := (([], []), [], 0, 0, (0, 0, []), [])
def newQ (y : Bool) (c : CacheD) (p : List OpD) : CoreD × Bool := if y then ((c, p, 0, 0, emptyW, []), true) else (zeroC, false)
noncomputable def newCoreI (a b : Int) (p : List OpD) : CoreD × Bool := newQ ((newI a b).2 && progB p) (newI a b).1 p
abbrev zCells : List Value := [.slice none 0 0, .slice none 0 0, .slice none 0 0, .int .i64 0, .int .i64 0, .int .i64 0, .int .i64 0, .slice none 0 0, .slice none 0 0]
theorem own_nil0 {α : Type} {e : TypeId} {R : Rep α} (w : World) (S : Foot) : (slR e R).own w S [.slice none 0 0] [] := ⟨_, [], fun _ => False, rfl, World.ownsRow_nil _ _ _ _, fun g hg => by simp [Value.ownBlock] at hg, fun _ h => h.elim, rfl⟩
theorem i64_0 : In64 0 := by constructor <;> omega
theorem own_zero (w : World) (S : Foot) : coreR.own w S zCells zeroC :=
  own_core (x := zeroC) (S0 := fun _ => False) (S1 := fun _ => False) (S4 := fun _ => False) (S5 := fun _ => False) i64_0 i64_0 (own_cache (S1 := fun _ => False) (S2 := fun _ => False) (own_nil0 w _) (own_nil0 w _) (fun _ h => h.elim) (fun _ h => h.elim) (fun _ h _ => h)) (own_nil0 w _) (own_way i64_0 i64_0 (own_nil0 w _)) (own_nil0 w _)
    (fun _ h => h.elim) (fun _ h => h.elim) (fun _ h => h.elim) (fun _ h => h.elim) (fun _ h _ => h) (fun _ h _ => h) (fun _ h _ => h) (fun _ h _ => h) (fun _ h _ => h) (fun _ h _ => h)
theorem len3way {cs : List Value} {w : World} {u : WayD} (h : wayR.rd w cs u) : ∃ a b c, cs = [a, b, c] := len3core (wayR.rd_len h)
theorem len2cache {cs : List Value} {w : World} {u : CacheD} (h : cacheR.rd w cs u) : ∃ a b, cs = [a, b] := len2core (cacheR.rd_len h)
/-- A core of parts that lie in four intervals. -/
theorem made_core {w w' : World} {c : CacheD} {p : List OpD} {a ph : Int} {u : WayD} {t : List Int} {v0 v1 v2 v5 v6 v7 v8 : Value} {l0 h0 l1 h1 l4 h4 l5 h5 : Nat} (i2 : In64 a) (i3 : In64 ph) (o0 : cacheR.own w' (rng l0 h0) [v0, v1] c) (o1 : opsR.own w' (rng l1 h1) [v2] p) (o4 : wayR.own w' (rng l4 h4) [v5, v6, v7] u) (o5 : intsR.own w' (rng l5 h5) [v8] t)
    (b : Below w.heap.size w w') (k0 : w.heap.size ≤ l0) (k1 : w.heap.size ≤ l1) (k4 : w.heap.size ≤ l4) (k5 : w.heap.size ≤ l5) (m0 : h0 ≤ w'.heap.size) (m1 : h1 ≤ w'.heap.size) (m4 : h4 ≤ w'.heap.size) (m5 : h5 ≤ w'.heap.size)
    (d01 : h0 ≤ l1 ∨ h1 ≤ l0) (d04 : h0 ≤ l4 ∨ h4 ≤ l0) (d05 : h0 ≤ l5 ∨ h5 ≤ l0) (d14 : h1 ≤ l4 ∨ h4 ≤ l1) (d15 : h1 ≤ l5 ∨ h5 ≤ l1) (d45 : h4 ≤ l5 ∨ h5 ≤ l4) :
    MadeR coreR w w' [v0, v1, v2, .int .i64 a, .int .i64 ph, v5, v6, v7, v8] (c, p, a, ph, u, t) :=
  ⟨own_core (x := (c, p, a, ph, u, t)) i2 i3 o0 o1 o4 o5 (fun k h => ⟨Nat.le_trans k0 h.1, Nat.lt_of_lt_of_le h.2 m0⟩) (fun k h => ⟨Nat.le_trans k1 h.1, Nat.lt_of_lt_of_le h.2 m1⟩) (fun k h => ⟨Nat.le_trans k4 h.1, Nat.lt_of_lt_of_le h.2 m4⟩) (fun k h => ⟨Nat.le_trans k5 h.1, Nat.lt_of_lt_of_le h.2 m5⟩) (rng_dis d01) (rng_dis d04) (rng_dis d05) (rng_dis d14) (rng_dis d15) (rng_dis d45), b⟩
theorem prog_small {p : List OpD} (h : progB p = true) : p.length ≤ 1048576 := by
  unfold progB at h
  simp only [Bool.and_eq_true, decide_eq_true_eq] at h
  omega

set_option maxHeartbeats 4000000 in
set_option maxRecDepth 20000 in
theorem implNewCore_u (a b : Int) (v : Value) (p : List OpD) (w : World) (h : opsR.rd w [v] p) :
    Calls Tryz.prog 11 #[.int .i64 a, .int .i64 b, v] w fun e w' => ∃ ds, e = .returned (.tuple #[aggV ds, .bool (newCoreI a b p).2]) ∧ MadeR coreR w w' ds (newCoreI a b p).1 := by
  have HO : Hid (∀ W, Below w.heap.size w W → Calls Tryz.prog 51 #[v] W fun e w' => e = .returned (.bool (progB p)) ∧ Below W.heap.size W w') := fun W hb => by
    obtain ⟨a1, c1, e1, k1, k2, q⟩ := rd_next h hb
    simp only [List.cons.injEq, and_true] at e1
    obtain rfl := e1
    exact implOpsOk_any _ _ _ W q (Nat.le_trans k1 k2)
  have HC : Hid (∀ W, Below w.heap.size w W → progB p = true → Calls Tryz.prog 52 #[v] W fun e w' => ∃ v', e = .returned v' ∧ MadeR opsR W w' [v'] p) := fun W hb hp => clone_ops v p W (rd_next h hb) (prog_small hp)
  obtain ⟨a1, c1, e1, -, -, -⟩ := h
  simp only [List.cons.injEq, and_true] at e1
  obtain rfl := e1
  unfold newCoreI
  have HN : Hid (∀ W, Calls Tryz.prog 50 #[.int .i64 a, .int .i64 b] W fun e w' => ∃ ds, e = .returned (.tuple #[aggV ds, .bool (newI a b).2]) ∧ MadeR cacheR W w' ds (newI a b).1) := fun W => implNew_u a b W
  obtain ⟨q, hq⟩ : ∃ q, q = (newI a b).2 := ⟨_, rfl⟩
  obtain ⟨x, hx⟩ : ∃ x, x = progB p := ⟨_, rfl⟩
  rw [← hq] at HN ⊢
  rw [← hx] at HO HC ⊢
  generalize (newI a b).1 = nc at HN ⊢
  clear hq hx
  have R := heap_at w (.cells #[.slice none 0 0, .slice none 0 0, .slice none 0 0, .int .i64 0, .int .i64 0, .int .i64 0, .int .i64 0, .slice none 0 0, .slice none 0 0] 32)
  have B := box_below w (.cells #[.slice none 0 0, .slice none 0 0, .slice none 0 0, .int .i64 0, .int .i64 0, .int .i64 0, .int .i64 0, .slice none 0 0, .slice none 0 0] 32)
  have zR : w.heap.size + 1 = (w.alloc (.cells #[.slice none 0 0, .slice none 0 0, .slice none 0 0, .int .i64 0, .int .i64 0, .int .i64 0, .int .i64 0, .slice none 0 0, .slice none 0 0] 32)).heap.size := by simp
  go_enter Tryz.func11, Tryz.ntmps11
  go_wp2_with fail
  generalize w.alloc (.cells #[.slice none 0 0, .slice none 0 0, .slice none 0 0, .int .i64 0, .int .i64 0, .int .i64 0, .int .i64 0, .slice none 0 0, .slice none 0 0] 32) = W0 at R B zR ⊢
  refine (HN.out _).mono ?_
  rintro e w1 ⟨ds, rfl, mm⟩
  obtain ⟨ac, cc, bc, dc, rfl, -, -, -, -, -, -⟩ := cache_rd (cacheR.own_rd mm.1)
  rw [show aggV [.slice ac nc.1.length cc, .slice bc nc.2.length dc] = .agg #[.slice ac nc.1.length cc, .slice bc nc.2.length dc] from rfl]
  have s1 := mm.2.size
  replace R := heap_on (.cells #[.slice ac nc.1.length cc, .slice bc nc.2.length dc] 27) (row_keep mm.2 R)
  replace B := below_step (below_step B mm.2) (box_below w1 (.cells #[.slice ac nc.1.length cc, .slice bc nc.2.length dc] 27))
  have X := heap_at w1 (.cells #[.slice ac nc.1.length cc, .slice bc nc.2.length dc] 27)
  have P := owned_next (owned_made mm) (box_below w1 (.cells #[.slice ac nc.1.length cc, .slice bc nc.2.length dc] 27))
  clear mm
  have s2 := P.2
  cases q
  · obtain ⟨y0, y1, y2, y3, y4, y5, y6, y7, y8⟩ := cells_core R
    obtain ⟨f0, f1, f2, f3, f4, f5, f6, f7, f8⟩ := froz_core R
    have HK : Hid _ := And.intro R B
    clear R B X P
    go_wp2
    obtain ⟨r0, r1, r2, r3, r4, r5, r6, r7, r8⟩ := cells_core (put_core (y0 := .slice none 0 0) (y1 := .slice none 0 0) (y2 := .slice none 0 0) (y3 := .int .i64 0) (y4 := .int .i64 0) (y5 := .int .i64 0) (y6 := .int .i64 0) (y7 := .slice none 0 0) (y8 := .slice none 0 0) HK.out.1)
    refine bodyPost_ret (v := .tuple #[.agg #[.slice none 0 0, .slice none 0 0, .slice none 0 0, .int .i64 0, .int .i64 0, .int .i64 0, .int .i64 0, .slice none 0 0, .slice none 0 0], .bool false]) (by simp [results, Tryz.results11, go_sem, r0, r1, r2, r3, r4, r5, r6, r7, r8]) rfl ⟨zCells, rfl, own_zero _ _, ?_⟩
    exact below_setCs0 (g := w.heap.size) (o := 0) (vs := zCells) HK.out.2 (Nat.le_refl _)
  generalize hW1 : w1.alloc (.cells #[.slice ac nc.1.length cc, .slice bc nc.2.length dc] 27) = W1 at R B X P s2
  go_wp2_with fail
  clear hW1
  refine (HO.out _ B).mono ?_
  rintro e w2 ⟨rfl, b2⟩
  replace R := row_keep b2 R
  replace X := row_keep b2 X
  replace B := below_step B b2
  replace P := owned_next P b2
  have s3 := b2.size
  clear b2 HO
  cases x
  · obtain ⟨y0, y1, y2, y3, y4, y5, y6, y7, y8⟩ := cells_core R
    obtain ⟨f0, f1, f2, f3, f4, f5, f6, f7, f8⟩ := froz_core R
    have HK : Hid _ := And.intro R B
    clear R B X P
    go_wp2
    obtain ⟨r0, r1, r2, r3, r4, r5, r6, r7, r8⟩ := cells_core (put_core (y0 := .slice none 0 0) (y1 := .slice none 0 0) (y2 := .slice none 0 0) (y3 := .int .i64 0) (y4 := .int .i64 0) (y5 := .int .i64 0) (y6 := .int .i64 0) (y7 := .slice none 0 0) (y8 := .slice none 0 0) HK.out.1)
    refine bodyPost_ret (v := .tuple #[.agg #[.slice none 0 0, .slice none 0 0, .slice none 0 0, .int .i64 0, .int .i64 0, .int .i64 0, .int .i64 0, .slice none 0 0, .slice none 0 0], .bool false]) (by simp [results, Tryz.results11, go_sem, r0, r1, r2, r3, r4, r5, r6, r7, r8]) rfl ⟨zCells, rfl, own_zero _ _, ?_⟩
    exact below_setCs0 (g := w.heap.size) (o := 0) (vs := zCells) HK.out.2 (Nat.le_refl _)
  replace B := B.drew
  replace P := owned_drew P
  obtain ⟨k0, k1⟩ := cells_two X
  obtain ⟨y0, y1, y2, y3, y4, y5, y6, y7, y8⟩ := cells_core R
  obtain ⟨f0, f1, f2, f3, f4, f5, f6, f7, f8⟩ := froz_core R
  go_wp2_with fail
  go_region_with (first | (go_at_call 52; refine (HC.out _ B (by first | rfl | trivial)).mono ?_; rintro e wo ⟨vo, rfl, mo⟩; obtain ⟨ao, co, ro, -, -, -⟩ := opsR.own_rd mo.1; simp only [List.cons.injEq, and_true] at ro; obtain rfl := ro; have mb := mo.2; replace R := row_keep mb R; replace X := row_keep mb X; replace B := below_step B mb; replace P := owned_next P mb; clear mb k0 k1 y0 y1 y2 y3 y4 y5 y6 y7 y8 f0 f1 f2 f3 f4 f5 f6 f7 f8; obtain ⟨k0, k1⟩ := cells_two X; obtain ⟨y0, y1, y2, y3, y4, y5, y6, y7, y8⟩ := cells_core R; obtain ⟨f0, f1, f2, f3, f4, f5, f6, f7, f8⟩ := froz_core R) | (go_at_call 53; refine (emptyWay_any _).mono ?_; rintro e we ⟨ae, ce, rfl, me⟩; have mb := me.2; replace R := row_keep mb R; replace X := row_keep mb X; replace B := below_step B mb; replace P := owned_next P mb; clear mb k0 k1 y0 y1 y2 y3 y4 y5 y6 y7 y8 f0 f1 f2 f3 f4 f5 f6 f7 f8; obtain ⟨k0, k1⟩ := cells_two X; obtain ⟨y0, y1, y2, y3, y4, y5, y6, y7, y8⟩ := cells_core R; obtain ⟨f0, f1, f2, f3, f4, f5, f6, f7, f8⟩ := froz_core R))
  all_goals
    have HK : Hid _ := And.intro R (And.intro B P)
    clear R B P X
    go_wp2
    first
      | (have O := owned_made mo; have E := owned_next (owned_made me) mo.2; have t1 : w2.heap.size ≤ we.heap.size := me.2.size; have t2 : we.heap.size ≤ wo.heap.size := mo.2.size; have t0 : w2.drew.heap.size = w2.heap.size := rfl; obtain ⟨r0, r1, r2, r3, r4, r5, r6, r7, r8⟩ := cells_core (put_core (y0 := .slice ac nc.1.length cc) (y1 := .slice bc nc.2.length dc) (y2 := .slice ao p.length co) (y3 := .int .i64 0) (y4 := .int .i64 0) (y5 := .int .i64 (-1)) (y6 := .int .i64 0) (y7 := .slice ae 0 ce) (y8 := .slice none 0 0) HK.out.1); refine bodyPost_ret (v := .tuple #[.agg #[.slice ac nc.1.length cc, .slice bc nc.2.length dc, .slice ao p.length co, .int .i64 0, .int .i64 0, .int .i64 (-1), .int .i64 0, .slice ae 0 ce, .slice none 0 0], .bool true]) (by simp [results, Tryz.results11, go_sem, r0, r1, r2, r3, r4, r5, r6, r7, r8]) rfl ⟨[.slice ac nc.1.length cc, .slice bc nc.2.length dc, .slice ao p.length co, .int .i64 0, .int .i64 0, .int .i64 (-1), .int .i64 0, .slice ae 0 ce, .slice none 0 0], rfl, made_core i64_0 i64_0 (owned_setCs (g := w.heap.size) (o := 0) (vs := [.slice ac nc.1.length cc, .slice bc nc.2.length dc, .slice ao p.length co, .int .i64 0, .int .i64 0, .int .i64 (-1), .int .i64 0, .slice ae 0 ce, .slice none 0 0]) HK.out.2.2 (.inl (by omega))).1 (owned_setCs (g := w.heap.size) (o := 0) (vs := [.slice ac nc.1.length cc, .slice bc nc.2.length dc, .slice ao p.length co, .int .i64 0, .int .i64 0, .int .i64 (-1), .int .i64 0, .slice ae 0 ce, .slice none 0 0]) O (.inl (by omega))).1 (owned_setCs (g := w.heap.size) (o := 0) (vs := [.slice ac nc.1.length cc, .slice bc nc.2.length dc, .slice ao p.length co, .int .i64 0, .int .i64 0, .int .i64 (-1), .int .i64 0, .slice ae 0 ce, .slice none 0 0]) E (.inl (by omega))).1 (own_nil0 _ (rng wo.heap.size wo.heap.size)) (below_setCs0 (o := 0) (vs := [.slice ac nc.1.length cc, .slice bc nc.2.length dc, .slice ao p.length co, .int .i64 0, .int .i64 0, .int .i64 (-1), .int .i64 0, .slice ae 0 ce, .slice none 0 0]) HK.out.2.1 (Nat.le_refl _)) (by omega) (by omega) (by omega) (by omega) (Nat.le_trans (m := wo.heap.size) (by omega) (Nat.le_of_eq (setCs_size [.slice ac nc.1.length cc, .slice bc nc.2.length dc, .slice ao p.length co, .int .i64 0, .int .i64 0, .int .i64 (-1), .int .i64 0, .slice ae 0 ce, .slice none 0 0] 0 wo (g := w.heap.size)).symm)) (Nat.le_trans (m := wo.heap.size) (by omega) (Nat.le_of_eq (setCs_size [.slice ac nc.1.length cc, .slice bc nc.2.length dc, .slice ao p.length co, .int .i64 0, .int .i64 0, .int .i64 (-1), .int .i64 0, .slice ae 0 ce, .slice none 0 0] 0 wo (g := w.heap.size)).symm)) (Nat.le_trans (m := wo.heap.size) (by omega) (Nat.le_of_eq (setCs_size [.slice ac nc.1.length cc, .slice bc nc.2.length dc, .slice ao p.length co, .int .i64 0, .int .i64 0, .int .i64 (-1), .int .i64 0, .slice ae 0 ce, .slice none 0 0] 0 wo (g := w.heap.size)).symm)) (Nat.le_trans (m := wo.heap.size) (by omega) (Nat.le_of_eq (setCs_size [.slice ac nc.1.length cc, .slice bc nc.2.length dc, .slice ao p.length co, .int .i64 0, .int .i64 0, .int .i64 (-1), .int .i64 0, .slice ae 0 ce, .slice none 0 0] 0 wo (g := w.heap.size)).symm)) (by omega) (by omega) (by omega) (by omega) (by omega) (by omega)⟩)
      | (have O := owned_next (owned_made mo) me.2; have E := owned_made me; have t1 : w2.heap.size ≤ wo.heap.size := mo.2.size; have t2 : wo.heap.size ≤ we.heap.size := me.2.size; have t0 : w2.drew.heap.size = w2.heap.size := rfl; obtain ⟨r0, r1, r2, r3, r4, r5, r6, r7, r8⟩ := cells_core (put_core (y0 := .slice ac nc.1.length cc) (y1 := .slice bc nc.2.length dc) (y2 := .slice ao p.length co) (y3 := .int .i64 0) (y4 := .int .i64 0) (y5 := .int .i64 (-1)) (y6 := .int .i64 0) (y7 := .slice ae 0 ce) (y8 := .slice none 0 0) HK.out.1); refine bodyPost_ret (v := .tuple #[.agg #[.slice ac nc.1.length cc, .slice bc nc.2.length dc, .slice ao p.length co, .int .i64 0, .int .i64 0, .int .i64 (-1), .int .i64 0, .slice ae 0 ce, .slice none 0 0], .bool true]) (by simp [results, Tryz.results11, go_sem, r0, r1, r2, r3, r4, r5, r6, r7, r8]) rfl ⟨[.slice ac nc.1.length cc, .slice bc nc.2.length dc, .slice ao p.length co, .int .i64 0, .int .i64 0, .int .i64 (-1), .int .i64 0, .slice ae 0 ce, .slice none 0 0], rfl, made_core i64_0 i64_0 (owned_setCs (g := w.heap.size) (o := 0) (vs := [.slice ac nc.1.length cc, .slice bc nc.2.length dc, .slice ao p.length co, .int .i64 0, .int .i64 0, .int .i64 (-1), .int .i64 0, .slice ae 0 ce, .slice none 0 0]) HK.out.2.2 (.inl (by omega))).1 (owned_setCs (g := w.heap.size) (o := 0) (vs := [.slice ac nc.1.length cc, .slice bc nc.2.length dc, .slice ao p.length co, .int .i64 0, .int .i64 0, .int .i64 (-1), .int .i64 0, .slice ae 0 ce, .slice none 0 0]) O (.inl (by omega))).1 (owned_setCs (g := w.heap.size) (o := 0) (vs := [.slice ac nc.1.length cc, .slice bc nc.2.length dc, .slice ao p.length co, .int .i64 0, .int .i64 0, .int .i64 (-1), .int .i64 0, .slice ae 0 ce, .slice none 0 0]) E (.inl (by omega))).1 (own_nil0 _ (rng we.heap.size we.heap.size)) (below_setCs0 (o := 0) (vs := [.slice ac nc.1.length cc, .slice bc nc.2.length dc, .slice ao p.length co, .int .i64 0, .int .i64 0, .int .i64 (-1), .int .i64 0, .slice ae 0 ce, .slice none 0 0]) HK.out.2.1 (Nat.le_refl _)) (by omega) (by omega) (by omega) (by omega) (Nat.le_trans (m := we.heap.size) (by omega) (Nat.le_of_eq (setCs_size [.slice ac nc.1.length cc, .slice bc nc.2.length dc, .slice ao p.length co, .int .i64 0, .int .i64 0, .int .i64 (-1), .int .i64 0, .slice ae 0 ce, .slice none 0 0] 0 we (g := w.heap.size)).symm)) (Nat.le_trans (m := we.heap.size) (by omega) (Nat.le_of_eq (setCs_size [.slice ac nc.1.length cc, .slice bc nc.2.length dc, .slice ao p.length co, .int .i64 0, .int .i64 0, .int .i64 (-1), .int .i64 0, .slice ae 0 ce, .slice none 0 0] 0 we (g := w.heap.size)).symm)) (Nat.le_trans (m := we.heap.size) (by omega) (Nat.le_of_eq (setCs_size [.slice ac nc.1.length cc, .slice bc nc.2.length dc, .slice ao p.length co, .int .i64 0, .int .i64 0, .int .i64 (-1), .int .i64 0, .slice ae 0 ce, .slice none 0 0] 0 we (g := w.heap.size)).symm)) (Nat.le_trans (m := we.heap.size) (by omega) (Nat.le_of_eq (setCs_size [.slice ac nc.1.length cc, .slice bc nc.2.length dc, .slice ao p.length co, .int .i64 0, .int .i64 0, .int .i64 (-1), .int .i64 0, .slice ae 0 ce, .slice none 0 0] 0 we (g := w.heap.size)).symm)) (by omega) (by omega) (by omega) (by omega) (by omega) (by omega)⟩)
end Go.Proofs.YtgpkpjjbcmegjaaGreatDoor
