
/- An Event as nine cells side by side, and what it has to do with the form that holds an Op. No program here. -/
import Derived.Test.YtpfgggjcaogkkaaEventsL
namespace Go.Proofs.Ytpfgggjcaogkkaa
open Go.ChangeShapes Go.WideShapes Go.ChangeAt Go.RowKit
set_option linter.unusedVariables false
abbrev FevD := Int × Int × Int × Int × Int × Int × Int × List Int × Int
abbrev fevR : Rep FevD := prodR intR (prodR intR (prodR intR (prodR intR (prodR intR (prodR intR (prodR intR (prodR intsR intR)))))))
abbrev fevM : Mk FevD := prodM intM (prodM intM (prodM intM (prodM intM (prodM intM (prodM intM (prodM intM (prodM intsM intM)))))))
abbrev fevsR : Rep (List FevD) := slR 38 fevR
abbrev fevsM : Mk (List FevD) := slM fevM
theorem fev_rd {w : World} {cs : List Value} {u : FevD} (h : fevR.rd w cs u) :
    ∃ a cap, cs = [.int .i64 u.1, .int .i64 u.2.1, .int .i64 u.2.2.1, .int .i64 u.2.2.2.1, .int .i64 u.2.2.2.2.1, .int .i64 u.2.2.2.2.2.1, .int .i64 u.2.2.2.2.2.2.1, .slice a u.2.2.2.2.2.2.2.1.length cap, .int .i64 u.2.2.2.2.2.2.2.2] ∧ In64 u.1 ∧ In64 u.2.1 ∧ In64 u.2.2.1 ∧ In64 u.2.2.2.1 ∧ In64 u.2.2.2.2.1 ∧ In64 u.2.2.2.2.2.1 ∧ In64 u.2.2.2.2.2.2.1 ∧ In64 u.2.2.2.2.2.2.2.2 ∧ u.2.2.2.2.2.2.2.1.length ≤ cap ∧ cap ≤ maxLen ∧ SlRd intR w a u.2.2.2.2.2.2.2.1 := by
  obtain ⟨c0, e0, rfl, ⟨rfl, i0⟩, c1, e1, rfl, ⟨rfl, i1⟩, c2, e2, rfl, ⟨rfl, i2⟩, c3, e3, rfl, ⟨rfl, i3⟩, c4, e4, rfl, ⟨rfl, i4⟩, c5, e5, rfl, ⟨rfl, i5⟩, c6, e6, rfl, ⟨rfl, i6⟩, c7, e7, rfl, ⟨a, cap, rfl, h1, h2, h3⟩, ⟨rfl, i8⟩⟩ := h
  exact ⟨a, cap, rfl, i0, i1, i2, i3, i4, i5, i6, i8, h1, h2, h3⟩
theorem fev_own {w : World} {S : Foot} {cs : List Value} {u : FevD} (h : fevR.own w S cs u) :
    ∃ v, cs = [.int .i64 u.1, .int .i64 u.2.1, .int .i64 u.2.2.1, .int .i64 u.2.2.2.1, .int .i64 u.2.2.2.2.1, .int .i64 u.2.2.2.2.2.1, .int .i64 u.2.2.2.2.2.2.1, v, .int .i64 u.2.2.2.2.2.2.2.2] ∧ In64 u.1 ∧ In64 u.2.1 ∧ In64 u.2.2.1 ∧ In64 u.2.2.2.1 ∧ In64 u.2.2.2.2.1 ∧ In64 u.2.2.2.2.2.1 ∧ In64 u.2.2.2.2.2.2.1 ∧ In64 u.2.2.2.2.2.2.2.2 ∧ intsR.own w S [v] u.2.2.2.2.2.2.2.1 := by
  obtain ⟨c0, e0, S0, T0, rfl, ⟨rfl, i0⟩, ⟨c1, e1, S1, T1, rfl, ⟨rfl, i1⟩, ⟨c2, e2, S2, T2, rfl, ⟨rfl, i2⟩, ⟨c3, e3, S3, T3, rfl, ⟨rfl, i3⟩, ⟨c4, e4, S4, T4, rfl, ⟨rfl, i4⟩, ⟨c5, e5, S5, T5, rfl, ⟨rfl, i5⟩, ⟨c6, e6, S6, T6, rfl, ⟨rfl, i6⟩, ⟨c7, e7, S7, T7, rfl, h9, ⟨rfl, i8⟩, p7, q7, d7⟩, p6, q6, d6⟩, p5, q5, d5⟩, p4, q4, d4⟩, p3, q3, d3⟩, p2, q2, d2⟩, p1, q1, d1⟩, p0, q0, d0⟩ := h
  have hl := intsR.rd_len (intsR.own_rd h9)
  obtain ⟨v, rfl⟩ : ∃ v, c7 = [v] := List.length_eq_one_iff.1 hl
  exact ⟨v, rfl, i0, i1, i2, i3, i4, i5, i6, i8, intsR.own_mono h9 ((((((((p7).trans q6).trans q5).trans q4).trans q3).trans q2).trans q1).trans q0)⟩
theorem own_fev {w : World} {S : Foot} {f0 f1 f2 f3 f4 f5 f6 f8 : Int} {d : List Int} {v : Value} (i0 : In64 f0) (i1 : In64 f1) (i2 : In64 f2) (i3 : In64 f3) (i4 : In64 f4) (i5 : In64 f5) (i6 : In64 f6) (i8 : In64 f8) (h : intsR.own w S [v] d) : fevR.own w S [.int .i64 f0, .int .i64 f1, .int .i64 f2, .int .i64 f3, .int .i64 f4, .int .i64 f5, .int .i64 f6, v, .int .i64 f8] (f0, f1, f2, f3, f4, f5, f6, d, f8) :=
  ⟨[_], [_, _, _, _, _, _, _, _], fun _ => False, S, rfl, ⟨rfl, i0⟩, ⟨[_], [_, _, _, _, _, _, _], fun _ => False, S, rfl, ⟨rfl, i1⟩, ⟨[_], [_, _, _, _, _, _], fun _ => False, S, rfl, ⟨rfl, i2⟩, ⟨[_], [_, _, _, _, _], fun _ => False, S, rfl, ⟨rfl, i3⟩, ⟨[_], [_, _, _, _], fun _ => False, S, rfl, ⟨rfl, i4⟩, ⟨[_], [_, _, _], fun _ => False, S, rfl, ⟨rfl, i5⟩, ⟨[_], [_, _], fun _ => False, S, rfl, ⟨rfl, i6⟩, ⟨[_], [_], S, fun _ => False, rfl, h, ⟨rfl, i8⟩, Sub.refl _, fun _ h => h.elim, fun _ _ h => h⟩, fun _ h => h.elim, Sub.refl _, fun _ h _ => h⟩, fun _ h => h.elim, Sub.refl _, fun _ h _ => h⟩, fun _ h => h.elim, Sub.refl _, fun _ h _ => h⟩, fun _ h => h.elim, Sub.refl _, fun _ h _ => h⟩, fun _ h => h.elim, Sub.refl _, fun _ h _ => h⟩, fun _ h => h.elim, Sub.refl _, fun _ h _ => h⟩, fun _ h => h.elim, Sub.refl _, fun _ h _ => h⟩
def flatE (u : EventD) : FevD := (u.1, u.2.1.1, u.2.1.2.1, u.2.1.2.2.1, u.2.1.2.2.2, u.2.2.1, u.2.2.2.1, u.2.2.2.2.1, u.2.2.2.2.2)
theorem ev_own {w : World} {S : Foot} {cs : List Value} {u : EventD} : eventR.own w S cs u ↔ fevR.own w S cs (flatE u) := by
  constructor
  · intro h
    obtain ⟨v1, v2, v3, v4, v7, S1, S4, rfl, i0, i2, i3, i5, h1, h4, s1, s4, -⟩ := event_own h
    obtain ⟨e1, j0, j1, j2, j3⟩ := op_rd (opR.own_rd h1)
    simp only [List.cons.injEq, and_true] at e1
    obtain ⟨rfl, rfl, rfl, rfl⟩ := e1
    exact own_fev i0 j0 j1 j2 j3 i2 i3 i5 (intsR.own_mono h4 s4)
  · intro h
    obtain ⟨v, rfl, i0, j0, j1, j2, j3, i2, i3, i5, h4⟩ := fev_own h
    exact own_event i0 i2 i3 i5 (own_op (S := fun _ => False) (u := u.2.1) ⟨j0, j1, j2, j3⟩) h4 (fun _ h => h.elim) (Sub.refl _) (fun _ h _ => h)
theorem ev_rd {w : World} {cs : List Value} {u : EventD} (h : eventR.rd w cs u) : fevR.rd w cs (flatE u) := by
  obtain ⟨v1, v2, v3, v4, v7, rfl, i0, r1, i2, i3, r4, i5⟩ := event_rd h
  obtain ⟨e1, j0, j1, j2, j3⟩ := op_rd r1
  simp only [List.cons.injEq, and_true] at e1
  obtain ⟨rfl, rfl, rfl, rfl⟩ := e1
  exact ⟨[_], [_, _, _, _, _, _, _, _], rfl, ⟨rfl, i0⟩, [_], [_, _, _, _, _, _, _], rfl, ⟨rfl, j0⟩, [_], [_, _, _, _, _, _], rfl, ⟨rfl, j1⟩, [_], [_, _, _, _, _], rfl, ⟨rfl, j2⟩, [_], [_, _, _, _], rfl, ⟨rfl, j3⟩, [_], [_, _, _], rfl, ⟨rfl, i2⟩, [_], [_, _], rfl, ⟨rfl, i3⟩, [_], [_], rfl, r4, rfl, i5⟩
theorem lown_map {α β : Type} {R : Rep α} {Q : Rep β} {f : α → β} (h : ∀ {w : World} {S : Foot} {cs : List Value} {x : α}, R.own w S cs x ↔ Q.own w S cs (f x)) {w : World} : ∀ {S : Foot} {cs : List Value} {xs : List α}, lown R w S cs xs ↔ lown Q w S cs (xs.map f)
  | _, _, [] => Iff.rfl
  | S, cs, x :: xs => ⟨fun ⟨c1, c2, S1, S2, e, h1, h2, r⟩ => ⟨c1, c2, S1, S2, e, h.1 h1, (lown_map h).1 h2, r⟩, fun ⟨c1, c2, S1, S2, e, h1, h2, r⟩ => ⟨c1, c2, S1, S2, e, h.2 h1, (lown_map h).2 h2, r⟩⟩
theorem slown_map {α β : Type} {e : TypeId} {R : Rep α} {Q : Rep β} {f : α → β} (h : ∀ {w : World} {S : Foot} {cs : List Value} {x : α}, R.own w S cs x ↔ Q.own w S cs (f x)) (hs : R.size = Q.size) {w : World} {S : Foot} {cs : List Value} {xs : List α} : (slR e R).own w S cs xs ↔ (slR e Q).own w S cs (xs.map f) := by
  constructor
  · rintro ⟨v, rows, S', e1, r, g, s, l⟩
    exact ⟨v, rows, S', e1, by rw [List.length_map, ← hs]; exact r, g, s, (lown_map h).1 l⟩
  · rintro ⟨v, rows, S', e1, r, g, s, l⟩
    exact ⟨v, rows, S', e1, by rw [List.length_map, ← hs] at r; exact r, g, s, (lown_map h).2 l⟩
theorem lrd_map {α β : Type} {R : Rep α} {Q : Rep β} {f : α → β} {w : World} (h : ∀ {cs : List Value} {x : α}, R.rd w cs x → Q.rd w cs (f x)) : ∀ {cs : List Value} {xs : List α}, lrd R w cs xs → lrd Q w cs (xs.map f)
  | _, [], e => e
  | _, x :: xs, ⟨c1, c2, e, h1, h2⟩ => ⟨c1, c2, e, h h1, lrd_map h h2⟩
theorem slrd_map {α β : Type} {R : Rep α} {Q : Rep β} {f : α → β} {w : World} (h : ∀ {cs : List Value} {x : α}, R.rd w cs x → Q.rd w cs (f x)) {a : Option Addr} {xs : List α} (q : SlRd R w a xs) : SlRd Q w a (xs.map f) := by
  rcases q with rfl | ⟨b, off, rows, rfl, h4, h5⟩
  · exact .inl rfl
  · exact .inr ⟨b, off, rows, rfl, lrd_map h h4, h5⟩
theorem flat_cE (x : EventD) : eventM.cE x = fevM.cE (flatE x) := by
  show 1 + ((1 + (1 + (1 + 1))) + (1 + (1 + (slcnt intM x.2.2.2.2.1 + 1)))) = 1 + (1 + (1 + (1 + (1 + (1 + (1 + (slcnt intM x.2.2.2.2.1 + 1)))))))
  omega
theorem flat_mE (k : Int) (x : EventD) : flatE (eventM.mE k x) = fevM.mE k (flatE x) := by
  refine Prod.ext rfl (Prod.ext rfl (Prod.ext rfl (Prod.ext rfl (Prod.ext rfl (Prod.ext ?_ (Prod.ext ?_ (Prod.ext ?_ ?_)))))))
  · show k + ((1 : Nat) : Int) + ((1 + (1 + (1 + 1)) : Nat) : Int) = k + ((1 : Nat) : Int) + ((1 : Nat) : Int) + ((1 : Nat) : Int) + ((1 : Nat) : Int) + ((1 : Nat) : Int)
    omega
  · show k + ((1 : Nat) : Int) + ((1 + (1 + (1 + 1)) : Nat) : Int) + ((1 : Nat) : Int) = k + ((1 : Nat) : Int) + ((1 : Nat) : Int) + ((1 : Nat) : Int) + ((1 : Nat) : Int) + ((1 : Nat) : Int) + ((1 : Nat) : Int)
    omega
  · show slmark intM (k + ((1 : Nat) : Int) + ((1 + (1 + (1 + 1)) : Nat) : Int) + ((1 : Nat) : Int) + ((1 : Nat) : Int)) x.2.2.2.2.1 = slmark intM (k + ((1 : Nat) : Int) + ((1 : Nat) : Int) + ((1 : Nat) : Int) + ((1 : Nat) : Int) + ((1 : Nat) : Int) + ((1 : Nat) : Int) + ((1 : Nat) : Int)) x.2.2.2.2.1
    congr 1
    omega
  · show k + ((1 : Nat) : Int) + ((1 + (1 + (1 + 1)) : Nat) : Int) + ((1 : Nat) : Int) + ((1 : Nat) : Int) + ((slcnt intM x.2.2.2.2.1 : Nat) : Int) = k + ((1 : Nat) : Int) + ((1 : Nat) : Int) + ((1 : Nat) : Int) + ((1 : Nat) : Int) + ((1 : Nat) : Int) + ((1 : Nat) : Int) + ((1 : Nat) : Int) + ((slcnt intM x.2.2.2.2.1 : Nat) : Int)
    omega
theorem flat_cnt (xs : List EventD) : slcnt eventM xs = slcnt fevM (xs.map flatE) := by
  unfold slcnt
  rw [List.map_map]
  congr 1
  exact List.map_congr_left fun x _ => flat_cE x
theorem flat_mark : ∀ (k : Int) (xs : List EventD), (slmark eventM k xs).map flatE = slmark fevM k (xs.map flatE)
  | _, [] => rfl
  | k, x :: xs => by
    show flatE (eventM.mE k x) :: (slmark eventM (k + (eventM.cE x : Int)) xs).map flatE = fevM.mE k (flatE x) :: slmark fevM (k + (fevM.cE (flatE x) : Int)) (xs.map flatE)
    rw [flat_mE, flat_mark, flat_cE]
end Go.Proofs.Ytpfgggjcaogkkaa
