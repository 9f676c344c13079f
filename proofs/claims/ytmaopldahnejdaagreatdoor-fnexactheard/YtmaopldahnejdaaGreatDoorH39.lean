import Derived.Test.YtmaopldahnejdaaGreatDoorH00Box
import Derived.Test.YtmaopldahnejdaaGreatDoorH35
import Derived.Test.YtmaopldahnejdaaGreatDoorH36
import Derived.Test.YtmaopldahnejdaaGreatDoorH38
namespace Go.Proofs.YtmaopldahnejdaaGreatDoor
open Go.ChangeShapes Go.WideShapes Go.ChangeAt Go.RowKit
set_option linter.unusedVariables false
set_option linter.unusedSimpArgs false
theorem isL_lenS {d : List Int} (h : isL d = true) : d.length = 2 := by
 rcases isL_cases d with a | ⟨x, y, rfl, _, _⟩
 ·rw [h] at a;cases a
 ·rfl
theorem may_parts {kind r c tq n kk gg : Int} {dt : List Int} (hk : 1 ≤ kind ∧ kind ≤ 4) (h : mayB kind (r, c, tq, n, kk, dt, gg) = true) : (kind ≤ 2 → betw c 0 3 = true) ∧ (3 ≤ kind → c = 5) ∧ (kind = 4 → betw gg 0 3 = true ∧ isL dt = true) := by
 unfold mayB askB cby pby at h;simp only [Bool.and_eq_true, Bool.or_eq_true, decide_eq_true_eq, Bool.not_eq_true', decide_eq_false_iff_not] at h;obtain ⟨a, b⟩ := h;refine ⟨fun q => ?_, fun q => ?_, fun q => ?_⟩
 ·rcases a with ⟨-, a⟩ | ⟨a, -⟩
  ·exact a
  ·omega
 ·rcases a with ⟨a, -⟩ | ⟨-, a⟩
  ·omega
  ·exact a
 ·rcases b with b | b
  ·exact absurd q b
  ·exact b
theorem endc_req {ws : List Int} {o s kind r c tq n kk gg : Int} {dt : List Int} (hw : whoB o s = true) (hl : isL ws = true) (hk : 1 ≤ kind ∧ kind ≤ 4) (hmay : mayB kind (r, c, tq, n, kk, dt, gg) = true) : EndC (ws, (o, s, true, kind, c, (0 : Int), mskQ kind gg, datQ kind dt)) := by
 obtain ⟨f, b, g⟩ := may_parts hk hmay;refine ⟨?_, hw, hk, fun q => ?_, fun q => b q, fun q => ?_⟩
 ·show ws.length ≤ _
  rw [isL_lenS hl];decide
 ·have a : kind = 1 := q;exact f (by omega)
 ·have a : kind = 4 := q;obtain ⟨i, d⟩ := g a;refine ⟨hl, ?_, ?_⟩
  ·show isL (datQ kind dt) = true
   unfold datQ;rw [if_pos a];exact d
  ·show betw (mskQ kind gg) 0 3 = true
   unfold mskQ;rw [if_pos a];exact i
theorem told_isL {ws dt : List Int} (hl : isL ws = true) (a : dataB dt = true) : isL (toldW ws dt) = true := by
 unfold toldW;split
 ·exact hl
 ·unfold dataB at a;rw [Bool.or_eq_true] at a;rcases a with a | a
  ·rename_i q
   rw [List.isEmpty_iff] at a;rw [a] at q;exact absurd rfl q
  ·exact a
theorem endc_ans {ws : List Int} {o s kd f l mk c gg : Int} {d dt : List Int} (he : entB (o, s, true, kd, f, l, mk, d) = true) (hy : holB o s c = true) (hl : isL ws = true) (hd : dataB dt = true) : EndC (toldW ws dt, ansE (o, s, true, kd, f, l, mk, d) c gg) := by
 rw [eb, if_pos rfl] at he;obtain ⟨m, j⟩ := Bool.and_eq_true _ _ ▸ he;unfold busyB at j;simp only [Bool.and_eq_true] at j;obtain ⟨p, b2, b, g⟩ := j;have n := told_isL hl hd;have i : 1 ≤ kd ∧ kd ≤ 4 := by simpa [betw] using p
 have a : ∀ o' s' : Int, whoB o' s' = true → EndC (toldW ws dt, (o', s', true, kd, f, l - 1, mk, d)) := fun o' s' hw' => by
  refine ⟨?_, hw', i, fun q => ?_, fun q => ?_, fun q => ?_⟩
  ·show (toldW ws dt).length ≤ _
   rw [isL_lenS n];decide
  ·have k : kd = 1 := q;unfold fromB at b;rw [if_pos (by omega)] at b;exact b
  ·have k : 3 ≤ kd := q;unfold fromB at b;rw [if_neg (by omega)] at b;simp only [Bool.and_eq_true, decide_eq_true_eq] at b;exact b.1
  ·have k : kd = 4 := q;unfold loadB at g;rw [if_pos k, Bool.and_eq_true] at g;exact ⟨n, g.2, g.1⟩
 unfold ansE;split
 ·exact a _ _ (fg_who c m)
 ·exact a _ _ (who_or m hy)
end Go.Proofs.YtmaopldahnejdaaGreatDoor
