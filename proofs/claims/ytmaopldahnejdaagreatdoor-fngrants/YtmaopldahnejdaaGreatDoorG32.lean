import Derived.Test.YtmaopldahnejdaaGreatDoorG00Box
import Derived.Test.YtmaopldahnejdaaGreatDoorG28
import Derived.Test.YtmaopldahnejdaaGreatDoorG29
import Derived.Test.YtmaopldahnejdaaGreatDoorG31
namespace Go.Proofs.YtmaopldahnejdaaGreatDoor
open Go.ChangeShapes Go.WideShapes Go.ChangeAt Go.RowKit
set_option linter.unusedVariables false
set_option linter.unusedSimpArgs false
theorem zHH {d : List Int} (h : isL d = true) : d.length = 2 := by
 rcases zBJ d with a | ⟨x, y, rfl, _, _⟩
 ·rw [h] at a;cases a
 ·rfl
theorem zCV {kind r c tq n kk gg : Int} {dt : List Int} (hk : 1 ≤ kind ∧ kind ≤ 4) (h : zDv kind (r, c, tq, n, kk, dt, gg) = true) : (kind ≤ 2 → zA6 c 0 3 = true) ∧ (3 ≤ kind → c = 5) ∧ (kind = 4 → zA6 gg 0 3 = true ∧ isL dt = true) := by
 unfold zDv zIL cby pby at h;simp only [Bool.and_eq_true, Bool.or_eq_true, decide_eq_true_eq, Bool.not_eq_true', decide_eq_false_iff_not] at h;obtain ⟨a, b⟩ := h;refine ⟨fun q => ?_, fun q => ?_, fun q => ?_⟩
 ·rcases a with ⟨-, a⟩ | ⟨a, -⟩
  ·exact a
  ·omega
 ·rcases a with ⟨a, -⟩ | ⟨-, a⟩
  ·omega
  ·exact a
 ·rcases b with b | b
  ·exact absurd q b
  ·exact b
theorem zEY {ws : List Int} {o s kind r c tq n kk gg : Int} {dt : List Int} (hw : zAI o s = true) (hl : isL ws = true) (hk : 1 ≤ kind ∧ kind ≤ 4) (hmay : zDv kind (r, c, tq, n, kk, dt, gg) = true) : EndC (ws, (o, s, true, kind, c, (0 : Int), zJg kind gg, zJh kind dt)) := by
 obtain ⟨g, b, d⟩ := zCV hk hmay;refine ⟨?_, hw, hk, fun q => ?_, fun q => b q, fun q => ?_⟩
 ·show ws.length ≤ _
  rw [zHH hl];decide
 ·have a : kind = 1 := q;exact g (by omega)
 ·have a : kind = 4 := q;obtain ⟨i, f⟩ := d a;refine ⟨hl, ?_, ?_⟩
  ·show isL (zJh kind dt) = true
   unfold zJh;rw [if_pos a];exact f
  ·show zA6 (zJg kind gg) 0 3 = true
   unfold zJg;rw [if_pos a];exact i
theorem zHI {ws dt : List Int} (hl : isL ws = true) (a : zDY dt = true) : isL (zBA ws dt) = true := by
 unfold zBA;split
 ·exact hl
 ·unfold zDY at a;rw [Bool.or_eq_true] at a;rcases a with a | a
  ·rename_i q
   rw [List.isEmpty_iff] at a;rw [a] at q;exact absurd rfl q
  ·exact a
theorem zHJ {ws : List Int} {o s kd f l mk c gg : Int} {d dt : List Int} (he : zBR (o, s, true, kd, f, l, mk, d) = true) (hy : zEH o s c = true) (hl : isL ws = true) (hd : zDY dt = true) : EndC (zBA ws dt, zDb (o, s, true, kd, f, l, mk, d) c gg) := by
 rw [eb, if_pos rfl] at he;obtain ⟨n, i⟩ := Bool.and_eq_true _ _ ▸ he;unfold zAA at i;simp only [Bool.and_eq_true] at i;obtain ⟨p, b2, b, g⟩ := i;have m := zHI hl hd;have j : 1 ≤ kd ∧ kd ≤ 4 := by simpa [zA6] using p
 have a : ∀ o' s' : Int, zAI o' s' = true → EndC (zBA ws dt, (o', s', true, kd, f, l - 1, mk, d)) := fun o' s' hw' => by
  refine ⟨?_, hw', j, fun q => ?_, fun q => ?_, fun q => ?_⟩
  ·show (zBA ws dt).length ≤ _
   rw [zHH m];decide
  ·have k : kd = 1 := q;unfold zBS at b;rw [if_pos (by omega)] at b;exact b
  ·have k : 3 ≤ kd := q;unfold zBS at b;rw [if_neg (by omega)] at b;simp only [Bool.and_eq_true, decide_eq_true_eq] at b;exact b.1
  ·have k : kd = 4 := q;unfold zCo at g;rw [if_pos k, Bool.and_eq_true] at g;exact ⟨m, g.2, g.1⟩
 unfold zDb;split
 ·exact a _ _ (zE1 c n)
 ·exact a _ _ (who_or n hy)
theorem fin3 {P : Int → Int → Int → Prop} (h : ∀ o : Fin 5, ∀ s : Fin 16, zAI ((o.val : Int) - 1) (s.val : Int) = true → ∀ c : Fin 6, P ((o.val : Int) - 1) (s.val : Int) (c.val : Int)) {o s c : Int} (hw : zAI o s = true) (h0 : 0 ≤ c) (h5 : c ≤ 5) : P o s c :=
 zIU (n := 6) (P := fun c => P o s c) (fun c => zFq (P := fun o s => P o s (c.val : Int)) (fun o s q => h o s q c) hw) h0 (by omega)
theorem g1_f : ∀ o : Fin 5, ∀ s : Fin 16, zAI ((o.val : Int) - 1) (s.val : Int) = true → ∀ c : Fin 6, zEH ((o.val : Int) - 1) (s.val : Int) (c.val : Int) = true → fgO ((o.val : Int) - 1) (c.val : Int) = -1 ∧ zAI (-1) (fgS (s.val : Int) (c.val : Int)) = true ∧ zAI (-1) (orI (fgS (s.val : Int) (c.val : Int)) (c.val : Int)) = true := by decide +kernel
theorem g1 {o s c : Int} (hw : zAI o s = true) (h0 : 0 ≤ c) (h5 : c ≤ 5) : zEH o s c = true → fgO o c = -1 ∧ zAI (-1) (fgS s c) = true ∧ zAI (-1) (orI (fgS s c) c) = true := fin3 (P := fun o s c => zEH o s c = true → fgO o c = -1 ∧ zAI (-1) (fgS s c) = true ∧ zAI (-1) (orI (fgS s c) c) = true) g1_f hw h0 h5
theorem g2_f : ∀ o : Fin 5, ∀ s : Fin 16, zAI ((o.val : Int) - 1) (s.val : Int) = true → ∀ c : Fin 6, (c.val : Int) ≤ 3 → fgO ((o.val : Int) - 1) (c.val : Int) = -1 → (hoI (fgO ((o.val : Int) - 1) (c.val : Int)) (fgS (s.val : Int) (c.val : Int))).length ≠ 0 → zAI (-1) (orI (fgS (s.val : Int) (c.val : Int)) (c.val : Int)) = true ∧ (c.val : Int) ∈ hoI (-1) (orI (fgS (s.val : Int) (c.val : Int)) (c.val : Int)) ∧ 2 ≤ (hoI (-1) (orI (fgS (s.val : Int) (c.val : Int)) (c.val : Int))).length := by decide +kernel
theorem g2 {o s c : Int} (hw : zAI o s = true) (h0 : 0 ≤ c) (h3 : c ≤ 3) : fgO o c = -1 → (hoI (fgO o c) (fgS s c)).length ≠ 0 → zAI (-1) (orI (fgS s c) c) = true ∧ c ∈ hoI (-1) (orI (fgS s c) c) ∧ 2 ≤ (hoI (-1) (orI (fgS s c) c)).length := fin3 (P := fun o s c => c ≤ 3 → fgO o c = -1 → (hoI (fgO o c) (fgS s c)).length ≠ 0 → zAI (-1) (orI (fgS s c) c) = true ∧ c ∈ hoI (-1) (orI (fgS s c) c) ∧ 2 ≤ (hoI (-1) (orI (fgS s c) c)).length) g2_f hw h0 (by omega) h3
theorem g3_f : ∀ o : Fin 5, ∀ s : Fin 16, zAI ((o.val : Int) - 1) (s.val : Int) = true → ∀ c : Fin 6, zAI (fgO ((o.val : Int) - 1) (c.val : Int)) (fgS (s.val : Int) (c.val : Int)) = true ∧ ((c.val : Int) ≤ 3 → (c.val : Int) ∉ hoI (fgO ((o.val : Int) - 1) (c.val : Int)) (fgS (s.val : Int) (c.val : Int))) ∧ (∀ kd : Fin 2, ∀ x ∈ zB1 ((o.val : Int) - 1) (s.val : Int) ((kd.val : Int) + 1) (c.val : Int), x ∈ hoI ((o.val : Int) - 1) (s.val : Int)) ∧ (∀ kd : Fin 2, (zB1 ((o.val : Int) - 1) (s.val : Int) ((kd.val : Int) + 1) (c.val : Int)).length ≤ 4) := by decide +kernel
theorem g3 {o s c : Int} (hw : zAI o s = true) (h0 : 0 ≤ c) (h5 : c ≤ 5) : zAI (fgO o c) (fgS s c) = true ∧ (c ≤ 3 → c ∉ hoI (fgO o c) (fgS s c)) ∧ (∀ kd : Fin 2, ∀ x ∈ zB1 o s ((kd.val : Int) + 1) c, x ∈ hoI o s) ∧ (∀ kd : Fin 2, (zB1 o s ((kd.val : Int) + 1) c).length ≤ 4) := fin3 (P := fun o s c => zAI (fgO o c) (fgS s c) = true ∧ (c ≤ 3 → c ∉ hoI (fgO o c) (fgS s c)) ∧ (∀ kd : Fin 2, ∀ x ∈ zB1 o s ((kd.val : Int) + 1) c, x ∈ hoI o s) ∧ (∀ kd : Fin 2, (zB1 o s ((kd.val : Int) + 1) c).length ≤ 4)) g3_f hw h0 h5
theorem ask_13 {o s kind c : Int} (hk : 1 ≤ kind ∧ kind ≤ 4) : zB1 o s kind c = zB1 o s (if kind = 1 ∨ kind = 3 then 1 else 2) c := by
 unfold zB1;by_cases q : kind = 1 ∨ kind = 3
 ·rw [if_pos q, if_pos q, if_pos (Or.inl rfl : (1 : Int) = 1 ∨ (1 : Int) = 3)]
 ·rw [if_neg q, if_neg q, if_neg (by decide : ¬ ((2 : Int) = 1 ∨ (2 : Int) = 3))]
theorem ask_g {o s kind c : Int} (hw : zAI o s = true) (h0 : 0 ≤ c) (h5 : c ≤ 5) (hk : 1 ≤ kind ∧ kind ≤ 4) : (∀ x ∈ zB1 o s kind c, x ∈ hoI o s) ∧ (zB1 o s kind c).length ≤ 4 := by
 rw [ask_13 hk];have q := g3 hw h0 h5;by_cases a : kind = 1 ∨ kind = 3
 ·rw [if_pos a]; exact ⟨q.2.2.1 0, q.2.2.2 0⟩
 ·rw [if_neg a]; exact ⟨q.2.2.1 1, q.2.2.2 1⟩
def GP (r' : List Int) (e' u : zA7) (n : Int) (l : zAS) : Prop :=
 (l.2.2.2.1 = 11 ∧ l.2.2.2.2.2.1 = r' ∧ l.2.2.1 ∈ hoI e'.1 e'.2.1 ∧ e'.2.2.1 = true ∧ e'.2.2.2.2.2.1 = 0 ∧ e'.2.2.2.2.1 = l.2.2.1 ∧ ((2 ≤ l.2.2.2.2.2.2 ∧ (hoI e'.1 e'.2.1).length = 1 ∧ e'.1 = l.2.2.1) ∨ (l.2.2.2.2.2.2 = 1 ∧ e'.1 = -1 ∧ 2 ≤ (hoI e'.1 e'.2.1).length)))
 ∨ (l.2.2.2.1 = 13 ∧ e'.2.2.1 = false ∧ l.2.2.1 = 5 ∧ (l.2.2.2.2.2.1 = [] ∨ l.2.2.2.2.2.1 = r'))
 ∨ ((l.2.2.2.1 = 6 ∨ l.2.2.2.1 = 7) ∧ e'.2.2.1 = true ∧ e'.2.2.2.2.2.1 = n ∧ l.2.2.1 ∈ hoI u.1 u.2.1)
 ∨ (l.2.2.2.1 = 12 ∧ l.2.2.1 ∉ hoI e'.1 e'.2.1)
def RO (u : zA7) (o : zB0 × List zAS) : Prop := isL o.1.1 = true ∧ zBR o.1.2 = true ∧ ∀ l ∈ o.2, GP o.1.1 o.1.2 u (o.2.length : Int) l
theorem zJJ {f s : Int} (h : 0 ≤ f) : hoI f s = [f] := if_pos h
theorem zL9 {f : Int} (h : zA6 f 0 3 = true) : zAI f 0 = true := by
 have : 0 ≤ f ∧ f ≤ 3 := by simpa [zA6] using h
 simp [zAI, zA6]
 omega
theorem zFN {o s : Int} (h : zAI o s = true) : zBR (o, s, false, 0, 0, 0, 0, []) = true := by rw [eb, h]; rfl
theorem zI8 {k : Int} {u : zA7} {ws d : List Int} {o s kd f mk : Int} (hl : isL ws = true) (hc : EndC (ws, (o, s, true, kd, f, 0, mk, d))) (h1 : kd = 1 → fgO o f = -1) (hf2 : kd ≤ 2 → zA6 f 0 3 = true) (h4 : kd ≠ 4 → mk = 0 ∧ d = []) : RO u (zDK k (ws, (o, s, true, kd, f, 0, mk, d))) := by
 obtain ⟨-, g, E, y, r, v⟩ := hc;simp only at g E y r v
 have n : kd = 1 ∨ kd = 2 ∨ kd = 3 ∨ kd = 4 := by omega
 rcases n with rfl | rfl | rfl | rfl
 ·have c := y rfl;have a : 0 ≤ f ∧ f ≤ 3 := by simpa [zA6] using c
  obtain ⟨rfl, rfl⟩ := h4 (by decide);rw [show zDK k (ws, (o, s, true, (1 : Int), f, 0, (0 : Int), [])) = zDa k (ws, (o, s, true, (1 : Int), f, 0, (0 : Int), [])) from rfl];by_cases j : zGi (o, s, true, (1 : Int), f, 0, (0 : Int), []) = 0
  ·have e : zDa k (ws, (o, s, true, (1 : Int), f, 0, (0 : Int), [])) = ((ws, (f, 0, true, 1, f, 0, 0, [])), [zC1 k 2 f 11 ws 2]) := by unfold zDa; rw [if_pos j]; rfl
   rw [e];refine ⟨hl, ?_, fun l h => ?_⟩
   ·rw [eb, zL9 c]; simp [zAA, zBS, zCo, zA6]; exact a
   ·rw [List.mem_singleton.1 h];refine .inl ⟨rfl, rfl, ?_, rfl, rfl, rfl, .inl ⟨show (2 : Int) ≤ 2 by decide, ?_, rfl⟩⟩
    ·show f ∈ hoI f 0; rw [zJJ a.1]; exact List.mem_singleton.2 rfl
    ·show (hoI f 0).length = 1; rw [zJJ a.1]; rfl
  ·have m : (hoI (fgO o f) (fgS s f)).length ≠ 0 := fun q => j (by unfold zGi; simp only; rw [q]; rfl);obtain ⟨C, b, B⟩ := g2 g a.1 a.2 (h1 rfl) m;have e : zDa k (ws, (o, s, true, (1 : Int), f, 0, (0 : Int), [])) = ((ws, (-1, orI (fgS s f) f, true, 1, f, 0, 0, [])), [zC1 k 2 f 11 ws 1]) := by unfold zDa; rw [if_neg j]; unfold zCp; simp only; rw [h1 rfl]
   rw [e];refine ⟨hl, ?_, fun l h => ?_⟩
   ·rw [eb, C]; simp [zAA, zBS, zCo, zA6]; exact a
   ·rw [List.mem_singleton.1 h];exact .inl ⟨rfl, rfl, b, rfl, rfl, rfl, .inr ⟨rfl, rfl, B⟩⟩
 ·have c : zA6 f 0 3 = true := hf2 (by decide);have a : 0 ≤ f ∧ f ≤ 3 := by simpa [zA6] using c
  obtain ⟨rfl, rfl⟩ := h4 (by decide);rw [show zDK k (ws, (o, s, true, (2 : Int), f, 0, (0 : Int), [])) = ((ws, (f, 0, true, 2, f, 0, 0, [])), [zC1 k 2 f 11 ws 3]) from rfl];refine ⟨hl, ?_, fun l h => ?_⟩
  ·rw [eb, zL9 c]; simp [zAA, zBS, zCo, zA6]; exact a
  ·rw [List.mem_singleton.1 h];refine .inl ⟨rfl, rfl, ?_, rfl, rfl, rfl, .inl ⟨show (2 : Int) ≤ 3 by decide, ?_, rfl⟩⟩
   ·show f ∈ hoI f 0; rw [zJJ a.1]; exact List.mem_singleton.2 rfl
   ·show (hoI f 0).length = 1; rw [zJJ a.1]; rfl
 ·obtain rfl := r (by decide);rw [show zDK k (ws, (o, s, true, (3 : Int), (5 : Int), 0, mk, d)) = ((ws, (o, s, false, 0, 0, 0, 0, [])), [zC1 k 2 5 13 ws 0]) from rfl];exact ⟨hl, zFN g, fun l h => by rw [List.mem_singleton.1 h]; exact .inr (.inl ⟨rfl, rfl, rfl, .inr rfl⟩)⟩
 ·obtain rfl := r (by decide);obtain ⟨g1, g2, g3⟩ := v rfl;rcases zBJ ws with q | ⟨p, q, rfl, hx, hy⟩
  ·rw [q] at g1; cases g1
  rcases zBJ d with z | ⟨i, b, rfl, D, A⟩
  ·rw [z] at g2; cases g2
  rw [show zDK k ([p, q], (o, s, true, (4 : Int), (5 : Int), 0, mk, [i, b])) = ((zBz [p, q] [i, b] mk, (o, s, false, 0, 0, 0, 0, [])), [zC1 k 2 5 13 [] 0]) from rfl];refine ⟨?_, zFN g, fun l h => by rw [List.mem_singleton.1 h]; exact .inr (.inl ⟨rfl, rfl, rfl, .inl rfl⟩)⟩;show isL (zBz [p, q] [i, b] mk) = true
  unfold zBz;rw [g1, g2, g3];simp only [Bool.and_self, if_true];apply zE8
  ·split <;> assumption
  ·split <;> assumption
end Go.Proofs.YtmaopldahnejdaaGreatDoor
