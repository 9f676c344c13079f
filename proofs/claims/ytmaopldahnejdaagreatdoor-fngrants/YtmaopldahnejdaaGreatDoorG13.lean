import Derived.Test.YtmaopldahnejdaaGreatDoorG00Box
import Derived.Test.YtmaopldahnejdaaGreatDoorG12
namespace Go.Proofs.YtmaopldahnejdaaGreatDoor
open Go.ChangeShapes Go.WideShapes Go.ChangeAt Go.RowKit
set_option linter.unusedVariables false
abbrev zB0 := List Int × zA7
def zC1 (k road tq kind : Int) (d : List Int) (g : Int) : zAS := (road, 4, tq, kind, k, d, g)
def zCD (e : zA7) : zA7 := (e.1, e.2.1, false, 0, 0, 0, 0, [])
def zCp (e : zA7) (o s : Int) : zA7 := (o, s, e.2.2.1, e.2.2.2.1, e.2.2.2.2.1, e.2.2.2.2.2.1, e.2.2.2.2.2.2.1, e.2.2.2.2.2.2.2)
def zKi (e : zA7) (l : Int) : zA7 := (e.1, e.2.1, e.2.2.1, e.2.2.2.1, e.2.2.2.2.1, l, e.2.2.2.2.2.2.1, e.2.2.2.2.2.2.2)
def zGi (e : zA7) : Int := (hoI (fgO e.1 e.2.2.2.2.1) (fgS e.2.1 e.2.2.2.2.1)).length
def zDa (k : Int) (a : zB0) : zB0 × List zAS :=
 if zGi a.2 = 0 then ((a.1, zCp a.2 a.2.2.2.2.2.1 0), [zC1 k 2 a.2.2.2.2.2.1 11 a.1 2])
 else ((a.1, zCp a.2 (fgO a.2.1 a.2.2.2.2.2.1) (orI (fgS a.2.2.1 a.2.2.2.2.2.1) a.2.2.2.2.2.1)), [zC1 k 2 a.2.2.2.2.2.1 11 a.1 1])
def zDK (k : Int) (a : zB0) : zB0 × List zAS :=
 if a.2.2.2.2.1 = 1 then zDa k a
 else if a.2.2.2.2.1 = 2 then ((a.1, zCp a.2 a.2.2.2.2.2.1 0), [zC1 k 2 a.2.2.2.2.2.1 11 a.1 3])
 else if a.2.2.2.2.1 = 3 then ((a.1, zCD a.2), [zC1 k 2 5 13 a.1 0])
 else ((zBz a.1 a.2.2.2.2.2.2.2.2 a.2.2.2.2.2.2.2.1, zCD a.2), [zC1 k 2 5 13 [] 0])
def zB1 (o s kind f : Int) : List Int := if kind = 1 ∨ kind = 3 then (if 0 ≤ fgO o f then [fgO o f] else []) else hoI (fgO o f) (fgS s f)
def zBP (e : zA7) (kind : Int) (m : zAS) (l : Int) : zA7 := (e.1, e.2.1, true, kind, m.2.1, l, if kind = 4 then m.2.2.2.2.2.2 else e.2.2.2.2.2.2.1, if kind = 4 then m.2.2.2.2.2.1 else e.2.2.2.2.2.2.2)
def zAG (k kind : Int) (l : List Int) : List zAS := l.map fun j => zC1 k 1 j (if kind = 1 ∨ kind = 3 then 6 else 7) [] 0
def zDv (kind : Int) (m : zAS) : Bool := zIL kind m.2.1 && (!decide (kind = 4) || (zA6 m.2.2.2.2.2.2 0 3 && isL m.2.2.2.2.2.1))
def zGz (kind k : Int) (a : zB0) (m : zAS) : zB0 × List zAS :=
 if zB1 a.2.1 a.2.2.1 kind m.2.1 = [] then zDK k (a.1, zBP a.2 kind m (zB1 a.2.1 a.2.2.1 kind m.2.1).length)
 else ((a.1, zBP a.2 kind m (zB1 a.2.1 a.2.2.1 kind m.2.1).length), zAG k kind (zB1 a.2.1 a.2.2.1 kind m.2.1))
def zBA (ws d : List Int) : List Int := if d.length = 0 then ws else d
def zJE (e : zA7) (g : Int) : Bool := decide (g = 1) || (decide (e.2.2.2.1 = 2) || decide (e.2.2.2.1 = 4))
def zDb (e : zA7) (c g : Int) : zA7 := if zJE e g then zCp (zKi e (e.2.2.2.2.2.1 - 1)) (fgO e.1 c) (fgS e.2.1 c) else zCp (zKi e (e.2.2.2.2.2.1 - 1)) (fgO e.1 c) (orI (fgS e.2.1 c) c)
def zFL (e : zA7) (c : Int) : Bool := e.2.2.1 && (decide (0 < e.2.2.2.2.2.1) && zEH e.1 e.2.1 c)
def zIn (k : Int) (a : zB0) (m : zAS) : zB0 × List zAS :=
 if 0 < a.2.2.2.2.2.2.1 - 1 then ((zBA a.1 m.2.2.2.2.2.1, zDb a.2 m.2.1 m.2.2.2.2.2.2), [])
 else zDK k (zBA a.1 m.2.2.2.2.2.1, zDb a.2 m.2.1 m.2.2.2.2.2.2)
def zDd (k : Int) (a : zB0) (m : zAS) : zB0 × List zAS :=
 ((if zEt a.2.1 m.2.1 then zBA a.1 m.2.2.2.2.2.1 else a.1, zCp a.2 (fgO a.2.1 m.2.1) (fgS a.2.2.1 m.2.1)), [zC1 k 2 m.2.1 12 [] 0])
def zDw (e : zA7) (c : Int) : Bool := e.2.2.1 && (decide (e.2.2.2.2.2.1 = 0) && decide (e.2.2.2.2.1 = c))
def zBL (n : Int) : Int := if n = 1 then 1 else if n = 2 then 2 else if n = 4 then 3 else if n = 5 then 4 else 0
def zBd (a : zB0) (m : zAS) : Option Int :=
 if 0 < zBL m.2.2.2.1 then (if zDv (zBL m.2.2.2.1) m then (if a.2.2.2.1 then some 2 else none) else some 0)
 else if m.2.2.2.1 = 3 then (if zA6 m.2.1 0 3 then (if a.2.2.2.1 then some 2 else none) else some 0)
 else if m.2.2.2.1 = 8 ∨ m.2.2.2.1 = 9 then (if zFL a.2 m.2.1 then none else some 0)
 else if m.2.2.2.1 = 10 then (if zDw a.2 m.2.1 then none else some 0)
 else some 0
def zBm (k : Int) (a : zB0) (m : zAS) : zB0 × List zAS :=
 if 0 < zBL m.2.2.2.1 then zGz (zBL m.2.2.2.1) k a m
 else if m.2.2.2.1 = 3 then zDd k a m
 else if m.2.2.2.1 = 8 ∨ m.2.2.2.1 = 9 then zIn k a m
 else ((a.1, zCD a.2), [])
noncomputable def zG6 (h : zA2) (m : zAS) : Bool := zFB m && zA6 m.2.2.2.2.1 0 ((h.2.length : Int) - 1)
def zFp (h : zA2) (k : Int) : zB0 := (h.1.getD k.toNat [], h.2.getD k.toNat zIh)
def zH7 (h : zA2) (k : Int) (a : zB0) : zA2 := (h.1.set k.toNat a.1, h.2.set k.toNat a.2)
noncomputable def zBb (h : zA2) (m : zAS) : zA2 × List zAS × Int :=
 if zAR h then
  (if zG6 h m then (match zBd (zFp h m.2.2.2.2.1) m with
   | some c => (h, [], c)
   | none => (zH7 h m.2.2.2.2.1 (zBm m.2.2.2.2.1 (zFp h m.2.2.2.2.1) m).1, (zBm m.2.2.2.2.1 (zFp h m.2.2.2.2.1) m).2, 1))
  else (h, [], 0))
 else (([], []), [], -1)
theorem zFq {P : Int → Int → Prop} (h : ∀ o : Fin 5, ∀ s : Fin 16, zAI ((o.val : Int) - 1) (s.val : Int) = true → P ((o.val : Int) - 1) (s.val : Int)) {o s : Int} (hw : zAI o s = true) : P o s := by
 have hb := zCy hw;have q := h ⟨(o + 1).toNat, by omega⟩ ⟨s.toNat, by omega⟩;have b : (((o + 1).toNat : Nat) : Int) - 1 = o := by omega
 have a : ((s.toNat : Nat) : Int) = s := by omega
 simp only [b, a] at q;exact q hw
theorem zIU {n : Nat} {P : Int → Prop} (h : ∀ c : Fin n, P (c.val : Int)) {c : Int} (h0 : 0 ≤ c) (h1 : c < n) : P c := by
 have q := h ⟨c.toNat, by omega⟩;rw [show ((c.toNat : Nat) : Int) = c from by omega] at q;exact q
theorem zLn : ∀ o : Fin 5, ∀ s : Fin 16, zAI ((o.val : Int) - 1) (s.val : Int) = true → (hoI ((o.val : Int) - 1) (s.val : Int)).length = 0 → (s.val : Int) = 0 := by decide +kernel
theorem ho_zero {o s : Int} (h : zAI o s = true) : (hoI o s).length = 0 → s = 0 := zFq (P := fun o s => (hoI o s).length = 0 → s = 0) zLn h
theorem zLo : ∀ s : Fin 16, ∀ c : Fin 4, zDX (s.val : Int) (c.val : Int) = orI (s.val : Int) (c.val : Int) := by decide +kernel
theorem with_or {s c : Int} (h0 : 0 ≤ s) (h1 : s ≤ 15) (c0 : 0 ≤ c) (c3 : c ≤ 3) : zDX s c = orI s c :=
 zIU (n := 16) (P := fun s => zDX s c = orI s c) (fun s => zIU (n := 4) (P := fun c => zDX (s.val : Int) c = orI (s.val : Int) c) (zLo s) c0 (by omega)) h0 (by omega)
theorem zIV : ∀ s : Fin 16, ∀ c : Fin 4, 0 ≤ orI (s.val : Int) (c.val : Int) ∧ orI (s.val : Int) (c.val : Int) ≤ 15 := by decide +kernel
theorem or_bd {s c : Int} (h0 : 0 ≤ s) (h1 : s ≤ 15) (c0 : 0 ≤ c) (c3 : c ≤ 3) : 0 ≤ orI s c ∧ orI s c ≤ 15 :=
 zIU (n := 16) (P := fun s => 0 ≤ orI s c ∧ orI s c ≤ 15) (fun s => zIU (n := 4) (P := fun c => 0 ≤ orI (s.val : Int) c ∧ orI (s.val : Int) c ≤ 15) (zIV s) c0 (by omega)) h0 (by omega)
theorem zIo {o s f : Int} (h : zAI o s = true) (hf : zA6 f 0 3 = true) : zA4 (orI (fgS s f) f) := by
 have a : 0 ≤ f ∧ f ≤ 3 := by simpa [zA6] using hf
 have q := zCy (zE1 f h);have r := or_bd q.2.2.1 q.2.2.2 a.1 a.2;exact ⟨by omega, by omega⟩
theorem zKj : ∀ o : Fin 5, ∀ s : Fin 16, zAI ((o.val : Int) - 1) (s.val : Int) = true → ∀ c : Fin 4, zEH ((o.val : Int) - 1) (s.val : Int) (c.val : Int) = true → (if (o.val : Int) - 1 = (c.val : Int) then ((-1 : Int), zDX (s.val : Int) (c.val : Int)) else ((o.val : Int) - 1, (s.val : Int))) = (fgO ((o.val : Int) - 1) (c.val : Int), orI (fgS (s.val : Int) (c.val : Int)) (c.val : Int)) := by decide +kernel
theorem ans_held {o s c : Int} (h : zAI o s = true) (c0 : 0 ≤ c) (c3 : c ≤ 3) (hh : zEH o s c = true) : (if o = c then ((-1 : Int), zDX s c) else (o, s)) = (fgO o c, orI (fgS s c) c) :=
 zFq (P := fun o s => ∀ c : Fin 4, zEH o s (c.val : Int) = true → (if o = (c.val : Int) then ((-1 : Int), zDX s (c.val : Int)) else (o, s)) = (fgO o (c.val : Int), orI (fgS s (c.val : Int)) (c.val : Int))) zKj h ⟨c.toNat, by omega⟩ (by rw [show ((c.toNat : Nat) : Int) = c from by omega]; exact hh) |> fun q => by
  rw [show ((c.toNat : Nat) : Int) = c from by omega] at q;exact q
theorem sp_mem_f : ∀ o : Fin 5, ∀ s : Fin 16, zAI ((o.val : Int) - 1) (s.val : Int) = true → ∀ c : Fin 6, decide ((c.val : Int) ∈ hoI ((o.val : Int) - 1) (s.val : Int)) = zEH ((o.val : Int) - 1) (s.val : Int) (c.val : Int) := by decide +kernel
theorem sp_mem {o s c : Int} (h : zAI o s = true) (c0 : 0 ≤ c) (c5 : c ≤ 5) : decide (c ∈ hoI o s) = zEH o s c :=
 zIU (n := 6) (P := fun c => decide (c ∈ hoI o s) = zEH o s c) (zFq (P := fun o s => ∀ c : Fin 6, decide ((c.val : Int) ∈ hoI o s) = zEH o s (c.val : Int)) sp_mem_f h) c0 (by omega)
theorem sp_in_f : ∀ o : Fin 5, ∀ s : Fin 16, zAI ((o.val : Int) - 1) (s.val : Int) = true → ∀ x ∈ hoI ((o.val : Int) - 1) (s.val : Int), 0 ≤ x ∧ x ≤ 3 := by decide +kernel
theorem ho_64 {o s : Int} (h : zAI o s = true) : ∀ x ∈ hoI o s, zA4 x := fun x hx => by
 have q := zFq (P := fun o s => ∀ x ∈ hoI o s, 0 ≤ x ∧ x ≤ 3) sp_in_f h x hx;exact ⟨by omega, by omega⟩
theorem ask_f : ∀ o : Fin 5, ∀ s : Fin 16, zAI ((o.val : Int) - 1) (s.val : Int) = true → ∀ c : Fin 6, (hoI ((o.val : Int) - 1) (s.val : Int)).filter (fun y => decide (y ≠ (c.val : Int))) = hoI (fgO ((o.val : Int) - 1) (c.val : Int)) (fgS (s.val : Int) (c.val : Int)) := by decide +kernel
theorem ask_all {o s c : Int} (h : zAI o s = true) (c0 : 0 ≤ c) (c5 : c ≤ 5) : (hoI o s).filter (fun y => decide (y ≠ c)) = hoI (fgO o c) (fgS s c) :=
 zIU (n := 6) (P := fun c => (hoI o s).filter (fun y => decide (y ≠ c)) = hoI (fgO o c) (fgS s c)) (zFq (P := fun o s => ∀ c : Fin 6, (hoI o s).filter (fun y => decide (y ≠ (c.val : Int))) = hoI (fgO o (c.val : Int)) (fgS s (c.val : Int))) ask_f h) c0 (by omega)
theorem zLp : ∀ o : Fin 5, ∀ c : Fin 6, (if 0 ≤ (o.val : Int) - 1 then [(o.val : Int) - 1] else []).filter (fun y => decide (y ≠ (c.val : Int))) = (if 0 ≤ fgO ((o.val : Int) - 1) (c.val : Int) then [fgO ((o.val : Int) - 1) (c.val : Int)] else []) := by decide +kernel
theorem ask_one {o s c : Int} (h : zAI o s = true) (c0 : 0 ≤ c) (c5 : c ≤ 5) : (if 0 ≤ o then [o] else []).filter (fun y => decide (y ≠ c)) = (if 0 ≤ fgO o c then [fgO o c] else []) := by
 have hb := zCy h;have q := zLp ⟨(o + 1).toNat, by omega⟩ ⟨c.toNat, by omega⟩;have b : (((o + 1).toNat : Nat) : Int) - 1 = o := by omega
 have a : ((c.toNat : Nat) : Int) = c := by omega
 simp only [b, a] at q;exact q
def zJF (o s kind c : Int) : List Int := (if kind = 1 ∨ kind = 3 then (if 0 ≤ o then [o] else []) else hoI o s).filter (fun y => decide (y ≠ c))
theorem askL_eq {o s kind c : Int} (h : zAI o s = true) (c0 : 0 ≤ c) (c5 : c ≤ 5) : zJF o s kind c = zB1 o s kind c := by
 unfold zJF zB1;split
 ·exact ask_one h c0 c5
 ·exact ask_all h c0 c5
def zAU (k : Int) (a : zB0) (m : zAS) : zB0 × List zAS × Int := match zBd a m with
 | some c => (a, [], c)
 | none => ((zBm k a m).1, (zBm k a m).2, 1)
theorem zDL {e : zA7} (h : zBR e = true) (hb : e.2.2.1 = false) : e = (e.1, e.2.1, false, 0, 0, 0, 0, []) := by
 obtain ⟨o, s, b, kd, f, l, mk, d⟩ := e;simp only at hb
 subst hb;rw [eb] at h;simp only [Bool.false_eq_true, if_false, zAY, Bool.and_eq_true, decide_eq_true_eq] at h;obtain ⟨-, rfl, rfl, rfl, rfl, h⟩ := h;rw [List.eq_nil_of_length_eq_zero h]
set_option linter.unusedSimpArgs false
theorem zA5 {w : World} {g o : Nat} {v : Value} {vs : List Value} : zAy w g o (v :: vs) = zAy (w.setCell ⟨g, o, none⟩ v) g (o + 1) vs := rfl
theorem zAK {w : World} {g o : Nat} : zAy w g o [] = w := rfl
theorem put8S {w : World} {g : Nat} {x0 x1 x2 x3 x4 x5 x6 x7 y0 y1 y2 y3 y4 y5 y6 y7 : Value} {t : TypeId} (h : w.heap[g]? = some (.cells #[x0, x1, x2, x3, x4, x5, x6, x7] t (0, 0))) : (zAy w g 0 [y0, y1, y2, y3, y4, y5, y6, y7]).heap[g]? = some (.cells #[y0, y1, y2, y3, y4, y5, y6, y7] t (0, 0)) := by
 have b : (w.setCell ⟨g, 0, none⟩ y0).heap[g]? = some (.cells #[y0, x1, x2, x3, x4, x5, x6, x7] t (0, 0)) := heap_setCell_same _ g 0 _ t y0 h;have a : ((w.setCell ⟨g, 0, none⟩ y0).setCell ⟨g, 1, none⟩ y1).heap[g]? = some (.cells #[y0, y1, x2, x3, x4, x5, x6, x7] t (0, 0)) := heap_setCell_same _ g 1 _ t y1 b;have k : (((w.setCell ⟨g, 0, none⟩ y0).setCell ⟨g, 1, none⟩ y1).setCell ⟨g, 2, none⟩ y2).heap[g]? = some (.cells #[y0, y1, y2, x3, x4, x5, x6, x7] t (0, 0)) := heap_setCell_same _ g 2 _ t y2 a;have f : ((((w.setCell ⟨g, 0, none⟩ y0).setCell ⟨g, 1, none⟩ y1).setCell ⟨g, 2, none⟩ y2).setCell ⟨g, 3, none⟩ y3).heap[g]? = some (.cells #[y0, y1, y2, y3, x4, x5, x6, x7] t (0, 0)) := heap_setCell_same _ g 3 _ t y3 k;have d : (((((w.setCell ⟨g, 0, none⟩ y0).setCell ⟨g, 1, none⟩ y1).setCell ⟨g, 2, none⟩ y2).setCell ⟨g, 3, none⟩ y3).setCell ⟨g, 4, none⟩ y4).heap[g]? = some (.cells #[y0, y1, y2, y3, y4, x5, x6, x7] t (0, 0)) := heap_setCell_same _ g 4 _ t y4 f;have i : ((((((w.setCell ⟨g, 0, none⟩ y0).setCell ⟨g, 1, none⟩ y1).setCell ⟨g, 2, none⟩ y2).setCell ⟨g, 3, none⟩ y3).setCell ⟨g, 4, none⟩ y4).setCell ⟨g, 5, none⟩ y5).heap[g]? = some (.cells #[y0, y1, y2, y3, y4, y5, x6, x7] t (0, 0)) := heap_setCell_same _ g 5 _ t y5 d;have j : (((((((w.setCell ⟨g, 0, none⟩ y0).setCell ⟨g, 1, none⟩ y1).setCell ⟨g, 2, none⟩ y2).setCell ⟨g, 3, none⟩ y3).setCell ⟨g, 4, none⟩ y4).setCell ⟨g, 5, none⟩ y5).setCell ⟨g, 6, none⟩ y6).heap[g]? = some (.cells #[y0, y1, y2, y3, y4, y5, y6, x7] t (0, 0)) := heap_setCell_same _ g 6 _ t y6 i;have c : ((((((((w.setCell ⟨g, 0, none⟩ y0).setCell ⟨g, 1, none⟩ y1).setCell ⟨g, 2, none⟩ y2).setCell ⟨g, 3, none⟩ y3).setCell ⟨g, 4, none⟩ y4).setCell ⟨g, 5, none⟩ y5).setCell ⟨g, 6, none⟩ y6).setCell ⟨g, 7, none⟩ y7).heap[g]? = some (.cells #[y0, y1, y2, y3, y4, y5, y6, y7] t (0, 0)) := heap_setCell_same _ g 7 _ t y7 j;simp only [zA5, zAK, Nat.reduceAdd, Nat.zero_add];exact c
theorem zBx {w : World} {g : Nat} {x0 x1 x2 x3 x4 x5 x6 x7 x8 x9 y0 y1 y2 y3 y4 y5 y6 y7 y8 y9 : Value} {t : TypeId} (h : w.heap[g]? = some (.cells #[x0, x1, x2, x3, x4, x5, x6, x7, x8, x9] t (0, 0))) : (zAy w g 0 [y0, y1, y2, y3, y4, y5, y6, y7, y8, y9]).heap[g]? = some (.cells #[y0, y1, y2, y3, y4, y5, y6, y7, y8, y9] t (0, 0)) := by
 have b : (w.setCell ⟨g, 0, none⟩ y0).heap[g]? = some (.cells #[y0, x1, x2, x3, x4, x5, x6, x7, x8, x9] t (0, 0)) := heap_setCell_same _ g 0 _ t y0 h;have a : ((w.setCell ⟨g, 0, none⟩ y0).setCell ⟨g, 1, none⟩ y1).heap[g]? = some (.cells #[y0, y1, x2, x3, x4, x5, x6, x7, x8, x9] t (0, 0)) := heap_setCell_same _ g 1 _ t y1 b;have m : (((w.setCell ⟨g, 0, none⟩ y0).setCell ⟨g, 1, none⟩ y1).setCell ⟨g, 2, none⟩ y2).heap[g]? = some (.cells #[y0, y1, y2, x3, x4, x5, x6, x7, x8, x9] t (0, 0)) := heap_setCell_same _ g 2 _ t y2 a;have i : ((((w.setCell ⟨g, 0, none⟩ y0).setCell ⟨g, 1, none⟩ y1).setCell ⟨g, 2, none⟩ y2).setCell ⟨g, 3, none⟩ y3).heap[g]? = some (.cells #[y0, y1, y2, y3, x4, x5, x6, x7, x8, x9] t (0, 0)) := heap_setCell_same _ g 3 _ t y3 m;have f : (((((w.setCell ⟨g, 0, none⟩ y0).setCell ⟨g, 1, none⟩ y1).setCell ⟨g, 2, none⟩ y2).setCell ⟨g, 3, none⟩ y3).setCell ⟨g, 4, none⟩ y4).heap[g]? = some (.cells #[y0, y1, y2, y3, y4, x5, x6, x7, x8, x9] t (0, 0)) := heap_setCell_same _ g 4 _ t y4 i;have j : ((((((w.setCell ⟨g, 0, none⟩ y0).setCell ⟨g, 1, none⟩ y1).setCell ⟨g, 2, none⟩ y2).setCell ⟨g, 3, none⟩ y3).setCell ⟨g, 4, none⟩ y4).setCell ⟨g, 5, none⟩ y5).heap[g]? = some (.cells #[y0, y1, y2, y3, y4, y5, x6, x7, x8, x9] t (0, 0)) := heap_setCell_same _ g 5 _ t y5 f;have l : (((((((w.setCell ⟨g, 0, none⟩ y0).setCell ⟨g, 1, none⟩ y1).setCell ⟨g, 2, none⟩ y2).setCell ⟨g, 3, none⟩ y3).setCell ⟨g, 4, none⟩ y4).setCell ⟨g, 5, none⟩ y5).setCell ⟨g, 6, none⟩ y6).heap[g]? = some (.cells #[y0, y1, y2, y3, y4, y5, y6, x7, x8, x9] t (0, 0)) := heap_setCell_same _ g 6 _ t y6 j;have c : ((((((((w.setCell ⟨g, 0, none⟩ y0).setCell ⟨g, 1, none⟩ y1).setCell ⟨g, 2, none⟩ y2).setCell ⟨g, 3, none⟩ y3).setCell ⟨g, 4, none⟩ y4).setCell ⟨g, 5, none⟩ y5).setCell ⟨g, 6, none⟩ y6).setCell ⟨g, 7, none⟩ y7).heap[g]? = some (.cells #[y0, y1, y2, y3, y4, y5, y6, y7, x8, x9] t (0, 0)) := heap_setCell_same _ g 7 _ t y7 l;have k : (((((((((w.setCell ⟨g, 0, none⟩ y0).setCell ⟨g, 1, none⟩ y1).setCell ⟨g, 2, none⟩ y2).setCell ⟨g, 3, none⟩ y3).setCell ⟨g, 4, none⟩ y4).setCell ⟨g, 5, none⟩ y5).setCell ⟨g, 6, none⟩ y6).setCell ⟨g, 7, none⟩ y7).setCell ⟨g, 8, none⟩ y8).heap[g]? = some (.cells #[y0, y1, y2, y3, y4, y5, y6, y7, y8, x9] t (0, 0)) := heap_setCell_same _ g 8 _ t y8 c;have d : ((((((((((w.setCell ⟨g, 0, none⟩ y0).setCell ⟨g, 1, none⟩ y1).setCell ⟨g, 2, none⟩ y2).setCell ⟨g, 3, none⟩ y3).setCell ⟨g, 4, none⟩ y4).setCell ⟨g, 5, none⟩ y5).setCell ⟨g, 6, none⟩ y6).setCell ⟨g, 7, none⟩ y7).setCell ⟨g, 8, none⟩ y8).setCell ⟨g, 9, none⟩ y9).heap[g]? = some (.cells #[y0, y1, y2, y3, y4, y5, y6, y7, y8, y9] t (0, 0)) := heap_setCell_same _ g 9 _ t y9 k;simp only [zA5, zAK, Nat.reduceAdd, Nat.zero_add];exact d
abbrev zBM : Rep zB0 := zCg zAm zB6
theorem zAc {w : World} {g : Nat} {x0 x1 x2 x3 x4 x5 x6 x7 x8 x9 : Value} {t : TypeId} (h : w.heap[g]? = some (.cells #[x0, x1, x2, x3, x4, x5, x6, x7, x8, x9] t (0, 0))) : w.cell? ⟨g, 0, none⟩ = some x0 ∧ w.cell? ⟨g, 1, none⟩ = some x1 ∧ w.cell? ⟨g, 2, none⟩ = some x2 ∧ w.cell? ⟨g, 3, none⟩ = some x3 ∧ w.cell? ⟨g, 4, none⟩ = some x4 ∧ w.cell? ⟨g, 5, none⟩ = some x5 ∧ w.cell? ⟨g, 6, none⟩ = some x6 ∧ w.cell? ⟨g, 7, none⟩ = some x7 ∧ w.cell? ⟨g, 8, none⟩ = some x8 ∧ w.cell? ⟨g, 9, none⟩ = some x9 :=
 ⟨by rw [cell_of_row w g 0 _ t (0, 0) h]; rfl, by rw [cell_of_row w g 1 _ t (0, 0) h]; rfl, by rw [cell_of_row w g 2 _ t (0, 0) h]; rfl, by rw [cell_of_row w g 3 _ t (0, 0) h]; rfl, by rw [cell_of_row w g 4 _ t (0, 0) h]; rfl, by rw [cell_of_row w g 5 _ t (0, 0) h]; rfl, by rw [cell_of_row w g 6 _ t (0, 0) h]; rfl, by rw [cell_of_row w g 7 _ t (0, 0) h]; rfl, by rw [cell_of_row w g 8 _ t (0, 0) h]; rfl, by rw [cell_of_row w g 9 _ t (0, 0) h]; rfl⟩
theorem zA0 {w : World} {g : Nat} {cs : Array Value} {t : TypeId} (h : w.heap[g]? = some (.cells cs t (0, 0))) : w.frozen? ⟨g, 0, none⟩ = false ∧ w.frozen? ⟨g, 1, none⟩ = false ∧ w.frozen? ⟨g, 2, none⟩ = false ∧ w.frozen? ⟨g, 3, none⟩ = false ∧ w.frozen? ⟨g, 4, none⟩ = false ∧ w.frozen? ⟨g, 5, none⟩ = false ∧ w.frozen? ⟨g, 6, none⟩ = false ∧ w.frozen? ⟨g, 7, none⟩ = false ∧ w.frozen? ⟨g, 8, none⟩ = false ∧ w.frozen? ⟨g, 9, none⟩ = false :=
 ⟨frozen_of_row w g 0 _ t h, frozen_of_row w g 1 _ t h, frozen_of_row w g 2 _ t h, frozen_of_row w g 3 _ t h, frozen_of_row w g 4 _ t h, frozen_of_row w g 5 _ t h, frozen_of_row w g 6 _ t h, frozen_of_row w g 7 _ t h, frozen_of_row w g 8 _ t h, frozen_of_row w g 9 _ t h⟩
def EntI (e : zA7) : Prop := zA4 e.1 ∧ zA4 e.2.1 ∧ zA4 e.2.2.2.1 ∧ zA4 e.2.2.2.2.1 ∧ zA4 e.2.2.2.2.2.1 ∧ zA4 e.2.2.2.2.2.2.1
def zDM (S : zAN) (w w' : World) : zAN := fun j => S j ∨ (w.heap.size ≤ j ∧ j < w'.heap.size)
theorem zA9 {w : World} {S : zAN} {ds : List Value} {a : zB0} (h : zBM.own w S ds a) : ∃ (i : Option Addr) (wc : Nat) (g : Option Addr) (f : Nat) (c b : zAN), ds = [sL i a.1.length wc, nI a.2.1, nI a.2.2.1, .bool a.2.2.2.1, nI a.2.2.2.2.1, nI a.2.2.2.2.2.1, nI a.2.2.2.2.2.2.1, nI a.2.2.2.2.2.2.2.1, sL g a.2.2.2.2.2.2.2.2.length f] ∧ EntI a.2 ∧ zAm.own w c [sL i a.1.length wc] a.1 ∧ zAm.own w b [sL g a.2.2.2.2.2.2.2.2.length f] a.2.2.2.2.2.2.2.2 ∧ Sub c S ∧ Sub b S ∧ Dis c b := by
 obtain ⟨o, e1, c, b, rfl, j, q, s, l, d⟩ := h;obtain ⟨v, r⟩ : ∃ v, o = [v] := List.length_eq_one_iff.1 (zAm.rd_len (zAm.own_rd j));subst r;obtain ⟨i, wc, rfl⟩ := zAB j;obtain ⟨v2, rfl, n, A, y, m, z, p, k⟩ := zC8 q;obtain ⟨g, f, rfl⟩ := zAB k;exact ⟨i, wc, g, f, c, b, rfl, ⟨n, A, y, m, z, p⟩, j, k, s, l, d⟩
theorem zCb {w : World} {S S1 S2 : zAN} {v1 v2 : Value} {ws : List Int} {e : zA7} (i : EntI e) (h1 : zAm.own w S1 [v1] ws) (h2 : zAm.own w S2 [v2] e.2.2.2.2.2.2.2) (s1 : Sub S1 S) (s2 : Sub S2 S) (d : Dis S1 S2) : zBM.own w S (v1 :: [nI e.1, nI e.2.1, .bool e.2.2.1, nI e.2.2.2.1, nI e.2.2.2.2.1, nI e.2.2.2.2.2.1, nI e.2.2.2.2.2.2.1, v2]) (ws, e) :=
 ⟨[v1], _, S1, S2, rfl, h1, zB3 i.1 i.2.1 i.2.2.1 i.2.2.2.1 i.2.2.2.2.1 i.2.2.2.2.2 h2, s1, s2, d⟩
def AccM (w : World) (S : zAN) (k : Int) (y : zB0) (e : Ending) (w' : World) : Prop := ∃ ds, e = .returned (zBw (.int .i64 k :: ds)) ∧ zBM.own w' (zDM S w w') ds y ∧ Below w.heap.size w w'
def zC2 (w : World) (S : zAN) (k : Int) (y : zB0) (l : List zAS) (e : Ending) (w' : World) : Prop := ∃ ds ms, e = .returned (.tuple #[zBw (.int .i64 k :: ds), ms]) ∧ (zCg zBM zAT).own w' (zDM S w w') (ds ++ [ms]) (y, l) ∧ Below w.heap.size w w'
theorem more_in {S : zAN} {w w' : World} : Sub S (zDM S w w') := fun j hj => .inl hj
theorem zLq {rows : List Value} {a s i : Nat} {u : Value} (hi : i < s) (hl : a + s ≤ rows.length) : rows.take a ++ (((rows.drop a).take s).set i u ++ rows.drop (a + s)) = rows.set (a + i) u := by
 apply List.ext_getElem?
 intro n;simp only [List.getElem?_append, List.getElem?_set, List.getElem?_take, List.getElem?_drop, List.length_take, List.length_drop, List.length_set, List.length_append];repeat' split
 all_goals first
  | rfl
  | (exfalso; omega)
  | (congr 1; omega)
  | (rename_i h; simp; omega)
theorem zBV {α : Type} {e : TypeId} {R : Rep α} {w : World} {S : zAN} {v : Value} {xs : List α} {j : Nat} {x : α} (h : (slR e R).own w S [v] xs) (hx : xs[j]? = some x) :
    ∃ g f c Sj, v = sL (some ⟨g, 0, none⟩) xs.length f ∧ S g ∧ R.own w Sj c x ∧ Sub Sj S ∧ ¬ Sj g ∧ (∀ i u, c[i]? = some u → w.cell? ⟨g, j * R.size + i, none⟩ = some u) ∧ (∀ i, w.frozen? ⟨g, i, none⟩ = false) ∧
     ∀ i u U x', i < R.size → R.own w U (c.set i u) x' → (∀ k, U k → Sj k ∨ ¬ S k) → (slR e R).own (w.setCell ⟨g, j * R.size + i, none⟩ u) (fun k => S k ∨ U k) [v] (xs.set j x') := by
 obtain ⟨v', l, y, z, m, D, p, G⟩ := h;simp only [List.cons.injEq, and_true] at z;subst z;have A : j < xs.length := (List.getElem?_eq_some_iff.1 hx).1;obtain ⟨Sj, T, o, n, r, L, H⟩ := zFf G hx;have K : j * R.size + R.size ≤ xs.length * R.size := by
  have : (j + 1) * R.size ≤ xs.length * R.size := Nat.mul_le_mul_right _ A;rw [Nat.add_one_mul] at this;exact this
 have I := R.rd_len (R.own_rd o);have s := m.1;rcases m.2 with ⟨rfl, C⟩ | ⟨g, f, E, rfl, -⟩
 ·have : xs = [] := List.eq_nil_of_length_eq_zero C;subst this;simp at A
 have b := D g rfl;refine ⟨g, f, _, Sj, rfl, b.1, o, fun k hk => p k (n k hk), fun h => b.2 (n g h), fun i u hi => ?_, fun i => World.ownsRow.frozenAt m i, fun i u U x' hi ho hU => ?_⟩
 ·rw [List.getElem?_take] at hi;split at hi
  ·rw [List.getElem?_drop] at hi;rw [World.ownsRow.cellAt m _ (by omega)];exact hi
  ·cases hi
 ·obtain ⟨J, F⟩ := zFD (cs := [u]) (off := j * R.size + i) m (by simp; omega);have d : ∀ k, k ≠ g → k < w.heap.size → (w.setCell ⟨g, j * R.size + i, none⟩ u).heap[k]? = w.heap[k]? := fun k hk hlk => F.block k hlk (fun e => hk (by simpa using e));refine ⟨_, l.set (j * R.size + i) u, fun k => y k ∨ U k, rfl, ?_, fun g' hg' => ?_, fun k hk => hk.elim (fun h => .inl (p k h)) .inr, ?_⟩
  ·rw [List.length_set, zEJ _ _ _ (by omega)];exact J
  ·have e : g' = g := by simpa [Value.ownBlock] using hg'.symm
   subst e;exact ⟨.inl b.1, fun h => h.elim b.2 fun h => (hU _ h).elim (fun q => b.2 (n _ q)) (fun q => q b.1)⟩
  ·have := H (w.setCell ⟨g, j * R.size + i, none⟩ u) _ x' U (fun k => y k ∨ U k) (fun k hk hlk => d k (fun e => b.2 (by rw [← e]; exact r k hk)) hlk) (R.own_keep ho fun k hk hlk => d k (fun e => (hU k hk).elim (fun q => b.2 (by rw [← e]; exact n k q)) (fun q => q (by rw [e]; exact b.1))) hlk) (fun k h1 h2 => (hU k h1).elim (fun q => L k q h2) (fun q => q (p k (r k h2)))) (fun k h => .inr h) (fun k h => .inl (r k h));rw [zLq hi (by omega)] at this;exact this
def HK (t g mb mc bb bc k : Nat) (x : zA2) (B : Nat) (w : World) (a : zB0) : Prop :=
 w.heap[g]? = some (.cells #[.slice (some ⟨mb, 0, none⟩) x.1.length mc, .slice (some ⟨bb, 0, none⟩) x.2.length bc] 27 (0, 0)) ∧ t ≤ g ∧ g < B ∧ B ≤ w.heap.size ∧ k < x.1.length ∧ k < x.2.length ∧ ∃ S1 S2, zBY.own w S1 [.slice (some ⟨mb, 0, none⟩) x.1.length mc] (x.1.set k a.1) ∧ zCS.own w S2 [.slice (some ⟨bb, 0, none⟩) x.2.length bc] (x.2.set k a.2) ∧ Dis S1 S2 ∧ ∀ j, S1 j ∨ S2 j → t ≤ j ∧ j < B ∧ j ≠ g
section
variable {t g mb mc bb bc k B : Nat} {x : zA2} {w w' : World} {a : zB0}
theorem zAH (h : HK t g mb mc bb bc k x B w a) (b : Bl w w') : HK t g mb mc bb bc k x B w' a := by
 obtain ⟨f, r, m, l, n, q, p, o, i, d, j, c⟩ := h;exact ⟨zAb b f, r, m, Nat.le_trans l b.size, n, q, p, o, zBY.own_keep i (zAj b), zCS.own_keep d (zAj b), j, c⟩
theorem zBD (h : HK t g mb mc bb bc k x B w a) : HK t g mb mc bb bc k x B w.drew a := zAH h (Below.refl _ _).drew
theorem zAr (h : HK t g mb mc bb bc k x B w a) : ∃ (l : Option Addr) (wc : Nat) (f : Option Addr) (d : Nat), (w.cell? ⟨g, 0, none⟩ = some (sL (some ⟨mb, 0, none⟩) x.1.length mc) ∧ w.cell? ⟨g, 1, none⟩ = some (sL (some ⟨bb, 0, none⟩) x.2.length bc)) ∧ w.cell? ⟨mb, k, none⟩ = some (sL l a.1.length wc) ∧ (w.cell? ⟨bb, k * 8, none⟩ = some (nI a.2.1) ∧ w.cell? ⟨bb, k * 8 + 1, none⟩ = some (nI a.2.2.1) ∧ w.cell? ⟨bb, k * 8 + 2, none⟩ = some (.bool a.2.2.2.1) ∧ w.cell? ⟨bb, k * 8 + 3, none⟩ = some (nI a.2.2.2.2.1) ∧ w.cell? ⟨bb, k * 8 + 4, none⟩ = some (nI a.2.2.2.2.2.1) ∧ w.cell? ⟨bb, k * 8 + 5, none⟩ = some (nI a.2.2.2.2.2.2.1) ∧ w.cell? ⟨bb, k * 8 + 6, none⟩ = some (nI a.2.2.2.2.2.2.2.1) ∧ w.cell? ⟨bb, k * 8 + 7, none⟩ = some (sL f a.2.2.2.2.2.2.2.2.length d)) ∧ (zBv zBf w l a.1 ∧ (∀ y ∈ a.1, zA4 y)) ∧ (zBv zBf w f a.2.2.2.2.2.2.2.2 ∧ EntI a.2) ∧ (∀ i, w.frozen? ⟨mb, i, none⟩ = false) ∧ (∀ i, w.frozen? ⟨bb, i, none⟩ = false) ∧ (t ≤ mb ∧ mb < B) ∧ t ≤ bb ∧ bb < B := by
 obtain ⟨U, h2, h3, h4, G, F, S1, S2, M, D, h9, b⟩ := h;obtain ⟨g1, m, N, Sj, r, z, j, p1, p2, H, E, -⟩ := zBV M (show (x.1.set k a.1)[k]? = some a.1 from by simp [G]);obtain ⟨g2, C, c2, Tj, A, n, R, r1, r2, c, L, -⟩ := zBV D (show (x.2.set k a.2)[k]? = some a.2 from by simp [F]);simp only [Value.slice.injEq, Option.some.injEq, Addr.mk.injEq, and_true] at r A;obtain ⟨rfl, -, -⟩ := r;obtain ⟨rfl, -, -⟩ := A;obtain ⟨v, rfl⟩ : ∃ v, N = [v] := List.length_eq_one_iff.1 (zAm.rd_len (zAm.own_rd j));obtain ⟨l, wc, rfl⟩ := zAB j;obtain ⟨v2, rfl, K, Y, T, I, V, O, o⟩ := zC8 R;obtain ⟨f, d, rfl⟩ := zAB o;have J := zAm.own_rd j;have X := zAm.own_rd o;obtain ⟨ax, cx, p, -, -, s⟩ := J;obtain ⟨ay, cy, q, -, -, S⟩ := X;simp only [List.cons.injEq, Value.slice.injEq, and_true, true_and] at p q;obtain ⟨rfl, -⟩ := p;obtain ⟨rfl, -⟩ := q;refine ⟨_, wc, _, d, zAd U, ?_, ⟨c 0 _ rfl, c 1 _ rfl, c 2 _ rfl, c 3 _ rfl, c 4 _ rfl, c 5 _ rfl, c 6 _ rfl, c 7 _ rfl⟩, ⟨s, zDn s⟩, ⟨S, K, Y, T, I, V, O⟩, E, L, ⟨(b _ (.inl z)).1, (b _ (.inl z)).2.1⟩, (b _ (.inr n)).1, (b _ (.inr n)).2.1⟩;have := H 0 _ rfl;rw [show zAm.size = 1 from rfl, Nat.mul_one, Nat.add_zero] at this;exact this
theorem hk_e {B' : Nat} (h : HK t g mb mc bb bc k x B w a) (i : Nat) (hi : i < 8) (u : Value) (e' : zA7) (hB : B ≤ B') (hB' : B' ≤ w.heap.size) (ho : ∀ Sj f, EntI a.2 → zAm.own w Sj [f] a.2.2.2.2.2.2.2.2 → ∃ U, zB6.own w U ([nI a.2.1, nI a.2.2.1, .bool a.2.2.2.1, nI a.2.2.2.2.1, nI a.2.2.2.2.2.1, nI a.2.2.2.2.2.2.1, nI a.2.2.2.2.2.2.2.1, f].set i u) e' ∧ ∀ j, U j → Sj j ∨ (B ≤ j ∧ j < B')) :
    HK t g mb mc bb bc k x B' (w.setCell ⟨bb, k * 8 + i, none⟩ u) (a.1, e') := by
 obtain ⟨M, J, h3, h4, A, r, I, S2, F, z, n, c⟩ := h;obtain ⟨g2, v, c2, Tj, s, p, K, o, r2, r3, r4, G⟩ := zBV z (show (x.2.set k a.2)[k]? = some a.2 from by simp [r]);simp only [Value.slice.injEq, Option.some.injEq, Addr.mk.injEq, and_true] at s;obtain ⟨rfl, -, -⟩ := s;obtain ⟨f, rfl, E, O, L, C, N, H, D⟩ := zC8 K;obtain ⟨U, y, l⟩ := ho Tj f ⟨E, O, L, C, N, H⟩ D;have q := G i u U e' hi y (fun j b => (l j b).elim .inl fun q => .inr fun hs => by have := (c j (.inr hs)).2.1; omega);rw [List.set_set] at q;have m := c _ (.inr p);refine ⟨zAl M (fun e => m.2.2 e.symm), J, by omega, by simp; exact hB', A, r, I, _, zAn F (fun hs => n _ hs p), q, ?_, ?_⟩
 ·intro j b d;rcases d with d | d
  ·exact n j b d
  ·rcases l j d with q | q
   ·exact n j b (o j q)
   ·have := (c j (.inl b)).2.1; omega
 ·intro j b;rcases b with b | b | b
  ·have := c j (.inl b); exact ⟨this.1, by omega, this.2.2⟩
  ·have := c j (.inr b); exact ⟨this.1, by omega, this.2.2⟩
  ·rcases l j b with q | q
   ·have := c j (.inr (o j q)); exact ⟨this.1, by omega, this.2.2⟩
   ·exact ⟨by omega, q.2, by omega⟩
theorem hk_w {B' : Nat} {U : zAN} {v : Value} {ws : List Int} (h : HK t g mb mc bb bc k x B w a) (hB : B ≤ B') (hB' : B' ≤ w.heap.size) (ho : zAm.own w U [v] ws) (hU : ∀ j, U j → B ≤ j ∧ j < B') :
    HK t g mb mc bb bc k x B' (w.setCell ⟨mb, k, none⟩ v) (ws, a.2) := by
 obtain ⟨E, C, h3, h4, l, s, S1, p, z, r, m, c⟩ := h;obtain ⟨g2, o, y, Tj, n, i, D, r1, r2, r3, r4, A⟩ := zBV z (show (x.1.set k a.1)[k]? = some a.1 from by simp [l]);simp only [Value.slice.injEq, Option.some.injEq, Addr.mk.injEq, and_true] at n;obtain ⟨rfl, -, -⟩ := n;obtain ⟨v2, rfl⟩ : ∃ v, y = [v] := List.length_eq_one_iff.1 (zAm.rd_len (zAm.own_rd D));have q := A 0 v U ws (by decide) ho (fun j b => .inr fun hs => by have := (c j (.inl hs)).2.1; have := hU j b; omega);rw [List.set_set, show zAm.size = 1 from rfl, Nat.mul_one, Nat.add_zero] at q;have f := c _ (.inl i);refine ⟨zAl E (fun e => f.2.2 e.symm), C, by omega, by simp; exact hB', l, s, _, p, q, zAn r (fun hs => m _ i hs), ?_, ?_⟩
 ·intro j b d;rcases b with b | b
  ·exact m j b d
  ·have := (c j (.inr d)).2.1; have := hU j b; omega
 ·intro j b;rcases b with (b | b) | b
  ·have := c j (.inl b); exact ⟨this.1, by omega, this.2.2⟩
  ·have := hU j b; exact ⟨by omega, by omega, by omega⟩
  ·have := c j (.inr b); exact ⟨this.1, by omega, this.2.2⟩
theorem hk_w2 {B' q : Nat} {U : zAN} {v : Value} {ws : List Int} {W' : World} (h : HK t g mb mc bb bc k x B w a) (hB : B ≤ B') (hB' : B' ≤ w.heap.size) (hs : w.heap.size ≤ W'.heap.size) (ho : zAm.own w U [v] ws) (hU : ∀ j, U j → B ≤ j ∧ j < B' ∧ j ≠ q) (hq : B ≤ q) (hk : ∀ j, j ≠ q → W'.heap[j]? = (w.setCell ⟨mb, k, none⟩ v).heap[j]?) :
    HK t g mb mc bb bc k x B' W' (ws, a.2) := by
 obtain ⟨F, D, h3, h4, m, y, S1, r, A, s, n, c⟩ := h;obtain ⟨g2, p, z, Tj, o, l, E, r1, r2, r3, r4, C⟩ := zBV A (show (x.1.set k a.1)[k]? = some a.1 from by simp [m]);simp only [Value.slice.injEq, Option.some.injEq, Addr.mk.injEq, and_true] at o;obtain ⟨rfl, -, -⟩ := o;obtain ⟨v2, rfl⟩ : ∃ v, z = [v] := List.length_eq_one_iff.1 (zAm.rd_len (zAm.own_rd E));have i := C 0 v U ws (by decide) ho (fun j b => .inr fun hs => by have := (c j (.inl hs)).2.1; have := hU j b; omega);rw [List.set_set, show zAm.size = 1 from rfl, Nat.mul_one, Nat.add_zero] at i;have f := c _ (.inl l);refine ⟨(hk g (by omega)).trans (zAl F (fun e => f.2.2 e.symm)), D, by omega, Nat.le_trans hB' hs, m, y, _, r, zBY.own_keep i (fun j b _ => hk j ?_), zCS.own_keep (zAn s (fun hs => n _ l hs)) (fun j b _ => hk j ?_), ?_, ?_⟩
 ·rcases b with b | b
  ·have := (c j (.inl b)).2.1; omega
  ·exact (hU j b).2.2
 ·have := (c j (.inr b)).2.1; omega
 ·intro j b d;rcases b with b | b
  ·exact n j b d
  ·have := (c j (.inr d)).2.1; have := hU j b; omega
 ·intro j b;rcases b with (b | b) | b
  ·have := c j (.inl b); exact ⟨this.1, by omega, this.2.2⟩
  ·have := hU j b; exact ⟨by omega, by omega, by omega⟩
  ·have := c j (.inr b); exact ⟨this.1, by omega, this.2.2⟩
theorem hk_o {n : Int} (h : HK t g mb mc bb bc k x B w a) (hn : zA4 n) : HK t g mb mc bb bc k x B (w.setCell ⟨bb, k * 8, none⟩ (nI n)) (a.1, (n, a.2.2)) :=
 hk_e h 0 (by decide) _ _ (Nat.le_refl _) h.2.2.2.1 fun Sj v2 i o => ⟨Sj, zB3 hn i.2.1 i.2.2.1 i.2.2.2.1 i.2.2.2.2.1 i.2.2.2.2.2 o, fun _ q => .inl q⟩
theorem hk_s {n : Int} (h : HK t g mb mc bb bc k x B w a) (hn : zA4 n) : HK t g mb mc bb bc k x B (w.setCell ⟨bb, k * 8 + 1, none⟩ (nI n)) (a.1, (a.2.1, n, a.2.2.2)) :=
 hk_e h 1 (by decide) _ _ (Nat.le_refl _) h.2.2.2.1 fun Sj v2 i o => ⟨Sj, zB3 i.1 hn i.2.2.1 i.2.2.2.1 i.2.2.2.2.1 i.2.2.2.2.2 o, fun _ q => .inl q⟩
theorem hk_b {b : Bool} (h : HK t g mb mc bb bc k x B w a) : HK t g mb mc bb bc k x B (w.setCell ⟨bb, k * 8 + 2, none⟩ (.bool b)) (a.1, (a.2.1, a.2.2.1, b, a.2.2.2.2)) :=
 hk_e h 2 (by decide) _ _ (Nat.le_refl _) h.2.2.2.1 fun Sj v2 i o => ⟨Sj, zB3 i.1 i.2.1 i.2.2.1 i.2.2.2.1 i.2.2.2.2.1 i.2.2.2.2.2 o, fun _ q => .inl q⟩
theorem hk_k {n : Int} (h : HK t g mb mc bb bc k x B w a) (hn : zA4 n) : HK t g mb mc bb bc k x B (w.setCell ⟨bb, k * 8 + 3, none⟩ (nI n)) (a.1, (a.2.1, a.2.2.1, a.2.2.2.1, n, a.2.2.2.2.2)) :=
 hk_e h 3 (by decide) _ _ (Nat.le_refl _) h.2.2.2.1 fun Sj v2 i o => ⟨Sj, zB3 i.1 i.2.1 hn i.2.2.2.1 i.2.2.2.2.1 i.2.2.2.2.2 o, fun _ q => .inl q⟩
theorem hk_f {n : Int} (h : HK t g mb mc bb bc k x B w a) (hn : zA4 n) : HK t g mb mc bb bc k x B (w.setCell ⟨bb, k * 8 + 4, none⟩ (nI n)) (a.1, (a.2.1, a.2.2.1, a.2.2.2.1, a.2.2.2.2.1, n, a.2.2.2.2.2.2)) :=
 hk_e h 4 (by decide) _ _ (Nat.le_refl _) h.2.2.2.1 fun Sj v2 i o => ⟨Sj, zB3 i.1 i.2.1 i.2.2.1 hn i.2.2.2.2.1 i.2.2.2.2.2 o, fun _ q => .inl q⟩
theorem hk_l {n : Int} (h : HK t g mb mc bb bc k x B w a) (hn : zA4 n) : HK t g mb mc bb bc k x B (w.setCell ⟨bb, k * 8 + 5, none⟩ (nI n)) (a.1, (a.2.1, a.2.2.1, a.2.2.2.1, a.2.2.2.2.1, a.2.2.2.2.2.1, n, a.2.2.2.2.2.2.2)) :=
 hk_e h 5 (by decide) _ _ (Nat.le_refl _) h.2.2.2.1 fun Sj v2 i o => ⟨Sj, zB3 i.1 i.2.1 i.2.2.1 i.2.2.2.1 hn i.2.2.2.2.2 o, fun _ q => .inl q⟩
theorem hk_m {n : Int} (h : HK t g mb mc bb bc k x B w a) (hn : zA4 n) : HK t g mb mc bb bc k x B (w.setCell ⟨bb, k * 8 + 6, none⟩ (nI n)) (a.1, (a.2.1, a.2.2.1, a.2.2.2.1, a.2.2.2.2.1, a.2.2.2.2.2.1, a.2.2.2.2.2.2.1, n, a.2.2.2.2.2.2.2.2)) :=
 hk_e h 6 (by decide) _ _ (Nat.le_refl _) h.2.2.2.1 fun Sj v2 i o => ⟨Sj, zB3 i.1 i.2.1 i.2.2.1 i.2.2.2.1 i.2.2.2.2.1 hn o, fun _ q => .inl q⟩
theorem hk_d {B' : Nat} {U : zAN} {v : Value} {d : List Int} (h : HK t g mb mc bb bc k x B w a) (hB : B ≤ B') (hB' : B' ≤ w.heap.size) (ho : zAm.own w U [v] d) (hU : ∀ j, U j → B ≤ j ∧ j < B') : HK t g mb mc bb bc k x B' (w.setCell ⟨bb, k * 8 + 7, none⟩ v) (a.1, (a.2.1, a.2.2.1, a.2.2.2.1, a.2.2.2.2.1, a.2.2.2.2.2.1, a.2.2.2.2.2.2.1, a.2.2.2.2.2.2.2.1, d)) :=
 hk_e h 7 (by decide) _ _ hB hB' fun Sj v2 i o => ⟨U, zB3 i.1 i.2.1 i.2.2.1 i.2.2.2.1 i.2.2.2.2.1 i.2.2.2.2.2 ho, fun j q => .inr (hU j q)⟩
theorem hk_nil (h : HK t g mb mc bb bc k x B w a) : HK t g mb mc bb bc k x B (w.setCell ⟨bb, k * 8 + 7, none⟩ (sL none 0 0)) (a.1, (a.2.1, a.2.2.1, a.2.2.2.1, a.2.2.2.2.1, a.2.2.2.2.2.1, a.2.2.2.2.2.2.1, a.2.2.2.2.2.2.2.1, [])) :=
 hk_d (U := fun _ => False) h (Nat.le_refl _) h.2.2.2.1 (zD3 w _) fun _ q => q.elim
theorem hk_end (h : HK t g mb mc bb bc k x B w a) : zAz.own w (fun j => t ≤ j ∧ j < B ∧ j ≠ g) [sL (some ⟨mb, 0, none⟩) x.1.length mc, sL (some ⟨bb, 0, none⟩) x.2.length bc] (x.1.set k a.1, x.2.set k a.2) := by
 obtain ⟨h1, h2, h3, h4, h5, h6, l, i, d, c, f, b⟩ := h;exact ⟨_, _, l, i, rfl, d, c, fun j hj => b j (.inl hj), fun j hj => b j (.inr hj), f⟩
theorem zGS {q o : Nat} {v : Value} (h : HK t g mb mc bb bc k x B w a) (hq : B ≤ q) : HK t g mb mc bb bc k x B (w.setCell ⟨q, o, none⟩ v) a := by
 obtain ⟨d, s, l, j, m, r, p, n, f, c, i, b⟩ := h;exact ⟨zAl d (by omega), s, l, by simp; exact j, m, r, p, n, zAn f (fun hs => by have := (b q (.inl hs)).2.1; omega), zAn c (fun hs => by have := (b q (.inr hs)).2.1; omega), i, b⟩
theorem zGj (h : HK t g mb mc bb bc k x B w a) : EntI a.2 := by
 obtain ⟨_, _, _, _, _, _, _, _, ⟨_, e⟩, _⟩ := zAr h;exact e
theorem zBa (h : HK t g mb mc bb bc k x B w a) : t ≤ bb ∧ bb < B ∧ B ≤ w.heap.size := by
 obtain ⟨_, _, _, _, _, _, _, _, _, _, _, _, b⟩ := zAr h;exact ⟨b.1, b.2, h.2.2.2.1⟩
theorem hk_fm (h : HK t g mb mc bb bc k x B w a) : w.frozen? ⟨mb, k, none⟩ = false := by
 obtain ⟨_, _, _, _, _, _, _, _, _, f, _⟩ := zAr h;exact f k
theorem hk_ne (h : HK t g mb mc bb bc k x B w a) : ¬ g = mb ∧ ¬ bb = mb := by
 obtain ⟨h1, h2, h3, h4, o, n, S1, S2, p, l, q, b⟩ := h;obtain ⟨g1, c, c1, Sj, d, f, -⟩ := zBV p (show (x.1.set k a.1)[k]? = some a.1 from by simp [o]);obtain ⟨g2, j, c2, Tj, i, m, -⟩ := zBV l (show (x.2.set k a.2)[k]? = some a.2 from by simp [n]);simp only [Value.slice.injEq, Option.some.injEq, Addr.mk.injEq, and_true] at d i;obtain ⟨rfl, -, -⟩ := d;obtain ⟨rfl, -, -⟩ := i;exact ⟨fun e => (b _ (.inl f)).2.2 e.symm, fun e => q _ f (e ▸ m)⟩
theorem zBT (h : HK t g mb mc bb bc k x B w a) : t ≤ w.heap.size := Nat.le_trans h.2.1 (Nat.le_trans (Nat.le_of_lt h.2.2.1) h.2.2.2.1)
theorem zDS (h : HK t g mb mc bb bc k x B w a) : t ≤ mb ∧ mb < B ∧ B ≤ w.heap.size := by
 obtain ⟨_, _, _, _, _, _, _, _, _, _, _, b, _⟩ := zAr h;exact ⟨b.1, b.2, h.2.2.2.1⟩
theorem zLr {c : Int} (h : HK t g mb mc bb bc k x B w a) (hw : zAI a.2.1 a.2.2.1 = true) (hc : zA6 c 0 3 = true) :
    HK t g mb mc bb bc k x B (fgW w bb (k * 8) a.2.1 a.2.2.1 c) (a.1, (fgO a.2.1 c, fgS a.2.2.1 c, a.2.2.2)) ∧ Below t w (fgW w bb (k * 8) a.2.1 a.2.2.1 c) ∧ ∀ q ob, B ≤ q → w.heap[q]? = some ob → (fgW w bb (k * 8) a.2.1 a.2.2.1 c).heap[q]? = some ob := by
 obtain ⟨i, f⟩ := fg_in hw hc;obtain ⟨l, d⟩ := zEv c hw;obtain ⟨b, b2, b3⟩ := zBa h;unfold fgW;rw [f];rw [i] at l ⊢;by_cases q : a.2.1 = c
 ·rw [if_pos q, if_pos q];exact ⟨hk_s (hk_o h (by constructor <;> decide)) d, zAh (zAh (Below.refl _ _) b) b, fun j ob hj hr => zAl (zAl hr (by omega)) (by omega)⟩
 ·rw [if_neg q, if_neg q];exact ⟨hk_s h d, zAh (Below.refl _ _) b, fun j ob hj hr => zAl hr (by omega)⟩
theorem zIW (h : HK t g mb mc bb bc k x B w a) : HK t g mb mc bb bc k x B ((((((((w.setCell ⟨bb, k * 8, none⟩ (nI a.2.1)).setCell ⟨bb, k * 8 + 1, none⟩ (nI a.2.2.1)).setCell ⟨bb, k * 8 + 2, none⟩ (.bool false)).setCell ⟨bb, k * 8 + 3, none⟩ (nI 0)).setCell ⟨bb, k * 8 + 4, none⟩ (nI 0)).setCell ⟨bb, k * 8 + 5, none⟩ (nI 0)).setCell ⟨bb, k * 8 + 6, none⟩ (nI 0)).setCell ⟨bb, k * 8 + 7, none⟩ (sL none 0 0)) (a.1, zCD a.2) :=
 hk_nil (hk_m (hk_l (hk_f (hk_k (hk_b (hk_s (hk_o h (zGj h).1) (zGj h).2.1)) zBN) zBN) zBN) zBN)
theorem zFr {w0 : World} {v0 v1 v2 v3 v4 v5 v6 v7 : Value} {n0 n1 n2 n3 n4 n5 n6 n7 : Nat} (b : Below t w0 w) (hb : t ≤ bb) : Below t w0 ((((((((w.setCell ⟨bb, n0, none⟩ v0).setCell ⟨bb, n1, none⟩ v1).setCell ⟨bb, n2, none⟩ v2).setCell ⟨bb, n3, none⟩ v3).setCell ⟨bb, n4, none⟩ v4).setCell ⟨bb, n5, none⟩ v5).setCell ⟨bb, n6, none⟩ v6).setCell ⟨bb, n7, none⟩ v7) :=
 zAh (zAh (zAh (zAh (zAh (zAh (zAh (zAh b hb) hb) hb) hb) hb) hb) hb) hb
theorem zH8 {q : Nat} {ob : Obj} {v0 v1 v2 v3 v4 v5 v6 v7 : Value} {n0 n1 n2 n3 n4 n5 n6 n7 : Nat} (h : w.heap[q]? = some ob) (hb : q ≠ bb) : ((((((((w.setCell ⟨bb, n0, none⟩ v0).setCell ⟨bb, n1, none⟩ v1).setCell ⟨bb, n2, none⟩ v2).setCell ⟨bb, n3, none⟩ v3).setCell ⟨bb, n4, none⟩ v4).setCell ⟨bb, n5, none⟩ v5).setCell ⟨bb, n6, none⟩ v6).setCell ⟨bb, n7, none⟩ v7).heap[q]? = some ob :=
 zAl (zAl (zAl (zAl (zAl (zAl (zAl (zAl h hb) hb) hb) hb) hb) hb) hb) hb
theorem zJG {α : Type} {R : Rep α} {S : zAN} {cs : List Value} {y : α} {v0 v1 v2 v3 v4 v5 v6 v7 : Value} {n0 n1 n2 n3 n4 n5 n6 n7 : Nat} (h : R.own w S cs y) (hb : ¬ S bb) : R.own ((((((((w.setCell ⟨bb, n0, none⟩ v0).setCell ⟨bb, n1, none⟩ v1).setCell ⟨bb, n2, none⟩ v2).setCell ⟨bb, n3, none⟩ v3).setCell ⟨bb, n4, none⟩ v4).setCell ⟨bb, n5, none⟩ v5).setCell ⟨bb, n6, none⟩ v6).setCell ⟨bb, n7, none⟩ v7) S cs y :=
 zAn (zAn (zAn (zAn (zAn (zAn (zAn (zAn h hb) hb) hb) hb) hb) hb) hb) hb
end
theorem zBj {t : Nat} {w w1 w2 : World} (h : Below t w w1) (h2 : Bl w1 w2) (ht : t ≤ w1.heap.size) : Below t w w2 := h.trans (h2.mono ht)
theorem zD4 {B : Nat} {U : zAN} {W : World} {cm : List Value} {m : zAS} (hm : zDk.own W U cm m) (hU : ∀ j, U j → B ≤ j ∧ j < W.heap.size) (hB : B ≤ W.heap.size) : zAT.own (W.alloc (.cells cm.toArray 30)) (rng B (W.alloc (.cells cm.toArray 30)).heap.size) [sL (some ⟨W.heap.size, 0, none⟩) 1 1] [m] := by
 have al := zAu W (.cells cm.toArray 30);refine zAT.own_mono (zKQ (e := 30) (R := zDk) (by decide) hm (fun j q => (hU j q).2)) fun j q => ?_;rcases q with q | q
 ·have := hU j q; exact ⟨this.1, by omega⟩
 ·exact ⟨by omega, by omega⟩
theorem zEx {B : Nat} {W : World} (hB : B ≤ W.heap.size) : zAT.own (W.alloc (.cells #[] 30)) (rng B (W.alloc (.cells #[] 30)).heap.size) [sL (some ⟨W.heap.size, 0, none⟩) 0 0] [] := by
 have al := zAu W (.cells #[] 30);refine zAT.own_mono (zHr (e := 30) (R := zDk) W) fun j q => ?_;exact ⟨by omega, by omega⟩
def SQ (t g mb mc bb bc k : Nat) (x : zA2) (w : World) (y : zB0) (l : List zAS) (ms : Value) (w' : World) : Prop := ∃ B', HK t g mb mc bb bc k x B' w' y ∧ zAT.own w' (rng B' w'.heap.size) [ms] l ∧ Below t w w'
theorem hk_start {t g k B : Nat} {x : zA2} {w : World} {a : zB0} {cs : List Value} {S : zAN} (h : zAz.own w S cs x) (hS : ∀ j, S j → t ≤ j ∧ j < B ∧ j ≠ g) (ht : t ≤ g) (hgB : g < B) (hB : B ≤ w.heap.size) (h1 : x.1[k]? = some a.1) (h2 : x.2[k]? = some a.2) (hg : w.heap[g]? = some (.cells cs.toArray 27 (0, 0))) :
    ∃ b f i c, cs = [sL (some ⟨b, 0, none⟩) x.1.length f, sL (some ⟨i, 0, none⟩) x.2.length c] ∧ HK t g b f i c k x B w a := by
 obtain ⟨s, r, y, o, rfl, m, l, A, p, d⟩ := h;obtain ⟨v1, rfl⟩ : ∃ v, s = [v] := List.length_eq_one_iff.1 (zBY.rd_len (zBY.own_rd m));obtain ⟨v2, rfl⟩ : ∃ v, r = [v] := List.length_eq_one_iff.1 (zCS.rd_len (zCS.own_rd l));obtain ⟨b, f, _, _, rfl, -⟩ := zBV m h1;obtain ⟨i, c, _, _, rfl, -⟩ := zBV l h2;have D := (List.getElem?_eq_some_iff.1 h1).1;have E := (List.getElem?_eq_some_iff.1 h2).1;have z : x.1.set k a.1 = x.1 := by
  apply List.ext_getElem?
  intro n;rw [List.getElem?_set];split
  ·rename_i q
   subst q;exact h1.symm
  ·rfl
 have C : x.2.set k a.2 = x.2 := by
  apply List.ext_getElem?
  intro n;rw [List.getElem?_set];split
  ·rename_i q
   subst q;exact h2.symm
  ·rfl
 exact ⟨b, f, i, c, rfl, hg, ht, hgB, hB, D, E, y, o, by rw [z]; exact m, by rw [C]; exact l, d, fun j hj => hS j (hj.elim (A j) (p j))⟩
end Go.Proofs.YtmaopldahnejdaaGreatDoor
