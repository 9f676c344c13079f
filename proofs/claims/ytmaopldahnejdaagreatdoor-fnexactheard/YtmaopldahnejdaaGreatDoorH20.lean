import Derived.Test.YtmaopldahnejdaaGreatDoorH00Box
import Derived.Test.YtmaopldahnejdaaGreatDoorH19
namespace Go.Proofs.YtmaopldahnejdaaGreatDoor
open Go.ChangeShapes Go.WideShapes Go.ChangeAt Go.RowKit
set_option linter.unusedVariables false
set_option linter.unusedSimpArgs false
theorem take_cell {rows : List Value} {a s i : Nat} {u : Value} (hi : i < s) (hl : a + s ≤ rows.length) : rows.take a ++ (((rows.drop a).take s).set i u ++ rows.drop (a + s)) = rows.set (a + i) u := by
 apply List.ext_getElem?
 intro n;simp only [List.getElem?_append, List.getElem?_set, List.getElem?_take, List.getElem?_drop, List.length_take, List.length_drop, List.length_set, List.length_append];repeat' split
 all_goals first
  | rfl
  | (exfalso; omega)
  | (congr 1; omega)
  | (rename_i h; simp; omega)
theorem slown_cell {α : Type} {e : TypeId} {R : Rep α} {w : World} {S : Foot} {v : Value} {xs : List α} {j : Nat} {x : α} (h : (slR e R).own w S [v] xs) (hx : xs[j]? = some x) :
    ∃ g f c Sj, v = sL (some ⟨g, 0, none⟩) xs.length f ∧ S g ∧ R.own w Sj c x ∧ Sub Sj S ∧ ¬ Sj g ∧ (∀ i u, c[i]? = some u → w.cell? ⟨g, j * R.size + i, none⟩ = some u) ∧ (∀ i, w.frozen? ⟨g, i, none⟩ = false) ∧
     ∀ i u U x', i < R.size → R.own w U (c.set i u) x' → (∀ k, U k → Sj k ∨ ¬ S k) → (slR e R).own (w.setCell ⟨g, j * R.size + i, none⟩ u) (fun k => S k ∨ U k) [v] (xs.set j x') := by
 obtain ⟨v', m, z, y, l, H, p, E⟩ := h;simp only [List.cons.injEq, and_true] at y;subst y;have A : j < xs.length := (List.getElem?_eq_some_iff.1 hx).1;obtain ⟨Sj, T, o, n, r, C, G⟩ := lown_focus E hx;have F : j * R.size + R.size ≤ xs.length * R.size := by
  have : (j + 1) * R.size ≤ xs.length * R.size := Nat.mul_le_mul_right _ A;rw [Nat.add_one_mul] at this;exact this
 have L := R.rd_len (R.own_rd o);have s := l.1;rcases l.2 with ⟨rfl, J⟩ | ⟨g, f, K, rfl, -⟩
 ·have : xs = [] := List.eq_nil_of_length_eq_zero J;subst this;simp at A
 have b := H g rfl;refine ⟨g, f, _, Sj, rfl, b.1, o, fun k hk => p k (n k hk), fun h => b.2 (n g h), fun i u hi => ?_, fun i => World.ownsRow.frozenAt l i, fun i u U x' hi ho hU => ?_⟩
 ·rw [List.getElem?_take] at hi;split at hi
  ·rw [List.getElem?_drop] at hi;rw [World.ownsRow.cellAt l _ (by omega)];exact hi
  ·cases hi
 ·obtain ⟨D, I⟩ := putC_row (cs := [u]) (off := j * R.size + i) l (by simp; omega);have d : ∀ k, k ≠ g → k < w.heap.size → (w.setCell ⟨g, j * R.size + i, none⟩ u).heap[k]? = w.heap[k]? := fun k hk hlk => I.block k hlk (fun e => hk (by simpa using e));refine ⟨_, m.set (j * R.size + i) u, fun k => z k ∨ U k, rfl, ?_, fun g' hg' => ?_, fun k hk => hk.elim (fun h => .inl (p k h)) .inr, ?_⟩
  ·rw [List.length_set, set_take_drop _ _ _ (by omega)];exact D
  ·have e : g' = g := by simpa [Value.ownBlock] using hg'.symm
   subst e;exact ⟨.inl b.1, fun h => h.elim b.2 fun h => (hU _ h).elim (fun q => b.2 (n _ q)) (fun q => q b.1)⟩
  ·have := G (w.setCell ⟨g, j * R.size + i, none⟩ u) _ x' U (fun k => z k ∨ U k) (fun k hk hlk => d k (fun e => b.2 (by rw [← e]; exact r k hk)) hlk) (R.own_keep ho fun k hk hlk => d k (fun e => (hU k hk).elim (fun q => b.2 (by rw [← e]; exact n k q)) (fun q => q (by rw [e]; exact b.1))) hlk) (fun k h1 h2 => (hU k h1).elim (fun q => C k q h2) (fun q => q (p k (r k h2)))) (fun k h => .inr h) (fun k h => .inl (r k h));rw [take_cell hi (by omega)] at this;exact this
def HK (t g mb mc bb bc k : Nat) (x : HouseD) (B : Nat) (w : World) (a : AccD) : Prop :=
 w.heap[g]? = some (.cells #[.slice (some ⟨mb, 0, none⟩) x.1.length mc, .slice (some ⟨bb, 0, none⟩) x.2.length bc] 27 (0, 0)) ∧ t ≤ g ∧ g < B ∧ B ≤ w.heap.size ∧ k < x.1.length ∧ k < x.2.length ∧ ∃ S1 S2, rowsR.own w S1 [.slice (some ⟨mb, 0, none⟩) x.1.length mc] (x.1.set k a.1) ∧ entsR.own w S2 [.slice (some ⟨bb, 0, none⟩) x.2.length bc] (x.2.set k a.2) ∧ Dis S1 S2 ∧ ∀ j, S1 j ∨ S2 j → t ≤ j ∧ j < B ∧ j ≠ g
section
variable {t g mb mc bb bc k B : Nat} {x : HouseD} {w w' : World} {a : AccD}
theorem hk_keep (h : HK t g mb mc bb bc k x B w a) (b : Bl w w') : HK t g mb mc bb bc k x B w' a := by
 obtain ⟨i, m, o, n, q, r, j, l, d, p, f, c⟩ := h;exact ⟨row_keep b i, m, o, Nat.le_trans n b.size, q, r, j, l, rowsR.own_keep d (keeps_below b), entsR.own_keep p (keeps_below b), f, c⟩
theorem hk_drew (h : HK t g mb mc bb bc k x B w a) : HK t g mb mc bb bc k x B w.drew a := hk_keep h (Below.refl _ _).drew
theorem hk_cells (h : HK t g mb mc bb bc k x B w a) : ∃ (l : Option Addr) (wc : Nat) (f : Option Addr) (d : Nat), (w.cell? ⟨g, 0, none⟩ = some (sL (some ⟨mb, 0, none⟩) x.1.length mc) ∧ w.cell? ⟨g, 1, none⟩ = some (sL (some ⟨bb, 0, none⟩) x.2.length bc)) ∧ w.cell? ⟨mb, k, none⟩ = some (sL l a.1.length wc) ∧ (w.cell? ⟨bb, k * 8, none⟩ = some (nI a.2.1) ∧ w.cell? ⟨bb, k * 8 + 1, none⟩ = some (nI a.2.2.1) ∧ w.cell? ⟨bb, k * 8 + 2, none⟩ = some (.bool a.2.2.2.1) ∧ w.cell? ⟨bb, k * 8 + 3, none⟩ = some (nI a.2.2.2.2.1) ∧ w.cell? ⟨bb, k * 8 + 4, none⟩ = some (nI a.2.2.2.2.2.1) ∧ w.cell? ⟨bb, k * 8 + 5, none⟩ = some (nI a.2.2.2.2.2.2.1) ∧ w.cell? ⟨bb, k * 8 + 6, none⟩ = some (nI a.2.2.2.2.2.2.2.1) ∧ w.cell? ⟨bb, k * 8 + 7, none⟩ = some (sL f a.2.2.2.2.2.2.2.2.length d)) ∧ (SlRd intR w l a.1 ∧ (∀ y ∈ a.1, In64 y)) ∧ (SlRd intR w f a.2.2.2.2.2.2.2.2 ∧ EntI a.2) ∧ (∀ i, w.frozen? ⟨mb, i, none⟩ = false) ∧ (∀ i, w.frozen? ⟨bb, i, none⟩ = false) ∧ (t ≤ mb ∧ mb < B) ∧ t ≤ bb ∧ bb < B := by
 obtain ⟨L, h2, h3, h4, Y, J, S1, S2, D, S, h9, b⟩ := h;obtain ⟨g1, p, H, Sj, s, q, j, p1, p2, X, I, -⟩ := slown_cell D (show (x.1.set k a.1)[k]? = some a.1 from by simp [Y]);obtain ⟨g2, o, c2, Tj, r, A, T, r1, r2, c, M, -⟩ := slown_cell S (show (x.2.set k a.2)[k]? = some a.2 from by simp [J]);simp only [Value.slice.injEq, Option.some.injEq, Addr.mk.injEq, and_true] at s r;obtain ⟨rfl, -, -⟩ := s;obtain ⟨rfl, -, -⟩ := r;obtain ⟨v, rfl⟩ : ∃ v, H = [v] := List.length_eq_one_iff.1 (intsR.rd_len (intsR.own_rd j));obtain ⟨l, wc, rfl⟩ := slown_val j;obtain ⟨v2, rfl, G, N, K, E, U, F, m⟩ := ent_own T;obtain ⟨f, d, rfl⟩ := slown_val m;have O := intsR.own_rd j;have V := intsR.own_rd m;obtain ⟨ax, cx, C, -, -, n⟩ := O;obtain ⟨ay, cy, z, -, -, R⟩ := V;simp only [List.cons.injEq, Value.slice.injEq, and_true, true_and] at C z;obtain ⟨rfl, -⟩ := C;obtain ⟨rfl, -⟩ := z;refine ⟨_, wc, _, d, cells_house L, ?_, ⟨c 0 _ rfl, c 1 _ rfl, c 2 _ rfl, c 3 _ rfl, c 4 _ rfl, c 5 _ rfl, c 6 _ rfl, c 7 _ rfl⟩, ⟨n, in64_of n⟩, ⟨R, G, N, K, E, U, F⟩, I, M, ⟨(b _ (.inl q)).1, (b _ (.inl q)).2.1⟩, (b _ (.inr A)).1, (b _ (.inr A)).2.1⟩;have := X 0 _ rfl;rw [show intsR.size = 1 from rfl, Nat.mul_one, Nat.add_zero] at this;exact this
theorem hk_e {B' : Nat} (h : HK t g mb mc bb bc k x B w a) (i : Nat) (hi : i < 8) (u : Value) (e' : EntryD) (hB : B ≤ B') (hB' : B' ≤ w.heap.size) (ho : ∀ Sj f, EntI a.2 → intsR.own w Sj [f] a.2.2.2.2.2.2.2.2 → ∃ U, entR.own w U ([nI a.2.1, nI a.2.2.1, .bool a.2.2.2.1, nI a.2.2.2.2.1, nI a.2.2.2.2.2.1, nI a.2.2.2.2.2.2.1, nI a.2.2.2.2.2.2.2.1, f].set i u) e' ∧ ∀ j, U j → Sj j ∨ (B ≤ j ∧ j < B')) :
    HK t g mb mc bb bc k x B' (w.setCell ⟨bb, k * 8 + i, none⟩ u) (a.1, e') := by
 obtain ⟨G, I, h3, h4, O, p, M, S2, y, J, l, c⟩ := h;obtain ⟨g2, r, c2, Tj, s, v, K, o, r2, r3, r4, A⟩ := slown_cell J (show (x.2.set k a.2)[k]? = some a.2 from by simp [p]);simp only [Value.slice.injEq, Option.some.injEq, Addr.mk.injEq, and_true] at s;obtain ⟨rfl, -, -⟩ := s;obtain ⟨f, rfl, D, H, F, z, L, C, E⟩ := ent_own K;obtain ⟨U, N, n⟩ := ho Tj f ⟨D, H, F, z, L, C⟩ E;have q := A i u U e' hi N (fun j b => (n j b).elim .inl fun q => .inr fun hs => by have := (c j (.inr hs)).2.1; omega);rw [List.set_set] at q;have m := c _ (.inr v);refine ⟨heap_setC G (fun e => m.2.2 e.symm), I, by omega, by simp; exact hB', O, p, M, _, own_setC y (fun hs => l _ hs v), q, ?_, ?_⟩
 ·intro j b d;rcases d with d | d
  ·exact l j b d
  ·rcases n j d with q | q
   ·exact l j b (o j q)
   ·have := (c j (.inl b)).2.1; omega
 ·intro j b;rcases b with b | b | b
  ·have := c j (.inl b); exact ⟨this.1, by omega, this.2.2⟩
  ·have := c j (.inr b); exact ⟨this.1, by omega, this.2.2⟩
  ·rcases n j b with q | q
   ·have := c j (.inr (o j q)); exact ⟨this.1, by omega, this.2.2⟩
   ·exact ⟨by omega, q.2, by omega⟩
theorem hk_w {B' : Nat} {U : Foot} {v : Value} {ws : List Int} (h : HK t g mb mc bb bc k x B w a) (hB : B ≤ B') (hB' : B' ≤ w.heap.size) (ho : intsR.own w U [v] ws) (hU : ∀ j, U j → B ≤ j ∧ j < B') :
    HK t g mb mc bb bc k x B' (w.setCell ⟨mb, k, none⟩ v) (ws, a.2) := by
 obtain ⟨y, A, h3, h4, o, s, S1, E, p, C, i, c⟩ := h;obtain ⟨g2, l, z, Tj, m, n, D, r1, r2, r3, r4, r⟩ := slown_cell p (show (x.1.set k a.1)[k]? = some a.1 from by simp [o]);simp only [Value.slice.injEq, Option.some.injEq, Addr.mk.injEq, and_true] at m;obtain ⟨rfl, -, -⟩ := m;obtain ⟨v2, rfl⟩ : ∃ v, z = [v] := List.length_eq_one_iff.1 (intsR.rd_len (intsR.own_rd D));have q := r 0 v U ws (by decide) ho (fun j b => .inr fun hs => by have := (c j (.inl hs)).2.1; have := hU j b; omega);rw [List.set_set, show intsR.size = 1 from rfl, Nat.mul_one, Nat.add_zero] at q;have f := c _ (.inl n);refine ⟨heap_setC y (fun e => f.2.2 e.symm), A, by omega, by simp; exact hB', o, s, _, E, q, own_setC C (fun hs => i _ n hs), ?_, ?_⟩
 ·intro j b d;rcases b with b | b
  ·exact i j b d
  ·have := (c j (.inr d)).2.1; have := hU j b; omega
 ·intro j b;rcases b with (b | b) | b
  ·have := c j (.inl b); exact ⟨this.1, by omega, this.2.2⟩
  ·have := hU j b; exact ⟨by omega, by omega, by omega⟩
  ·have := c j (.inr b); exact ⟨this.1, by omega, this.2.2⟩
theorem hk_w2 {B' q : Nat} {U : Foot} {v : Value} {ws : List Int} {W' : World} (h : HK t g mb mc bb bc k x B w a) (hB : B ≤ B') (hB' : B' ≤ w.heap.size) (hs : w.heap.size ≤ W'.heap.size) (ho : intsR.own w U [v] ws) (hU : ∀ j, U j → B ≤ j ∧ j < B' ∧ j ≠ q) (hq : B ≤ q) (hk : ∀ j, j ≠ q → W'.heap[j]? = (w.setCell ⟨mb, k, none⟩ v).heap[j]?) :
    HK t g mb mc bb bc k x B' W' (ws, a.2) := by
 obtain ⟨z, C, h3, h4, p, y, S1, F, r, D, i, c⟩ := h;obtain ⟨g2, l, A, Tj, n, o, E, r1, r2, r3, r4, s⟩ := slown_cell r (show (x.1.set k a.1)[k]? = some a.1 from by simp [p]);simp only [Value.slice.injEq, Option.some.injEq, Addr.mk.injEq, and_true] at n;obtain ⟨rfl, -, -⟩ := n;obtain ⟨v2, rfl⟩ : ∃ v, A = [v] := List.length_eq_one_iff.1 (intsR.rd_len (intsR.own_rd E));have m := s 0 v U ws (by decide) ho (fun j b => .inr fun hs => by have := (c j (.inl hs)).2.1; have := hU j b; omega);rw [List.set_set, show intsR.size = 1 from rfl, Nat.mul_one, Nat.add_zero] at m;have f := c _ (.inl o);refine ⟨(hk g (by omega)).trans (heap_setC z (fun e => f.2.2 e.symm)), C, by omega, Nat.le_trans hB' hs, p, y, _, F, rowsR.own_keep m (fun j b _ => hk j ?_), entsR.own_keep (own_setC D (fun hs => i _ o hs)) (fun j b _ => hk j ?_), ?_, ?_⟩
 ·rcases b with b | b
  ·have := (c j (.inl b)).2.1; omega
  ·exact (hU j b).2.2
 ·have := (c j (.inr b)).2.1; omega
 ·intro j b d;rcases b with b | b
  ·exact i j b d
  ·have := (c j (.inr d)).2.1; have := hU j b; omega
 ·intro j b;rcases b with (b | b) | b
  ·have := c j (.inl b); exact ⟨this.1, by omega, this.2.2⟩
  ·have := hU j b; exact ⟨by omega, by omega, by omega⟩
  ·have := c j (.inr b); exact ⟨this.1, by omega, this.2.2⟩
theorem hk_o {n : Int} (h : HK t g mb mc bb bc k x B w a) (hn : In64 n) : HK t g mb mc bb bc k x B (w.setCell ⟨bb, k * 8, none⟩ (nI n)) (a.1, (n, a.2.2)) :=
 hk_e h 0 (by decide) _ _ (Nat.le_refl _) h.2.2.2.1 fun Sj v2 i o => ⟨Sj, own_ent hn i.2.1 i.2.2.1 i.2.2.2.1 i.2.2.2.2.1 i.2.2.2.2.2 o, fun _ q => .inl q⟩
theorem hk_s {n : Int} (h : HK t g mb mc bb bc k x B w a) (hn : In64 n) : HK t g mb mc bb bc k x B (w.setCell ⟨bb, k * 8 + 1, none⟩ (nI n)) (a.1, (a.2.1, n, a.2.2.2)) :=
 hk_e h 1 (by decide) _ _ (Nat.le_refl _) h.2.2.2.1 fun Sj v2 i o => ⟨Sj, own_ent i.1 hn i.2.2.1 i.2.2.2.1 i.2.2.2.2.1 i.2.2.2.2.2 o, fun _ q => .inl q⟩
theorem hk_b {b : Bool} (h : HK t g mb mc bb bc k x B w a) : HK t g mb mc bb bc k x B (w.setCell ⟨bb, k * 8 + 2, none⟩ (.bool b)) (a.1, (a.2.1, a.2.2.1, b, a.2.2.2.2)) :=
 hk_e h 2 (by decide) _ _ (Nat.le_refl _) h.2.2.2.1 fun Sj v2 i o => ⟨Sj, own_ent i.1 i.2.1 i.2.2.1 i.2.2.2.1 i.2.2.2.2.1 i.2.2.2.2.2 o, fun _ q => .inl q⟩
theorem hk_k {n : Int} (h : HK t g mb mc bb bc k x B w a) (hn : In64 n) : HK t g mb mc bb bc k x B (w.setCell ⟨bb, k * 8 + 3, none⟩ (nI n)) (a.1, (a.2.1, a.2.2.1, a.2.2.2.1, n, a.2.2.2.2.2)) :=
 hk_e h 3 (by decide) _ _ (Nat.le_refl _) h.2.2.2.1 fun Sj v2 i o => ⟨Sj, own_ent i.1 i.2.1 hn i.2.2.2.1 i.2.2.2.2.1 i.2.2.2.2.2 o, fun _ q => .inl q⟩
theorem hk_f {n : Int} (h : HK t g mb mc bb bc k x B w a) (hn : In64 n) : HK t g mb mc bb bc k x B (w.setCell ⟨bb, k * 8 + 4, none⟩ (nI n)) (a.1, (a.2.1, a.2.2.1, a.2.2.2.1, a.2.2.2.2.1, n, a.2.2.2.2.2.2)) :=
 hk_e h 4 (by decide) _ _ (Nat.le_refl _) h.2.2.2.1 fun Sj v2 i o => ⟨Sj, own_ent i.1 i.2.1 i.2.2.1 hn i.2.2.2.2.1 i.2.2.2.2.2 o, fun _ q => .inl q⟩
theorem hk_l {n : Int} (h : HK t g mb mc bb bc k x B w a) (hn : In64 n) : HK t g mb mc bb bc k x B (w.setCell ⟨bb, k * 8 + 5, none⟩ (nI n)) (a.1, (a.2.1, a.2.2.1, a.2.2.2.1, a.2.2.2.2.1, a.2.2.2.2.2.1, n, a.2.2.2.2.2.2.2)) :=
 hk_e h 5 (by decide) _ _ (Nat.le_refl _) h.2.2.2.1 fun Sj v2 i o => ⟨Sj, own_ent i.1 i.2.1 i.2.2.1 i.2.2.2.1 hn i.2.2.2.2.2 o, fun _ q => .inl q⟩
theorem hk_m {n : Int} (h : HK t g mb mc bb bc k x B w a) (hn : In64 n) : HK t g mb mc bb bc k x B (w.setCell ⟨bb, k * 8 + 6, none⟩ (nI n)) (a.1, (a.2.1, a.2.2.1, a.2.2.2.1, a.2.2.2.2.1, a.2.2.2.2.2.1, a.2.2.2.2.2.2.1, n, a.2.2.2.2.2.2.2.2)) :=
 hk_e h 6 (by decide) _ _ (Nat.le_refl _) h.2.2.2.1 fun Sj v2 i o => ⟨Sj, own_ent i.1 i.2.1 i.2.2.1 i.2.2.2.1 i.2.2.2.2.1 hn o, fun _ q => .inl q⟩
theorem hk_d {B' : Nat} {U : Foot} {v : Value} {d : List Int} (h : HK t g mb mc bb bc k x B w a) (hB : B ≤ B') (hB' : B' ≤ w.heap.size) (ho : intsR.own w U [v] d) (hU : ∀ j, U j → B ≤ j ∧ j < B') : HK t g mb mc bb bc k x B' (w.setCell ⟨bb, k * 8 + 7, none⟩ v) (a.1, (a.2.1, a.2.2.1, a.2.2.2.1, a.2.2.2.2.1, a.2.2.2.2.2.1, a.2.2.2.2.2.2.1, a.2.2.2.2.2.2.2.1, d)) :=
 hk_e h 7 (by decide) _ _ hB hB' fun Sj v2 i o => ⟨U, own_ent i.1 i.2.1 i.2.2.1 i.2.2.2.1 i.2.2.2.2.1 i.2.2.2.2.2 ho, fun j q => .inr (hU j q)⟩
theorem hk_nil (h : HK t g mb mc bb bc k x B w a) : HK t g mb mc bb bc k x B (w.setCell ⟨bb, k * 8 + 7, none⟩ (sL none 0 0)) (a.1, (a.2.1, a.2.2.1, a.2.2.2.1, a.2.2.2.2.1, a.2.2.2.2.2.1, a.2.2.2.2.2.2.1, a.2.2.2.2.2.2.2.1, [])) :=
 hk_d (U := fun _ => False) h (Nat.le_refl _) h.2.2.2.1 (own_zero w _) fun _ q => q.elim
theorem hk_end (h : HK t g mb mc bb bc k x B w a) : houseR.own w (fun j => t ≤ j ∧ j < B ∧ j ≠ g) [sL (some ⟨mb, 0, none⟩) x.1.length mc, sL (some ⟨bb, 0, none⟩) x.2.length bc] (x.1.set k a.1, x.2.set k a.2) := by
 obtain ⟨h1, h2, h3, h4, h5, h6, f, i, c, l, d, b⟩ := h;exact ⟨_, _, f, i, rfl, c, l, fun j hj => b j (.inl hj), fun j hj => b j (.inr hj), d⟩
theorem hk_oth {q o : Nat} {v : Value} (h : HK t g mb mc bb bc k x B w a) (hq : B ≤ q) : HK t g mb mc bb bc k x B (w.setCell ⟨q, o, none⟩ v) a := by
 obtain ⟨f, l, n, m, r, s, i, j, c, p, d, b⟩ := h;exact ⟨heap_setC f (by omega), l, n, by simp; exact m, r, s, i, j, own_setC c (fun hs => by have := (b q (.inl hs)).2.1; omega), own_setC p (fun hs => by have := (b q (.inr hs)).2.1; omega), d, b⟩
theorem hk_ei (h : HK t g mb mc bb bc k x B w a) : EntI a.2 := by
 obtain ⟨_, _, _, _, _, _, _, _, ⟨_, e⟩, _⟩ := hk_cells h;exact e
theorem hk_b_lt (h : HK t g mb mc bb bc k x B w a) : t ≤ bb ∧ bb < B ∧ B ≤ w.heap.size := by
 obtain ⟨_, _, _, _, _, _, _, _, _, _, _, _, b⟩ := hk_cells h;exact ⟨b.1, b.2, h.2.2.2.1⟩
theorem hk_fm (h : HK t g mb mc bb bc k x B w a) : w.frozen? ⟨mb, k, none⟩ = false := by
 obtain ⟨_, _, _, _, _, _, _, _, _, f, _⟩ := hk_cells h;exact f k
theorem hk_ne (h : HK t g mb mc bb bc k x B w a) : ¬ g = mb ∧ ¬ bb = mb := by
 obtain ⟨h1, h2, h3, h4, q, n, S1, S2, l, o, m, b⟩ := h;obtain ⟨g1, d, c1, Sj, j, f, -⟩ := slown_cell l (show (x.1.set k a.1)[k]? = some a.1 from by simp [q]);obtain ⟨g2, c, c2, Tj, i, p, -⟩ := slown_cell o (show (x.2.set k a.2)[k]? = some a.2 from by simp [n]);simp only [Value.slice.injEq, Option.some.injEq, Addr.mk.injEq, and_true] at j i;obtain ⟨rfl, -, -⟩ := j;obtain ⟨rfl, -, -⟩ := i;exact ⟨fun e => (b _ (.inl f)).2.2 e.symm, fun e => m _ f (e ▸ p)⟩
theorem hk_tw (h : HK t g mb mc bb bc k x B w a) : t ≤ w.heap.size := Nat.le_trans h.2.1 (Nat.le_trans (Nat.le_of_lt h.2.2.1) h.2.2.2.1)
theorem hk_m_lt (h : HK t g mb mc bb bc k x B w a) : t ≤ mb ∧ mb < B ∧ B ≤ w.heap.size := by
 obtain ⟨_, _, _, _, _, _, _, _, _, _, _, b, _⟩ := hk_cells h;exact ⟨b.1, b.2, h.2.2.2.1⟩
theorem hk_fg {c : Int} (h : HK t g mb mc bb bc k x B w a) (hw : whoB a.2.1 a.2.2.1 = true) (hc : betw c 0 3 = true) :
    HK t g mb mc bb bc k x B (fgW w bb (k * 8) a.2.1 a.2.2.1 c) (a.1, (fgO a.2.1 c, fgS a.2.2.1 c, a.2.2.2)) ∧ Below t w (fgW w bb (k * 8) a.2.1 a.2.2.1 c) ∧ ∀ q ob, B ≤ q → w.heap[q]? = some ob → (fgW w bb (k * 8) a.2.1 a.2.2.1 c).heap[q]? = some ob := by
 obtain ⟨f, l⟩ := fg_in hw hc;obtain ⟨i, d⟩ := fg_small c hw;obtain ⟨b, b2, b3⟩ := hk_b_lt h;unfold fgW;rw [l];rw [f] at i ⊢;by_cases q : a.2.1 = c
 ·rw [if_pos q, if_pos q];exact ⟨hk_s (hk_o h (by constructor <;> decide)) d, below_setC (below_setC (Below.refl _ _) b) b, fun j ob hj hr => heap_setC (heap_setC hr (by omega)) (by omega)⟩
 ·rw [if_neg q, if_neg q];exact ⟨hk_s h d, below_setC (Below.refl _ _) b, fun j ob hj hr => heap_setC hr (by omega)⟩
theorem hk_free (h : HK t g mb mc bb bc k x B w a) : HK t g mb mc bb bc k x B ((((((((w.setCell ⟨bb, k * 8, none⟩ (nI a.2.1)).setCell ⟨bb, k * 8 + 1, none⟩ (nI a.2.2.1)).setCell ⟨bb, k * 8 + 2, none⟩ (.bool false)).setCell ⟨bb, k * 8 + 3, none⟩ (nI 0)).setCell ⟨bb, k * 8 + 4, none⟩ (nI 0)).setCell ⟨bb, k * 8 + 5, none⟩ (nI 0)).setCell ⟨bb, k * 8 + 6, none⟩ (nI 0)).setCell ⟨bb, k * 8 + 7, none⟩ (sL none 0 0)) (a.1, freeE a.2) :=
 hk_nil (hk_m (hk_l (hk_f (hk_k (hk_b (hk_s (hk_o h (hk_ei h).1) (hk_ei h).2.1)) i64_0) i64_0) i64_0) i64_0)
theorem free_below {w0 : World} {v0 v1 v2 v3 v4 v5 v6 v7 : Value} {n0 n1 n2 n3 n4 n5 n6 n7 : Nat} (b : Below t w0 w) (hb : t ≤ bb) : Below t w0 ((((((((w.setCell ⟨bb, n0, none⟩ v0).setCell ⟨bb, n1, none⟩ v1).setCell ⟨bb, n2, none⟩ v2).setCell ⟨bb, n3, none⟩ v3).setCell ⟨bb, n4, none⟩ v4).setCell ⟨bb, n5, none⟩ v5).setCell ⟨bb, n6, none⟩ v6).setCell ⟨bb, n7, none⟩ v7) :=
 below_setC (below_setC (below_setC (below_setC (below_setC (below_setC (below_setC (below_setC b hb) hb) hb) hb) hb) hb) hb) hb
theorem free_row {q : Nat} {ob : Obj} {v0 v1 v2 v3 v4 v5 v6 v7 : Value} {n0 n1 n2 n3 n4 n5 n6 n7 : Nat} (h : w.heap[q]? = some ob) (hb : q ≠ bb) : ((((((((w.setCell ⟨bb, n0, none⟩ v0).setCell ⟨bb, n1, none⟩ v1).setCell ⟨bb, n2, none⟩ v2).setCell ⟨bb, n3, none⟩ v3).setCell ⟨bb, n4, none⟩ v4).setCell ⟨bb, n5, none⟩ v5).setCell ⟨bb, n6, none⟩ v6).setCell ⟨bb, n7, none⟩ v7).heap[q]? = some ob :=
 heap_setC (heap_setC (heap_setC (heap_setC (heap_setC (heap_setC (heap_setC (heap_setC h hb) hb) hb) hb) hb) hb) hb) hb
theorem free_own {α : Type} {R : Rep α} {S : Foot} {cs : List Value} {y : α} {v0 v1 v2 v3 v4 v5 v6 v7 : Value} {n0 n1 n2 n3 n4 n5 n6 n7 : Nat} (h : R.own w S cs y) (hb : ¬ S bb) : R.own ((((((((w.setCell ⟨bb, n0, none⟩ v0).setCell ⟨bb, n1, none⟩ v1).setCell ⟨bb, n2, none⟩ v2).setCell ⟨bb, n3, none⟩ v3).setCell ⟨bb, n4, none⟩ v4).setCell ⟨bb, n5, none⟩ v5).setCell ⟨bb, n6, none⟩ v6).setCell ⟨bb, n7, none⟩ v7) S cs y :=
 own_setC (own_setC (own_setC (own_setC (own_setC (own_setC (own_setC (own_setC h hb) hb) hb) hb) hb) hb) hb) hb
end
theorem belowT {t : Nat} {w w1 w2 : World} (h : Below t w w1) (h2 : Bl w1 w2) (ht : t ≤ w1.heap.size) : Below t w w2 := h.trans (h2.mono ht)
theorem msgs_one {B : Nat} {U : Foot} {W : World} {cm : List Value} {m : MsgD} (hm : msgR.own W U cm m) (hU : ∀ j, U j → B ≤ j ∧ j < W.heap.size) (hB : B ≤ W.heap.size) : msgsR.own (W.alloc (.cells cm.toArray 30)) (rng B (W.alloc (.cells cm.toArray 30)).heap.size) [sL (some ⟨W.heap.size, 0, none⟩) 1 1] [m] := by
 have al := alloc_len W (.cells cm.toArray 30);refine msgsR.own_mono (own_one (e := 30) (R := msgR) (by decide) hm (fun j q => (hU j q).2)) fun j q => ?_;rcases q with q | q
 ·have := hU j q; exact ⟨this.1, by omega⟩
 ·exact ⟨by omega, by omega⟩
theorem msgs_nil {B : Nat} {W : World} (hB : B ≤ W.heap.size) : msgsR.own (W.alloc (.cells #[] 30)) (rng B (W.alloc (.cells #[] 30)).heap.size) [sL (some ⟨W.heap.size, 0, none⟩) 0 0] [] := by
 have al := alloc_len W (.cells #[] 30);refine msgsR.own_mono (own_nil (e := 30) (R := msgR) W) fun j q => ?_;exact ⟨by omega, by omega⟩
def SQ (t g mb mc bb bc k : Nat) (x : HouseD) (w : World) (y : AccD) (l : List MsgD) (ms : Value) (w' : World) : Prop := ∃ B', HK t g mb mc bb bc k x B' w' y ∧ msgsR.own w' (rng B' w'.heap.size) [ms] l ∧ Below t w w'
theorem hk_start {t g k B : Nat} {x : HouseD} {w : World} {a : AccD} {cs : List Value} {S : Foot} (h : houseR.own w S cs x) (hS : ∀ j, S j → t ≤ j ∧ j < B ∧ j ≠ g) (ht : t ≤ g) (hgB : g < B) (hB : B ≤ w.heap.size) (h1 : x.1[k]? = some a.1) (h2 : x.2[k]? = some a.2) (hg : w.heap[g]? = some (.cells cs.toArray 27 (0, 0))) :
    ∃ i f b c, cs = [sL (some ⟨i, 0, none⟩) x.1.length f, sL (some ⟨b, 0, none⟩) x.2.length c] ∧ HK t g i f b c k x B w a := by
 obtain ⟨p, s, A, E, rfl, l, m, z, D, d⟩ := h;obtain ⟨v1, rfl⟩ : ∃ v, p = [v] := List.length_eq_one_iff.1 (rowsR.rd_len (rowsR.own_rd l));obtain ⟨v2, rfl⟩ : ∃ v, s = [v] := List.length_eq_one_iff.1 (entsR.rd_len (entsR.own_rd m));obtain ⟨i, f, _, _, rfl, -⟩ := slown_cell l h1;obtain ⟨b, c, _, _, rfl, -⟩ := slown_cell m h2;have o := (List.getElem?_eq_some_iff.1 h1).1;have r := (List.getElem?_eq_some_iff.1 h2).1;have C : x.1.set k a.1 = x.1 := by
  apply List.ext_getElem?
  intro n;rw [List.getElem?_set];split
  ·rename_i q
   subst q;exact h1.symm
  ·rfl
 have y : x.2.set k a.2 = x.2 := by
  apply List.ext_getElem?
  intro n;rw [List.getElem?_set];split
  ·rename_i q
   subst q;exact h2.symm
  ·rfl
 exact ⟨i, f, b, c, rfl, hg, ht, hgB, hB, o, r, A, E, by rw [C]; exact l, by rw [y]; exact m, d, fun j hj => hS j (hj.elim (z j) (D j))⟩
theorem fin_who {P : Int → Int → Prop} (h : ∀ o : Fin 5, ∀ s : Fin 16, whoB ((o.val : Int) - 1) (s.val : Int) = true → P ((o.val : Int) - 1) (s.val : Int)) {o s : Int} (hw : whoB o s = true) : P o s := by
 have hb := who_bd hw;have q := h ⟨(o + 1).toNat, by omega⟩ ⟨s.toNat, by omega⟩;have a : (((o + 1).toNat : Nat) : Int) - 1 = o := by omega
 have b : ((s.toNat : Nat) : Int) = s := by omega
 simp only [a, b] at q;exact q hw
theorem fin_c {n : Nat} {P : Int → Prop} (h : ∀ c : Fin n, P (c.val : Int)) {c : Int} (h0 : 0 ≤ c) (h1 : c < n) : P c := by
 have q := h ⟨c.toNat, by omega⟩;rw [show ((c.toNat : Nat) : Int) = c from by omega] at q;exact q
theorem ho_zero_f : ∀ o : Fin 5, ∀ s : Fin 16, whoB ((o.val : Int) - 1) (s.val : Int) = true → (hoI ((o.val : Int) - 1) (s.val : Int)).length = 0 → (s.val : Int) = 0 := by decide +kernel
theorem ho_zero {o s : Int} (h : whoB o s = true) : (hoI o s).length = 0 → s = 0 := fin_who (P := fun o s => (hoI o s).length = 0 → s = 0) ho_zero_f h
theorem with_or_f : ∀ s : Fin 16, ∀ c : Fin 4, withI (s.val : Int) (c.val : Int) = orI (s.val : Int) (c.val : Int) := by decide +kernel
theorem with_or {s c : Int} (h0 : 0 ≤ s) (h1 : s ≤ 15) (c0 : 0 ≤ c) (c3 : c ≤ 3) : withI s c = orI s c :=
 fin_c (n := 16) (P := fun s => withI s c = orI s c) (fun s => fin_c (n := 4) (P := fun c => withI (s.val : Int) c = orI (s.val : Int) c) (with_or_f s) c0 (by omega)) h0 (by omega)
theorem or_small_fS : ∀ s : Fin 16, ∀ c : Fin 4, 0 ≤ orI (s.val : Int) (c.val : Int) ∧ orI (s.val : Int) (c.val : Int) ≤ 15 := by decide +kernel
theorem or_bd {s c : Int} (h0 : 0 ≤ s) (h1 : s ≤ 15) (c0 : 0 ≤ c) (c3 : c ≤ 3) : 0 ≤ orI s c ∧ orI s c ≤ 15 :=
 fin_c (n := 16) (P := fun s => 0 ≤ orI s c ∧ orI s c ≤ 15) (fun s => fin_c (n := 4) (P := fun c => 0 ≤ orI (s.val : Int) c ∧ orI (s.val : Int) c ≤ 15) (or_small_fS s) c0 (by omega)) h0 (by omega)
theorem or_smallS {o s f : Int} (h : whoB o s = true) (hf : betw f 0 3 = true) : In64 (orI (fgS s f) f) := by
 have a : 0 ≤ f ∧ f ≤ 3 := by simpa [betw] using hf
 have q := who_bd (fg_who f h);have r := or_bd q.2.2.1 q.2.2.2 a.1 a.2;exact ⟨by omega, by omega⟩
theorem ans_held_f : ∀ o : Fin 5, ∀ s : Fin 16, whoB ((o.val : Int) - 1) (s.val : Int) = true → ∀ c : Fin 4, holB ((o.val : Int) - 1) (s.val : Int) (c.val : Int) = true → (if (o.val : Int) - 1 = (c.val : Int) then ((-1 : Int), withI (s.val : Int) (c.val : Int)) else ((o.val : Int) - 1, (s.val : Int))) = (fgO ((o.val : Int) - 1) (c.val : Int), orI (fgS (s.val : Int) (c.val : Int)) (c.val : Int)) := by decide +kernel
theorem ans_held {o s c : Int} (h : whoB o s = true) (c0 : 0 ≤ c) (c3 : c ≤ 3) (hh : holB o s c = true) : (if o = c then ((-1 : Int), withI s c) else (o, s)) = (fgO o c, orI (fgS s c) c) :=
 fin_who (P := fun o s => ∀ c : Fin 4, holB o s (c.val : Int) = true → (if o = (c.val : Int) then ((-1 : Int), withI s (c.val : Int)) else (o, s)) = (fgO o (c.val : Int), orI (fgS s (c.val : Int)) (c.val : Int))) ans_held_f h ⟨c.toNat, by omega⟩ (by rw [show ((c.toNat : Nat) : Int) = c from by omega]; exact hh) |> fun q => by
  rw [show ((c.toNat : Nat) : Int) = c from by omega] at q;exact q
theorem sp_mem_f : ∀ o : Fin 5, ∀ s : Fin 16, whoB ((o.val : Int) - 1) (s.val : Int) = true → ∀ c : Fin 6, decide ((c.val : Int) ∈ hoI ((o.val : Int) - 1) (s.val : Int)) = holB ((o.val : Int) - 1) (s.val : Int) (c.val : Int) := by decide +kernel
theorem sp_mem {o s c : Int} (h : whoB o s = true) (c0 : 0 ≤ c) (c5 : c ≤ 5) : decide (c ∈ hoI o s) = holB o s c :=
 fin_c (n := 6) (P := fun c => decide (c ∈ hoI o s) = holB o s c) (fin_who (P := fun o s => ∀ c : Fin 6, decide ((c.val : Int) ∈ hoI o s) = holB o s (c.val : Int)) sp_mem_f h) c0 (by omega)
theorem sp_in_f : ∀ o : Fin 5, ∀ s : Fin 16, whoB ((o.val : Int) - 1) (s.val : Int) = true → ∀ x ∈ hoI ((o.val : Int) - 1) (s.val : Int), 0 ≤ x ∧ x ≤ 3 := by decide +kernel
theorem ho_64 {o s : Int} (h : whoB o s = true) : ∀ x ∈ hoI o s, In64 x := fun x hx => by
 have q := fin_who (P := fun o s => ∀ x ∈ hoI o s, 0 ≤ x ∧ x ≤ 3) sp_in_f h x hx;exact ⟨by omega, by omega⟩
theorem ask_f : ∀ o : Fin 5, ∀ s : Fin 16, whoB ((o.val : Int) - 1) (s.val : Int) = true → ∀ c : Fin 6, (hoI ((o.val : Int) - 1) (s.val : Int)).filter (fun y => decide (y ≠ (c.val : Int))) = hoI (fgO ((o.val : Int) - 1) (c.val : Int)) (fgS (s.val : Int) (c.val : Int)) := by decide +kernel
theorem ask_all {o s c : Int} (h : whoB o s = true) (c0 : 0 ≤ c) (c5 : c ≤ 5) : (hoI o s).filter (fun y => decide (y ≠ c)) = hoI (fgO o c) (fgS s c) :=
 fin_c (n := 6) (P := fun c => (hoI o s).filter (fun y => decide (y ≠ c)) = hoI (fgO o c) (fgS s c)) (fin_who (P := fun o s => ∀ c : Fin 6, (hoI o s).filter (fun y => decide (y ≠ (c.val : Int))) = hoI (fgO o (c.val : Int)) (fgS s (c.val : Int))) ask_f h) c0 (by omega)
theorem ask_one_f : ∀ o : Fin 5, ∀ c : Fin 6, (if 0 ≤ (o.val : Int) - 1 then [(o.val : Int) - 1] else []).filter (fun y => decide (y ≠ (c.val : Int))) = (if 0 ≤ fgO ((o.val : Int) - 1) (c.val : Int) then [fgO ((o.val : Int) - 1) (c.val : Int)] else []) := by decide +kernel
theorem ask_one {o s c : Int} (h : whoB o s = true) (c0 : 0 ≤ c) (c5 : c ≤ 5) : (if 0 ≤ o then [o] else []).filter (fun y => decide (y ≠ c)) = (if 0 ≤ fgO o c then [fgO o c] else []) := by
 have hb := who_bd h;have q := ask_one_f ⟨(o + 1).toNat, by omega⟩ ⟨c.toNat, by omega⟩;have a : (((o + 1).toNat : Nat) : Int) - 1 = o := by omega
 have b : ((c.toNat : Nat) : Int) = c := by omega
 simp only [a, b] at q;exact q
def askL (o s kind c : Int) : List Int := (if kind = 1 ∨ kind = 3 then (if 0 ≤ o then [o] else []) else hoI o s).filter (fun y => decide (y ≠ c))
theorem askL_eq {o s kind c : Int} (h : whoB o s = true) (c0 : 0 ≤ c) (c5 : c ≤ 5) : askL o s kind c = askA o s kind c := by
 unfold askL askA;split
 ·exact ask_one h c0 c5
 ·exact ask_all h c0 c5
def hearS (k : Int) (a : AccD) (m : MsgD) : AccD × List MsgD × Int := match stopA a m with
 | some c => (a, [], c)
 | none => ((hearA k a m).1, (hearA k a m).2, 1)
theorem free_rest {e : EntryD} (h : entB e = true) (hb : e.2.2.1 = false) : e = (e.1, e.2.1, false, 0, 0, 0, 0, []) := by
 obtain ⟨o, s, b, kd, f, l, mk, d⟩ := e;simp only at hb
 subst hb;rw [eb] at h;simp only [Bool.false_eq_true, if_false, restB, Bool.and_eq_true, decide_eq_true_eq] at h;obtain ⟨-, rfl, rfl, rfl, rfl, h⟩ := h;rw [List.eq_nil_of_length_eq_zero h]
end Go.Proofs.YtmaopldahnejdaaGreatDoor
