import Derived.Test.YtcocbafhcpdheaaGreatDoorT00Box
import Derived.Test.YtcocbafhcpdheaaGreatDoorT09
import Derived.Test.YtcocbafhcpdheaaGreatDoorT12
namespace Go.Proofs.YtcocbafhcpdheaaGreatDoor
set_option maxHeartbeats 2000000
open Go.ChangeShapes Go.WideShapes Go.ChangeAt Go.RowKit Go.Shelf
set_option linter.unusedVariables false
open Go.ChangeShapes Go.WideShapes Go.ChangeAt Go.RowKit
theorem in64_w {k : Int} (h0 : 0 ≤ k) (h1 : k ≤ 1152921504606846976) : zAN k := by constructor <;> omega
theorem cnt_len (xs : List (Int × Int × List Int)) : xs.length ≤ zAt zCz xs := by
 induction xs with
 | nil => exact Nat.zero_le _
 | cons x xs ih =>
  simp only [zAt, List.map_cons, List.sum_cons, List.length_cons] at ih ⊢;have : 1 ≤ zCz.cE x := by show 1 ≤ 1 + _; omega
  omega
theorem zJg (k : Int) (w : World) :
    Calls Tryz.prog 139 #[.slice none 0 0, .int .i64 k] w fun e' w' => e' = .returned (.int .i64 k) ∧ w' = w := by
 go_enter Tryz.func139, Tryz.ntmps139;go_wp2;refine wp_loop_rounds 1 ?_;rw [rounds_succ];go_wp2;go_ret
 exact ⟨rfl, rfl⟩
theorem zJh (S : zBo) (v : Value) (k : Int) (xs : List (Int × Int × List Int)) (w : World) (h0 : 0 ≤ k) (h1 : k ≤ 288230376151711744) (hm : zAt zCz xs ≤ 288230376151711744) (h : zBh.own w S [v] xs) :
    Calls Tryz.prog 139 #[v, .int .i64 k] w fun e' d => e' = .returned (.int .i64 (k + zAt zCz xs)) ∧ zBh.own d S [v] (zAT zCz k xs) ∧ Chg S w d := by
 have rA := cnt_len xs;rcases zCg h with ⟨rfl, rfl⟩ | ⟨G, z, rfl, hG⟩
 ·exact (zJg k w).mono fun e d ⟨e1, e2⟩ => ⟨by simpa [zAt] using e1, by rw [e2]; exact h, by rw [e2]; exact Chg.refl _ _⟩
 go_enter Tryz.func139, Tryz.ntmps139;go_wp2;go_loopw [1, 5] (fun q i wr => ∃ j : Nat, j ≤ xs.length ∧ i = .int .i64 j ∧ q = .int .i64 (k + zAt zCz (xs.take j)) ∧ zBh.own wr S [.slice (some ⟨G, 0, none⟩) xs.length z] (zCP zCz k xs j) ∧ Chg S w wr)
  (fun _ i _ => xs.length - (intOf i).toNat)
 case atStart => exact ⟨0, Nat.zero_le _, rfl, by simp [zAt], by rw [zCv]; exact h, Chg.refl _ _⟩
 case round =>
  obtain ⟨j, hj, rfl, rfl, E, hs⟩ := hrel;by_cases J : j < xs.length
  ·have cA : (j : Int) < (xs.length : Int) := by omega
   obtain ⟨x, p⟩ : ∃ x, xs[j]? = some x := ⟨_, List.getElem?_eq_getElem J⟩;have HT : Hid (zAt zCz (xs.take (j + 1)) = zAt zCz (xs.take j) + (1 + (1 + zAt zBa x.2.2))) := zCf (M := zCz) p;have hT : zAt zCz (xs.take j) + (1 + (1 + zAt zBa x.2.2)) ≤ zAt zCz xs := zCE (M := zCz) p;have s : Hid _ := zCw (M := zCz) (k := k) p;obtain ⟨g, gA, l, Sj, T, c, hv, A, a, b, H, n, K, s2, s3, C, s5, f⟩ := zCl E (zCW p);simp only [Value.slice.injEq, Option.some.injEq, Addr.mk.injEq, and_true] at hv;obtain ⟨rfl, R⟩ := hv;obtain ⟨vd, rfl, -, -, r⟩ := zN5 n;obtain ⟨D, F, rfl⟩ := zBx r;have q0 : wr.cell? ⟨G, j * 3, none⟩ = some (.int .i64 x.1) := by rw [cell_of_row wr G _ l _ (0, 0) a]; exact b 0 (by decide)
   have q1 : wr.cell? ⟨G, j * 3 + 1, none⟩ = some (.int .i64 x.2.1) := by rw [cell_of_row wr G _ l _ (0, 0) a]; exact b 1 (by decide)
   have q2 : wr.cell? ⟨G, j * 3 + 2, none⟩ = some (.slice D x.2.2.length F) := by rw [cell_of_row wr G _ l _ (0, 0) a]; exact b 2 (by decide)
   have f0 : wr.frozen? ⟨G, j * 3, none⟩ = false := frozen_of_row wr G _ _ _ a;have f1 : wr.frozen? ⟨G, j * 3 + 1, none⟩ = false := frozen_of_row wr G _ _ _ a;have I : j * 3 + 2 < l.size := by
    have := b 2 (by decide);exact (Array.getElem?_eq_some_iff.1 (this.trans rfl)).1
   clear R H;generalize bA : k + (zAt zCz (xs.take j) : Int) = kk at s ⊢;have U : 0 ≤ kk ∧ kk ≤ 576460752303423488 := by omega
   have HC : Hid (∀ d, Chg Sj ((wr.setCell ⟨G, j * 3, none⟩ (.int .i64 kk)).setCell ⟨G, j * 3 + 1, none⟩ (.int .i64 (kk + 1))) d → zA0.own d Sj [.slice D x.2.2.length F] (zAT zBa (kk + 1 + 1) x.2.2) → zBh.own d S [.slice (some ⟨G, 0, none⟩) xs.length z] (zCP zCz k xs (j + 1)) ∧ Chg S wr d) := by
    intro d L O;have y1 := heap_setCell_same wr G (j * 3) _ _ (.int .i64 kk) a;have y2 := heap_setCell_same _ G (j * 3 + 1) _ _ (.int .i64 (kk + 1)) y1;have N : G < wr.heap.size := (ltH a)
    have c1 : Chg S wr ((wr.setCell ⟨G, j * 3, none⟩ (.int .i64 kk)).setCell ⟨G, j * 3 + 1, none⟩ (.int .i64 (kk + 1))) := ⟨rfl, rfl, rfl, by simp, fun i o hn => by
     have : i ≠ G := fun e => hn (by rw [e]; exact A)
     rw [heap_setCell_other _ ⟨G, j * 3 + 1, none⟩ i _ this, heap_setCell_other _ ⟨G, j * 3, none⟩ i _ this]⟩
    refine ⟨?_, c1.trans (L.mono K)⟩;rw [← s.out];refine f d _ [.int .i64 kk, .int .i64 (kk + 1), .slice D x.2.2.length F] _ Sj S ((L.block G (by simpa using N) C).trans y2) (by simp) ?_ ?_ ?_ (zEP (in64_w U.1 (by omega)) (in64_w (by omega) (by omega)) O) s3 C A K s2
    ·intro i o;rw [show zBu.size = 3 from rfl] at o;rw [Array.getElem?_setIfInBounds_ne (by omega), Array.getElem?_setIfInBounds_ne (by omega)]
    ·intro i o;rw [show zBu.size = 3 from rfl] at o;rw [show j * zBu.size = j * 3 from rfl];have h3 : i = 0 ∨ i = 1 ∨ i = 2 := by omega
     rcases h3 with rfl | rfl | rfl
     ·rw [Array.getElem?_setIfInBounds_ne (by omega), Nat.add_zero, Array.getElem?_setIfInBounds_self_of_lt (by omega)];rfl
     ·rw [Array.getElem?_setIfInBounds_self_of_lt (by simp; omega)];rfl
     ·rw [Array.getElem?_setIfInBounds_ne (by omega), Array.getElem?_setIfInBounds_ne (by omega)];exact b 2 (by decide)
    ·intro i o X;have B : i ≠ G := fun e => s5 (by rw [← e]; exact o);rw [L.block i (by simpa using X) (fun p => s3 i p o), heap_setCell_other _ ⟨G, j * 3 + 1, none⟩ i _ B, heap_setCell_other _ ⟨G, j * 3, none⟩ i _ B]
   have HO : Hid (zA0.own ((wr.setCell ⟨G, j * 3, none⟩ (.int .i64 kk)).setCell ⟨G, j * 3 + 1, none⟩ (.int .i64 (kk + 1))) Sj [.slice D x.2.2.length F] x.2.2) := zAc (zAc r C) C;clear p E n f b a K s2 s3 C s5 s h r I;generalize zAt zCz (xs.take j) = TT at HT hT bA;go_wp2_with fail
   refine (zBJ Sj _ _ x.2.2 _ (by omega) (by omega) (by omega) HO.out).mono ?_;rintro e d ⟨rfl, m, gr⟩;obtain ⟨Z, y⟩ := HC.out d gr m;have V := hs.trans y;clear m gr y HC HO q0 q1 q2 f0 f1;go_wp2;go_roundw
   case rel => exact ⟨j + 1, by omega, by go_num, by rw [HT.out]; congr 1; omega, Z, V⟩
   case measure => simp [intOf]; omega
  ·have Y : j = xs.length := by omega
   subst Y;rw [List.take_length];rw [zCF] at E;go_wp2;go_ret
   exact ⟨rfl, E, hs⟩
theorem zHX (k : Int) (w : World) :
    Calls Tryz.prog 86 #[.slice none 0 0, .int .i64 k] w fun e' w' => e' = .returned (.int .i64 k) ∧ w' = w := by
 go_enter Tryz.func86, Tryz.ntmps86;go_wp2;refine wp_loop_rounds 1 ?_;rw [rounds_succ];go_wp2;go_ret
 exact ⟨rfl, rfl⟩
theorem zHY (S : zBo) (v : Value) (k : Int) (xs : List (List (Int × Int × List Int))) (w : World) (h0 : 0 ≤ k) (h1 : k ≤ 144115188075855872) (hm : zAt zB6 xs ≤ 144115188075855872) (hln : xs.length ≤ 144115188075855872) (h : (slR 143 zBh).own w S [v] xs) :
    Calls Tryz.prog 86 #[v, .int .i64 k] w fun e' b => e' = .returned (.int .i64 (k + zAt zB6 xs)) ∧ (slR 143 zBh).own b S [v] (zAT zB6 k xs) ∧ Chg S w b := by
 rcases zCg h with ⟨rfl, rfl⟩ | ⟨G, o, rfl, hG⟩
 ·exact (zHX k w).mono fun e b ⟨e1, e2⟩ => ⟨by simpa [zAt] using e1, by rw [e2]; exact h, by rw [e2]; exact Chg.refl _ _⟩
 go_enter Tryz.func86, Tryz.ntmps86;go_wp2;go_loopw [1, 5] (fun q i wr => ∃ j : Nat, j ≤ xs.length ∧ i = .int .i64 j ∧ q = .int .i64 (k + zAt zB6 (xs.take j)) ∧ (slR 143 zBh).own wr S [.slice (some ⟨G, 0, none⟩) xs.length o] (zCP zB6 k xs j) ∧ Chg S w wr)
  (fun _ i _ => xs.length - (intOf i).toNat)
 case atStart => exact ⟨0, Nat.zero_le _, rfl, by simp [zAt], by rw [zCv]; exact h, Chg.refl _ _⟩
 case round =>
  obtain ⟨j, hj, rfl, rfl, y, Y⟩ := hrel;by_cases z : j < xs.length
  ·have V : (j : Int) < (xs.length : Int) := by omega
   obtain ⟨x, p⟩ : ∃ x, xs[j]? = some x := ⟨_, List.getElem?_eq_getElem z⟩;have X : Hid (zAt zB6 (xs.take (j + 1)) = zAt zB6 (xs.take j) + zAt zCz x) := zCf (M := zB6) p;have hT : zAt zB6 (xs.take j) + zAt zCz x ≤ zAt zB6 xs := zCE (M := zB6) p;have r : Hid _ := zCw (M := zB6) (k := k) p;obtain ⟨g, aA, s, Sj, T, c, Z, I, a, d, n, f, A, s2, L, O, s5, l⟩ := zCl y (zCW p);obtain ⟨vj, rfl⟩ : ∃ vj, c = [vj] := List.length_eq_one_iff.1 n;obtain ⟨B, N, rfl⟩ := zBx f;simp only [Value.slice.injEq, Option.some.injEq, Addr.mk.injEq, and_true] at Z;obtain ⟨rfl, E⟩ := Z;clear E n;have q1 : wr.cell? ⟨G, j, none⟩ = some (.slice B x.length N) := by
    rw [cell_of_row wr G j s _ (0, 0) a];have := d 0 Nat.zero_lt_one;rwa [show j * (zBh).size + 0 = j from Nat.mul_one j] at this
   have HO : Hid _ := f;have HC : Hid (∀ b, Chg Sj wr b → (zBh).own b Sj [.slice B x.length N] (zAT zCz (k + zAt zB6 (xs.take j)) x) → (slR 143 zBh).own b S [.slice (some ⟨G, 0, none⟩) xs.length o] (zCP zB6 k xs (j + 1))) := by
    intro b U D;rw [← r.out];have C : G < wr.heap.size := (ltH a);exact l b s [.slice B x.length N] _ Sj S (by rw [U.block G C O]; exact a) rfl (fun _ _ => rfl) d (U.keeps L.symm) D L O I A s2
   have F : Hid _ := A;clear p y f l d a s2 L O s5 A r h;generalize zAt zB6 (xs.take j) = T at X hT HC ⊢;go_wp2_with (go_at_call 139; refine (zJh Sj _ _ x _ (by omega) (by omega) (by omega) HO.out).mono ?_; rintro e b ⟨rfl, m, R⟩)
   have K := HC.out b R m;have H := Y.trans (R.mono F.out);clear m R;go_roundw
   case rel => exact ⟨j + 1, by omega, by go_num, by rw [X.out]; go_num, K, H⟩
   case measure => simp [intOf]; omega
  ·have J : j = xs.length := by omega
   subst J;rw [List.take_length];rw [zCF] at y;go_wp2;go_ret
   exact ⟨rfl, y, Y⟩
section
variable {α : Type}
end
theorem bd_way : Bd zCz 3 := zAV zBl (zAV zBl (zFV zBl))
variable {α : Type}
theorem zHZ {w : World} {g i : Nat} {v : Value} : Chg (fun b => b = g) w (w.setCell ⟨g, i, none⟩ v) := ⟨rfl, rfl, rfl, by simp, fun j _ hj => heap_setCell_other w ⟨g, i, none⟩ j v hj⟩
variable {α : Type}
def At (w : World) (t : TypeId) (G off : Nat) (cs : List Value) : Prop := ∃ cur, w.heap[G]? = some (.cells cur t (0, 0)) ∧ off + cs.length ≤ cur.size ∧ ∀ j, j < cs.length → cur[off + j]? = cs[j]?
theorem zEV {w : World} {t : TypeId} {G off : Nat} {cs : List Value} (h : At w t G off cs) : G < w.heap.size := by
 obtain ⟨b, a, _⟩ := h;exact (ltH a)
theorem zA1 {w : World} {t : TypeId} {G off : Nat} {cs : List Value} (h : At w t G off cs) (j : Nat) {v : Value} (hv : cs[j]? = some v) : w.cell? ⟨G, off + j, none⟩ = some v := by
 obtain ⟨a, c, _, b⟩ := h;rw [cell_of_row w G _ a t (0, 0) c, b j (List.getElem?_eq_some_iff.1 hv).1];exact hv
theorem zCY {w : World} {t : TypeId} {G : Nat} {off : Nat} {cs : List Value} {v : Value} (h : At w t G off (v :: cs)) : w.cell? ⟨G, off, none⟩ = some v := zA1 h 0 rfl
theorem zAO {w : World} {t : TypeId} {G off : Nat} {cs : List Value} (h : At w t G off cs) (j : Nat) : w.frozen? ⟨G, off + j, none⟩ = false := by
 obtain ⟨b, a, _⟩ := h;exact frozen_of_row w G _ _ t a
theorem zFo {w : World} {t : TypeId} {G off : Nat} {cs : List Value} (h : At w t G off cs) : w.frozen? ⟨G, off, none⟩ = false := zAO h 0
theorem at_keep {w w' : World} {t : TypeId} {G off : Nat} {cs : List Value} (h : At w t G off cs) (hk : w'.heap[G]? = w.heap[G]?) : At w' t G off cs := by
 obtain ⟨a, c, b⟩ := h;exact ⟨a, hk.trans c, b⟩
theorem zJi {w w' : World} {t : TypeId} {G off : Nat} {cs : List Value} {S : zBo} (h : At w t G off cs) (hc : Chg S w w') (hn : ¬ S G) : At w' t G off cs := at_keep h (hc.block G (zEV h) hn)
theorem zJj {w : World} {t : TypeId} {G off : Nat} {cs cs' : List Value} (h : At w t G off cs) (j : Nat) (v : Value) (e : cs' = cs.set j v) : At (w.setCell ⟨G, off + j, none⟩ v) t G off cs' := by
 obtain ⟨b, d, f, c⟩ := h;subst e;refine ⟨_, heap_setCell_same w G (off + j) b t v d, by simpa using f, fun i hi => ?_⟩;rw [List.length_set] at hi;by_cases a : i = j
 ·subst a;rw [Array.getElem?_setIfInBounds_self_of_lt (by omega), List.getElem?_set_self hi]
 ·rw [Array.getElem?_setIfInBounds_ne (by omega), List.getElem?_set_ne (by omega)];exact c i hi
def In (G off n : Nat) (w w' : World) : Prop := ∀ cur t, w.heap[G]? = some (.cells cur t (0, 0)) → ∃ cur' : Array Value, w'.heap[G]? = some (.cells cur' t (0, 0)) ∧ cur'.size = cur.size ∧ ∀ i, i < off ∨ off + n ≤ i → cur'[i]? = cur[i]?
theorem In.refl (G off n : Nat) (w : World) : In G off n w w := fun cur t h => ⟨cur, h, rfl, fun _ _ => rfl⟩
theorem In.trans {G off n : Nat} {a b c : World} (h : In G off n a b) (k : In G off n b c) : In G off n a c := fun cur t hc => by
 obtain ⟨p, d, m, j⟩ := h cur t hc;obtain ⟨l, o, g, f⟩ := k p t d;exact ⟨l, o, g.trans m, fun i hi => (f i hi).trans (j i hi)⟩
theorem In.same {G off n : Nat} {w w' : World} (h : w'.heap[G]? = w.heap[G]?) : In G off n w w' := fun cur t hc => ⟨cur, h.trans hc, rfl, fun _ _ => rfl⟩
theorem In.set {G off n j : Nat} {w : World} {v : Value} (hj : j < n) : In G off n w (w.setCell ⟨G, off + j, none⟩ v) := fun cur t hc =>
 ⟨_, heap_setCell_same w G (off + j) cur t v hc, by simp, fun i hi => Array.getElem?_setIfInBounds_ne (by omega)⟩
theorem In.mono {G off n off' n' : Nat} {w w' : World} (h : In G off n w w') (h1 : off' ≤ off) (h2 : off + n ≤ off' + n') : In G off' n' w w' := fun cur t hc => by
 obtain ⟨d, c, f, b⟩ := h cur t hc;exact ⟨d, c, f, fun i hi => b i (by omega)⟩
structure Obj1 (R : Rep α) (t : TypeId) (w : World) (G off : Nat) (S : zBo) (cs : List Value) (x : α) : Prop where
 lies : At w t G off cs
 own : R.own w S cs x
 out : ¬ S G
structure Turn (G off n : Nat) (S : zBo) (w w' : World) : Prop where
 chg : Chg (fun k => S k ∨ k = G) w w'
 row : In G off n w w'
theorem Turn.refl (G off n : Nat) (S : zBo) (w : World) : Turn G off n S w w := ⟨Chg.refl _ _, In.refl _ _ _ _⟩
theorem Turn.mono {G off n : Nat} {S T : zBo} {w w' : World} (h : Turn G off n S w w') (hs : Sub S T) : Turn G off n T w w' := ⟨h.chg.mono (fun k hk => hk.imp (hs k) id), h.row⟩
theorem Turn.trans {G off n : Nat} {S S' : zBo} {a b c : World} (h : Turn G off n S a b) (k : Turn G off n S' b c) (hS : ∀ k, S' k → S k ∨ (a.heap.size ≤ k)) : Turn G off n S a c := by
 refine ⟨⟨k.chg.os.trans h.chg.os, k.chg.tape.trans h.chg.tape, k.chg.output.trans h.chg.output, Nat.le_trans h.chg.size k.chg.size, fun j hj hn => ?_⟩, h.row.trans k.row⟩;have hb := h.chg.size;refine (k.chg.block j (by omega) (fun d => ?_)).trans (h.chg.block j hj hn);rcases d with d | d
 ·rcases hS j d with f | f
  ·exact hn (.inl f)
  ·omega
 ·exact hn (.inr d)
theorem zGm {G off n j : Nat} {S : zBo} {w : World} {v : Value} (hj : j < n) : Turn G off n S w (w.setCell ⟨G, off + j, none⟩ v) :=
 ⟨⟨rfl, rfl, rfl, by simp, fun k _ hn => heap_setCell_other w ⟨G, off + j, none⟩ k v (fun e => hn (.inr e))⟩, In.set hj⟩
theorem zFp {G off n : Nat} {S : zBo} {w w' : World} (h : Chg S w w') (hg : ¬ S G) (hl : G < w.heap.size) : Turn G off n S w w' := ⟨h.mono (fun _ hk => .inl hk), In.same (h.block G hl hg)⟩
theorem zF7 {e : TypeId} {R : Rep α} {w : World} {S : zBo} {v : Value} {xs : List α} {j : Nat} {x : α} (h : (slR e R).own w S [v] xs) (hx : xs[j]? = some x) :
    ∃ g f Sj T c, v = .slice (some ⟨g, 0, none⟩) xs.length f ∧ S g ∧ Obj1 R e w g (j * R.size) Sj c x ∧ Sub Sj S ∧ Sub T S ∧ Dis Sj T ∧ ¬ T g ∧
     ∀ k A n U V, Obj1 R e k g (j * R.size) U A n → In g (j * R.size) R.size w k → Keeps T w k → Dis U T → V g → Sub U V → Sub T V → (slR e R).own k V [v] (xs.set j n) := by
 obtain ⟨g, f, b, Sj, T, c, N, B, D, E, H, ho, J, s2, hd, I, L, m⟩ := zCl h hx;have C : j * R.size + R.size ≤ b.size ∨ R.size = 0 := by
  by_cases y : R.size = 0
  ·exact .inr y
  ·left
   have o := E (R.size - 1) (by omega);have X : (R.size - 1) < c.length := by omega
   rw [List.getElem?_eq_getElem X] at o;have := (ltH o);omega
 have K : j * R.size + R.size ≤ b.size := by
  rcases C with o | y
  ·exact o
  ·rw [y]; simp
 refine ⟨g, f, Sj, T, c, N, B, ⟨⟨b, D, by omega, fun i hi => E i (by omega)⟩, ho, I⟩, J, s2, hd, L, ?_⟩;intro k A n U V p s hk q M Y hT;obtain ⟨l, G, O, e3⟩ := s b e D;obtain ⟨d, r, f2, Z⟩ := p.lies;have z : d = l := by rw [G] at r; simp at r; exact r.symm
 subst z;have F := R.rd_len (R.own_rd p.own);exact m k d A n U V G O (fun i hi => e3 i (by omega)) (fun i hi => Z i (by omega)) hk p.own q p.out M Y hT
theorem zGn {e : TypeId} {R : Rep α} {w : World} {S : zBo} {g n cap : Nat} {xs : List α} {j i : Nat} {x x' : α} {v : Value} (h : (slR e R).own w S [.slice (some ⟨g, 0, none⟩) n cap] xs) (hx : xs[j]? = some x) (hi : i < R.size) (hc : ∀ c, R.rd w c x → (∀ W T, R.own W T c x → R.own W T (c.set i v) x')) :
    (slR e R).own (w.setCell ⟨g, j * R.size + i, none⟩ v) S [.slice (some ⟨g, 0, none⟩) n cap] (xs.set j x') := by
 obtain ⟨g1, l, Sj, T, o, m, f, a, y, r, s, p, b⟩ := zF7 h hx;simp only [Value.slice.injEq, Option.some.injEq, Addr.mk.injEq, and_true] at m;obtain ⟨rfl, -, rfl⟩ := m;have d : ∀ F : zBo, ¬ F g → Keeps F w (w.setCell ⟨g, j * R.size + i, none⟩ v) := fun F hF k d _ => heap_setCell_other w ⟨g, j * R.size + i, none⟩ k v (fun e => hF (by have q : k = g := e; rw [← q]; exact d));exact b _ (o.set i v) x' Sj S ⟨zJj a.lies i v rfl, hc o (R.own_rd a.own) _ _ (R.own_keep a.own (d Sj a.out)), a.out⟩ (In.set hi) (d T p) s f y r
theorem zG9 {w : World} {S : zBo} {c : List Value} {u : OpD} (h : opR.own w S c u) : c = [.int .i64 u.1, .int .i64 u.2.1, .int .i64 u.2.2.1, .int .i64 u.2.2.2] ∧ In4 u := zJX (opR.own_rd h)
theorem op_set0 {w : World} {c : List Value} {x : OpD} {y : Int} (hy : zAN y) (hr : opR.rd w c x) : ∀ W T, opR.own W T c x → opR.own W T (c.set 0 (.int .i64 y)) (y, x.2) := by
 intro W T a;obtain ⟨rfl, h⟩ := zG9 a;exact zFG (u := (y, x.2)) ⟨hy, h.2.1, h.2.2.1, h.2.2.2⟩
theorem op_set1 {w : World} {c : List Value} {x : OpD} {y : Int} (hy : zAN y) (hr : opR.rd w c x) : ∀ W T, opR.own W T c x → opR.own W T (c.set 1 (.int .i64 y)) (x.1, y, x.2.2) := by
 intro W T a;obtain ⟨rfl, h⟩ := zG9 a;exact zFG (u := (x.1, y, x.2.2)) ⟨h.1, hy, h.2.2.1, h.2.2.2⟩
theorem op_set2 {w : World} {c : List Value} {x : OpD} {y : Int} (hy : zAN y) (hr : opR.rd w c x) : ∀ W T, opR.own W T c x → opR.own W T (c.set 2 (.int .i64 y)) (x.1, x.2.1, y, x.2.2.2) := by
 intro W T a;obtain ⟨rfl, h⟩ := zG9 a;exact zFG (u := (x.1, x.2.1, y, x.2.2.2)) ⟨h.1, h.2.1, hy, h.2.2.2⟩
theorem op_set3 {w : World} {c : List Value} {x : OpD} {y : Int} (hy : zAN y) (hr : opR.rd w c x) : ∀ W T, opR.own W T c x → opR.own W T (c.set 3 (.int .i64 y)) (x.1, x.2.1, x.2.2.1, y) := by
 intro W T a;obtain ⟨rfl, h⟩ := zG9 a;exact zFG (u := (x.1, x.2.1, x.2.2.1, y)) ⟨h.1, h.2.1, h.2.2.1, hy⟩
theorem zLx {k : Int} (h0 : 0 ≤ k) (h1 : k ≤ 1152921504606846976) : zAN k := by constructor <;> omega
theorem zKq {α : Type} {xs : List α} {j : Nat} {x a : α} (h : xs[j]? = some x) : (xs.set j a)[j]? = some a := by
 rw [List.getElem?_set_self (List.getElem?_eq_some_iff.1 h).1]
theorem zKr (k : Int) (w : World) :
    Calls Tryz.prog 87 #[.slice none 0 0, .int .i64 k] w fun e' w' => e' = .returned (.int .i64 k) ∧ w' = w := by
 go_enter Tryz.func87, Tryz.ntmps87;go_wp2;refine wp_loop_rounds 1 ?_;rw [rounds_succ];go_wp2;go_ret
 exact ⟨rfl, rfl⟩
theorem zJk {S : zBo} {G n cap j : Nat} {w : World} {xs : List OpD} {x : OpD} {kk : Int} (h0 : 0 ≤ kk) (h1 : kk ≤ 1152921504606846970) (h : zGj.own w S [.slice (some ⟨G, 0, none⟩) n cap] xs) (hx : xs[j]? = some x) :
    zGj.own ((((w.setCell ⟨G, j * 4, none⟩ (.int .i64 kk)).setCell ⟨G, j * 4 + 1, none⟩ (.int .i64 (kk + 1))).setCell ⟨G, j * 4 + 2, none⟩ (.int .i64 (kk + 1 + 1))).setCell ⟨G, j * 4 + 3, none⟩ (.int .i64 (kk + 1 + 1 + 1))) S [.slice (some ⟨G, 0, none⟩) n cap] (xs.set j (kk, kk + 1, kk + 1 + 1, kk + 1 + 1 + 1)) ∧
    Chg (fun k => k = G) w ((((w.setCell ⟨G, j * 4, none⟩ (.int .i64 kk)).setCell ⟨G, j * 4 + 1, none⟩ (.int .i64 (kk + 1))).setCell ⟨G, j * 4 + 2, none⟩ (.int .i64 (kk + 1 + 1))).setCell ⟨G, j * 4 + 3, none⟩ (.int .i64 (kk + 1 + 1 + 1))) := by
 have f := zGn (i := 0) (v := .int .i64 kk) h hx (by decide) (fun c hr => op_set0 (zLx (by omega) (by omega)) hr);have a := zGn (i := 1) (v := .int .i64 (kk + 1)) f (zKq hx) (by decide) (fun c hr => op_set1 (zLx (by omega) (by omega)) hr);rw [List.set_set] at a;have b := zGn (i := 2) (v := .int .i64 (kk + 1 + 1)) a (zKq hx) (by decide) (fun c hr => op_set2 (zLx (by omega) (by omega)) hr);rw [List.set_set] at b;have d := zGn (i := 3) (v := .int .i64 (kk + 1 + 1 + 1)) b (zKq hx) (by decide) (fun c hr => op_set3 (zLx (by omega) (by omega)) hr);rw [List.set_set] at d;exact ⟨d, ((zHZ.trans zHZ).trans zHZ).trans zHZ⟩
theorem zKs (S : zBo) (v : Value) (k : Int) (xs : List OpD) (w : World) (h0 : 0 ≤ k) (h1 : k ≤ 288230376151711744) (hm : zAt opM xs ≤ 288230376151711744) (h : zGj.own w S [v] xs) :
    Calls Tryz.prog 87 #[v, .int .i64 k] w fun e' w' => e' = .returned (.int .i64 (k + zAt opM xs)) ∧ zGj.own w' S [v] (zAT opM k xs) ∧ Chg S w w' := by
 rcases zCg h with ⟨rfl, rfl⟩ | ⟨G, n, rfl, E⟩
 ·exact (zKr k w).mono fun e w' ⟨e1, e2⟩ => ⟨by simpa [zAt] using e1, by rw [e2]; exact h, by rw [e2]; exact Chg.refl _ _⟩
 have I := cnt_ops xs;have H : Hid _ := h;clear h;go_enter Tryz.func87, Tryz.ntmps87;go_wp2;go_loopw [1, 5] (fun q i wr => ∃ j : Nat, j ≤ xs.length ∧ i = .int .i64 j ∧ q = .int .i64 (k + zAt opM (xs.take j)) ∧ zGj.own wr S [.slice (some ⟨G, 0, none⟩) xs.length n] (zCP opM k xs j) ∧ Chg S w wr) (fun _ i _ => xs.length - (intOf i).toNat)
 case atStart => exact ⟨0, Nat.zero_le _, rfl, by simp [zAt], by rw [zCv]; exact H.out, Chg.refl _ _⟩
 case round =>
  obtain ⟨j, hj, rfl, rfl, f, l⟩ := hrel;by_cases m : j < xs.length
  ·have y : (j : Int) < (xs.length : Int) := by omega
   obtain ⟨x, d⟩ : ∃ x, xs[j]? = some x := ⟨_, List.getElem?_eq_getElem m⟩;have z : Hid (zAt opM (xs.take (j + 1)) = zAt opM (xs.take j) + 4) := zCf (M := opM) d;have T : zAt opM (xs.take j) + 4 ≤ zAt opM xs := zCE (M := opM) d;have c := zCw (M := opM) (k := k) d;obtain ⟨G1, C, Sj, Tj, cj, B, -, a, -⟩ := zF7 f (zCW d);simp only [Value.slice.injEq, Option.some.injEq, Addr.mk.injEq, and_true] at B;obtain ⟨rfl, -, rfl⟩ := B;obtain ⟨rfl, -⟩ := zG9 a.own;have D := zCY a.lies;have O := zA1 a.lies 1 rfl;have N := zA1 a.lies 2 rfl;have R := zA1 a.lies 3 rfl;have K := zFo a.lies;have J := zAO a.lies 1;have F := zAO a.lies 2;have L := zAO a.lies 3;rw [show j * opR.size = j * 4 from rfl] at D O N R K J F L;generalize s : k + (zAt opM (xs.take j) : Int) = kk at c ⊢;have p : 0 ≤ kk ∧ kk ≤ 576460752303423488 := by omega
   obtain ⟨o, A⟩ := zJk (kk := kk) p.1 (by omega) f (zCW d);rw [show (kk, kk + 1, kk + 1 + 1, kk + 1 + 1 + 1) = opM.mE kk x from rfl, c] at o;have g : Hid _ := And.intro o (l.trans (A.mono (fun b hb => by rw [hb]; exact E)));clear o A a f l c d;generalize zAt opM (xs.take j) = TT at z T s;go_wp2;go_roundw
   case rel => exact ⟨j + 1, by omega, by go_num, by rw [z.out]; congr 1; omega, g.out.1, g.out.2⟩
   case measure => simp [intOf]; omega
  ·have r : j = xs.length := by omega
   subst r;rw [List.take_length];rw [zCF] at f;have g : Hid _ := And.intro f l;clear f l;go_wp2;go_ret
   exact ⟨rfl, g.out.1, g.out.2⟩
theorem szOps_u : SzC 109 zGj zD2 zCk := by
 rintro cs x b w ⟨a, c, rfl, i, g, l3⟩ d f;exact (zN0 a x c b w d f (Nat.le_trans i g)).mono fun e w' ⟨q, r⟩ => ⟨q, zEO r⟩
theorem toOps_u : ToC 115 zGj zD2 zCk := by
 rintro cs x w ⟨a, b, rfl, l1, l2, d⟩ c;refine (zN1 a x b w d c).mono ?_;rintro e w' ⟨v, rfl, f⟩;exact ⟨[v], rfl, f⟩
theorem eqOps_u : EqC 135 zGj zD2 zCk := by
 rintro cs ds x w ⟨a, c, rfl, l1, l2, g⟩ ⟨b, d, rfl, k1, k2, f⟩ hm;exact zN2 a b x c d w g f (by have : lot = 4398046511104 := rfl; omega)
theorem mkOps_u : MkC 87 zGj zD2 zCk := by
 intro S cs x k w h a hm hb;obtain ⟨v, rfl⟩ := zDg h;have e : lot = 4398046511104 := rfl;have e2 : zD2.cV x = zAt opM x := rfl;exact zKs S v k x w a (by omega) (by omega) h
theorem szWay_u : SzC 110 zBu zCz zBq := by
 intro cs x b w h d f;obtain ⟨a, c, rfl, i1, i2, i, g, l3⟩ := zBz h;exact zG2 x.1 x.2.1 x.2.2 a c b w d f (Nat.le_trans i g)
theorem toWay_u : ToC 116 zBu zCz zBq := by
 intro cs x w h hm;obtain ⟨a, b, rfl, c, d, l1, l2, f⟩ := zBz h;refine (zIZ x.1 x.2.1 x.2.2 a b w c d f (by have : zCz.bk x = 0 + (0 + zAs.bk x.2.2) := rfl; omega)).mono ?_;rintro e w' ⟨av, cv, rfl, g⟩;exact ⟨_, rfl, g⟩
theorem eqWay_u : EqC 136 zBu zCz zBq := by
 intro cs ds x w h k hm;obtain ⟨a, c, rfl, i1, i2, l1, l2, g⟩ := zBz h;obtain ⟨b, f, rfl, _, _, k1, k2, d⟩ := zBz k;exact zJb x.1 x.2.1 x.2.2 a b c f w g d (by have : zCz.bk x = 0 + (0 + zAs.bk x.2.2) := rfl; have : lot = 4398046511104 := rfl; omega)
theorem zNF : SzC 108 zBQ zCO zBq := by
 intro cs x c w h g i;obtain ⟨a, d, b, l, rfl, n, j, f, m, k, r2⟩ := zBO h;exact zKi a b x d l c w k g i (Nat.le_trans n j) (Nat.le_trans f m)
theorem zNG : ToC 114 zBQ zCO zBq := by
 intro cs x w h f;obtain ⟨a, c, b, j, rfl, l1, l2, m1, m2, i, d⟩ := zBO h;refine (zKk a b x c j w i d f).mono ?_;rintro e w' ⟨av, cv, bv, dv, rfl, g⟩;exact ⟨_, rfl, g⟩
theorem zNH : EqC 134 zBQ zCO zBq := by
 intro cs ds x w h k hm;obtain ⟨a, d, b, l, rfl, l1, l2, m1, m2, j, g⟩ := zBO h;obtain ⟨n, c, i, f, rfl, _, _, _, _, o, m⟩ := zBO k;exact zKm x a b n i d l c f w j g o m (by have : lot = 4398046511104 := rfl; omega)
variable {α : Type}
def zMl (w : World) (g : Nat) : Nat → List Value → World
 | _, [] => w
 | o, v :: vs => zMl (w.setCell ⟨g, o, none⟩ v) g (o + 1) vs
def putA (cs : Array Value) : Nat → List Value → Array Value
 | _, [] => cs
 | o, v :: vs => putA (cs.setIfInBounds o v) (o + 1) vs
theorem zFq {g : Nat} {t : TypeId} : ∀ (vs : List Value) (o : Nat) {w : World} {cs : Array Value}, w.heap[g]? = some (.cells cs t (0, 0)) → (zMl w g o vs).heap[g]? = some (.cells (putA cs o vs) t (0, 0))
 | [], _, _, _, h => h
 | v :: vs, o, w, cs, h => zFq vs (o + 1) (heap_setCell_same w g o cs t v h)
theorem zGA {g : Nat} : ∀ (vs : List Value) (o : Nat) (w : World), Chg (fun k => k = g) w (zMl w g o vs)
 | [], _, w => Chg.refl _ w
 | v :: vs, o, w => (show Chg (fun k => k = g) w (w.setCell ⟨g, o, none⟩ v) from ⟨rfl, rfl, rfl, by simp, fun k hk hn => heap_setCell_other w ⟨g, o, none⟩ k v hn⟩).trans (zGA vs (o + 1) _)
theorem zKt {a w : World} {B g o : Nat} {vs : List Value} (h : Below B a w) (hB : B ≤ w.heap.size) (hg : B ≤ g) : Below B a (zMl w g o vs) :=
 (zGA vs o w).below h (fun k hk => by have : k = g := hk; omega) hB
theorem zFL {a w : World} {g o : Nat} {vs : List Value} (h : Below a.heap.size a w) (hg : a.heap.size ≤ g) : Below a.heap.size a (zMl w g o vs) := zKt h h.size hg
theorem zNI {R : Rep α} {w : World} {S : zBo} {cs : List Value} {x : α} {g o : Nat} {vs : List Value} (h : R.own w S cs x) (hg : ¬ S g) : R.own (zMl w g o vs) S cs x :=
 zAC h (zGA vs o w) fun k hk e => by have a : k = g := e; subst a; exact hg hk
end Go.Proofs.YtcocbafhcpdheaaGreatDoor
