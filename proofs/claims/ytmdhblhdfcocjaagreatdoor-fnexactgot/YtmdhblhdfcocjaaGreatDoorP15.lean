import Derived.Test.YtmdhblhdfcocjaaGreatDoorP00Box
import Derived.Test.YtmdhblhdfcocjaaGreatDoorP14
import Derived.Deep.RegionHeld3
namespace Go.Proofs.YtmdhblhdfcocjaaGreatDoor
open Go.ChangeShapes Go.WideShapes Go.ChangeAt Go.RowKit
set_option linter.unusedVariables false
section
variable {α : Type}
theorem zJk {e : TypeId} {R : Rep α} {w : World} {S : zAW} : ∀ n, zHi (slR e R) w S (List.replicate n (sL none 0 0)) (List.replicate n ([] : List α))
 | 0 => rfl
 | n + 1 => ⟨[_], List.replicate n (.slice none 0 0), fun _ => False, S, rfl, ⟨_, [], fun _ => False, rfl, World.ownsRow_nil _ _ _ _, fun g hg => by simp [Value.ownBlock] at hg, fun _ h => h.elim, rfl⟩, zJk n, fun _ h => h.elim, Sub.refl _, fun _ h _ => h⟩
theorem made_one (n : Nat) (z : Value) : (madeCells #[z] n).toList = List.replicate n z := by
 apply List.ext_getElem?
 intro i;rw [List.getElem?_replicate];unfold madeCells;by_cases h : i < n
 ·simp [h, Nat.mod_one]
 ·simp [h]
end
theorem zLM (w : World) (a b c : Value) (t : TypeId) : ∀ j u, [a, b, c][j]? = some u → (w.alloc (.cells #[a, b, c] t)).cell? ((⟨w.heap.size, 0, none⟩ : Addr).add j) = some u := by
 intro j u d;have X := zAx w (.cells #[a, b, c] t);have hj := (List.getElem?_eq_some_iff.1 d).1;rw [show (⟨w.heap.size, 0, none⟩ : Addr).add j = ⟨w.heap.size, j, none⟩ from by simp [Addr.add] <;> omega, cell_of_row _ _ j _ _ (0, 0) X];simpa using d
theorem zLN (w : World) (a : Value) (t : TypeId) : ∀ j u, [a][j]? = some u → (w.alloc (.cells #[a] t)).cell? ((⟨w.heap.size, 0, none⟩ : Addr).add j) = some u := by
 intro j u b;have X := zAx w (.cells #[a] t);rw [show (⟨w.heap.size, 0, none⟩ : Addr).add j = ⟨w.heap.size, j, none⟩ from by simp [Addr.add] <;> omega, cell_of_row _ _ j _ _ (0, 0) X];simpa using b
section
variable {α : Type}
end
theorem zJl (w : World) (S : zAW) : zAA.own w S [sL none 0 0, sL none 0 0] (([], []) : zAu) :=
 zCd (S1 := fun _ => False) (S2 := fun _ => False) ⟨_, [], fun _ => False, rfl, World.ownsRow_nil _ _ _ _, fun g hg => by simp [Value.ownBlock] at hg, fun _ h => h.elim, rfl⟩ (zDR w _) (fun _ h => h.elim) (fun _ h => h.elim) (fun _ h _ => h)
open Go.ChangeShapes Go.WideShapes Go.ChangeAt Go.RowKit Go.Shelf
noncomputable def zDU (c : zAu) (line : Int) : zAT × Int := zEV isL zAJ c line
theorem find_bad {c : zAu} {line : Int} (h : okB isL zAJ c = false) : zDU c line = (zAF, -1) := by
 unfold zDU zEV;rw [h];rfl
theorem zD4 {d : List Int} (h : isL d = true) : d.length = 2 := by
 rcases zFh d with a | ⟨x, y, rfl, _, _⟩
 ·rw [h] at a;cases a
 ·rfl
theorem zMS {c : zAu} (h : OkC isL zAJ c) {s j : Nat} {row : List zAT} {u : zAT} (hr : c.1[s]? = some row) (hu : row[j]? = some u) : u.2.2.length ≤ 2 := by
 obtain ⟨h1, h2, m, hm, b⟩ := h;rcases (b s row hr).2.2.1 j u hu with d | ⟨a, _⟩
 ·rw [zCQ d];simp [zAF]
 ·rw [zKf] at a;simp only [Bool.and_eq_true] at a;rw [zD4 a.2.2];exact Nat.le_refl _
theorem zEW {w1 : World} {lo hi g o : Nat} {v : Value} {cs : List Value} {u : zAT} (h : zAR.own w1 (rng lo hi) cs u) (hg : g < lo ∨ hi ≤ g) : zAR.own (w1.setCell ⟨g, o, none⟩ v) (rng lo hi) cs u :=
 zAl h (fun h' => by have := h'.1; have := h'.2; omega)
theorem cs1 {w : World} {g b o k : Nat} {u v : Value} (hne : ¬ (b = g)) (h : w.cell? ⟨b, k, none⟩ = some u) : (w.setCell ⟨g, o, none⟩ v).cell? ⟨b, k, none⟩ = some u :=
 (World.cell?_of_block (w := w) (a := ⟨b, k, none⟩) (heap_setCell_other w ⟨g, o, none⟩ b v hne)).trans h
theorem cs3 {w : World} {g b k : Nat} {u x y z : Value} (hne : ¬ (b = g)) (h : w.cell? ⟨b, k, none⟩ = some u) : (((w.setCell ⟨g, 0, none⟩ x).setCell ⟨g, 1, none⟩ y).setCell ⟨g, 2, none⟩ z).cell? ⟨b, k, none⟩ = some u := cs1 hne (cs1 hne (cs1 hne h))
theorem fin_own {w1 : World} {lo hi g : Nat} {cs : List Value} {u : zAT} {x y z : Value} (h : zAR.own w1 (rng lo hi) cs u) (hg : g < lo) : zAR.own (((w1.setCell ⟨g, 0, none⟩ x).setCell ⟨g, 1, none⟩ y).setCell ⟨g, 2, none⟩ z) (rng lo hi) cs u :=
 zEW (zEW (zEW h (.inl hg)) (.inl hg)) (.inl hg)
theorem zIp {w w0 w1 : World} {g : Nat} {cs : List Value} {u : zAT} {x y z : Value} (hb : Below w.heap.size w w0) (h : zAX zAR w0 w1 cs u) (hg : g < w0.heap.size) (hw : w.heap.size ≤ g) : zAX zAR w (((w1.setCell ⟨g, 0, none⟩ x).setCell ⟨g, 1, none⟩ y).setCell ⟨g, 2, none⟩ z) cs u :=
 ⟨zAR.own_mono (fin_own h.1 hg) (zCb hb.size (by simp)), zAq (zAq (zAq (zAb hb h.2) hw) hw) hw⟩
set_option maxHeartbeats 2000000 in
theorem zIq (a b : Option Addr) (c : zAu) (cap cp : Nat) (line : Int) (w : World) (h1 : zBg zBl w a c.1) (h2 : zBg zBC w b c.2) (m1 : c.1.length ≤ maxLen) (m2 : c.2.length ≤ maxLen) (m3 : ∀ row ∈ c.1, row.length ≤ maxLen) :
    Calls Tryz.prog 125 #[.agg #[sL a c.1.length cap, sL b c.2.length cp], nI line] w fun e w' => ∃ i g, e = .returned (.tuple #[.agg #[nI (zDU c line).1.1, nI (zDU c line).1.2.1, sL i (zDU c line).1.2.2.length g], nI (zDU c line).2]) ∧
     zAX zAR w w' [nI (zDU c line).1.1, nI (zDU c line).1.2.1, sL i (zDU c line).1.2.2.length g] (zDU c line).1 := by
 have m : Hid (∀ W, Below w.heap.size w W → Calls Tryz.prog 64 #[.agg #[sL a c.1.length cap, sL b c.2.length cp]] W fun e w' => e = .returned (.bool (okB isL zAJ c)) ∧ Below W.heap.size W w') := fun W hb =>
  zDk a b c cap cp W (zA7 h1 fun k hk => hb.block k hk) (zA7 h2 fun k hk => hb.block k hk) m1 m2 m3
 cases r : okB isL zAJ c
 ·rw [r] at m;rw [find_bad r];show Calls Tryz.prog 125 _ w fun e w' => ∃ i g, e = .returned (.tuple #[.agg #[nI (-1), nI 0, sL i 0 g], nI (-1)]) ∧ zAX zAR w w' [nI (-1), nI 0, sL i 0 g] zAF
  clear h1 h2 m1 m2 m3;have X := zAK (.cells #[nI 0, nI 0, sL none 0 0] 39) (zAx w (.cells #[sL a c.1.length cap, sL b c.2.length cp] 37));have Y := zAx (w.alloc (.cells #[sL a c.1.length cap, sL b c.2.length cp] 37)) (.cells #[nI 0, nI 0, sL none 0 0] 39);rw [zAp] at Y;have B := zAb (zAf w (.cells #[sL a c.1.length cap, sL b c.2.length cp] 37)) (zAf _ (.cells #[nI 0, nI 0, sL none 0 0] 39));go_enter Tryz.func125, Tryz.ntmps125;go_wp2_with fail
  generalize (w.alloc (.cells #[sL a c.1.length cap, sL b c.2.length cp] 37)).alloc (.cells #[nI 0, nI 0, sL none 0 0] 39) = W0 at X Y B ⊢;refine (m.out _ B).mono ?_;rintro e w1 ⟨rfl, f⟩;replace B := zAb B f;replace Y := zAa f Y;clear f X m;go_wp2_with fail
  have R := (ltH Y);refine (zEr _).mono ?_;rintro e w9 ⟨i, g, rfl, n⟩;replace Y := zAa n.2 Y;obtain ⟨y0, y1, y2⟩ := zCm Y;obtain ⟨f0, f1, f2⟩ := zCx Y;have HM : Hid _ := aI Y n;clear Y n;go_wp2;obtain ⟨Y, n⟩ := HM.out;obtain ⟨r0, V, M⟩ := zCm (put3 (a := nI (-1)) (b := nI 0) (c := sL i 0 g) Y);refine bodyPost_ret (v := .tuple #[.agg #[nI (-1), nI 0, sL i 0 g], nI (-1)]) (by simp [results, Tryz.results125, go_sem, r0, V, M]) rfl ⟨i, g, rfl, zIp B n R (by omega)⟩
 ·have d := zCK.1 r;rw [r] at m;have j : Hid (∀ W, Below w.heap.size w W → Calls Tryz.prog 95 #[.agg #[sL a c.1.length cap, sL b c.2.length cp], nI line] W fun e w' => e = .returned (.tuple #[.agg #[nI (zCr c line).1, nI (zCr c line).2.1], .bool (zCr c line).2.2]) ∧ Below W.heap.size W w') :=
   fun W hbw => zEo a b c cap cp line W d (zA7 h1 fun k hk => hbw.block k hk)
  cases o : atC c line with
  | none =>
   have G : Hid (zDU c line = (zAF, -1)) := zG5 o;have L : (zCr c line).2.2 = false := by rw [zE8 d, o]; split <;> rfl
   rw [L] at j;rw [G.out];show Calls Tryz.prog 125 _ w fun e w' => ∃ i g, e = .returned (.tuple #[.agg #[nI (-1), nI 0, sL i 0 g], nI (-1)]) ∧ zAX zAR w w' [nI (-1), nI 0, sL i 0 g] zAF
   clear h1 h2 m1 m2 m3 d L;generalize (zCr c line).1 = f1 at j;generalize (zCr c line).2.1 = f2 at j;have X := zAK (.cells #[nI 0, nI 0, sL none 0 0] 39) (zAx w (.cells #[sL a c.1.length cap, sL b c.2.length cp] 37));have Y := zAx (w.alloc (.cells #[sL a c.1.length cap, sL b c.2.length cp] 37)) (.cells #[nI 0, nI 0, sL none 0 0] 39);rw [zAp] at Y;have B := zAb (zAf w (.cells #[sL a c.1.length cap, sL b c.2.length cp] 37)) (zAf _ (.cells #[nI 0, nI 0, sL none 0 0] 39));go_enter Tryz.func125, Tryz.ntmps125;go_wp2_with fail
   generalize (w.alloc (.cells #[sL a c.1.length cap, sL b c.2.length cp] 37)).alloc (.cells #[nI 0, nI 0, sL none 0 0] 39) = W0 at X Y B ⊢;refine (m.out _ B).mono ?_;rintro e w1 ⟨rfl, f⟩;replace B := zAb B f;replace X := zAa f X;replace Y := zAa f Y;obtain ⟨x0, x1⟩ := zAy X;clear f m;go_wp2_with fail
   refine (j.out _ B).mono ?_;rintro e w2 ⟨rfl, f⟩;have A := zAf w2 (.cells #[nI f1, nI f2] 126);replace B := zAb (zAb B f) A;replace Y := zAa A (zAa f Y);clear f A x0 x1 X j;go_wp2_with fail
   generalize w2.alloc (.cells #[nI f1, nI f2] 126) = w3 at Y B ⊢;have R := (ltH Y);refine (zEr _).mono ?_;rintro e w9 ⟨i, g, rfl, n⟩;replace Y := zAa n.2 Y;obtain ⟨y0, y1, y2⟩ := zCm Y;obtain ⟨f0, f1, f2⟩ := zCx Y;have HM : Hid _ := aI Y n;clear Y n;go_wp2;obtain ⟨Y, n⟩ := HM.out;obtain ⟨r0, V, M⟩ := zCm (put3 (a := nI (-1)) (b := nI 0) (c := sL i 0 g) Y);refine bodyPost_ret (v := .tuple #[.agg #[nI (-1), nI 0, sL i 0 g], nI (-1)]) (by simp [results, Tryz.results125, go_sem, r0, V, M]) rfl ⟨i, g, rfl, zIp B n R (by omega)⟩
  | some fi =>
   obtain ⟨cB, u, N, AA⟩ := zD1 o;have hb : zAP line 0 15 = true := by
    cases HA : zAP line 0 15
    ·rw [at_out d HA] at o;cases o
    ·rfl
   have G : Hid (zDU c line = (u, (fi : Int))) := zG6 d o N;have L : zCr c line = (((zAE c line : Nat) : Int), (fi : Int), true) := by rw [zE8 d, if_pos hb, o]; rfl
   rw [L] at j;rw [G.out];obtain ⟨hp, q, KA, pA, I, GA⟩ := zDy d line;have CA := zMS d q N;obtain ⟨z, D, aj, cj, rfl, k2, -, -, K⟩ := zDj h1 q;have DA := (List.getElem?_eq_some_iff.1 N).1;obtain ⟨s, p, cs, rfl, y, l⟩ := zBG K N;obtain ⟨ad, C, rfl, i1, i2, -, -, T⟩ := zAL y;have J := l 0 _ rfl;have k5 := l 1 _ rfl;have k6 := l 2 _ rfl;rw [show p + (fi * zAR.size + 0) = p + fi * 3 from rfl] at J;rw [show p + (fi * zAR.size + 1) = p + fi * 3 + 1 from rfl] at k5;rw [show p + (fi * zAR.size + 2) = p + fi * 3 + 2 from rfl] at k6;have qA : (fi : Int) < ((zAm c line).length : Int) := by omega
   have H : ((zAE c line : Nat) : Int) < (c.1.length : Int) := by omega
   have HI : Hid (zBk u.1 ∧ zBk u.2.1) := ⟨i1, i2⟩;have HD : Hid (∀ W, Below w.heap.size w W → zBg zBC W ad u.2.2) := fun W hbw => zA7 T fun k hk => hbw.block k hk;have S : Hid (u.2.2.length ≤ 1048576) := by unfold Hid; omega
   have U : Hid (∀ W, Below w.heap.size w W → W.cell? ⟨z, D + zAE c line, none⟩ = some (sL (some ⟨s, p, none⟩) (zAm c line).length cj) ∧ W.cell? ⟨s, p + fi * 3, none⟩ = some (nI u.1) ∧ W.cell? ⟨s, p + fi * 3 + 1, none⟩ = some (nI u.2.1) ∧ W.cell? ⟨s, p + fi * 3 + 2, none⟩ = some (sL ad u.2.2.length C)) :=
    fun W hbw => ⟨zAd hbw k2 (zAi k2), zAd hbw J (zAi J), zAd hbw k5 (zAi k5), zAd hbw k6 (zAi k6)⟩
   have YA := zAi k2;have jB := zAi J;clear h1 h2 m1 m2 m3 d q KA pA I N AA K y l i1 i2 T k2 J k5 k6 L CA hp;generalize zAE c line = sn at j U GA H;generalize (zAm c line).length = rn at U qA DA;obtain ⟨ul, us, ud⟩ := u;simp only at HI HD S U
   have X := zAK (.cells #[nI 0, nI 0, sL none 0 0] 39) (zAx w (.cells #[sL (some ⟨z, D, none⟩) c.1.length cap, sL b c.2.length cp] 37));have Y := zAx (w.alloc (.cells #[sL (some ⟨z, D, none⟩) c.1.length cap, sL b c.2.length cp] 37)) (.cells #[nI 0, nI 0, sL none 0 0] 39);rw [zAp] at Y;have B := zAb (zAf w (.cells #[sL (some ⟨z, D, none⟩) c.1.length cap, sL b c.2.length cp] 37)) (zAf _ (.cells #[nI 0, nI 0, sL none 0 0] 39));go_enter Tryz.func125, Tryz.ntmps125;go_wp2_with fail
   generalize (w.alloc (.cells #[sL (some ⟨z, D, none⟩) c.1.length cap, sL b c.2.length cp] 37)).alloc (.cells #[nI 0, nI 0, sL none 0 0] 39) = W0 at X Y B ⊢;refine (m.out _ B).mono ?_;rintro e w1 ⟨rfl, f⟩;replace B := zAb B f;replace X := zAa f X;replace Y := zAa f Y;obtain ⟨x0, x1⟩ := zAy X;clear f m;go_wp2_with fail
   refine (j.out _ B).mono ?_;rintro e F ⟨rfl, f⟩;have sA : Hid (w.heap.size + 1 < F.heap.size) := (Array.getElem?_eq_some_iff.1 (zAa f Y)).1;have A := zAf F (.cells #[nI (sn : Int), nI (fi : Int)] 126);have Z := zAx F (.cells #[nI (sn : Int), nI (fi : Int)] 126);replace B := zAb (zAb B f) A;replace X := zAa A (zAa f X);replace Y := zAa A (zAa f Y);clear f A x0 x1 j;go_wp2_with fail
   generalize F.alloc (.cells #[nI (sn : Int), nI (fi : Int)] 126) = w5 at X Y Z B ⊢;have R := (ltH Y);obtain ⟨x0, x1⟩ := zAy X;obtain ⟨z0, z1⟩ := zAy Z;obtain ⟨p0, p1, p2, p3⟩ := U.out _ B;have HX : Hid _ := aI X (aI Y Z);have O : ¬ (F.heap.size = w.heap.size + 1) := by have := sA.out; omega
   have BA : ¬ (z = w.heap.size + 1) := by omega
   have E : ¬ (s = w.heap.size + 1) := by omega
   clear X Y Z;go_region_held3 (fun wx => wx.cell? ⟨w.heap.size, 0, none⟩ = some (sL (some ⟨z, D, none⟩) c.1.length cap) ∧ wx.cell? ⟨F.heap.size, 0, none⟩ = some (nI (sn : Int)) ∧ wx.cell? ⟨F.heap.size, 1, none⟩ = some (nI (fi : Int)) ∧ wx.cell? ⟨z, D + sn, none⟩ = some (sL (some ⟨s, p, none⟩) rn cj) ∧ wx.cell? ⟨s, p + fi * 3, none⟩ = some (nI ul) ∧ wx.cell? ⟨s, p + fi * 3 + 1, none⟩ = some (nI us) ∧ wx.cell? ⟨s, p + fi * 3 + 2, none⟩ = some (sL ad ud.length C)) (first | (go_keep; done) | (exact ⟨cs3 (by omega) JA, cs3 O yA, cs3 O IA, cs3 BA FA, cs3 E zA, cs3 E oA, cs3 E EA⟩)) (first | (go_at_call 71; refine (zDS ul us ud ad C _ HI.out.1 HI.out.2 (HD.out _ B.drew) S.out).mono ?_; rintro e w9 ⟨i, g, rfl, n⟩; have BB := zAb B.drew n.2; obtain ⟨X, Y, Z⟩ := HX.out; replace X := zAa (w := w5.drew) n.2 X; replace Y := zAa (w := w5.drew) n.2 Y; replace Z := zAa (w := w5.drew) n.2 Z; obtain ⟨JA, fB⟩ := zAy X; obtain ⟨yA, IA⟩ := zAy Z; obtain ⟨FA, zA, oA, EA⟩ := U.out _ BB; obtain ⟨gB, kB, VA⟩ := zCm Y; obtain ⟨lB, bB, ZA⟩ := zCx Y))
   all_goals
    go_wp2;obtain ⟨r0, V, M⟩ := zCm (put3 (a := nI ul) (b := nI us) (c := sL i ud.length g) Y);refine bodyPost_ret (v := .tuple #[.agg #[nI ul, nI us, sL i ud.length g], nI (fi : Int)]) (by simp [results, Tryz.results125, go_sem, r0, V, M]) rfl ⟨i, g, rfl, zIp B.drew n (by exact R) (by omega)⟩
theorem zHE (d : List Int) : zBz zBx d = 0 := by
 induction d with
 | nil => rfl
 | cons x d ih =>
  simp only [zBz, List.map_cons, List.sum_cons] at ih ⊢;rw [ih];rfl
def zEs (w : World) (g o : Nat) (x y z : Value) : World := ((w.setCell ⟨g, o, none⟩ x).setCell ⟨g, o + 1, none⟩ y).setCell ⟨g, o + 2, none⟩ z
theorem zMT {w : World} {g o : Nat} {x y z : Value} {cur : Array Value} {t : TypeId} (h : w.heap[g]? = some (.cells cur t (0, 0))) : (zEs w g o x y z).heap[g]? = some (.cells (((cur.setIfInBounds o x).setIfInBounds (o + 1) y).setIfInBounds (o + 2) z) t (0, 0)) := by
 have b := heap_setCell_same w g o _ t x h;have a := heap_setCell_same _ g (o + 1) _ t y b;exact heap_setCell_same _ g (o + 2) _ t z a
theorem zDd {w : World} {g o k : Nat} {x y z : Value} (h : k ≠ g) : (zEs w g o x y z).heap[k]? = w.heap[k]? := by
 unfold zEs;rw [heap_setCell_other _ ⟨g, o + 2, none⟩ k z h, heap_setCell_other _ ⟨g, o + 1, none⟩ k y h, heap_setCell_other _ ⟨g, o, none⟩ k x h]
theorem zFp {w : World} {g o : Nat} {x y z : Value} : (zEs w g o x y z).heap.size = w.heap.size := by simp [zEs]
theorem zFq {w : World} {S : zAW} {g o : Nat} {x y z : Value} (h : S g) : Chg S w (zEs w g o x y z) := by
 have a : Below g w (zEs w g o x y z) := zAq (zAq (zAq (Below.refl g w) (Nat.le_refl _)) (Nat.le_refl _)) (Nat.le_refl _);exact ⟨a.os, a.tape, a.output, a.size, fun k _ hn => zDd fun e => hn (e ▸ h)⟩
theorem own_put {w w9 : World} {S : zAW} {u c1 c2 c3 : Value} {cs : List (List zAT)} {s j : Nat} {row : List zAT} {old x : zAT} (h : zBu.own w S [u] cs) (hs : cs[s]? = some row) (hj : row[j]? = some old) (mm : zAX zAR w w9 [c1, c2, c3] x) :
    ∃ g q a b, u = .slice (some ⟨g, 0, none⟩) cs.length q ∧ w.cell? ⟨g, s, none⟩ = some (.slice (some ⟨a, 0, none⟩) row.length b) ∧ S g ∧ S a ∧ g ≠ a ∧ a < w.heap.size ∧
     (∃ m, w9.heap[a]? = some (.cells m 39 (0, 0)) ∧ j * 3 + 2 < m.size) ∧
     zBu.own (zEs w9 a (j * 3) c1 c2 c3) (fun k => Old w S k ∨ (w.heap.size ≤ k ∧ k < w9.heap.size)) [u] (cs.set s (row.set j x)) ∧ Chg (fun k => k = a) w (zEs w9 a (j * 3) c1 c2 c3) := by
 obtain ⟨g, q, m, Sj, T, c', hv, v, J, M, K, ho, I, O, X, U, n2, n⟩ := zBH (zBM h) hs;have e1 : zBl.size = 1 := rfl;simp only [e1, Nat.mul_one] at M n;obtain ⟨Y, rfl⟩ : ∃ Y, c' = [Y] := List.length_eq_one_iff.1 K;obtain ⟨a, b, c, Sj2, T2, G, N, f, A, r, D, iA, t1, Z, eA, k1, k2, l⟩ := zBH ho hj;subst N;subst hv;have e3 : zAR.size = 3 := rfl;simp only [e3] at r l;have C : g ≠ a := fun e => U (e ▸ f);have L : m[s]? = some (.slice (some ⟨a, 0, none⟩) row.length b) := by simpa using M 0 (by decide)
 have H := (ltH A);have hl := (ltH J);have R := zAa mm.2 A;have sz := mm.2.size;have V : G.length = 3 := D;have B : j * 3 + 2 < c.size := by
  have := r 2 (by decide);rw [List.getElem?_eq_getElem (by omega)] at this;exact (ltH this)
 have F : Chg (fun k => k = a) w (zEs w9 a (j * 3) c1 c2 c3) := by
  have := (zA9 (S := fun k => k = a) mm.2).trans (zFq (S := fun k => k = a) (o := j * 3) (x := c1) (y := c2) (z := c3) rfl);exact this
 refine ⟨g, q, a, b, rfl, by rw [cell_of_row w g s _ _ (0, 0) J]; exact L, v.1, (I a f).1, C, H, ⟨c, R, B⟩, ?_, F⟩;have B2 : zBl.own (zEs w9 a (j * 3) c1 c2 c3) (fun k => Sj k ∨ (w.heap.size ≤ k ∧ k < w9.heap.size)) [.slice (some ⟨a, 0, none⟩) row.length b] (row.set j x) := by
  refine l _ (((c.setIfInBounds (j * 3) c1).setIfInBounds (j * 3 + 1) c2).setIfInBounds (j * 3 + 2) c3) [c1, c2, c3] x (rng w.heap.size w9.heap.size) _ (zMT R) (by simp) ?_ ?_ ?_ (zAR.own_keep mm.1 fun k d _ => zDd fun e => by have := d.1; omega) ?_ ?_ ?_ ?_ ?_
  ·intro i hi;rw [Array.getElem?_setIfInBounds_ne (by omega), Array.getElem?_setIfInBounds_ne (by omega), Array.getElem?_setIfInBounds_ne (by omega)]
  ·intro i hi;have : i = 0 ∨ i = 1 ∨ i = 2 := by omega
   rcases this with rfl | rfl | rfl
   ·rw [Array.getElem?_setIfInBounds_ne (by omega), Array.getElem?_setIfInBounds_ne (by omega)];simp [show j * 3 < c.size from by omega]
   ·rw [Array.getElem?_setIfInBounds_ne (by omega)];simp [show j * 3 + 1 < c.size from by omega]
   ·simp [B]
  ·intro k d p;exact F.block k p fun e => k2 (e ▸ d)
  ·intro k d E;have := (I k (Z k E)).2;have := d.1;omega
  ·intro d;have := d.1;omega
  ·exact .inl f
  ·exact fun k d => .inr d
  ·exact fun k d => .inl (Z k d)
 refine n _ m _ _ (fun k => Sj k ∨ (w.heap.size ≤ k ∧ k < w9.heap.size)) _ ((F.block g hl C).trans J) rfl (fun _ _ => rfl) M ?_ B2 ?_ ?_ ?_ ?_ ?_
 ·intro k d p;exact F.block k p fun e => X k (e ▸ f) d
 ·rintro k (h | h) E
  ·exact X k h E
  ·have := (O k E).2; omega
 ·rintro (h | h)
  ·exact U h
  ·omega
 ·exact .inl v
 ·rintro k (h | h)
  ·exact .inl (I k h)
  ·exact .inr h
 ·exact fun k d => .inl (O k d)
theorem zCf {w : World} {g b o k : Nat} {u x y z : Value} (hne : b ≠ g) (h : w.cell? ⟨b, k, none⟩ = some u) : (((w.setCell ⟨g, o, none⟩ x).setCell ⟨g, o + 1, none⟩ y).setCell ⟨g, o + 2, none⟩ z).cell? ⟨b, k, none⟩ = some u := cs1 hne (cs1 hne (cs1 hne h))
theorem zCN {w : World} {S : zAW} {u : Value} {cs : List (List zAT)} {s j : Nat} {row : List zAT} {old : zAT} (h : zBu.own w S [u] cs) (hs : cs[s]? = some row) (hj : row[j]? = some old) :
    ∃ g l c b, u = .slice (some ⟨g, 0, none⟩) cs.length l ∧ w.cell? ⟨g, s, none⟩ = some (.slice (some ⟨c, 0, none⟩) row.length b) ∧ S g ∧ S c ∧ g ≠ c ∧ g < w.heap.size ∧ c < w.heap.size ∧
     ∀ w9 c1 c2 c3 x, zAX zAR w w9 [c1, c2, c3] x → (∃ f, w9.heap[c]? = some (.cells f 39 (0, 0)) ∧ j * 3 + 2 < f.size) ∧
      zBu.own (zEs w9 c (j * 3) c1 c2 c3) (fun k => Old w S k ∨ (w.heap.size ≤ k ∧ k < w9.heap.size)) [u] (cs.set s (row.set j x)) ∧ Chg (fun k => k = c) w (zEs w9 c (j * 3) c1 c2 c3) := by
 obtain ⟨g, l, f, Sj, T, J, K, q, B, F, v, M, I, s2, hd, L, n2, E⟩ := zBH (zBM h) hs;have p : zBl.size = 1 := rfl;simp only [p, Nat.mul_one] at F;obtain ⟨D, rfl⟩ : ∃ D, J = [D] := List.length_eq_one_iff.1 v;obtain ⟨c, b, G, Sj2, T2, H, A, i, r, _⟩ := zBH M hj;subst A;subst K;have z : f[s]? = some (.slice (some ⟨c, 0, none⟩) row.length b) := by simpa using F 0 (by decide)
 have d : w.cell? ⟨g, s, none⟩ = some (.slice (some ⟨c, 0, none⟩) row.length b) := by rw [cell_of_row w g s _ _ (0, 0) B]; exact z
 refine ⟨g, l, c, b, rfl, d, q.1, (I c i).1, fun e => L (e ▸ i), (ltH B), (ltH r), fun w9 c1 c2 c3 x mm => ?_⟩;obtain ⟨g', C, N, y, p, a, _, _, _, _, o, m, n⟩ := own_put h hs hj mm;simp only [Value.slice.injEq, Option.some.injEq, Addr.mk.injEq, and_true, true_and] at p;obtain ⟨rfl, -⟩ := p;rw [d] at a;simp only [Option.some.injEq, Value.slice.injEq, Addr.mk.injEq, and_true, true_and] at a;obtain ⟨rfl, -⟩ := a;exact ⟨o, m, n⟩
set_option maxRecDepth 8000 in
set_option maxHeartbeats 4000000 in
theorem zGG (S : zAW) (u v2 : Value) (cs : List (List zAT)) (s j : Nat) (row : List zAT) (old : zAT) (l st : Int) (d : List Int) (ad : Option Addr) (cpw : Nat) (w : World) (h : zBu.own w S [u] cs) (hs : cs[s]? = some row) (hj : row[j]? = some old)
    (m1 : cs.length ≤ 1048576) (m2 : row.length ≤ 1048576) (i1 : zBk l) (i2 : zBk st) (hd : zBg zBC w ad d) (hm : d.length ≤ 1048576) :
    Calls Tryz.prog 100 #[.agg #[u, v2], .agg #[.int .i64 (s : Int), .int .i64 (j : Int)], .agg #[.int .i64 l, .int .i64 st, .slice ad d.length cpw]] w fun e w' => e = .returned (.tuple #[]) ∧
     zBu.own w' (fun k => Old w S k ∨ (w.heap.size ≤ k ∧ k < w'.heap.size)) [u] (cs.set s (row.set j (l, st, d))) ∧ ∃ g p a b, u = .slice (some ⟨g, 0, none⟩) cs.length p ∧ w.cell? ⟨g, s, none⟩ = some (.slice (some ⟨a, 0, none⟩) row.length b) ∧ g ≠ a ∧ Old w S a ∧ Chg (fun k => k = a) w w' := by
 have bA : s < cs.length := (List.getElem?_eq_some_iff.1 hs).1;have dA : j < row.length := (List.getElem?_eq_some_iff.1 hj).1;have mA : (s : Int) < (cs.length : Int) := by omega
 have lA : (j : Int) < (row.length : Int) := by omega
 have C := zAb (zAb (zAf w (.cells #[u, v2] 37)) (zAf _ (.cells #[.int .i64 (s : Int), .int .i64 (j : Int)] 126))) (zAf _ (.cells #[.int .i64 l, .int .i64 st, .slice ad d.length cpw] 39));go_enter Tryz.func100, Tryz.ntmps100;go_wp2_with fail
 have J := zAK (.cells #[.int .i64 l, .int .i64 st, .slice ad d.length cpw] 39) (zAK (.cells #[.int .i64 (s : Int), .int .i64 (j : Int)] 126) (zAx w (.cells #[u, v2] 37)));have G := zAK (.cells #[.int .i64 l, .int .i64 st, .slice ad d.length cpw] 39) (zAx (w.alloc (.cells #[u, v2] 37)) (.cells #[.int .i64 (s : Int), .int .i64 (j : Int)] 126));have D := zAx ((w.alloc (.cells #[u, v2] 37)).alloc (.cells #[.int .i64 (s : Int), .int .i64 (j : Int)] 126)) (.cells #[.int .i64 l, .int .i64 st, .slice ad d.length cpw] 39);rw [zAp] at G;rw [zAp, zAp] at D;generalize ((w.alloc (.cells #[u, v2] 37)).alloc (.cells #[.int .i64 (s : Int), .int .i64 (j : Int)] 126)).alloc (.cells #[.int .i64 l, .int .i64 st, .slice ad d.length cpw] 39) = W0 at C J G D ⊢;obtain ⟨g, p, a, b, rfl, m, cA, i, I, q, F, K⟩ := zCN (zBM h) hs hj;have H' : zBu.own W0.drew (Old w S) [.slice (some ⟨g, 0, none⟩) cs.length p] cs := zBu.own_keep (zBM h) (zAh C.drew);obtain ⟨g', gA, zA, O, e1, f, -, -, -, -, -, H⟩ := zCN H' hs hj;simp only [Value.slice.injEq, Option.some.injEq, Addr.mk.injEq, and_true, true_and] at e1;obtain ⟨rfl, -⟩ := e1;have A : W0.drew.cell? ⟨g, s, none⟩ = some (.slice (some ⟨a, 0, none⟩) row.length b) := zAd C.drew m q;rw [A] at f;simp only [Option.some.injEq, Value.slice.injEq, Addr.mk.injEq, and_true, true_and] at f;obtain ⟨rfl, -⟩ := f;have ST : Hid _ := H;have HX : Hid _ := And.intro J (And.intro G D);have HD : Hid (zBg zBC W0.drew ad d) := zA7 hd fun k hk => C.drew.block k hk;have E : W0.cell? ⟨g, s, none⟩ = some (.slice (some ⟨a, 0, none⟩) row.length b) := A;obtain ⟨x0, x1⟩ := zAy J;obtain ⟨y0, y1⟩ := zAy G;obtain ⟨z0, z1, z2⟩ := zCm D;have n0 : w.heap.size ≠ a := by have := i.2; omega
 have n1 : w.heap.size + 1 ≠ a := by have := i.2; omega
 have U : w.heap.size + 1 + 1 ≠ a := by have := i.2; omega
 have L : Hid _ := C;have HI : Hid (zBk l ∧ zBk st) := ⟨i1, i2⟩;have N : Hid (g < w.heap.size ∧ Old w S a ∧ w.cell? ⟨g, s, none⟩ = some (.slice (some ⟨a, 0, none⟩) row.length b)) := ⟨q, i, m⟩;clear J G D H K H' A m hd h hs hj bA dA C i1 i2 q F cA i;go_region_held3 (fun wx => wx.cell? ⟨w.heap.size, 0, none⟩ = some (.slice (some ⟨g, 0, none⟩) cs.length p) ∧ wx.cell? ⟨w.heap.size + 1, 0, none⟩ = some (.int .i64 (s : Int)) ∧ wx.cell? ⟨w.heap.size + 1, 1, none⟩ = some (.int .i64 (j : Int)) ∧ wx.cell? ⟨g, s, none⟩ = some (.slice (some ⟨a, 0, none⟩) row.length b) ∧ wx.cell? ⟨w.heap.size + 1 + 1, 0, none⟩ = some (.int .i64 l) ∧ wx.cell? ⟨w.heap.size + 1 + 1, 1, none⟩ = some (.int .i64 st) ∧ wx.cell? ⟨w.heap.size + 1 + 1, 2, none⟩ = some (.slice ad d.length cpw)) (first | (go_keep; done) | (exact ⟨zCf n0 fA, zCf n1 T, zCf n1 V, zCf I aA, zCf U M, zCf U eA, zCf U R⟩)) (first | (go_at_call 71; refine (zDS l st d ad cpw _ HI.out.1 HI.out.2 HD.out hm).mono ?_; rintro e n ⟨av, cv, rfl, B⟩; obtain ⟨⟨r, c, GA⟩, OW, CH⟩ := ST.out n _ _ _ _ B; obtain ⟨X, Y, Z⟩ := HX.out; replace X := zAa (w := W0.drew) B.2 X; replace Y := zAa (w := W0.drew) B.2 Y; replace Z := zAa (w := W0.drew) B.2 Z; obtain ⟨fA, HA⟩ := zAy X; obtain ⟨T, V⟩ := zAy Y; obtain ⟨M, eA, R⟩ := zCm Z; have aA := zAd (w := W0.drew) B.2 (by exact E) (by have := L.out.size; have := N.out.1; exact Nat.lt_of_lt_of_le (by omega) (Nat.le_refl W0.heap.size)); have c0 : n.cell? ⟨a, j * 3, none⟩ = r[j * 3]? := cell_of_row n a (j * 3) _ _ (0, 0) c; have c1 : n.cell? ⟨a, j * 3 + 1, none⟩ = r[j * 3 + 1]? := cell_of_row n a (j * 3 + 1) _ _ (0, 0) c; have c2 : n.cell? ⟨a, j * 3 + 2, none⟩ = r[j * 3 + 2]? := cell_of_row n a (j * 3 + 2) _ _ (0, 0) c; rw [Array.getElem?_eq_getElem (by omega)] at c0 c1 c2; have IA := frozen_of_row n a (j * 3) _ _ c; have DA := frozen_of_row n a (j * 3 + 1) _ _ c; have AA := frozen_of_row n a (j * 3 + 2) _ _ c; have sA : W0.heap.size ≤ n.heap.size := B.2.size))
 all_goals
  refine bodyPost_end (v := .tuple #[]) (by simp [results, Tryz.results100, go_sem]) rfl ⟨rfl, zBu.own_mono OW ?_, ?_⟩
  ·rintro k (h | h)
   ·exact .inl h.1
   ·exact .inr ⟨by have := L.out.size; have : W0.heap.size ≤ k := h.1; omega, by have := h.2; have e := zFp (w := n) (g := a) (o := j * 3) (x := .int .i64 l) (y := .int .i64 st) (z := .slice av d.length cv); unfold zEs at e; omega⟩
  ·exact ⟨g, p, a, b, rfl, N.out.2.2, I, N.out.2.1, Chg.trans (zA9 L.out.drew) CH⟩
theorem zEM (S : zAW) (u v2 : Value) (cs : List (List zAT)) (s j : Nat) (row : List zAT) (old : zAT) (l st : Int) (d : List Int) (ad : Option Addr) (cpw : Nat) (w : World) (h : zBu.own w S [u] cs) (hs : cs[s]? = some row) (hj : row[j]? = some old)
    (m1 : cs.length ≤ 1048576) (m2 : row.length ≤ 1048576) (i1 : zBk l) (i2 : zBk st) (hd : zBg zBC w ad d) (hm : d.length ≤ 1048576) :
    Calls Tryz.prog 100 #[.agg #[u, v2], .agg #[.int .i64 (s : Int), .int .i64 (j : Int)], .agg #[.int .i64 l, .int .i64 st, .slice ad d.length cpw]] w fun e a => e = .returned (.tuple #[]) ∧
     zBu.own a (fun k => Old w S k ∨ (w.heap.size ≤ k ∧ k < a.heap.size)) [u] (cs.set s (row.set j (l, st, d))) ∧ Chg (Old w S) w a := by
 refine (zGG S u v2 cs s j row old l st d ad cpw w h hs hj m1 m2 i1 i2 hd hm).mono ?_;rintro e a ⟨m, o, g, f, n, b, -, -, -, i, c⟩;exact ⟨m, o, c.mono fun k hk => by have e : k = n := hk; rw [e]; exact i⟩
end Go.Proofs.YtmdhblhdfcocjaaGreatDoor
