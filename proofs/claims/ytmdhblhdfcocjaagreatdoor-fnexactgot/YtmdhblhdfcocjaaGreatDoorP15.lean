import Derived.Test.YtmdhblhdfcocjaaGreatDoorP00Box
import Derived.Test.YtmdhblhdfcocjaaGreatDoorP14
import Derived.Deep.RegionHeld3
namespace Go.Proofs.YtmdhblhdfcocjaaGreatDoor
open Go.ChangeShapes Go.WideShapes Go.ChangeAt Go.RowKit
set_option linter.unusedVariables false
section
variable {α : Type}
theorem zJj {e : TypeId} {R : Rep α} {w : World} {S : zAW} : ∀ n, zHi (slR e R) w S (List.replicate n (sL none 0 0)) (List.replicate n ([] : List α))
 | 0 => rfl
 | n + 1 => ⟨[_], List.replicate n (.slice none 0 0), fun _ => False, S, rfl, ⟨_, [], fun _ => False, rfl, World.ownsRow_nil _ _ _ _, fun g hg => by simp [Value.ownBlock] at hg, fun _ h => h.elim, rfl⟩, zJj n, fun _ h => h.elim, Sub.refl _, fun _ h _ => h⟩
theorem made_one (n : Nat) (z : Value) : (madeCells #[z] n).toList = List.replicate n z := by
 apply List.ext_getElem?
 intro i;rw [List.getElem?_replicate];unfold madeCells;by_cases h : i < n
 ·simp [h, Nat.mod_one]
 ·simp [h]
end
theorem zLM (w : World) (a b c : Value) (t : TypeId) : ∀ j u, [a, b, c][j]? = some u → (w.alloc (.cells #[a, b, c] t)).cell? ((⟨w.heap.size, 0, none⟩ : Addr).add j) = some u := by
 intro j u d;have X := zAx w (.cells #[a, b, c] t);have hj := (List.getElem?_eq_some_iff.1 d).1;rw [show (⟨w.heap.size, 0, none⟩ : Addr).add j = ⟨w.heap.size, j, none⟩ from by simp [Addr.add] <;> omega, cell_of_row _ _ j _ _ (0, 0) X];simpa using d
theorem zLN (w : World) (a : Value) (t : TypeId) : ∀ j u, [a][j]? = some u → (w.alloc (.cells #[a] t)).cell? ((⟨w.heap.size, 0, none⟩ : Addr).add j) = some u := by
 intro j u b;have X := zAx w (.cells #[a] t);rw [show (⟨w.heap.size, 0, none⟩ : Addr).add j = ⟨w.heap.size, j, none⟩ from by simp [Addr.add] <;> omega, cell_of_row _ _ j _ _ (0, 0) X];simpa using b
section
variable {α : Type}
end
theorem zJk (w : World) (S : zAW) : zAB.own w S [sL none 0 0, sL none 0 0] (([], []) : zAu) :=
 zCd (S1 := fun _ => False) (S2 := fun _ => False) ⟨_, [], fun _ => False, rfl, World.ownsRow_nil _ _ _ _, fun g hg => by simp [Value.ownBlock] at hg, fun _ h => h.elim, rfl⟩ (zDR w _) (fun _ h => h.elim) (fun _ h => h.elim) (fun _ h _ => h)
open Go.ChangeShapes Go.WideShapes Go.ChangeAt Go.RowKit Go.Shelf
noncomputable def zDU (c : zAu) (line : Int) : zAT × Int := zEV isL zAJ c line
theorem find_bad {c : zAu} {line : Int} (h : okB isL zAJ c = false) : zDU c line = (zAF, -1) := by
 unfold zDU zEV;rw [h];rfl
theorem zD4 {d : List Int} (h : isL d = true) : d.length = 2 := by
 rcases zFh d with a | ⟨x, y, rfl, _, _⟩
 ·rw [h] at a;cases a
 ·rfl
theorem zMS {c : zAu} (h : OkC isL zAJ c) {s j : Nat} {row : List zAT} {u : zAT} (hr : c.1[s]? = some row) (hu : row[j]? = some u) : u.2.2.length ≤ 2 := by
 obtain ⟨h1, h2, m, hm, d⟩ := h;rcases (d s row hr).2.2.1 j u hu with b | ⟨a, _⟩
 ·rw [zCQ b];simp [zAF]
 ·rw [zKf] at a;simp only [Bool.and_eq_true] at a;rw [zD4 a.2.2];exact Nat.le_refl _
theorem zEW {w1 : World} {lo hi g o : Nat} {v : Value} {cs : List Value} {u : zAT} (h : zAR.own w1 (rng lo hi) cs u) (hg : g < lo ∨ hi ≤ g) : zAR.own (w1.setCell ⟨g, o, none⟩ v) (rng lo hi) cs u :=
 zAl h (fun h' => by have := h'.1; have := h'.2; omega)
theorem cs1 {w : World} {g b o k : Nat} {u v : Value} (hne : ¬ (b = g)) (h : w.cell? ⟨b, k, none⟩ = some u) : (w.setCell ⟨g, o, none⟩ v).cell? ⟨b, k, none⟩ = some u :=
 (World.cell?_of_block (w := w) (a := ⟨b, k, none⟩) (heap_setCell_other w ⟨g, o, none⟩ b v hne)).trans h
theorem cs3 {w : World} {g b k : Nat} {u x y z : Value} (hne : ¬ (b = g)) (h : w.cell? ⟨b, k, none⟩ = some u) : (((w.setCell ⟨g, 0, none⟩ x).setCell ⟨g, 1, none⟩ y).setCell ⟨g, 2, none⟩ z).cell? ⟨b, k, none⟩ = some u := cs1 hne (cs1 hne (cs1 hne h))
theorem fin_own {w1 : World} {lo hi g : Nat} {cs : List Value} {u : zAT} {x y z : Value} (h : zAR.own w1 (rng lo hi) cs u) (hg : g < lo) : zAR.own (((w1.setCell ⟨g, 0, none⟩ x).setCell ⟨g, 1, none⟩ y).setCell ⟨g, 2, none⟩ z) (rng lo hi) cs u :=
 zEW (zEW (zEW h (.inl hg)) (.inl hg)) (.inl hg)
theorem zIo {w w0 w1 : World} {g : Nat} {cs : List Value} {u : zAT} {x y z : Value} (hb : Below w.heap.size w w0) (h : zAX zAR w0 w1 cs u) (hg : g < w0.heap.size) (hw : w.heap.size ≤ g) : zAX zAR w (((w1.setCell ⟨g, 0, none⟩ x).setCell ⟨g, 1, none⟩ y).setCell ⟨g, 2, none⟩ z) cs u :=
 ⟨zAR.own_mono (fin_own h.1 hg) (zCb hb.size (by simp)), zAq (zAq (zAq (zAb hb h.2) hw) hw) hw⟩
set_option maxHeartbeats 2000000 in
theorem zIp (a b : Option Addr) (c : zAu) (cap cp : Nat) (line : Int) (w : World) (h1 : zBg zBl w a c.1) (h2 : zBg zBC w b c.2) (m1 : c.1.length ≤ maxLen) (m2 : c.2.length ≤ maxLen) (m3 : ∀ row ∈ c.1, row.length ≤ maxLen) :
    Calls Tryz.prog 125 #[.agg #[sL a c.1.length cap, sL b c.2.length cp], nI line] w fun e w' => ∃ g i, e = .returned (.tuple #[.agg #[nI (zDU c line).1.1, nI (zDU c line).1.2.1, sL g (zDU c line).1.2.2.length i], nI (zDU c line).2]) ∧
     zAX zAR w w' [nI (zDU c line).1.1, nI (zDU c line).1.2.1, sL g (zDU c line).1.2.2.length i] (zDU c line).1 := by
 have n : Hid (∀ W, Below w.heap.size w W → Calls Tryz.prog 64 #[.agg #[sL a c.1.length cap, sL b c.2.length cp]] W fun e w' => e = .returned (.bool (okB isL zAJ c)) ∧ Below W.heap.size W w') := fun W hb =>
  zDk a b c cap cp W (zA7 h1 fun k hk => hb.block k hk) (zA7 h2 fun k hk => hb.block k hk) m1 m2 m3
 cases s : okB isL zAJ c
 ·rw [s] at n;rw [find_bad s];show Calls Tryz.prog 125 _ w fun e w' => ∃ g i, e = .returned (.tuple #[.agg #[nI (-1), nI 0, sL g 0 i], nI (-1)]) ∧ zAX zAR w w' [nI (-1), nI 0, sL g 0 i] zAF
  clear h1 h2 m1 m2 m3;have X := zAK (.cells #[nI 0, nI 0, sL none 0 0] 39) (zAx w (.cells #[sL a c.1.length cap, sL b c.2.length cp] 37));have Y := zAx (w.alloc (.cells #[sL a c.1.length cap, sL b c.2.length cp] 37)) (.cells #[nI 0, nI 0, sL none 0 0] 39);rw [zAp] at Y;have B := zAb (zAf w (.cells #[sL a c.1.length cap, sL b c.2.length cp] 37)) (zAf _ (.cells #[nI 0, nI 0, sL none 0 0] 39));go_enter Tryz.func125, Tryz.ntmps125;go_wp2_with fail
  generalize (w.alloc (.cells #[sL a c.1.length cap, sL b c.2.length cp] 37)).alloc (.cells #[nI 0, nI 0, sL none 0 0] 39) = W0 at X Y B ⊢;refine (n.out _ B).mono ?_;rintro e w1 ⟨rfl, f⟩;replace B := zAb B f;replace Y := zAa f Y;clear f X n;go_wp2_with fail
  have O := (ltH Y);refine (zEr _).mono ?_;rintro e w9 ⟨g, i, rfl, m⟩;replace Y := zAa m.2 Y;obtain ⟨y0, y1, y2⟩ := zCm Y;obtain ⟨f0, f1, f2⟩ := zCx Y;have HM : Hid _ := aI Y m;clear Y m;go_wp2;obtain ⟨Y, m⟩ := HM.out;obtain ⟨U, V, K⟩ := zCm (put3 (a := nI (-1)) (b := nI 0) (c := sL g 0 i) Y);refine bodyPost_ret (v := .tuple #[.agg #[nI (-1), nI 0, sL g 0 i], nI (-1)]) (by simp [results, Tryz.results125, go_sem, U, V, K]) rfl ⟨g, i, rfl, zIo B m O (by omega)⟩
 ·have d := zCK.1 s;rw [s] at n;have l : Hid (∀ W, Below w.heap.size w W → Calls Tryz.prog 95 #[.agg #[sL a c.1.length cap, sL b c.2.length cp], nI line] W fun e w' => e = .returned (.tuple #[.agg #[nI (zCr c line).1, nI (zCr c line).2.1], .bool (zCr c line).2.2]) ∧ Below W.heap.size W w') :=
   fun W hbw => zEo a b c cap cp line W d (zA7 h1 fun k hk => hbw.block k hk)
  cases o : atC c line with
  | none =>
   have D : Hid (zDU c line = (zAF, -1)) := zG5 o;have I : (zCr c line).2.2 = false := by rw [zE8 d, o]; split <;> rfl
   rw [I] at l;rw [D.out];show Calls Tryz.prog 125 _ w fun e w' => ∃ g i, e = .returned (.tuple #[.agg #[nI (-1), nI 0, sL g 0 i], nI (-1)]) ∧ zAX zAR w w' [nI (-1), nI 0, sL g 0 i] zAF
   clear h1 h2 m1 m2 m3 d I;generalize (zCr c line).1 = f1 at l;generalize (zCr c line).2.1 = f2 at l;have X := zAK (.cells #[nI 0, nI 0, sL none 0 0] 39) (zAx w (.cells #[sL a c.1.length cap, sL b c.2.length cp] 37));have Y := zAx (w.alloc (.cells #[sL a c.1.length cap, sL b c.2.length cp] 37)) (.cells #[nI 0, nI 0, sL none 0 0] 39);rw [zAp] at Y;have B := zAb (zAf w (.cells #[sL a c.1.length cap, sL b c.2.length cp] 37)) (zAf _ (.cells #[nI 0, nI 0, sL none 0 0] 39));go_enter Tryz.func125, Tryz.ntmps125;go_wp2_with fail
   generalize (w.alloc (.cells #[sL a c.1.length cap, sL b c.2.length cp] 37)).alloc (.cells #[nI 0, nI 0, sL none 0 0] 39) = W0 at X Y B ⊢;refine (n.out _ B).mono ?_;rintro e w1 ⟨rfl, f⟩;replace B := zAb B f;replace X := zAa f X;replace Y := zAa f Y;obtain ⟨x0, x1⟩ := zAy X;clear f n;go_wp2_with fail
   refine (l.out _ B).mono ?_;rintro e w2 ⟨rfl, f⟩;have z := zAf w2 (.cells #[nI f1, nI f2] 126);replace B := zAb (zAb B f) z;replace Y := zAa z (zAa f Y);clear f z x0 x1 X l;go_wp2_with fail
   generalize w2.alloc (.cells #[nI f1, nI f2] 126) = w3 at Y B ⊢;have O := (ltH Y);refine (zEr _).mono ?_;rintro e w9 ⟨g, i, rfl, m⟩;replace Y := zAa m.2 Y;obtain ⟨y0, y1, y2⟩ := zCm Y;obtain ⟨f0, f1, f2⟩ := zCx Y;have HM : Hid _ := aI Y m;clear Y m;go_wp2;obtain ⟨Y, m⟩ := HM.out;obtain ⟨U, V, K⟩ := zCm (put3 (a := nI (-1)) (b := nI 0) (c := sL g 0 i) Y);refine bodyPost_ret (v := .tuple #[.agg #[nI (-1), nI 0, sL g 0 i], nI (-1)]) (by simp [results, Tryz.results125, go_sem, U, V, K]) rfl ⟨g, i, rfl, zIo B m O (by omega)⟩
  | some fi =>
   obtain ⟨dB, u, R, rA⟩ := zD1 o;have hb : zAP line 0 15 = true := by
    cases vA : zAP line 0 15
    ·rw [at_out d vA] at o;cases o
    ·rfl
   have D : Hid (zDU c line = (u, (fi : Int))) := zG6 d o R;have I : zCr c line = (((zAE c line : Nat) : Int), (fi : Int), true) := by rw [zE8 d, if_pos hb, o]; rfl
   rw [I] at l;rw [D.out];obtain ⟨hp, q, qA, CA, S, EA⟩ := zDy d line;have JA := zMS d q R;obtain ⟨A, G, aj, cj, rfl, k2, -, -, M⟩ := zDj h1 q;have sA := (List.getElem?_eq_some_iff.1 R).1;obtain ⟨r, p, cs, rfl, y, j⟩ := zBG M R;obtain ⟨ad, F, rfl, i1, i2, -, -, L⟩ := zAL y;have k4 := j 0 _ rfl;have k5 := j 1 _ rfl;have k6 := j 2 _ rfl;rw [show p + (fi * zAR.size + 0) = p + fi * 3 from rfl] at k4;rw [show p + (fi * zAR.size + 1) = p + fi * 3 + 1 from rfl] at k5;rw [show p + (fi * zAR.size + 2) = p + fi * 3 + 2 from rfl] at k6;have DA : (fi : Int) < ((zAm c line).length : Int) := by omega
   have H : ((zAE c line : Nat) : Int) < (c.1.length : Int) := by omega
   have HI : Hid (zBk u.1 ∧ zBk u.2.1) := ⟨i1, i2⟩;have HD : Hid (∀ W, Below w.heap.size w W → zBg zBC W ad u.2.2) := fun W hbw => zA7 L fun k hk => hbw.block k hk;have N : Hid (u.2.2.length ≤ 1048576) := by unfold Hid; omega
   have J : Hid (∀ W, Below w.heap.size w W → W.cell? ⟨A, G + zAE c line, none⟩ = some (sL (some ⟨r, p, none⟩) (zAm c line).length cj) ∧ W.cell? ⟨r, p + fi * 3, none⟩ = some (nI u.1) ∧ W.cell? ⟨r, p + fi * 3 + 1, none⟩ = some (nI u.2.1) ∧ W.cell? ⟨r, p + fi * 3 + 2, none⟩ = some (sL ad u.2.2.length F)) :=
    fun W hbw => ⟨zAd hbw k2 (zAi k2), zAd hbw k4 (zAi k4), zAd hbw k5 (zAi k5), zAd hbw k6 (zAi k6)⟩
   have aB := zAi k2;have mB := zAi k4;clear h1 h2 m1 m2 m3 d q qA CA S R rA M y j i1 i2 L k2 k4 k5 k6 I JA hp;generalize zAE c line = sn at l J EA H;generalize (zAm c line).length = rn at J DA sA;obtain ⟨ul, us, ud⟩ := u;simp only at HI HD N J
   have X := zAK (.cells #[nI 0, nI 0, sL none 0 0] 39) (zAx w (.cells #[sL (some ⟨A, G, none⟩) c.1.length cap, sL b c.2.length cp] 37));have Y := zAx (w.alloc (.cells #[sL (some ⟨A, G, none⟩) c.1.length cap, sL b c.2.length cp] 37)) (.cells #[nI 0, nI 0, sL none 0 0] 39);rw [zAp] at Y;have B := zAb (zAf w (.cells #[sL (some ⟨A, G, none⟩) c.1.length cap, sL b c.2.length cp] 37)) (zAf _ (.cells #[nI 0, nI 0, sL none 0 0] 39));go_enter Tryz.func125, Tryz.ntmps125;go_wp2_with fail
   generalize (w.alloc (.cells #[sL (some ⟨A, G, none⟩) c.1.length cap, sL b c.2.length cp] 37)).alloc (.cells #[nI 0, nI 0, sL none 0 0] 39) = W0 at X Y B ⊢;refine (n.out _ B).mono ?_;rintro e w1 ⟨rfl, f⟩;replace B := zAb B f;replace X := zAa f X;replace Y := zAa f Y;obtain ⟨x0, x1⟩ := zAy X;clear f n;go_wp2_with fail
   refine (l.out _ B).mono ?_;rintro e E ⟨rfl, f⟩;have KA : Hid (w.heap.size + 1 < E.heap.size) := (Array.getElem?_eq_some_iff.1 (zAa f Y)).1;have z := zAf E (.cells #[nI (sn : Int), nI (fi : Int)] 126);have Z := zAx E (.cells #[nI (sn : Int), nI (fi : Int)] 126);replace B := zAb (zAb B f) z;replace X := zAa z (zAa f X);replace Y := zAa z (zAa f Y);clear f z x0 x1 l;go_wp2_with fail
   generalize E.alloc (.cells #[nI (sn : Int), nI (fi : Int)] 126) = w5 at X Y Z B ⊢;have O := (ltH Y);obtain ⟨x0, x1⟩ := zAy X;obtain ⟨z0, z1⟩ := zAy Z;obtain ⟨p0, p1, p2, p3⟩ := J.out _ B;have HX : Hid _ := aI X (aI Y Z);have T : ¬ (E.heap.size = w.heap.size + 1) := by have := KA.out; omega
   have oA : ¬ (A = w.heap.size + 1) := by omega
   have C : ¬ (r = w.heap.size + 1) := by omega
   clear X Y Z;go_region_held3 (fun wx => wx.cell? ⟨w.heap.size, 0, none⟩ = some (sL (some ⟨A, G, none⟩) c.1.length cap) ∧ wx.cell? ⟨E.heap.size, 0, none⟩ = some (nI (sn : Int)) ∧ wx.cell? ⟨E.heap.size, 1, none⟩ = some (nI (fi : Int)) ∧ wx.cell? ⟨A, G + sn, none⟩ = some (sL (some ⟨r, p, none⟩) rn cj) ∧ wx.cell? ⟨r, p + fi * 3, none⟩ = some (nI ul) ∧ wx.cell? ⟨r, p + fi * 3 + 1, none⟩ = some (nI us) ∧ wx.cell? ⟨r, p + fi * 3 + 2, none⟩ = some (sL ad ud.length F)) (first | (go_keep; done) | (exact ⟨cs3 (by omega) FA, cs3 T yA, cs3 T HA, cs3 oA IA, cs3 C GA, cs3 C AA, cs3 C zA⟩)) (first | (go_at_call 71; refine (zDS ul us ud ad F _ HI.out.1 HI.out.2 (HD.out _ B.drew) N.out).mono ?_; rintro e w9 ⟨g, i, rfl, m⟩; have BB := zAb B.drew m.2; obtain ⟨X, Y, Z⟩ := HX.out; replace X := zAa (w := w5.drew) m.2 X; replace Y := zAa (w := w5.drew) m.2 Y; replace Z := zAa (w := w5.drew) m.2 Z; obtain ⟨FA, fB⟩ := zAy X; obtain ⟨yA, HA⟩ := zAy Z; obtain ⟨IA, GA, AA, zA⟩ := J.out _ BB; obtain ⟨XA, UA, ZA⟩ := zCm Y; obtain ⟨gB, VA, iB⟩ := zCx Y))
   all_goals
    go_wp2;obtain ⟨U, V, K⟩ := zCm (put3 (a := nI ul) (b := nI us) (c := sL g ud.length i) Y);refine bodyPost_ret (v := .tuple #[.agg #[nI ul, nI us, sL g ud.length i], nI (fi : Int)]) (by simp [results, Tryz.results125, go_sem, U, V, K]) rfl ⟨g, i, rfl, zIo B.drew m (by exact O) (by omega)⟩
theorem zHE (d : List Int) : zBz zBx d = 0 := by
 induction d with
 | nil => rfl
 | cons x d ih =>
  simp only [zBz, List.map_cons, List.sum_cons] at ih ⊢;rw [ih];rfl
def zEs (w : World) (g o : Nat) (x y z : Value) : World := ((w.setCell ⟨g, o, none⟩ x).setCell ⟨g, o + 1, none⟩ y).setCell ⟨g, o + 2, none⟩ z
theorem zMT {w : World} {g o : Nat} {x y z : Value} {cur : Array Value} {t : TypeId} (h : w.heap[g]? = some (.cells cur t (0, 0))) : (zEs w g o x y z).heap[g]? = some (.cells (((cur.setIfInBounds o x).setIfInBounds (o + 1) y).setIfInBounds (o + 2) z) t (0, 0)) := by
 have h1 := heap_setCell_same w g o _ t x h;have h2 := heap_setCell_same _ g (o + 1) _ t y h1;exact heap_setCell_same _ g (o + 2) _ t z h2
theorem zDd {w : World} {g o k : Nat} {x y z : Value} (h : k ≠ g) : (zEs w g o x y z).heap[k]? = w.heap[k]? := by
 unfold zEs;rw [heap_setCell_other _ ⟨g, o + 2, none⟩ k z h, heap_setCell_other _ ⟨g, o + 1, none⟩ k y h, heap_setCell_other _ ⟨g, o, none⟩ k x h]
theorem zFp {w : World} {g o : Nat} {x y z : Value} : (zEs w g o x y z).heap.size = w.heap.size := by simp [zEs]
theorem zFq {w : World} {S : zAW} {g o : Nat} {x y z : Value} (h : S g) : Chg S w (zEs w g o x y z) := by
 have hb : Below g w (zEs w g o x y z) := zAq (zAq (zAq (Below.refl g w) (Nat.le_refl _)) (Nat.le_refl _)) (Nat.le_refl _);exact ⟨hb.os, hb.tape, hb.output, hb.size, fun k _ hn => zDd fun e => hn (e ▸ h)⟩
theorem own_put {w w9 : World} {S : zAW} {u c1 c2 c3 : Value} {cs : List (List zAT)} {s j : Nat} {row : List zAT} {old x : zAT} (h : zBu.own w S [u] cs) (hs : cs[s]? = some row) (hj : row[j]? = some old) (mm : zAX zAR w w9 [c1, c2, c3] x) :
    ∃ g cap g2 cap2, u = .slice (some ⟨g, 0, none⟩) cs.length cap ∧ w.cell? ⟨g, s, none⟩ = some (.slice (some ⟨g2, 0, none⟩) row.length cap2) ∧ S g ∧ S g2 ∧ g ≠ g2 ∧ g2 < w.heap.size ∧
     (∃ cur, w9.heap[g2]? = some (.cells cur 39 (0, 0)) ∧ j * 3 + 2 < cur.size) ∧
     zBu.own (zEs w9 g2 (j * 3) c1 c2 c3) (fun k => Old w S k ∨ (w.heap.size ≤ k ∧ k < w9.heap.size)) [u] (cs.set s (row.set j x)) ∧ Chg (fun k => k = g2) w (zEs w9 g2 (j * 3) c1 c2 c3) := by
 obtain ⟨g, cap, cur, Sj, T, c', hv, hSg, hg, hc, hcl, ho, s1, s2, hd, n1, n2, back⟩ := zBH (zBM h) hs;have e1 : zBl.size = 1 := rfl;simp only [e1, Nat.mul_one] at hc back;obtain ⟨u2, rfl⟩ : ∃ u2, c' = [u2] := List.length_eq_one_iff.1 hcl;obtain ⟨g2, cap2, cur2, Sj2, T2, c2', hv2, hSg2, hg2, hc2, hcl2, ho2, t1, t2, hd2, k1, k2, back2⟩ := zBH ho hj;subst hv2;subst hv;have e3 : zAR.size = 3 := rfl;simp only [e3] at hc2 back2;have hne : g ≠ g2 := fun e => n1 (e ▸ hSg2);have hck : cur[s]? = some (.slice (some ⟨g2, 0, none⟩) row.length cap2) := by simpa using hc 0 (by decide)
 have hl2 := (ltH hg2);have hl := (ltH hg);have G2 := zAa mm.2 hg2;have sz := mm.2.size;have hc2l : c2'.length = 3 := hcl2;have hj2 : j * 3 + 2 < cur2.size := by
  have := hc2 2 (by decide);rw [List.getElem?_eq_getElem (by omega)] at this;exact (ltH this)
 have C9 : Chg (fun k => k = g2) w (zEs w9 g2 (j * 3) c1 c2 c3) := by
  have := (zA9 (S := fun k => k = g2) mm.2).trans (zFq (S := fun k => k = g2) (o := j * 3) (x := c1) (y := c2) (z := c3) rfl);exact this
 refine ⟨g, cap, g2, cap2, rfl, by rw [cell_of_row w g s _ _ (0, 0) hg]; exact hck, hSg.1, (s1 g2 hSg2).1, hne, hl2, ⟨cur2, G2, hj2⟩, ?_, C9⟩;have B2 : zBl.own (zEs w9 g2 (j * 3) c1 c2 c3) (fun k => Sj k ∨ (w.heap.size ≤ k ∧ k < w9.heap.size)) [.slice (some ⟨g2, 0, none⟩) row.length cap2] (row.set j x) := by
  refine back2 _ (((cur2.setIfInBounds (j * 3) c1).setIfInBounds (j * 3 + 1) c2).setIfInBounds (j * 3 + 2) c3) [c1, c2, c3] x (rng w.heap.size w9.heap.size) _ (zMT G2) (by simp) ?_ ?_ ?_ (zAR.own_keep mm.1 fun k hk _ => zDd fun e => by have := hk.1; omega) ?_ ?_ ?_ ?_ ?_
  ·intro i hi;rw [Array.getElem?_setIfInBounds_ne (by omega), Array.getElem?_setIfInBounds_ne (by omega), Array.getElem?_setIfInBounds_ne (by omega)]
  ·intro i hi;have : i = 0 ∨ i = 1 ∨ i = 2 := by omega
   rcases this with rfl | rfl | rfl
   ·rw [Array.getElem?_setIfInBounds_ne (by omega), Array.getElem?_setIfInBounds_ne (by omega)];simp [show j * 3 < cur2.size from by omega]
   ·rw [Array.getElem?_setIfInBounds_ne (by omega)];simp [show j * 3 + 1 < cur2.size from by omega]
   ·simp [hj2]
  ·intro k hk hlk;exact C9.block k hlk fun e => k2 (e ▸ hk)
  ·intro k hk hT;have := (s1 k (t2 k hT)).2;have := hk.1;omega
  ·intro hk;have := hk.1;omega
  ·exact .inl hSg2
  ·exact fun k hk => .inr hk
  ·exact fun k hk => .inl (t2 k hk)
 refine back _ cur _ _ (fun k => Sj k ∨ (w.heap.size ≤ k ∧ k < w9.heap.size)) _ ((C9.block g hl hne).trans hg) rfl (fun _ _ => rfl) hc ?_ B2 ?_ ?_ ?_ ?_ ?_
 ·intro k hk hlk;exact C9.block k hlk fun e => hd k (e ▸ hSg2) hk
 ·rintro k (h | h) hT
  ·exact hd k h hT
  ·have := (s2 k hT).2; omega
 ·rintro (h | h)
  ·exact n1 h
  ·omega
 ·exact .inl hSg
 ·rintro k (h | h)
  ·exact .inl (s1 k h)
  ·exact .inr h
 ·exact fun k hk => .inl (s2 k hk)
theorem zCf {w : World} {g b o k : Nat} {u x y z : Value} (hne : b ≠ g) (h : w.cell? ⟨b, k, none⟩ = some u) : (((w.setCell ⟨g, o, none⟩ x).setCell ⟨g, o + 1, none⟩ y).setCell ⟨g, o + 2, none⟩ z).cell? ⟨b, k, none⟩ = some u := cs1 hne (cs1 hne (cs1 hne h))
theorem zCN {w : World} {S : zAW} {u : Value} {cs : List (List zAT)} {s j : Nat} {row : List zAT} {old : zAT} (h : zBu.own w S [u] cs) (hs : cs[s]? = some row) (hj : row[j]? = some old) :
    ∃ g cap g2 cap2, u = .slice (some ⟨g, 0, none⟩) cs.length cap ∧ w.cell? ⟨g, s, none⟩ = some (.slice (some ⟨g2, 0, none⟩) row.length cap2) ∧ S g ∧ S g2 ∧ g ≠ g2 ∧ g < w.heap.size ∧ g2 < w.heap.size ∧
     ∀ w9 c1 c2 c3 x, zAX zAR w w9 [c1, c2, c3] x → (∃ cur, w9.heap[g2]? = some (.cells cur 39 (0, 0)) ∧ j * 3 + 2 < cur.size) ∧
      zBu.own (zEs w9 g2 (j * 3) c1 c2 c3) (fun k => Old w S k ∨ (w.heap.size ≤ k ∧ k < w9.heap.size)) [u] (cs.set s (row.set j x)) ∧ Chg (fun k => k = g2) w (zEs w9 g2 (j * 3) c1 c2 c3) := by
 obtain ⟨g, cap, cur, Sj, T, c', hv, hSg, hg, hc, hcl, ho, s1, s2, hd, n1, n2, back⟩ := zBH (zBM h) hs;have e1 : zBl.size = 1 := rfl;simp only [e1, Nat.mul_one] at hc;obtain ⟨u2, rfl⟩ : ∃ u2, c' = [u2] := List.length_eq_one_iff.1 hcl;obtain ⟨g2, cap2, cur2, Sj2, T2, c2', hv2, hSg2, hg2, _⟩ := zBH ho hj;subst hv2;subst hv;have hck : cur[s]? = some (.slice (some ⟨g2, 0, none⟩) row.length cap2) := by simpa using hc 0 (by decide)
 have hcell : w.cell? ⟨g, s, none⟩ = some (.slice (some ⟨g2, 0, none⟩) row.length cap2) := by rw [cell_of_row w g s _ _ (0, 0) hg]; exact hck
 refine ⟨g, cap, g2, cap2, rfl, hcell, hSg.1, (s1 g2 hSg2).1, fun e => n1 (e ▸ hSg2), (ltH hg), (ltH hg2), fun w9 c1 c2 c3 x mm => ?_⟩;obtain ⟨g', cap', g2', cap2', e1, hcell', _, _, _, _, hcur, hown, hchg⟩ := own_put h hs hj mm;simp only [Value.slice.injEq, Option.some.injEq, Addr.mk.injEq, and_true, true_and] at e1;obtain ⟨rfl, -⟩ := e1;rw [hcell] at hcell';simp only [Option.some.injEq, Value.slice.injEq, Addr.mk.injEq, and_true, true_and] at hcell';obtain ⟨rfl, -⟩ := hcell';exact ⟨hcur, hown, hchg⟩
set_option maxRecDepth 8000 in
set_option maxHeartbeats 4000000 in
theorem zGG (S : zAW) (u v2 : Value) (cs : List (List zAT)) (s j : Nat) (row : List zAT) (old : zAT) (l st : Int) (d : List Int) (ad : Option Addr) (cpw : Nat) (w : World) (h : zBu.own w S [u] cs) (hs : cs[s]? = some row) (hj : row[j]? = some old)
    (m1 : cs.length ≤ 1048576) (m2 : row.length ≤ 1048576) (i1 : zBk l) (i2 : zBk st) (hd : zBg zBC w ad d) (hm : d.length ≤ 1048576) :
    Calls Tryz.prog 100 #[.agg #[u, v2], .agg #[.int .i64 (s : Int), .int .i64 (j : Int)], .agg #[.int .i64 l, .int .i64 st, .slice ad d.length cpw]] w fun e w' => e = .returned (.tuple #[]) ∧
     zBu.own w' (fun k => Old w S k ∨ (w.heap.size ≤ k ∧ k < w'.heap.size)) [u] (cs.set s (row.set j (l, st, d))) ∧ ∃ g cap g2 cap2, u = .slice (some ⟨g, 0, none⟩) cs.length cap ∧ w.cell? ⟨g, s, none⟩ = some (.slice (some ⟨g2, 0, none⟩) row.length cap2) ∧ g ≠ g2 ∧ Old w S g2 ∧ Chg (fun k => k = g2) w w' := by
 have hsl : s < cs.length := (List.getElem?_eq_some_iff.1 hs).1;have hjl : j < row.length := (List.getElem?_eq_some_iff.1 hj).1;have hsl' : (s : Int) < (cs.length : Int) := by omega
 have hjl' : (j : Int) < (row.length : Int) := by omega
 have B0 := zAb (zAb (zAf w (.cells #[u, v2] 37)) (zAf _ (.cells #[.int .i64 (s : Int), .int .i64 (j : Int)] 126))) (zAf _ (.cells #[.int .i64 l, .int .i64 st, .slice ad d.length cpw] 39));go_enter Tryz.func100, Tryz.ntmps100;go_wp2_with fail
 have X0 := zAK (.cells #[.int .i64 l, .int .i64 st, .slice ad d.length cpw] 39) (zAK (.cells #[.int .i64 (s : Int), .int .i64 (j : Int)] 126) (zAx w (.cells #[u, v2] 37)));have Y0 := zAK (.cells #[.int .i64 l, .int .i64 st, .slice ad d.length cpw] 39) (zAx (w.alloc (.cells #[u, v2] 37)) (.cells #[.int .i64 (s : Int), .int .i64 (j : Int)] 126));have Z0 := zAx ((w.alloc (.cells #[u, v2] 37)).alloc (.cells #[.int .i64 (s : Int), .int .i64 (j : Int)] 126)) (.cells #[.int .i64 l, .int .i64 st, .slice ad d.length cpw] 39);rw [zAp] at Y0;rw [zAp, zAp] at Z0;generalize ((w.alloc (.cells #[u, v2] 37)).alloc (.cells #[.int .i64 (s : Int), .int .i64 (j : Int)] 126)).alloc (.cells #[.int .i64 l, .int .i64 st, .slice ad d.length cpw] 39) = W0 at B0 X0 Y0 Z0 ⊢;obtain ⟨g, cap, g2, cap2, rfl, hcell, hSg, hSg2, hne, hgl, hg2l, st9⟩ := zCN (zBM h) hs hj;have H' : zBu.own W0.drew (Old w S) [.slice (some ⟨g, 0, none⟩) cs.length cap] cs := zBu.own_keep (zBM h) (zAh B0.drew);obtain ⟨g', cap', g2', cap2', e1, hcell', -, -, -, -, -, st8⟩ := zCN H' hs hj;simp only [Value.slice.injEq, Option.some.injEq, Addr.mk.injEq, and_true, true_and] at e1;obtain ⟨rfl, -⟩ := e1;have hcq : W0.drew.cell? ⟨g, s, none⟩ = some (.slice (some ⟨g2, 0, none⟩) row.length cap2) := zAd B0.drew hcell hgl;rw [hcq] at hcell';simp only [Option.some.injEq, Value.slice.injEq, Addr.mk.injEq, and_true, true_and] at hcell';obtain ⟨rfl, -⟩ := hcell';have ST : Hid _ := st8;have HX : Hid _ := And.intro X0 (And.intro Y0 Z0);have HD : Hid (zBg zBC W0.drew ad d) := zA7 hd fun k hk => B0.drew.block k hk;have hcq0 : W0.cell? ⟨g, s, none⟩ = some (.slice (some ⟨g2, 0, none⟩) row.length cap2) := hcq;obtain ⟨x0, x1⟩ := zAy X0;obtain ⟨y0, y1⟩ := zAy Y0;obtain ⟨z0, z1, z2⟩ := zCm Z0;have n0 : w.heap.size ≠ g2 := by have := hSg2.2; omega
 have n1 : w.heap.size + 1 ≠ g2 := by have := hSg2.2; omega
 have n2 : w.heap.size + 1 + 1 ≠ g2 := by have := hSg2.2; omega
 have HB : Hid _ := B0;have HI : Hid (zBk l ∧ zBk st) := ⟨i1, i2⟩;have HG : Hid (g < w.heap.size ∧ Old w S g2 ∧ w.cell? ⟨g, s, none⟩ = some (.slice (some ⟨g2, 0, none⟩) row.length cap2)) := ⟨hgl, hSg2, hcell⟩;clear X0 Y0 Z0 st8 st9 H' hcq hcell hd h hs hj hsl hjl B0 i1 i2 hgl hg2l hSg hSg2;go_region_held3 (fun wx => wx.cell? ⟨w.heap.size, 0, none⟩ = some (.slice (some ⟨g, 0, none⟩) cs.length cap) ∧ wx.cell? ⟨w.heap.size + 1, 0, none⟩ = some (.int .i64 (s : Int)) ∧ wx.cell? ⟨w.heap.size + 1, 1, none⟩ = some (.int .i64 (j : Int)) ∧ wx.cell? ⟨g, s, none⟩ = some (.slice (some ⟨g2, 0, none⟩) row.length cap2) ∧ wx.cell? ⟨w.heap.size + 1 + 1, 0, none⟩ = some (.int .i64 l) ∧ wx.cell? ⟨w.heap.size + 1 + 1, 1, none⟩ = some (.int .i64 st) ∧ wx.cell? ⟨w.heap.size + 1 + 1, 2, none⟩ = some (.slice ad d.length cpw)) (first | (go_keep; done) | (exact ⟨zCf n0 x0', zCf n1 y0', zCf n1 y1', zCf hne q0', zCf n2 z0', zCf n2 z1', zCf n2 z2'⟩)) (first | (go_at_call 71; refine (zDS l st d ad cpw _ HI.out.1 HI.out.2 HD.out hm).mono ?_; rintro e w9 ⟨av, cv, rfl, mm⟩; obtain ⟨⟨cur, hcur, hcs⟩, OW, CH⟩ := ST.out w9 _ _ _ _ mm; obtain ⟨X, Y, Z⟩ := HX.out; replace X := zAa (w := W0.drew) mm.2 X; replace Y := zAa (w := W0.drew) mm.2 Y; replace Z := zAa (w := W0.drew) mm.2 Z; obtain ⟨x0', x1'⟩ := zAy X; obtain ⟨y0', y1'⟩ := zAy Y; obtain ⟨z0', z1', z2'⟩ := zCm Z; have q0' := zAd (w := W0.drew) mm.2 (by exact hcq0) (by have := HB.out.size; have := HG.out.1; exact Nat.lt_of_lt_of_le (by omega) (Nat.le_refl W0.heap.size)); have c0 : w9.cell? ⟨g2, j * 3, none⟩ = cur[j * 3]? := cell_of_row w9 g2 (j * 3) _ _ (0, 0) hcur; have c1 : w9.cell? ⟨g2, j * 3 + 1, none⟩ = cur[j * 3 + 1]? := cell_of_row w9 g2 (j * 3 + 1) _ _ (0, 0) hcur; have c2 : w9.cell? ⟨g2, j * 3 + 2, none⟩ = cur[j * 3 + 2]? := cell_of_row w9 g2 (j * 3 + 2) _ _ (0, 0) hcur; rw [Array.getElem?_eq_getElem (by omega)] at c0 c1 c2; have f0' := frozen_of_row w9 g2 (j * 3) _ _ hcur; have f1' := frozen_of_row w9 g2 (j * 3 + 1) _ _ hcur; have f2' := frozen_of_row w9 g2 (j * 3 + 2) _ _ hcur; have mms : W0.heap.size ≤ w9.heap.size := mm.2.size))
 all_goals
  refine bodyPost_end (v := .tuple #[]) (by simp [results, Tryz.results100, go_sem]) rfl ⟨rfl, zBu.own_mono OW ?_, ?_⟩
  ·rintro k (h | h)
   ·exact .inl h.1
   ·exact .inr ⟨by have := HB.out.size; have : W0.heap.size ≤ k := h.1; omega, by have := h.2; have e := zFp (w := w9) (g := g2) (o := j * 3) (x := .int .i64 l) (y := .int .i64 st) (z := .slice av d.length cv); unfold zEs at e; omega⟩
  ·exact ⟨g, cap, g2, cap2, rfl, HG.out.2.2, hne, HG.out.2.1, Chg.trans (zA9 HB.out.drew) CH⟩
theorem zEM (S : zAW) (u v2 : Value) (cs : List (List zAT)) (s j : Nat) (row : List zAT) (old : zAT) (l st : Int) (d : List Int) (ad : Option Addr) (cpw : Nat) (w : World) (h : zBu.own w S [u] cs) (hs : cs[s]? = some row) (hj : row[j]? = some old)
    (m1 : cs.length ≤ 1048576) (m2 : row.length ≤ 1048576) (i1 : zBk l) (i2 : zBk st) (hd : zBg zBC w ad d) (hm : d.length ≤ 1048576) :
    Calls Tryz.prog 100 #[.agg #[u, v2], .agg #[.int .i64 (s : Int), .int .i64 (j : Int)], .agg #[.int .i64 l, .int .i64 st, .slice ad d.length cpw]] w fun e w' => e = .returned (.tuple #[]) ∧
     zBu.own w' (fun k => Old w S k ∨ (w.heap.size ≤ k ∧ k < w'.heap.size)) [u] (cs.set s (row.set j (l, st, d))) ∧ Chg (Old w S) w w' := by
 refine (zGG S u v2 cs s j row old l st d ad cpw w h hs hj m1 m2 i1 i2 hd hm).mono ?_;rintro e w' ⟨h1, h2, g, cap, g2, cap2, -, -, -, h6, h7⟩;exact ⟨h1, h2, h7.mono fun k hk => by have e : k = g2 := hk; rw [e]; exact h6⟩
end Go.Proofs.YtmdhblhdfcocjaaGreatDoor
