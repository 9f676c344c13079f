import Derived.Test.YtmdhblhdfcocjaaGreatDoorP00Box
import Derived.Test.YtmdhblhdfcocjaaGreatDoorP11
namespace Go.Proofs.YtmdhblhdfcocjaaGreatDoor
set_option maxHeartbeats 1000000
open Go.ChangeShapes Go.WideShapes Go.ChangeAt Go.RowKit Go.Shelf
set_option linter.unusedVariables false
def zCr (c : zAu) (line : Int) : Int × Int × Bool := if zAP line 0 15 then (line % (c.1.length : Int), zCn (zAm c line) line, zCn (zAm c line) line != -1) else (0, 0, false)
def zIh (c : zAu) (line : Int) : Int × Int × Bool := if (zCr c line).2.2 then zCr c line else (line % (c.1.length : Int), zCn (zAm c line) (-1), zCn (zAm c line) (-1) != -1)
theorem zDy {c : zAu} (h : OkC isL zAJ c) (line : Int) : zIU c.1.length ∧ c.1[zAE c line]? = some (zAm c line) ∧ zAm c line ≠ [] ∧ (zAm c line).length ≤ 4 ∧ ((zAE c line : Nat) : Int) = line % (c.1.length : Int) ∧ zAE c line < c.1.length := by
 obtain ⟨a, h2, m, d, g⟩ := h;have b := zDb (line := line) a;have f := (g _ _ b).1;refine ⟨a, b, fun e => ?_, ?_, zDa a, zFk a⟩
 ·rw [e] at f;simp at f
  have := zDv d;omega
 ·rcases d with rfl | rfl | rfl <;> omega
theorem zMO {w : World} {g : Nat} {x y a b : Value} {t : TypeId} (h : w.heap[g]? = some (.cells #[x, y] t (0, 0))) :
    ((w.setCell ⟨g, 0, none⟩ a).setCell ⟨g, 1, none⟩ b).heap[g]? = some (.cells #[a, b] t (0, 0)) :=
 heap_setCell_same _ g 1 _ t b (heap_setCell_same w g 0 _ t a h)
theorem zEo (a b : Option Addr) (c : zAu) (cap cp : Nat) (line : Int) (w : World) (hok : OkC isL zAJ c) (h1 : zBg zBl w a c.1) :
    Calls Tryz.prog 95 #[.agg #[sL a c.1.length cap, sL b c.2.length cp], nI line] w fun e o => e = .returned (.tuple #[.agg #[nI (zCr c line).1, nI (zCr c line).2.1], .bool (zCr c line).2.2]) ∧ Bl w o := by
 obtain ⟨O, f, r, G, g, D⟩ := zDy hok line;obtain ⟨m, j, C, F, rfl, d, -, -, n⟩ := zDj h1 f;cases s : zAP line 0 15
 ·have q : Hid (zCr c line = (0, 0, false)) := by unfold Hid zCr; simp [s]
  clear d n h1 f;go_enter Tryz.func95, Tryz.ntmps95;go_wp2_with (go_at_call 33; refine (zBI _ _).mono ?_; rintro e o ⟨rfl, rfl⟩; rw [s])
  have Y := zAx (w.alloc (.cells #[sL (some ⟨m, j, none⟩) c.1.length cap, sL b c.2.length cp] 37)) (.cells #[nI 0, nI 0] 126);rw [zAp] at Y;obtain ⟨J, I⟩ := zAy Y;refine bodyPost_ret (v := .tuple #[.agg #[nI 0, nI 0], .bool false]) (by simp [results, Tryz.results95, go_sem]) rfl ⟨by rw [q.out], zAb (zAf w _) (zAf _ _)⟩
 ·have H : 0 ≤ line := by simp [zAP] at s; omega
  have q : Hid (zCr c line = (((zAE c line : Nat) : Int), zCn (zAm c line) line, zCn (zAm c line) line != -1)) := by unfold Hid zCr; rw [if_pos s, g]
  have E : Hid (∀ W, Calls Tryz.prog 114 #[.agg #[sL (some ⟨m, j, none⟩) c.1.length cap, sL b c.2.length cp], nI line] W fun e o => e = .returned (nI ((zAE c line : Nat) : Int)) ∧ Bl W o) := fun W => by
   have := zG8 (some ⟨m, j, none⟩) c.1.length cap (sL b c.2.length cp) _ _ _ rfl line W O H;rwa [← g] at this
  have i : Hid (∀ W, Bl w W → Calls Tryz.prog 118 #[sL C (zAm c line).length F, nI line] W fun e o => e = .returned (nI (zCn (zAm c line) line)) ∧ Bl W o) := fun W hbw =>
   zFl C _ F line W (zA7 n fun k hk => hbw.block k hk) r (by omega)
  have y : ((zAE c line : Nat) : Int) < (c.1.length : Int) := by omega
  have A : Hid (∀ W, Bl w W → W.cell? ⟨m, j + zAE c line, none⟩ = some (sL C (zAm c line).length F)) := fun W hbw => zAd hbw d (zAi d);clear d n h1 f r G g hok;generalize zAE c line = sn at q E D y A;generalize (zAm c line).length = rn at i A;generalize zCn (zAm c line) line = fi at q i;have X := zAK (.cells #[nI 0, nI 0] 126) (zAx w (.cells #[sL (some ⟨m, j, none⟩) c.1.length cap, sL b c.2.length cp] 37));have Y := zAx (w.alloc (.cells #[sL (some ⟨m, j, none⟩) c.1.length cap, sL b c.2.length cp] 37)) (.cells #[nI 0, nI 0] 126);rw [zAp] at Y;have B := zAb (zAf w (.cells #[sL (some ⟨m, j, none⟩) c.1.length cap, sL b c.2.length cp] 37)) (zAf _ (.cells #[nI 0, nI 0] 126));go_enter Tryz.func95, Tryz.ntmps95;go_wp2_with (go_at_call 33; refine (zBI _ _).mono ?_; rintro e o ⟨rfl, rfl⟩; rw [s])
  generalize (w.alloc (.cells #[sL (some ⟨m, j, none⟩) c.1.length cap, sL b c.2.length cp] 37)).alloc (.cells #[nI 0, nI 0] 126) = W0 at X Y B ⊢;refine (E.out _).mono ?_;rintro e w1 ⟨rfl, l⟩;replace B := zAb B l;replace X := zAa l X;replace Y := zAa l Y;obtain ⟨K, N⟩ := zAy X;have M := A.out _ B;clear l;go_wp2_with fail
  refine (i.out _ B).mono ?_;rintro e z ⟨rfl, l⟩;replace B := zAb B l;replace Y := zAa l Y;obtain ⟨y0, y1⟩ := zAy Y;obtain ⟨f0, f1⟩ : z.frozen? ⟨w.heap.size + 1, 0, none⟩ = false ∧ z.frozen? ⟨w.heap.size + 1, 1, none⟩ = false := ⟨frozen_of_row z _ 0 _ _ Y, frozen_of_row z _ 1 _ _ Y⟩;have L : Hid _ := Y;clear l M K N X Y E i A;go_wp2;have Z := zMO (a := nI (sn : Int)) (b := nI fi) L.out;obtain ⟨J, I⟩ := zAy Z;refine bodyPost_ret (v := .tuple #[.agg #[nI (sn : Int), nI fi], .bool (fi != -1)]) (by simp [results, Tryz.results95, go_sem, J, I]) rfl ⟨by rw [q.out], (B.setCell (p := ⟨w.heap.size + 1, 0, none⟩) (by simp) _).setCell (p := ⟨w.heap.size + 1, 1, none⟩) (by simp) _⟩
theorem zIZ (a b : Option Addr) (c : zAu) (cap cp : Nat) (line : Int) (w : World) (hok : OkC isL zAJ c) (h1 : zBg zBl w a c.1) (hl0 : 0 ≤ line) :
    Calls Tryz.prog 132 #[.agg #[sL a c.1.length cap, sL b c.2.length cp], nI line] w fun e w' => e = .returned (.tuple #[.agg #[nI (zIh c line).1, nI (zIh c line).2.1], .bool (zIh c line).2.2]) ∧ Bl w w' := by
 obtain ⟨V, j, s, C, i, A⟩ := zDy hok line;have d : Hid (∀ W, Bl w W → Calls Tryz.prog 95 #[.agg #[sL a c.1.length cap, sL b c.2.length cp], nI line] W fun e w' => e = .returned (.tuple #[.agg #[nI (zCr c line).1, nI (zCr c line).2.1], .bool (zCr c line).2.2]) ∧ Bl W w') :=
  fun W hbw => zEo a b c cap cp line W hok (zA7 h1 fun k hk => hbw.block k hk)
 obtain ⟨n, m, K, M, rfl, f, -, -, r⟩ := zDj h1 j;have o : ((zAE c line : Nat) : Int) < (c.1.length : Int) := by omega
 have D : Hid (∀ W, Bl w W → W.cell? ⟨n, m + zAE c line, none⟩ = some (sL K (zAm c line).length M)) := fun W hbw => zAd hbw f (zAi f);have G : Hid (∀ W, Calls Tryz.prog 114 #[.agg #[sL (some ⟨n, m, none⟩) c.1.length cap, sL b c.2.length cp], nI line] W fun e w' => e = .returned (nI ((zAE c line : Nat) : Int)) ∧ Bl W w') := fun W => by
  have := zG8 (some ⟨n, m, none⟩) c.1.length cap (sL b c.2.length cp) _ _ _ rfl line W V hl0;rwa [← i] at this
 have l : Hid (∀ W, Bl w W → Calls Tryz.prog 118 #[sL K (zAm c line).length M, nI (-1)] W fun e w' => e = .returned (nI (zCn (zAm c line) (-1))) ∧ Bl W w') := fun W hbw =>
  zFl K _ M (-1) W (zA7 r fun k hk => hbw.block k hk) s (by omega)
 have X := zAK (.cells #[nI 0, nI 0] 126) (zAx w (.cells #[sL (some ⟨n, m, none⟩) c.1.length cap, sL b c.2.length cp] 37));have Y := zAx (w.alloc (.cells #[sL (some ⟨n, m, none⟩) c.1.length cap, sL b c.2.length cp] 37)) (.cells #[nI 0, nI 0] 126);rw [zAp] at Y;have B := zAb (zAf w (.cells #[sL (some ⟨n, m, none⟩) c.1.length cap, sL b c.2.length cp] 37)) (zAf _ (.cells #[nI 0, nI 0] 126));cases z : (zCr c line).2.2
 ·have y : Hid (zIh c line = (((zAE c line : Nat) : Int), zCn (zAm c line) (-1), zCn (zAm c line) (-1) != -1)) := by unfold Hid zIh; rw [z, i]; rfl
  rw [z] at d;clear f r h1 j s C i hok;generalize (zCr c line).1 = f1 at d;generalize (zCr c line).2.1 = f2 at d;generalize zAE c line = sn at y G A o D;generalize (zAm c line).length = rn at l D;generalize zCn (zAm c line) (-1) = fi at y l;go_enter Tryz.func132, Tryz.ntmps132;go_wp2_with fail
  generalize (w.alloc (.cells #[sL (some ⟨n, m, none⟩) c.1.length cap, sL b c.2.length cp] 37)).alloc (.cells #[nI 0, nI 0] 126) = W0 at X Y B ⊢;refine (d.out _ B).mono ?_;rintro e q ⟨rfl, g⟩;replace B := zAb B g;replace X := zAa g X;replace Y := zAa g Y;have H := zAf q (.cells #[nI f1, nI f2] 126);replace B := zAb B H;replace X := zAa H X;replace Y := zAa H Y;obtain ⟨E, I⟩ := zAy X;clear g H z d;go_wp2_with fail
  generalize q.alloc (.cells #[nI f1, nI f2] 126) = w2 at X Y B E I ⊢;refine (G.out _).mono ?_;rintro e w3 ⟨rfl, g⟩;replace B := zAb B g;replace X := zAa g X;replace Y := zAa g Y;clear E I g;obtain ⟨E, I⟩ := zAy X;have T := D.out _ B;go_wp2_with fail
  refine (l.out _ B).mono ?_;rintro e F ⟨rfl, g⟩;replace B := zAb B g;replace Y := zAa g Y;obtain ⟨R, U⟩ := zAy Y;obtain ⟨S, N⟩ : F.frozen? ⟨w.heap.size + 1, 0, none⟩ = false ∧ F.frozen? ⟨w.heap.size + 1, 1, none⟩ = false := ⟨frozen_of_row F _ 0 _ _ Y, frozen_of_row F _ 1 _ _ Y⟩;have J : Hid _ := Y;clear g T E I X Y G l D;go_wp2;have Z := zMO (a := nI (sn : Int)) (b := nI fi) J.out;obtain ⟨O, L⟩ := zAy Z;refine bodyPost_ret (v := .tuple #[.agg #[nI (sn : Int), nI fi], .bool (fi != -1)]) (by simp [results, Tryz.results132, go_sem, O, L]) rfl ⟨by rw [y.out], (B.setCell (p := ⟨w.heap.size + 1, 0, none⟩) (by simp) _).setCell (p := ⟨w.heap.size + 1, 1, none⟩) (by simp) _⟩
 ·have y : Hid (zIh c line = ((zCr c line).1, (zCr c line).2.1, true)) := by unfold Hid zIh; rw [z, if_pos rfl, ← z]
  rw [z] at d;clear f r h1 j s C i hok G l D A o;generalize (zCr c line).1 = f1 at d y;generalize (zCr c line).2.1 = f2 at d y;go_enter Tryz.func132, Tryz.ntmps132;go_wp2_with fail
  generalize (w.alloc (.cells #[sL (some ⟨n, m, none⟩) c.1.length cap, sL b c.2.length cp] 37)).alloc (.cells #[nI 0, nI 0] 126) = W0 at X Y B ⊢;refine (d.out _ B).mono ?_;rintro e q ⟨rfl, g⟩;replace B := zAb B g;replace Y := zAa g Y;have l1 := (ltH Y);obtain ⟨R, U⟩ := zAy Y;obtain ⟨S, N⟩ : q.frozen? ⟨w.heap.size + 1, 0, none⟩ = false ∧ q.frozen? ⟨w.heap.size + 1, 1, none⟩ = false := ⟨frozen_of_row q _ 0 _ _ Y, frozen_of_row q _ 1 _ _ Y⟩;have J : Hid _ := Y;clear g X Y z d;go_wp2;have Z := zAK (.cells #[nI f1, nI f2] 126) (zMO (a := nI f1) (b := nI f2) J.out);obtain ⟨O, L⟩ := zAy Z;refine bodyPost_ret (v := .tuple #[.agg #[nI f1, nI f2], .bool true]) (by simp [results, Tryz.results132, go_sem, O, L]) rfl ⟨by rw [y.out], ((B.setCell (p := ⟨w.heap.size + 1, 0, none⟩) (by simp) _).setCell (p := ⟨w.heap.size + 1, 1, none⟩) (by simp) _).alloc (by simp; omega) _⟩
theorem zJa {p q : zAT → Bool} : ∀ {row : List zAT}, (∀ u ∈ row, p u = q u) → row.findIdx? p = row.findIdx? q
 | [], _ => rfl
 | u :: row, h => by
  simp only [List.findIdx?_cons, h u (by simp), zJa (row := row) fun x hx => h x (by simp [hx])]
def zGc (o : Option Nat) : Int := match o with
 | some i => (i : Int)
 | none => -1
theorem zJb (row : List zAT) (line : Int) : zCn row line = zGc (row.findIdx? fun u => u.1 == line) := by
 unfold zCn zGc;cases row.findIdx? fun u => u.1 == line <;> rfl
theorem zLg (o : Option Nat) : (zGc o != -1) = o.isSome := by
 cases o with
 | none => rfl
 | some i =>
  have : ((i : Int) != -1) = true := by simp
  exact this
theorem at_first {c : zAu} {line : Int} (h0 : 0 ≤ line) : zCn (zAm c line) line = zGc (atC c line) := by
 rw [zJb];unfold atC;rw [if_neg (by omega)]
theorem zLG {c : zAu} (h : OkC isL zAJ c) (line : Int) : zCn (zAm c line) (-1) = zGc (zJQ c line) := by
 rw [zJb];unfold zJQ;congr 1
 refine zJa fun u hu => ?_;obtain ⟨g, h2, m, hm, d⟩ := h;obtain ⟨i, f⟩ := List.mem_iff_getElem?.1 hu;rcases (d _ _ (zDb (line := line) g)).2.2.1 i u f with a | ⟨b, _⟩
 ·rw [a, zCQ a];rfl
 ·rw [zEJ b];have := (zBY b).1;simp
  omega
theorem at_out {c : zAu} (h : OkC isL zAJ c) {line : Int} (hl : zAP line 0 15 = false) : atC c line = none := by
 cases f : atC c line with
 | none => rfl
 | some i =>
  obtain ⟨h0, u, b, a⟩ := zD1 f;obtain ⟨j, h2, m, hm, d⟩ := h;rcases (d _ _ (zDb (line := line) j)).2.2.1 i u b with g | ⟨k, _⟩
  ·rw [zCQ g] at a;simp [zAF] at a
   omega
  ·have := zBY k;simp [zAP] at hl
   omega
theorem zE8 {c : zAu} (h : OkC isL zAJ c) {line : Int} : zCr c line = if zAP line 0 15 then (((zAE c line : Nat) : Int), zGc (atC c line), (atC c line).isSome) else (0, 0, false) := by
 unfold zCr;split
 ·rename_i hb
  have a : 0 ≤ line := by simp [zAP] at hb; omega
  rw [at_first a, zLg, zDa h.1]
 ·rfl
theorem roomP_eq {c : zAu} (h : OkC isL zAJ c) {line : Int} (hb : zAP line 0 15 = true) : zIh c line = (((zAE c line : Nat) : Int), zGc (zB2 c line), (zB2 c line).isSome) := by
 unfold zIh;rw [zE8 h, if_pos hb];unfold zB2;cases ha : atC c line with
 | some i => rfl
 | none =>
  show (line % (c.1.length : Int), zCn (zAm c line) (-1), zCn (zAm c line) (-1) != -1) = _
  rw [zLG h, zLg, zDa h.1]
theorem zKi {c : zAu} (h : OkC isL zAJ c) (line : Int) : (zAm c line).length = zCB c ∧ c.2[zAE c line]? = some (zBs c line) ∧ zAJ (zBs c line) (zCB c) = true ∧ (c.1.getD 0 []).length = zCB c ∧ c.1[0]? = some (c.1.getD 0 []) ∧ 0 < c.1.length ∧ c.2.length = c.1.length := by
 obtain ⟨f, g, m, hm, b⟩ := h;have a := zDv f;have d : c.1[0]? = some (c.1.getD 0 []) := by rw [List.getD_eq_getElem?_getD, List.getElem?_eq_getElem a]; rfl
 have k : zCB c = m := (b 0 _ d).1;obtain ⟨l, j, i, a4⟩ := zE4 (line := line) f g b;rw [k];exact ⟨l, j, i, (b 0 _ d).1, d, a, g⟩
theorem go_in {t n : Int} (h : zAJ t n = true) : 0 ≤ goI t n ∧ goI t n < n ∧ viI t n = goI t n := by
 refine ⟨?_, ?_, by unfold viI; rw [if_pos h]⟩
 all_goals
  simp only [zAJ, decide_eq_true_eq] at h;unfold goI;rcases h with ⟨rfl, rfl⟩ | ⟨rfl, c, b⟩ | ⟨rfl, c, b⟩
  ·simp
  ·simp
   omega
  ·have a : t = 0 ∨ t = 1 ∨ t = 2 ∨ t = 3 ∨ t = 4 ∨ t = 5 ∨ t = 6 ∨ t = 7 := by omega
   rcases a with rfl | rfl | rfl | rfl | rfl | rfl | rfl | rfl <;> decide
theorem zJc {p : zAT → Bool} {row : List zAT} {k : Nat} {u : zAT} (hu : row[k]? = some u) (hp : p u = true) (hno : ∀ j v, j < k → row[j]? = some v → p v = false) : row.findIdx? p = some k := by
 have a := (List.getElem?_eq_some_iff.1 hu).1;rw [List.findIdx?_eq_some_iff_getElem];refine ⟨a, ?_, fun j hj => ?_⟩
 ·rw [List.getElem?_eq_getElem a] at hu;cases hu;exact hp
 ·simpa using hno j _ hj (List.getElem?_eq_getElem (by omega))
theorem zJd {p : zAT → Bool} {row : List zAT} (hno : ∀ (j : Nat) (v : zAT), row[j]? = some v → p v = false) : row.findIdx? p = none := by
 rw [List.findIdx?_eq_none_iff];intro u a;obtain ⟨j, b⟩ := List.mem_iff_getElem?.1 a;simpa using hno j u b
theorem zFD (a b : Option Addr) (c : zAu) (cap cp : Nat) (line : Int) (w : World) (hok : OkC isL zAJ c) (h1 : zBg zBl w a c.1) :
    Calls Tryz.prog 54 #[.agg #[sL a c.1.length cap, sL b c.2.length cp], nI line] w fun e w' => e = .returned (nI (zGc (atC c line))) ∧ Bl w w' := by
 have X := zAx w (.cells #[sL a c.1.length cap, sL b c.2.length cp] 37);have B := zAf w (.cells #[sL a c.1.length cap, sL b c.2.length cp] 37);by_cases p : line < 0
 ·have V : Hid (zGc (atC c line) = -1) := by unfold Hid atC; rw [if_pos p]; rfl
  go_enter Tryz.func54, Tryz.ntmps54;go_wp2;go_ret
  exact ⟨zAV V.out.symm, B⟩
 ·have bA : 0 ≤ line := by omega
  have I : Hid (atC c line = (zAm c line).findIdx? fun u => u.1 == line) := by unfold Hid atC; rw [if_neg p]
  obtain ⟨hp, n, H, F, o, C⟩ := zDy hok line;obtain ⟨b0, T, U, cj, rfl, f, -, -, m⟩ := zDj h1 n;have hz : (c.1.length : Int) ≠ 0 := by omega
  have z : ((zAE c line : Nat) : Int) < (c.1.length : Int) := by omega
  have q : line % (c.1.length : Int) = ((zAE c line : Nat) : Int) := o.symm;have A := zAd B f (zAi f);have s : Hid (zBg zAR w U (zAm c line)) := m;clear f m h1 n o hok H;obtain ⟨L, S⟩ := zAy X;generalize zAE c line = sn at C z q A;generalize zAm c line = row at F A s I;go_enter Tryz.func54, Tryz.ntmps54;go_wp2_with fail
  generalize w.alloc (.cells #[sL (some ⟨b0, T, none⟩) c.1.length cap, sL b c.2.length cp] 37) = W0 at X B L S A ⊢;go_quiet (fail)
  have G := zGi B nq;clear L S A X B;go_wp2;go_loop [6] (fun i => ∃ k : Nat, k ≤ row.length ∧ i = nI k ∧ ∀ j v, j < k → row[j]? = some v → (v.1 == line) = false) (fun i => row.length - (intOf i).toNat)
  case atStart => exact ⟨0, Nat.zero_le _, rfl, fun j v hj => by omega⟩
  case round =>
   obtain ⟨k, N, rfl, r⟩ := hrel;by_cases E : k < row.length
   ·have y : (k : Int) < (row.length : Int) := by omega
    obtain ⟨u, J⟩ : ∃ u, row[k]? = some u := ⟨_, List.getElem?_eq_getElem E⟩;obtain ⟨bk, R, cs, rfl, m, f⟩ := zBG (zA7 s.out fun k N => G.block k N) J;obtain ⟨ad, Z, rfl, -, -, -, -, -⟩ := zAL m;have M := f 0 _ rfl;rw [show R + (k * zAR.size + 0) = R + k * 3 from rfl] at M;have O : Hid (row[k]? = some u) := J;obtain ⟨l, st, d⟩ := u;simp only at M
    clear f m J;by_cases D : l = line
    ·have g : Hid (zGc (atC c line) = k) := by unfold Hid; rw [I.out, zJc O.out (by simp [D]) r]; rfl
     subst D;go_wp2;go_ret
     exact ⟨zAV g.out.symm, G⟩
    ·have K : (l == line) = false := by simpa using D
     go_wp2;go_round
     case rel =>
      refine ⟨k + 1, by omega, by go_num, fun j v hj hv => ?_⟩;by_cases Y : j < k
      ·exact r j v Y hv
      ·have : j = k := by omega
       subst this;rw [O.out] at hv;cases hv;exact K
     case measure => simp [intOf]; omega
   ·have g : Hid (zGc (atC c line) = -1) := by
      unfold Hid;rw [I.out, zJd fun j v hv => r j v (by have := (List.getElem?_eq_some_iff.1 hv).1; omega) hv];rfl
    have y : ¬ (k : Int) < (row.length : Int) := by omega
    go_wp2;go_ret
    exact ⟨zAV g.out.symm, G⟩
open Go.ChangeShapes Go.WideShapes Go.ChangeAt Go.RowKit
def zAC (c : zAu) (k : Int) : zAT := match atC c k with
 | some j => (zAm c k).getD j zAF
 | none => zAF
open Go.RowKit
def zGo (o : Oper) : Oper := { o with op := .move (.const (.bool false)) }
def zFo : List Oper → Oper
 | [] => { dst := none, op := .move (.const (.bool false)), type := 0, pos := "", after := #[], guard := none }
 | [o] => o
 | _ :: o :: r => zFo (o :: r)
theorem zIi : ∀ {l : List Oper}, l ≠ [] → l.dropLast ++ [zFo l] = l
 | [], h => (h rfl).elim
 | [o], _ => rfl
 | p :: o :: r, _ => by
  have := zIi (l := o :: r) (by simp);rw [List.dropLast_cons_of_ne_nil (by simp), List.cons_append, zFo, this]
def zFR (l : List Oper) (o : Oper) : Bool :=
 (List.range l.length).all (fun i => o.after.any (fun e => e.on == i && Region.binds .any e)) && (List.range (l.length + 1)).all (fun i => match (l ++ [o])[i]? with
  | none => true
  | some p => p.after.all (fun e => decide (e.on < i))) && o.guard.isNone && o.dst.isNone
section
variable {P : Program} {C : World → Prop} {l : List Oper} {o : Oper}
theorem zMP {i : Nat} (h : i ≠ l.length) : (l ++ [zGo o]).toArray[i]? = (l ++ [o]).toArray[i]? := by
 simp only [List.getElem?_toArray, List.getElem?_append];by_cases a : i < l.length
 ·rw [if_pos a, if_pos a]
 ·rw [if_neg a, if_neg a, List.getElem?_eq_none (by simp; omega), List.getElem?_eq_none (by simp; omega)]
theorem zFS (p : Oper) : (l ++ [p]).toArray[l.length]? = some p := by simp
theorem zFE {listed : Array Bool} {j : Nat} : j ∈ Region.ready .any (l ++ [zGo o]).toArray listed ↔ j ∈ Region.ready .any (l ++ [o]).toArray listed := by
 rw [mem_ready, mem_ready];by_cases h : j = l.length
 ·subst h;rw [zFS, zFS];constructor
  ·rintro ⟨a, p, b, c⟩;cases b;exact ⟨a, o, rfl, c⟩
  ·rintro ⟨a, p, b, c⟩;cases b;exact ⟨a, zGo o, rfl, c⟩
 ·rw [zMP h]
theorem zJe (ts : Array Value) : yielded (l ++ [zGo o]).toArray ts = yielded (l ++ [o]).toArray ts := by
 funext j
 unfold yielded;by_cases h : j = l.length
 ·subst h;rw [zFS, zFS];rfl
 ·rw [zMP h]
theorem zHC {listed : Array Bool} (hL : zFR l o = true) (hs : listed.size = l.length + 1) (hn : listed.getD l.length true = false) : ∃ j, j ∈ Region.ready .any (l ++ [o]).toArray listed := by
 simp only [zFR, Bool.and_eq_true, List.all_eq_true, List.mem_range] at hL;obtain ⟨⟨⟨-, q⟩, -⟩, -⟩ := hL;have n : ∀ k, k ≤ l.length → (∀ i, i < k → listed.getD i true = true) → ∃ j, j ∈ Region.ready .any (l ++ [o]).toArray listed := by
  intro k;induction h : l.length - k generalizing k with
  | zero =>
   intro r a;have e : k = l.length := by omega
   subst e;refine ⟨l.length, mem_ready.2 ⟨hn, o, zFS o, fun e he _ => ?_⟩⟩;have d := q l.length (by omega);rw [show (l ++ [o])[l.length]? = some o from by simp] at d;have c := Array.all_eq_true_iff_forall_mem.1 d e he;simp only [decide_eq_true_eq] at c;have f := a e.on c;rw [Array.getD_eq_getD_getElem?, Array.getElem?_eq_getElem (by omega)] at f ⊢;exact f
  | succ m ih =>
   intro r a;by_cases p : listed.getD k true = true
   ·exact ih (k + 1) (by omega) (by omega) fun i hi => by
      by_cases g : i = k
      ·rw [g];exact p
      ·exact a i (by omega)
   ·have b : k < (l ++ [o]).length := by simp; omega
    refine ⟨k, mem_ready.2 ⟨by simpa using p, (l ++ [o])[k], by simp [List.getElem?_eq_getElem b], fun e he _ => ?_⟩⟩;have d := q k (by simp at b; omega);rw [List.getElem?_eq_getElem b] at d;have c := Array.all_eq_true_iff_forall_mem.1 d e he;simp only [decide_eq_true_eq] at c;have f := a e.on c;rw [Array.getD_eq_getD_getElem?, Array.getElem?_eq_getElem (by simp at b; omega)] at f ⊢;exact f
 exact n 0 (Nat.zero_le _) (fun i hi => by omega)
theorem zLH {listed : Array Bool} (hL : zFR l o = true) (hs : listed.size = l.length + 1) (hr : l.length ∈ Region.ready .any (l ++ [o]).toArray listed) : Region.ready .any (l ++ [o]).toArray (listed.setIfInBounds l.length true) = [] := by
 simp only [zFR, Bool.and_eq_true, List.all_eq_true, List.mem_range] at hL;obtain ⟨⟨⟨q, -⟩, -⟩, -⟩ := hL;obtain ⟨hn, p, k, c⟩ := mem_ready.1 hr;rw [zFS] at k;cases k;refine List.eq_nil_iff_forall_not_mem.2 fun j hj => ?_;obtain ⟨a, -⟩ := mem_ready.1 hj;by_cases g : j = l.length
 ·subst g;rw [Array.getD_eq_getD_getElem?, Array.getElem?_setIfInBounds_self_of_lt (by omega)] at a;simp at a
 ·rw [Array.getD_eq_getD_getElem?, Array.getElem?_setIfInBounds_ne (by omega)] at a;by_cases f : j < l.length
  ·obtain ⟨i, n, b⟩ := Array.any_eq_true.1 (q j f);have m := Array.getElem_mem n;simp only [Bool.and_eq_true, beq_iff_eq] at b;have d := c _ m b.2;rw [b.1, Array.getD_eq_getD_getElem?] at d;rw [Array.getElem?_eq_getElem (by omega)] at d a;simp at d a
   rw [d] at a;cases a
  ·rw [Array.getElem?_eq_none (by omega)] at a;simp at a
theorem zLI {Q : Act → Prop} {Q' : Exit → Act → World → Prop} (hL : zFR l o = true) (hQ : ∀ a w, C w → Q a → o.wp P a w (fun a' w' => Q' .normal a' w') Q') : ∀ (c : Nat) (b : Array Bool) (a : Act) (w : World), C w → b.size = l.length + 1 → b.getD l.length true = false →
    wpAnyQ P .any (l ++ [zGo o]).toArray C Q c b a → wpAny P .any (l ++ [o]).toArray Q' c b a w := by
 have A : o.guard = none ∧ o.dst = none := by
  simp only [zFR, Bool.and_eq_true] at hL;exact ⟨Option.isNone_iff_eq_none.1 hL.1.2, Option.isNone_iff_eq_none.1 hL.2⟩
 intro c;induction c with
 | zero =>
  intro b a w y q s h;obtain ⟨j, g⟩ := zHC hL q s;rw [← zFE, h.1] at g;cases g
 | succ c ih =>
  intro b a w y q s h;refine ⟨fun h0 => ?_, fun i hi => ?_⟩
  ·obtain ⟨j, g⟩ := zHC hL q s;rw [h0] at g;cases g
  ·have p := h.2 i (zFE.2 hi);by_cases m : i = l.length
   ·subst m;have d := zLH hL q hi;have k : Region.ready .any (l ++ [zGo o]).toArray (b.setIfInBounds l.length true) = [] := List.eq_nil_iff_forall_not_mem.2 fun j g => by
     rw [zFE, d] at g;cases g
    have z : Q a := by
     unfold qOp at p;rw [zFS] at p;have n : Region.wanted (zGo o) (yielded (l ++ [zGo o]).toArray a.tmps) = true := by
      unfold Region.wanted;simp [zGo, A.1]
     simp only [n, if_true] at p;obtain ⟨v, -, r⟩ := p;have e : a.put (zGo o).dst v = a := by
      have : (zGo o).dst = none := A.2;rw [this];rfl
     rw [e] at r;cases c with
     | zero => exact r.2
     | succ f => exact r.1 k
    unfold wpOp;rw [zFS];have n : Region.wanted o (yielded (l ++ [o]).toArray a.tmps) = true := by
     unfold Region.wanted;simp [A.1]
    simp only [n, if_true];refine .inl (Oper.wp_mono (fun a' w' h' => ?_) (hQ a w y z));cases c with
    | zero => exact ⟨d, h'⟩
    | succ f => exact ⟨fun _ => h', fun j g => by rw [d] at g; cases g⟩
   ·refine wpOp_of_qOp (C := C) y (fun a' w' hw' r => ih (b.setIfInBounds i true) a' w' hw' (by simpa using q) (by rw [Array.getD_eq_getD_getElem?, Array.getElem?_setIfInBounds_ne m, ← Array.getD_eq_getD_getElem?]; exact s) r) ?_;unfold qOp at p ⊢;rw [zMP m, zJe] at p;exact p
theorem zEp {ops : Array Oper} {Q : Act → Prop} (hg : o.guard = none ∧ o.dst = none) : ∀ (l : List Oper) (a : Act), wpQuiet P ops C Q l a → wpQuiet P ops C Q (l ++ [zGo o]) a
 | [], a, h => by
  have b : Region.wanted (zGo o) (yielded ops a.tmps) = true := by
   unfold Region.wanted;simp [zGo, hg.1]
  show if Region.wanted (zGo o) (yielded ops a.tmps) then (zGo o).quiet P a C (wpQuiet P ops C Q []) else _
  rw [if_pos b];refine ⟨.bool false, fun w hw => ?_, ?_⟩
  ·unfold Oper.quietAt;simp [zGo, execOp, go_sem, Oper.quietUpon]
  ·have : (zGo o).dst = none := hg.2;rw [this];exact h
 | p :: l, a, h => by
  unfold wpQuiet at h;show wpQuiet P ops C Q (p :: (l ++ [zGo o])) a
  unfold wpQuiet;split
  ·rename_i b
   rw [if_pos b] at h;exact Oper.quiet_mono (fun a' h' => zEp hg l a' h') h
  ·rename_i b
   rw [if_neg b] at h;exact zEp hg l _ h
theorem zGE {id : Nat} {Q : Exit → Act → World → Prop} {a : Act} {w : World} {ll : List Oper} (C : World → Prop) (hm : P.follows .mixedOrders = true) (hB : Region.lexB .any (ll.dropLast ++ [zGo (zFo ll)]).toArray = true) (hL : zFR ll.dropLast (zFo ll) = true) (hne : ll ≠ []) (h0 : C w.drew)
    (h : Nonempty (Cls C) → wpQuiet P (ll.dropLast ++ [zGo (zFo ll)]).toArray (fun w' => ∃ n : Cls C, w' = n.w) (fun a' => ∀ w', C w' → (zFo ll).wp P a' w' (fun a'' w'' => Q .normal a'' w'') Q) ll.dropLast a) : (Code.region id ll.toArray true).wp P Q a w := by
 have f : (zFo ll).guard = none ∧ (zFo ll).dst = none := by
  simp only [zFR, Bool.and_eq_true] at hL;exact ⟨Option.isNone_iff_eq_none.1 hL.1.2, Option.isNone_iff_eq_none.1 hL.2⟩
 simp only [Region.lexB, Bool.and_eq_true] at hB;have c := zEp f _ _ (h ⟨⟨w.drew, h0⟩⟩);have g := wpAnyQ_lex (P := P) (C := fun w' => ∃ n : Cls C, w' = n.w) (md := .any) hB.1 (ll.dropLast ++ [zGo (zFo ll)]) 0 (Array.replicate (ll.dropLast ++ [zGo (zFo ll)]).toArray.size false) a (by simp) (by simpa using hB.2) c;have b := zLI (P := P) (C := fun w' => ∃ n : Cls C, w' = n.w) (Q' := Q) hL (fun a' w' hw' hQ => hQ w' (by obtain ⟨n, e⟩ := hw'; rw [e]; exact n.h)) _ _ a w.drew ⟨⟨w.drew, h0⟩, rfl⟩ (by simp) (by simp) g;rw [zIi hne] at b;refine wp_region_any hm ?_;have d : (ll.dropLast ++ [zGo (zFo ll)]).length = ll.length := by
  have := congrArg List.length (zIi hne);simpa using this
 simpa [d] using b
end
theorem zGF {P : Program} {w : World} (base : Nat) (t ty e : TypeId) (i : TypeInfo) (size : Nat) (ht : P.underlying t = some (.slice e)) (hi : P.info? e = some i) (c : Nat)
    (v : Value) (n : Nat) (xs : List Value) (hown : w.ownsRow base e size v n xs) : (Builtin.append_ #[t, t] ty #[v, sL none 0 c]).run P w = .ok v w := by
 rcases hown.2 with ⟨rfl, rfl⟩ | ⟨g, d, b, rfl, _, _, a, _⟩
 ·simp [Builtin.append_, run_underlying ht, sizeOf, typeInfo, hi, Builtin.lenOf, Builtin.firstCells]
 ·simp [Builtin.append_, run_underlying ht, sizeOf, typeInfo, hi, Builtin.lenOf, Builtin.firstCells, a, storeCells]
theorem zCG {P : Program} {w : World} {ops : Array Oper} {rest : List Oper} {o : Oper} {a : Act} {Q : Exit → Act → World → Prop} (hgd : o.guard = none) (s x : Operand) (t : TypeId)
    (ho : o.op = .call { callee := .builtin .append, args := #[s, x], argTypes := #[t, t] })
    (base : Nat) (e : TypeId) (i : TypeInfo) (size : Nat) (ht : P.underlying t = some (.slice e)) (hi : P.info? e = some i) (c : Nat)
    (v : Value) (n : Nat) (xs : List Value) (hs : a.eval s = v) (hown : w.ownsRow base e size v n xs) (hx : a.eval x = sL none 0 c)
    (h : wpList P ops Q rest (a.put o.dst v) w) : wpList P ops Q (o :: rest) a w := by
 refine wpList_plain hgd fun K hK => ?_;have b := zGF (P := P) (w := w) base t o.type e i size ht hi c v n xs hown;unfold Oper.wp;simp [execOp, ho, resolve, invoke, builtin, hs, hx, b, Result.andThen]
 exact hK _ _ h
theorem cell_kp3 (w : World) (o o' o'' : Obj) {b k : Nat} {u : Value} (h : w.cell? ⟨b, k, none⟩ = some u) : (((w.alloc o).alloc o').alloc o'').cell? ⟨b, k, none⟩ = some u := by
 have a := World.block_lt_of_cell? w _ h;simp only at a
 rw [World.cell?_alloc_past _ _ _ (by simp; omega), World.cell?_alloc_past _ _ _ (by simp; omega), World.cell?_alloc_past _ _ _ a, h]
theorem zDz (w : World) : zAX zA5 w (w.alloc (.cells #[] 2)) [sL (some ⟨w.heap.size, 0, none⟩) 0 0] [] := by
 refine ⟨⟨_, [], fun _ => False, rfl, World.ownsRow_lit (base := 0) (e := 2) (size := 1) w #[] 0 (Nat.zero_le _) (Nat.zero_le _) rfl, fun g hg => ?_, fun _ h => h.elim, rfl⟩, zAf w _⟩;simp [Value.ownBlock] at hg
 subst hg;exact ⟨⟨Nat.le_refl _, by simp⟩, fun h => h⟩
theorem zLJ (cap : Nat) (w : World) : Calls Tryz.prog 57 #[sL none 0 cap] w fun e w' => ∃ v, e = .returned v ∧ zAX zA5 w w' [v] [] := by
 obtain ⟨c, f, d, g, b⟩ := info_parts Tryz.infoI;have a : (w.alloc (.cells #[] 2)).ownsRow w.heap.size 2 1 (sL (some ⟨w.heap.size, 0, none⟩) 0 0) 0 [] := World.ownsRow_lit _ #[] 0 (Nat.le_refl _) (Nat.zero_le _) rfl;go_enter Tryz.func57, Tryz.ntmps57;go_wp2_with (at_builtin; refine zCG rfl _ _ 23 rfl w.heap.size 2 c 1 Tryz.underlying23 f cap _ _ _ rfl a rfl ?_)
 go_ret
 exact ⟨_, rfl, zDz w⟩
theorem zDc (a : Option Addr) (xs : List Int) (cap : Nat) (w : World) (h : zBg zBC w a xs) (hm : xs.length ≤ 1048576) :
    Calls Tryz.prog 57 #[sL a xs.length cap] w fun e w' => ∃ v, e = .returned v ∧ zAX zA5 w w' [v] xs := by
 cases a with
 | some ad => exact (zL1 ad xs cap w (zCw h) hm).mono fun e w' ⟨v, h1, h2⟩ => ⟨v, h1, zD8 h2 (zHT h)⟩
 | none =>
  rcases h with rfl | ⟨b, d, c, f, _⟩
  ·exact zLJ cap w
  ·cases f
end Go.Proofs.YtmdhblhdfcocjaaGreatDoor
