import Derived.Test.YtmaopldahnejdaaGreatDoorG00Box
import Derived.Test.YtmaopldahnejdaaGreatDoorG26
namespace Go.Proofs.YtmaopldahnejdaaGreatDoor
set_option maxHeartbeats 8000000
set_option maxRecDepth 20000
open Go.ChangeShapes Go.WideShapes Go.ChangeAt Go.RowKit
set_option linter.unusedVariables false
set_option linter.unusedSimpArgs false
theorem zI6 {w W : World} {n : Int} {r lo1 hi1 lo2 hi2 : Nat} {zs : List Int} {u : zA7} {ra av : Option Addr} {rc cv : Nat} (B : Bl w W) (h1 : zHq zAm lo1 hi1 W [sL ra zs.length rc] zs) (h2 : zHq zB6 lo2 hi2 W [nI u.1, nI u.2.1, .bool u.2.2.1, nI u.2.2.2.1, nI u.2.2.2.2.1, nI u.2.2.2.2.2.1, nI u.2.2.2.2.2.2.1, sL av u.2.2.2.2.2.2.2.length cv] u) (hr : w.heap.size ≤ r) (hl : r < lo1 ∧ r < lo2) (hd : hi1 ≤ lo2 ∨ hi2 ≤ lo1) :
    ∃ ds, Ending.returned (.agg #[nI n, sL ra zs.length rc, nI u.1, nI u.2.1, .bool u.2.2.1, nI u.2.2.2.1, nI u.2.2.2.2.1, nI u.2.2.2.2.2.1, nI u.2.2.2.2.2.2.1, sL av u.2.2.2.2.2.2.2.length cv]) = .returned (zBw (nI n :: ds)) ∧ zAD zBM w (zAy W r 0 [nI n, sL ra zs.length rc, nI u.1, nI u.2.1, .bool u.2.2.1, nI u.2.2.2.1, nI u.2.2.2.2.1, nI u.2.2.2.2.2.1, nI u.2.2.2.2.2.2.1, sL av u.2.2.2.2.2.2.2.length cv]) ds (zs, u) := by
 refine ⟨[sL ra zs.length rc, nI u.1, nI u.2.1, .bool u.2.2.1, nI u.2.2.2.1, nI u.2.2.2.2.1, nI u.2.2.2.2.2.1, nI u.2.2.2.2.2.2.1, sL av u.2.2.2.2.2.2.2.length cv], rfl, ?_, zAv (g := r) (o := 0) (vs := [nI n, sL ra zs.length rc, nI u.1, nI u.2.1, .bool u.2.2.1, nI u.2.2.2.1, nI u.2.2.2.2.1, nI u.2.2.2.2.2.1, nI u.2.2.2.2.2.2.1, sL av u.2.2.2.2.2.2.2.length cv]) B hr⟩;have e1 := h1.2;have e2 := h2.2;have b := zHE (S := fun j => rng lo1 hi1 j ∨ rng lo2 hi2 j) h1.1 h2.1 (fun j q => .inl q) (fun j q => .inr q) (fun j q1 q2 => by have a1 := q1.1; have a2 := q1.2; have a3 := q2.1; have a4 := q2.2; omega);refine zBM.own_mono (zAX (g := r) (o := 0) (vs := [nI n, sL ra zs.length rc, nI u.1, nI u.2.1, .bool u.2.2.1, nI u.2.2.2.1, nI u.2.2.2.2.1, nI u.2.2.2.2.2.1, nI u.2.2.2.2.2.2.1, sL av u.2.2.2.2.2.2.2.length cv]) b (fun q => by rcases q with q | q <;> (have := q.1; omega))) ?_;intro j q;have a := zAq (g := r) [nI n, sL ra zs.length rc, nI u.1, nI u.2.1, .bool u.2.2.1, nI u.2.2.2.1, nI u.2.2.2.2.1, nI u.2.2.2.2.2.1, nI u.2.2.2.2.2.2.1, sL av u.2.2.2.2.2.2.2.length cv] 0 W;rcases q with q | q
 ·exact ⟨by have := q.1; omega, by rw [a]; have := q.2; omega⟩
 ·exact ⟨by have := q.1; omega, by rw [a]; have := q.2; omega⟩
theorem zHF (cs : List Value) (x : zA2) (n : Nat) (u : zA7) (w : World) (h : zAz.rd w cs x) (hu : x.2[n]? = some u) (hd : u.2.2.2.2.2.2.2.length ≤ 1048576) (h64 : ∀ y ∈ zDz x.1 n, zA4 y) :
    Calls Tryz.prog 88 #[zBw cs, nI n] w fun e q => ∃ ds, e = .returned (zBw (nI n :: ds)) ∧ zAD zBM w q ds (zDz x.1 n, u) := by
 obtain ⟨v0, v1, rfl, ⟨a0, c0, e0, l1, l2, q0⟩, ⟨a1, c1, e1, m1, m2, q1⟩⟩ := zBW h;simp only [List.cons.injEq, and_true] at e0 e1;obtain rfl := e0;obtain rfl := e1;have hn : n < x.2.length := (List.getElem?_eq_some_iff.1 hu).1;have VA : x.2.length ≤ 9223372036854775807 := Nat.le_trans m1 m2;have qA : Hid (∀ W, Bl w W → Calls Tryz.prog 116 #[sL a0 x.1.length c0, nI n] W fun e q => ∃ j i, e = .returned (sL j (zDz x.1 n).length i) ∧ zAD zAm W q [sL j (zDz x.1 n).length i] (zDz x.1 n)) := fun W hb => by
  refine (zF7 a0 x.1 c0 n W (zDq (zAt q0 hb)) (Nat.le_trans l1 l2)).mono ?_;rintro e q ⟨v, rfl, d⟩;have mr := zB8 d h64;obtain ⟨j, i, rfl⟩ := zAB mr.1;exact ⟨j, i, rfl, mr⟩
 obtain ⟨b, c, es, rfl, z, a⟩ := zBH q1 hu;obtain ⟨ad, cp, rfl, i0, i1, i3, i4, i5, i6, -, -, L⟩ := zE0 z;have M : Hid (∀ W, Bl w W → Calls Tryz.prog 112 #[.agg #[nI u.1, nI u.2.1, .bool u.2.2.1, nI u.2.2.2.1, nI u.2.2.2.2.1, nI u.2.2.2.2.2.1, nI u.2.2.2.2.2.2.1, sL ad u.2.2.2.2.2.2.2.length cp]] W fun e q => ∃ m k, e = .returned (.agg #[nI u.1, nI u.2.1, .bool u.2.2.1, nI u.2.2.2.1, nI u.2.2.2.2.1, nI u.2.2.2.2.2.1, nI u.2.2.2.2.2.2.1, sL m u.2.2.2.2.2.2.2.length k]) ∧ zAD zB6 W q [nI u.1, nI u.2.1, .bool u.2.2.1, nI u.2.2.2.1, nI u.2.2.2.2.1, nI u.2.2.2.2.2.1, nI u.2.2.2.2.2.2.1, sL m u.2.2.2.2.2.2.2.length k] u) := fun W hb => zDR u.1 u.2.1 u.2.2.2.1 u.2.2.2.2.1 u.2.2.2.2.2.1 u.2.2.2.2.2.2.1 u.2.2.1 u.2.2.2.2.2.2.2 ad cp W i0 i1 i3 i4 i5 i6 (zAt L hb) hd;have k0 := a 0 _ rfl;have k1 := a 1 _ rfl;have k2 := a 2 _ rfl;have k3 := a 3 _ rfl;have Y := a 4 _ rfl;have X := a 5 _ rfl;have k6 := a 6 _ rfl;have O := a 7 _ rfl;have HZ : Hid (∀ W, Bl w W → W.cell? ⟨b, c + n * 8, none⟩ = some (nI u.1) ∧ W.cell? ⟨b, c + n * 8 + 1, none⟩ = some (nI u.2.1) ∧ W.cell? ⟨b, c + n * 8 + 2, none⟩ = some (.bool u.2.2.1) ∧ W.cell? ⟨b, c + n * 8 + 3, none⟩ = some (nI u.2.2.2.1) ∧ W.cell? ⟨b, c + n * 8 + 4, none⟩ = some (nI u.2.2.2.2.1) ∧ W.cell? ⟨b, c + n * 8 + 5, none⟩ = some (nI u.2.2.2.2.2.1) ∧ W.cell? ⟨b, c + n * 8 + 6, none⟩ = some (nI u.2.2.2.2.2.2.1) ∧ W.cell? ⟨b, c + n * 8 + 7, none⟩ = some (sL ad u.2.2.2.2.2.2.2.length cp)) := fun W hb => ⟨zAf hb k0 (zAi k0), zAf hb k1 (zAi k1), zAf hb k2 (zAi k2), zAf hb k3 (zAi k3), zAf hb Y (zAi Y), zAf hb X (zAi X), zAf hb k6 (zAi k6), zAf hb O (zAi O)⟩;clear h q0 q1 z a L k0 k1 k2 k3 Y X k6 O i0 i1 i3 i4 i5 i6 h64 hd hu l1 l2 m1 m2;have TA : (n : Int) < (x.2.length : Int) := by omega
 change Calls Tryz.prog 88 #[.agg #[sL a0 x.1.length c0, sL (some ⟨b, c, none⟩) x.2.length c1], nI n] w _
 have B := Below.refl w.heap.size w;go_enter Tryz.func88, Tryz.ntmps88;go_upto_region 1 with fail
 generalize f : w.alloc _ = u1w;have H := boxH f;have s := boxB f;have zH := boxL f;clear f;rw [show w.heap.size = w.heap.size from by omega] at H;replace B := zAa B s;clear s;have ZA := lE zH;have UA := lE zH.symm;clear zH;generalize g : u1w.alloc _ = u2w;have Z := boxH g;have s := boxB g;have zZ := boxL g;clear g;rw [show u1w.heap.size = w.heap.size + 1 from by omega] at Z;replace B := zAa B s;replace H := zAb s H;clear s;have OA := lE zZ;have SA := lE zZ.symm;clear zZ;obtain ⟨Hc0, Hc1⟩ := zAC H;have Hlt := (ltH H);obtain ⟨Zc0, Zc1, Zc2, Zc3, Zc4, Zc5, Zc6, Zc7, Zc8, Zc9⟩ := zAc Z;have Zlt := (ltH Z);obtain ⟨Zf0, Zf1, Zf2, Zf3, Zf4, Zf5, Zf6, Zf7, Zf8, Zf9⟩ := zA0 Z;have t0 : w.heap.size + 1 + 1 ≤ u2w.drew.heap.size := by show _ ≤ u2w.heap.size; omega
 replace B := B.drew;obtain ⟨K, D, C, E, F, G, A, I⟩ := HZ.out _ B;first | (go_region_with (first | (go_at_call 116; refine (qA.out _ B).mono ?_; rintro e wr ⟨j, i, rfl, d⟩; clear Hc0 Hc1 Hlt Zc0 Zc1 Zc2 Zc3 Zc4 Zc5 Zc6 Zc7 Zc8 Zc9 Zlt Zf0 Zf1 Zf2 Zf3 Zf4 Zf5 Zf6 Zf7 Zf8 Zf9 K D C E F G A I; have l := zBs (R := zAm) d; have YA := d.2.size; (try replace o := zAP o d.2); replace B := zAa B d.2; replace H := zAb d.2 H; replace Z := zAb d.2 Z; clear d; obtain ⟨Hc0, Hc1⟩ := zAC H; have Hlt := (ltH H); obtain ⟨Zc0, Zc1, Zc2, Zc3, Zc4, Zc5, Zc6, Zc7, Zc8, Zc9⟩ := zAc Z; have Zlt := (ltH Z); obtain ⟨Zf0, Zf1, Zf2, Zf3, Zf4, Zf5, Zf6, Zf7, Zf8, Zf9⟩ := zA0 Z; obtain ⟨K, D, C, E, F, G, A, I⟩ := HZ.out _ B) | (go_at_call 112; refine (M.out _ B).mono ?_; rintro e we ⟨m, k, rfl, d⟩; clear Hc0 Hc1 Hlt Zc0 Zc1 Zc2 Zc3 Zc4 Zc5 Zc6 Zc7 Zc8 Zc9 Zlt Zf0 Zf1 Zf2 Zf3 Zf4 Zf5 Zf6 Zf7 Zf8 Zf9 K D C E F G A I; have o := zBs (R := zB6) d; have RA := d.2.size; (try replace l := zAP l d.2); replace B := zAa B d.2; replace H := zAb d.2 H; replace Z := zAb d.2 Z; clear d; obtain ⟨Hc0, Hc1⟩ := zAC H; have Hlt := (ltH H); obtain ⟨Zc0, Zc1, Zc2, Zc3, Zc4, Zc5, Zc6, Zc7, Zc8, Zc9⟩ := zAc Z; have Zlt := (ltH Z); obtain ⟨Zf0, Zf1, Zf2, Zf3, Zf4, Zf5, Zf6, Zf7, Zf8, Zf9⟩ := zA0 Z; obtain ⟨K, D, C, E, F, G, A, I⟩ := HZ.out _ B) | fail)) | fail
 all_goals
  clear Hc0 Hc1 Hlt Zc0 Zc1 Zc2 Zc3 Zc4 Zc5 Zc6 Zc7 Zc8 Zc9 Zlt Zf0 Zf1 Zf2 Zf3 Zf4 Zf5 Zf6 Zf7 Zf8 Zf9 K D C E F G A I;have HK : Hid _ := aI B (aI Z (aI l o));clear B Z H l o;go_wp2;obtain ⟨B, Z, l, o⟩ := HK.out;clear HK;first | (have p := (show (zAy wr (w.heap.size + 1) 0 [nI n, sL j (zDz x.1 n).length i, nI u.1, nI u.2.1, .bool u.2.2.1, nI u.2.2.2.1, nI u.2.2.2.2.1, nI u.2.2.2.2.2.1, nI u.2.2.2.2.2.2.1, sL m u.2.2.2.2.2.2.2.length k]).heap[w.heap.size + 1]? = some (.cells #[nI n, sL j (zDz x.1 n).length i, nI u.1, nI u.2.1, .bool u.2.2.1, nI u.2.2.2.1, nI u.2.2.2.2.1, nI u.2.2.2.2.2.1, nI u.2.2.2.2.2.2.1, sL m u.2.2.2.2.2.2.2.length k] 107 (0, 0)) from zBx Z); simp only [zA5, zAK, Nat.reduceAdd, Nat.zero_add] at p; obtain ⟨T, r1, r2, r3, N, V, r6, U, r8, S⟩ := zAc p; have J := zI6 (n := n) (r := w.heap.size + 1) (W := wr) B l o (by omega) (by omega) (by omega); simp only [zA5, zAK, Nat.reduceAdd, Nat.zero_add] at J; clear p B Z l o; exact bodyPost_ret (v := .agg #[nI n, sL j (zDz x.1 n).length i, nI u.1, nI u.2.1, .bool u.2.2.1, nI u.2.2.2.1, nI u.2.2.2.2.1, nI u.2.2.2.2.2.1, nI u.2.2.2.2.2.2.1, sL m u.2.2.2.2.2.2.2.length k]) (by simp [results, Tryz.results88, go_sem, T, r1, r2, r3, N, V, r6, U, r8, S]) rfl J) | (have p := (show (zAy we (w.heap.size + 1) 0 [nI n, sL j (zDz x.1 n).length i, nI u.1, nI u.2.1, .bool u.2.2.1, nI u.2.2.2.1, nI u.2.2.2.2.1, nI u.2.2.2.2.2.1, nI u.2.2.2.2.2.2.1, sL m u.2.2.2.2.2.2.2.length k]).heap[w.heap.size + 1]? = some (.cells #[nI n, sL j (zDz x.1 n).length i, nI u.1, nI u.2.1, .bool u.2.2.1, nI u.2.2.2.1, nI u.2.2.2.2.1, nI u.2.2.2.2.2.1, nI u.2.2.2.2.2.2.1, sL m u.2.2.2.2.2.2.2.length k] 107 (0, 0)) from zBx Z); simp only [zA5, zAK, Nat.reduceAdd, Nat.zero_add] at p; obtain ⟨T, r1, r2, r3, N, V, r6, U, r8, S⟩ := zAc p; have J := zI6 (n := n) (r := w.heap.size + 1) (W := we) B l o (by omega) (by omega) (by omega); simp only [zA5, zAK, Nat.reduceAdd, Nat.zero_add] at J; clear p B Z l o; exact bodyPost_ret (v := .agg #[nI n, sL j (zDz x.1 n).length i, nI u.1, nI u.2.1, .bool u.2.2.1, nI u.2.2.2.1, nI u.2.2.2.2.1, nI u.2.2.2.2.2.1, nI u.2.2.2.2.2.2.1, sL m u.2.2.2.2.2.2.2.length k]) (by simp [results, Tryz.results88, go_sem, T, r1, r2, r3, N, V, r6, U, r8, S]) rfl J)
theorem zGU {w : World} {g b o k : Nat} {u v : Value} (hne : ¬ (b = g)) (h : w.cell? ⟨b, k, none⟩ = some u) : (w.setCell ⟨g, o, none⟩ v).cell? ⟨b, k, none⟩ = some u :=
 (World.cell?_of_block (w := w) (a := ⟨b, k, none⟩) (heap_setCell_other w ⟨g, o, none⟩ b v hne)).trans h
section
variable {W0 wx : World} {b0 o0 o1 : Nat} {u v : Value}
theorem hc_alloc (hD : b0 < W0.heap.size) (h : wx.cell? ⟨b0, o0, none⟩ = some u ∧ wx.cell? ⟨b0, o1, none⟩ = some v ∧ Bl W0 wx) (o : Obj) : (wx.alloc o).cell? ⟨b0, o0, none⟩ = some u ∧ (wx.alloc o).cell? ⟨b0, o1, none⟩ = some v ∧ Bl W0 (wx.alloc o) :=
 ⟨zAf (zAg wx o) h.1 (zAi h.1), zAf (zAg wx o) h.2.1 (zAi h.2.1), zAa h.2.2 (zAg wx o)⟩
theorem hc_drew (h : wx.cell? ⟨b0, o0, none⟩ = some u ∧ wx.cell? ⟨b0, o1, none⟩ = some v ∧ Bl W0 wx) : wx.drew.cell? ⟨b0, o0, none⟩ = some u ∧ wx.drew.cell? ⟨b0, o1, none⟩ = some v ∧ Bl W0 wx.drew := ⟨h.1, h.2.1, h.2.2.drew⟩
theorem hc_set {g o : Nat} {z : Value} (hD : b0 < W0.heap.size) (hg : W0.heap.size ≤ g) (h : wx.cell? ⟨b0, o0, none⟩ = some u ∧ wx.cell? ⟨b0, o1, none⟩ = some v ∧ Bl W0 wx) : (wx.setCell ⟨g, o, none⟩ z).cell? ⟨b0, o0, none⟩ = some u ∧ (wx.setCell ⟨g, o, none⟩ z).cell? ⟨b0, o1, none⟩ = some v ∧ Bl W0 (wx.setCell ⟨g, o, none⟩ z) :=
 ⟨zGU (by omega) h.1, zGU (by omega) h.2.1, zAh h.2.2 hg⟩
theorem hc_made {w9 : World} (h : wx.cell? ⟨b0, o0, none⟩ = some u ∧ wx.cell? ⟨b0, o1, none⟩ = some v ∧ Bl W0 wx) (hb : Bl wx w9) : w9.cell? ⟨b0, o0, none⟩ = some u ∧ w9.cell? ⟨b0, o1, none⟩ = some v ∧ Bl W0 w9 := ⟨zAf hb h.1 (zAi h.1), zAf hb h.2.1 (zAi h.2.1), zAa h.2.2 hb⟩
end
theorem zHG {W w9 : World} {b o : Nat} {u : Value} (hb : Bl W w9) (h : W.cell? ⟨b, o, none⟩ = some u) (hf : W.frozen? ⟨b, o, none⟩ = false) : w9.cell? ⟨b, o, none⟩ = some u ∧ w9.frozen? ⟨b, o, none⟩ = false ∧ b < w9.heap.size :=
 ⟨zAf hb h (zAi h), (World.frozen?_of_block (w := W) (a := ⟨b, o, none⟩) (hb.block b (zAi h))).trans hf, Nat.lt_of_lt_of_le (zAi h) hb.size⟩
theorem zI7 {W : World} {o : Obj} {k : Nat} (e : W.heap.size = k) : (W.alloc o).heap[k]? = some o := e ▸ zAw W o
def zJe {α : Type} (e : TypeId) (R : Rep α) (B pb n : Nat) (w : World) (xs : List α) : Prop :=
 ∃ rows rest, w.ownsRow 0 e R.size (.slice (some ⟨pb, 0, none⟩) n n) n (rows ++ rest) ∧ zGD R w (rng B w.heap.size) rows xs ∧ pb < B ∧ B ≤ w.heap.size
theorem zJf {α : Type} {e : TypeId} {R : Rep α} {w : World} {pb n : Nat} {cs : Array Value} (h : w.heap[pb]? = some (.cells cs e (0, 0))) (hm : n ≤ maxLen) (hs : cs.size = n * R.size) : zJe e R w.heap.size pb n w [] := by
 refine ⟨[], cs.toList, ?_, rfl, (ltH h), Nat.le_refl _⟩;refine ⟨by simp [hs], .inr ⟨pb, n, cs, by simp, Nat.zero_le _, h, by simp, hm, hs, ?_⟩⟩;rw [← hs];exact List.take_of_length_le (by simp)
theorem zKq {α : Type} {e : TypeId} {R : Rep α} {B pb n : Nat} {w w' : World} {xs : List α} (h : zJe e R B pb n w xs) (hb : Bl w w') : zJe e R B pb n w' xs := by
 obtain ⟨a, rest, d, c, b, f⟩ := h;refine ⟨a, rest, zDF d fun g hg => ?_, zKD (zCP c fun j hj hlj => hb.block j hlj) (zAL (Nat.le_refl _) hb.size), b, Nat.le_trans f hb.size⟩;simp [Value.ownBlock] at hg
 subst hg;exact hb.block _ (by omega)
theorem zKr {α : Type} {e : TypeId} {R : Rep α} {B pb n k : Nat} {w w1 : World} {xs : List α} {c : List Value} {x : α} (h : zJe e R B pb n w xs) (hk : xs.length = k) (hkn : k < n) (hm : zAD R w w1 c x) :
    (∀ i, i < R.size → ∃ u, w1.cell? ⟨pb, k * R.size + i, none⟩ = some u) ∧ (∀ i, w1.frozen? ⟨pb, i, none⟩ = false) ∧ zJe e R B pb n (zDN w1 pb (k * R.size) c) (xs ++ [x]) ∧ w1.grownBy (zDN w1 pb (k * R.size) c) (some pb) := by
 have o := hm.2.size;obtain ⟨a, rest, A, q, s, z⟩ := h;have hc := R.rd_len (R.own_rd hm.1);have m := zJ1 q;rw [hk] at m;have C : k * R.size + R.size ≤ n * R.size := by
  have : (k + 1) * R.size ≤ n * R.size := Nat.mul_le_mul_right _ hkn;rwa [Nat.add_one_mul] at this
 have d : w1.ownsRow 0 e R.size (sL (some ⟨pb, 0, none⟩) n n) n (a ++ rest) := zDF A fun g hg => by
  simp [Value.ownBlock] at hg
  subst hg;exact hm.2.block _ (by omega)
 have l : zGD R w1 (rng B w.heap.size) a xs := zCP q fun j hj _ => hm.2.block j hj.2;obtain ⟨r, f⟩ := zFD (cs := c) (off := k * R.size) d (by omega);have p := d.1;refine ⟨fun i hi => ?_, fun i => World.ownsRow.frozenAt d i, ⟨a ++ c, (a ++ rest).drop (k * R.size + c.length), ?_, ?_, s, ?_⟩, f⟩
 ·rw [World.ownsRow.cellAt d _ (by omega)];exact ⟨_, List.getElem?_eq_getElem (by omega)⟩
 ·rw [List.append_assoc];rw [List.take_append_of_le_length (by omega), List.take_of_length_le (by omega)] at r;exact r
 ·have b : ∀ j, j ≠ pb → j < w1.heap.size → (zDN w1 pb (k * R.size) c).heap[j]? = w1.heap[j]? := fun j hj hlj => f.block j hlj (fun e => hj (by simpa using e));have v : R.own (zDN w1 pb (k * R.size) c) (rng w.heap.size w1.heap.size) c x := R.own_keep hm.1 fun j hj hlj => b j (by have := hj.1; omega) hlj;have y : zGD R (zDN w1 pb (k * R.size) c) (rng B w.heap.size) a xs := zCP l fun j hj hlj => b j (by have := hj.1; omega) hlj;exact zEI y v (zFe (.inl (Nat.le_refl _))) (zAL (Nat.le_refl _) (Nat.le_trans o f.size)) (zAL z f.size)
 ·have := f.size;omega
theorem zL6 {α : Type} {e : TypeId} {R : Rep α} {B pb n : Nat} {w : World} {xs : List α} (h : zJe e R B pb n w xs) (hn : xs.length = n) : (slR e R).own w (fun k => k = pb ∨ rng B w.heap.size k) [sL (some ⟨pb, 0, none⟩) xs.length n] xs := by
 obtain ⟨b, rest, d, f, hp, hB⟩ := h;have c := zJ1 f;have a := d.1;have : rest = [] := by
  rw [hn] at c;rw [List.length_append] at a;exact List.eq_nil_of_length_eq_zero (by omega)
 subst this;rw [List.append_nil] at d;refine ⟨_, b, rng B w.heap.size, rfl, by rw [hn]; exact d, fun g hg => ?_, fun k hk => .inr hk, f⟩;simp [Value.ownBlock] at hg
 subst hg;exact ⟨.inl rfl, fun h => by have := h.1; omega⟩
structure HLies (s t pb cb : Nat) (T : zAN) : Prop where
 p1 : s + 2 ≤ pb
 p2 : pb < t
 c1 : s + 2 ≤ cb
 c2 : cb < t
 ne : pb ≠ cb
 ts : Sub T (rng (s + 2) t)
 tp : ¬ T pb
 tc : ¬ T cb
def HouC (w : World) (t pb cb n : Nat) (T : zAN) (box zero : Obj) (mv : Value) (mem : List (List Int)) (xs : List zA7) (wr : World) : Prop :=
 zJe 48 zB6 t pb n wr xs ∧ zBY.own wr T [mv] mem ∧ wr.heap[cb]? = some (.cells #[mv, .slice (some ⟨pb, 0, none⟩) n n] 27 (0, 0)) ∧ wr.heap[w.heap.size]? = some box ∧ wr.heap[w.heap.size + 1]? = some zero ∧ Below w.heap.size w wr
theorem zEW {w wr wr' : World} {t pb cb n : Nat} {T : zAN} {box zero : Obj} {mv : Value} {mem : List (List Int)} {xs : List zA7} (h : HouC w t pb cb n T box zero mv mem xs wr) (hb : Bl wr wr') : HouC w t pb cb n T box zero mv mem xs wr' := by
 obtain ⟨a, g, c, b, d, f⟩ := h;exact ⟨zKq a hb, zBY.own_keep g (zAj hb), zAb hb c, zAb hb b, zAb hb d, zAa f hb⟩
theorem zL7 {w w0 w1 : World} {t pb cb n k : Nat} {T : zAN} {box zero : Obj} {mv : Value} {mem : List (List Int)} {xs : List zA7} {c : List Value} {x : zA7} (L : HLies w.heap.size t pb cb T) (h : HouC w t pb cb n T box zero mv mem xs w0) (hk : xs.length = k) (hkn : k < n) (hm : zAD zB6 w0 w1 c x) :
    (∀ i, i < 8 → ∃ u, w1.cell? ⟨pb, k * 8 + i, none⟩ = some u) ∧ (∀ i, w1.frozen? ⟨pb, i, none⟩ = false) ∧ HouC w t pb cb n T box zero mv mem (xs ++ [x]) (zDN w1 pb (k * 8) c) := by
 have f := zEW h hm.2;obtain ⟨v, h2, h3, h4, h5, h6⟩ := h;obtain ⟨r, g, q, b⟩ := zKr v hk hkn hm;obtain ⟨-, l, p, y, m, d⟩ := f;have z := L.p1;have a : ∀ (j : Nat) (o : Obj), j ≠ pb → w1.heap[j]? = some o → (zDN w1 pb (k * 8) c).heap[j]? = some o := fun j o hj e => (b.block j (ltH e) (fun e => hj (by simpa using e))).trans e;refine ⟨r, g, q, zBY.own_keep l fun j hj hlj => b.block j hlj (fun e => L.tp (by have s : j = pb := (by simpa using e); rw [← s]; exact hj)), a _ _ (fun e => L.ne e.symm) p, a _ _ (by omega) y, a _ _ (by omega) m, d.grown b d.size (fun j hj => by cases hj; omega)⟩
theorem zDl {w W0 W' : World} {pb cb n : Nat} {T : zAN} {box zero : Obj} {mv : Value} {mem : List (List Int)} (hm : n ≤ maxLen) (hB : Bl w W0) (hX : W0.heap[w.heap.size]? = some box) (hY : W0.heap[w.heap.size + 1]? = some zero) (B : Bl W0 W')
    (h1 : W'.heap[pb]? = some (.cells (madeCells #[nI 0, nI 0, .bool false, nI 0, nI 0, nI 0, nI 0, sL none 0 0] (n * 8)) 48 (0, 0))) (h2 : zBY.own W' T [mv] mem) (h3 : W'.heap[cb]? = some (.cells #[mv, sL (some ⟨pb, 0, none⟩) n n] 27 (0, 0))) : HouC w W'.heap.size pb cb n T box zero mv mem [] W' :=
 ⟨zJf h1 hm (by rw [size_madeCells]; rfl), h2, h3, zAb B hX, zAb B hY, zAa hB B⟩
theorem houC_end {w wr : World} {t pb cb n : Nat} {T : zAN} {box zero : Obj} {a : Option Addr} {l c : Nat} {mem : List (List Int)} {xs : List zA7} (L : HLies w.heap.size t pb cb T) (h : HouC w t pb cb n T box zero (sL a l c) mem xs wr) (hn : xs.length = n) :
    zAz.own wr (rng (w.heap.size + 2) wr.heap.size) [sL a l c, sL (some ⟨pb, 0, none⟩) n n] (mem, xs) := by
 obtain ⟨g, i, h3, h4, h5, h6⟩ := h;have e := zL6 g hn;obtain ⟨-, -, -, -, hp, hB⟩ := g;rw [hn] at e;have f := L.p1;refine ⟨_, _, _, _, rfl, i, e, fun k b => ?_, fun k b => ?_, fun k b d => ?_⟩
 ·have := L.ts k b;exact ⟨this.1, by have := this.2; omega⟩
 ·rcases b with rfl | b
  ·exact ⟨f, by omega⟩
  ·exact ⟨by have := b.1; omega, b.2⟩
 ·rcases d with rfl | d
  ·exact L.tp b
  ·have := (L.ts k b).2;have := d.1;omega
def EndC (a : zB0) : Prop := a.1.length ≤ 1048576 ∧ zAI a.2.1 a.2.2.1 = true ∧ (1 ≤ a.2.2.2.2.1 ∧ a.2.2.2.2.1 ≤ 4) ∧ (a.2.2.2.2.1 = 1 → zA6 a.2.2.2.2.2.1 0 3 = true) ∧ (3 ≤ a.2.2.2.2.1 → a.2.2.2.2.2.1 = 5) ∧ (a.2.2.2.2.1 = 4 → isL a.1 = true ∧ isL a.2.2.2.2.2.2.2.2 = true ∧ zA6 a.2.2.2.2.2.2.2.1 0 3 = true)
def EndQ (t g mb mc bb bc k : Nat) (x : zA2) : Prop := ∀ B W a, HK t g mb mc bb bc k x B W a → EndC a → Calls Tryz.prog 124 #[.pointer (some ⟨g, 0, none⟩), .int .i64 k] W fun e w' => ∃ ms, e = .returned ms ∧ SQ t g mb mc bb bc k x W (zDK k a).1 (zDK k a).2 ms w'
theorem zJI {w : World} {b q off : Nat} {ob : Obj} {o s c : Int} (h : w.heap[q]? = some ob) (hq : q ≠ b) : (fgW w b off o s c).heap[q]? = some ob := by
 unfold fgW;split
 ·exact zAl (zAl h hq) hq
 ·exact zAl h hq
theorem zEX {t g mb mc bb bc k B : Nat} {x : zA2} (ws : List Int) (o s : Int) (kd f l mk : Int) (d : List Int) (r c tq n gg : Int) (dt : List Int) (ma : Option Addr) (mc2 : Nat) (w : World) (h : HK t g mb mc bb bc k x B w (ws, (o, s, true, kd, f, l, mk, d))) (hd : Hid (∀ W, Below t w W → zBv zBf W ma dt)) (hm : dt.length ≤ 1048576) (hw : zAI o s = true) (c0 : 0 ≤ c) (c3 : c ≤ 3) (hho : zEH o s c = true) (hl : 0 < l) (hec : EndC (zBA ws dt, zDb (o, s, true, kd, f, l, mk, d) c gg)) (HE : Hid (EndQ t g mb mc bb bc k x)) :
    Calls Tryz.prog 98 #[.pointer (some ⟨g, 0, none⟩), .agg #[nI r, nI c, nI tq, nI n, nI k, sL ma dt.length mc2, nI gg]] w fun e w' => ∃ ms, e = .returned (.tuple #[ms, nI 1]) ∧ SQ t g mb mc bb bc k x w (zIn k (ws, (o, s, true, kd, f, l, mk, d)) (r, c, tq, n, (k : Int), dt, gg)).1 (zIn k (ws, (o, s, true, kd, f, l, mk, d)) (r, c, tq, n, (k : Int), dt, gg)).2 ms w' := by
 have YB := zCy hw;have oA := (zGj h).2.2.2.2.1;simp only at oA
 obtain ⟨TB, oA⟩ := oA;have fB := h.2.2.2.2.1;have dB := h.2.2.2.2.2.1;have dC : (k : Int) < (x.1.length : Int) := by omega
 have MB : (k : Int) < (x.2.length : Int) := by omega
 have DA := zBa h;have pB := zGj h;simp only at pB
 have tw : t ≤ w.heap.size := by omega
 have cC : B ≤ w.heap.size := DA.2.2;have kB : bb < w.heap.size := by omega
 have JB : mb < w.heap.size := by have := zDS h; omega
 have XB : g < w.heap.size := by have := h.2.2.1; omega
 have i := Below.refl t w;clear fB dB DA;go_enter Tryz.func98, Tryz.ntmps98;go_upto_region 1 with fail
 have X := zAw w (.cells #[nI r, nI c, nI tq, nI n, nI k, sL ma dt.length mc2, nI gg] 30);have bq := zAg w (.cells #[nI r, nI c, nI tq, nI n, nI k, sL ma dt.length mc2, nI gg] 30);have rB := lE (zAu w (.cells #[nI r, nI c, nI tq, nI n, nI k, sL ma dt.length mc2, nI gg] 30)).symm;have lB := bq.size;replace i := zBj i bq (zBT h);replace h := zAH h bq;clear bq;generalize w.alloc (.cells #[nI r, nI c, nI tq, nI n, nI k, sL ma dt.length mc2, nI gg] 30) = w0 at lB rB h i X ⊢;obtain ⟨wa, wc, da, dc, ⟨O, G1⟩, y, ⟨p, m, J, I, E, G, H, F⟩, ⟨D, -⟩, ⟨z, C⟩, A, a, V, T⟩ := zAr h;have L := a (k * 8);have M := a (k * 8 + 1);have F2 := a (k * 8 + 2);have F3 := a (k * 8 + 3);have U := a (k * 8 + 4);have R := a (k * 8 + 5);have Y := a (k * 8 + 6);have Z := a (k * 8 + 7);have S := A k;simp only at y p m J I E G H F D z C
 obtain ⟨Xc0, Xc1, Xc2, Xc3, Xc4, Xc5, Xc6⟩ := zAe X;obtain ⟨Xf0, Xf1, Xf2, Xf3, Xf4, Xf5, Xf6⟩ := zAo X;have Xlt := (ltH X);go_region
 go_upto_region 2 with fail
 clear O G1 y p m J I E G H F D z C A a L M F2 F3 U R Y Z S V T Xc0 Xc1 Xc2 Xc3 Xc4 Xc5 Xc6 Xf0 Xf1 Xf2 Xf3 Xf4 Xf5 Xf6 Xlt;replace h := zBD h;replace i := i.drew;replace X := zAV X;have mA : w0.heap.size ≤ w0.drew.heap.size := Nat.le_refl _;generalize w0.drew = w1 at mA h i X ⊢;have zl : (l == 0) = false := beq_false_of_ne (by omega);have MA : Hid (decide (c ∈ hoI o s) = true) := by
  unfold Hid;rw [sp_mem hw c0 (by omega)];exact hho
 obtain ⟨wa, wc, da, dc, ⟨O, G1⟩, y, ⟨p, m, J, I, E, G, H, F⟩, ⟨D, -⟩, ⟨z, C⟩, A, a, V, T⟩ := zAr h;have L := a (k * 8);have M := a (k * 8 + 1);have F2 := a (k * 8 + 2);have F3 := a (k * 8 + 3);have U := a (k * 8 + 4);have R := a (k * 8 + 5);have Y := a (k * 8 + 6);have Z := a (k * 8 + 7);have S := A k;simp only at y p m J I E G H F D z C
 obtain ⟨Xc0, Xc1, Xc2, Xc3, Xc4, Xc5, Xc6⟩ := zAe X;obtain ⟨Xf0, Xf1, Xf2, Xf3, Xf4, Xf5, Xf6⟩ := zAo X;have Xlt := (ltH X);go_cut [35] (fun q wx => q = .bool false ∧ HK t g mb mc bb bc k x B wx (ws, (o, s, true, kd, f, l, mk, d)) ∧ wx.heap[w.heap.size]? = some (.cells #[nI r, nI c, nI tq, nI n, nI k, sL ma dt.length mc2, nI gg] 30 (0, 0)) ∧ Below t w wx ∧ w0.heap.size ≤ wx.heap.size)
 case first =>
  have b : Hid _ := aI h (aI X (aI i mA));have KX : Hid (∀ wx, Bl w1 wx → wx.cell? ⟨w.heap.size, 0, none⟩ = some (nI r) ∧ wx.cell? ⟨w.heap.size, 1, none⟩ = some (nI c) ∧ wx.cell? ⟨w.heap.size, 2, none⟩ = some (nI tq) ∧ wx.cell? ⟨w.heap.size, 3, none⟩ = some (nI n) ∧ wx.cell? ⟨w.heap.size, 4, none⟩ = some (nI k) ∧ wx.cell? ⟨w.heap.size, 5, none⟩ = some (sL ma dt.length mc2) ∧ wx.cell? ⟨w.heap.size, 6, none⟩ = some (nI gg)) := fun wx hh => zAe (zAb hh X);have Q0 : Hid (Bl w1 w1.drew) := (Below.refl w1.heap.size w1).drew;skip
  clear h X i A a S L M F2 F3 U R Y Z D z C V T O G1 y;first | (go_region_with (first | (go_at_call 41; refine (zCh o s kd f l mk _ d da dc _ hw).mono ?_; rintro e w5 ⟨vv, rfl, g5, c5, rfl, l5, m5, o5, bq⟩; have Q1 : Hid (Bl w1 w5) := zAa Q0.out bq; have R5 : Hid (zBr w5 (some ⟨g5, 0, none⟩) (hoI o s)) := zC5 o5; clear bq o5 l5 m5; obtain ⟨Xd0, Xd1, Xd2, Xd3, Xd4, Xd5, Xd6⟩ := KX.out _ Q1.out) | (go_at_call 126; refine (zIx _ (hoI o s) _ c _ R5.out (by have := zDA o s; omega)).mono ?_; rintro e w6 ⟨rfl, HA⟩; rw [HA, MA.out]; clear HA w6) | fail)) | fail
  all_goals
   go_wp2_with fail
   go_meet
   exact ⟨rfl, zAH b.out.1 Q1.out, zAb Q1.out b.out.2.1, zBj b.out.2.2.1 Q1.out (zBT b.out.1), Nat.le_trans b.out.2.2.2 Q1.out.size⟩
 case rest =>
  clear h X i O G1 y p m J I E G H F D z C A a L M F2 F3 U R Y Z S V T Xc0 Xc1 Xc2 Xc3 Xc4 Xc5 Xc6 Xf0 Xf1 Xf2 Xf3 Xf4 Xf5 Xf6 Xlt;obtain ⟨rfl, h, X, i, EA⟩ := hcut;generalize wc = w2 at h X i EA ⊢;obtain ⟨wa, wc, da, dc, ⟨O, G1⟩, y, ⟨p, m, J, I, E, G, H, F⟩, ⟨D, -⟩, ⟨z, C⟩, A, a, V, T⟩ := zAr h;have L := a (k * 8);have M := a (k * 8 + 1);have F2 := a (k * 8 + 2);have F3 := a (k * 8 + 3);have U := a (k * 8 + 4);have R := a (k * 8 + 5);have Y := a (k * 8 + 6);have Z := a (k * 8 + 7);have S := A k;simp only at y p m J I E G H F D z C
  obtain ⟨Xc0, Xc1, Xc2, Xc3, Xc4, Xc5, Xc6⟩ := zAe X;obtain ⟨Xf0, Xf1, Xf2, Xf3, Xf4, Xf5, Xf6⟩ := zAo X;have Xlt := (ltH X);go_upto_if 40 with fail
  go_cut [6] (fun q wx => q = .pointer (some ⟨bb, k * 8, none⟩) ∧ ∃ B9, B ≤ B9 ∧ HK t g mb mc bb bc k x B9 wx (zBA ws dt, (o, s, true, kd, f, l, mk, d)) ∧ wx.heap[w.heap.size]? = some (.cells #[nI r, nI c, nI tq, nI n, nI k, sL ma dt.length mc2, nI gg] 30 (0, 0)) ∧ Below t w wx)
  case first =>
   by_cases qd : dt.length = 0
   ·have zq : ¬ ((0 : Int) < (dt.length : Int)) := by omega
    have b : Hid _ := aI h (aI X i);have HT : Hid (zBA ws dt = ws) := by unfold Hid zBA; rw [if_pos qd]
    clear h X i qd;go_wp2_with fail
    go_meet
    exact ⟨rfl, B, Nat.le_refl _, by rw [HT.out]; exact b.out.1, b.out.2⟩
   ·have zq : (0 : Int) < (dt.length : Int) := by omega
    have HT : Hid (zBA ws dt = dt) := by unfold Hid zBA; rw [if_neg qd]
    clear qd;go_upto_region 5 with fail
    obtain ⟨aB, NB⟩ := hk_ne h;have NA : ¬ w.heap.size = mb := by omega
    have b : Hid _ := aI h (aI X i);have K : Hid (∀ wx, Bl w2 wx → wx.cell? ⟨g, 0, none⟩ = some (sL (some ⟨mb, 0, none⟩) x.1.length mc) ∧ wx.cell? ⟨w.heap.size, 4, none⟩ = some (nI k) ∧ wx.cell? ⟨w.heap.size, 5, none⟩ = some (sL ma dt.length mc2)) := fun wx hh => ⟨zAf hh O (zAi O), zAf hh Xc4 (zAi Xc4), zAf hh Xc5 (zAi Xc5)⟩;have Q0 : Hid (Bl w2 w2.drew) := (Below.refl w2.heap.size w2).drew;have jB : Hid _ := K.out _ Q0.out;have KM : Hid (∀ wx, Bl w2 wx → wx.cell? ⟨mb, k, none⟩ = some (sL wa ws.length wc)) := fun wx hh => zAf hh y (zAi y);clear h X i O G1 y p m J I E G H F D z C A a L M F2 F3 U R Y Z S V T Xc0 Xc1 Xc2 Xc3 Xc4 Xc5 Xc6 Xf0 Xf1 Xf2 Xf3 Xf4 Xf5 Xf6 Xlt;first | (go_region_held3 (fun wx => wx.cell? ⟨g, 0, none⟩ = some (sL (some ⟨mb, 0, none⟩) x.1.length mc) ∧ wx.cell? ⟨w.heap.size, 4, none⟩ = some (nI k) ∧ wx.cell? ⟨w.heap.size, 5, none⟩ = some (sL ma dt.length mc2)) (first | (with_reducible exact jB.out) | (with_reducible exact jA.out) | (with_reducible exact ZA.out) | fail) (first | (go_at_call 95; refine (zCB ma dt mc2 _ (hd.out _ (b.out.2.2.drew)) hm).mono ?_; rintro e w9 ⟨v, rfl, mr⟩; obtain ⟨ra, rc, rfl⟩ := zAB mr.1; have Q1 : Hid (Bl w2 w9) := zAa Q0.out mr.2; have jA : Hid _ := K.out _ Q1.out; have iB : Hid _ := mr.1; have gC : w9.frozen? ⟨mb, k, none⟩ = false := hk_fm (zAH b.out.1 Q1.out); have M9 := KM.out _ Q1.out; have ZA : Hid ((w9.setCell ⟨mb, k, none⟩ (sL ra dt.length rc)).cell? ⟨g, 0, none⟩ = some (sL (some ⟨mb, 0, none⟩) x.1.length mc) ∧ (w9.setCell ⟨mb, k, none⟩ (sL ra dt.length rc)).cell? ⟨w.heap.size, 4, none⟩ = some (nI k) ∧ (w9.setCell ⟨mb, k, none⟩ (sL ra dt.length rc)).cell? ⟨w.heap.size, 5, none⟩ = some (sL ma dt.length mc2)) := ⟨zGU aB jA.out.1, zGU NA jA.out.2.1, zGU NA jA.out.2.2⟩; clear mr) | fail)) | fail
    go_wp2_with fail
    go_meet
    exact ⟨rfl, w9.heap.size, Nat.le_trans b.out.1.2.2.2.1 Q1.out.size, by rw [HT.out]; exact hk_w (zAH b.out.1 Q1.out) (Nat.le_trans b.out.1.2.2.2.1 Q1.out.size) (Nat.le_refl _) iB.out (fun j (q : rng w2.drew.heap.size w9.heap.size j) => ⟨Nat.le_trans b.out.1.2.2.2.1 q.1, q.2⟩), zAl (g := mb) (o := k) (v := (sL ra dt.length rc)) (zAb Q1.out b.out.2.1) (by omega), zAh (g := mb) (o := k) (v := (sL ra dt.length rc)) (zBj b.out.2.2 Q1.out (zBT b.out.1)) (zDS b.out.1).1⟩
  case rest =>
   clear h X i O G1 y p m J I E G H F D z C A a L M F2 F3 U R Y Z S V T Xc0 Xc1 Xc2 Xc3 Xc4 Xc5 Xc6 Xf0 Xf1 Xf2 Xf3 Xf4 Xf5 Xf6 Xlt;obtain ⟨rfl, B3, eB, h, X, i⟩ := hcut;generalize wc = w3 at h X i ⊢;obtain ⟨e1, e2⟩ := fg_in hw (show zA6 c 0 3 = true from by unfold zA6; simp; omega);have eh := ans_held hw c0 c3 hho;obtain ⟨s3, iA⟩ : ∃ s3 : Int, s3 = if zJE (o, s, true, kd, f, l, mk, d) gg then fgS s c else orI (fgS s c) c := ⟨_, rfl⟩
   have bB : Hid _ := iA;have KB : bb < w.heap.size := kB;have eB := zBa h;obtain ⟨wa, wc, da, dc, ⟨O, G1⟩, y, ⟨p, m, J, I, E, G, H, F⟩, ⟨D, -⟩, ⟨z, C⟩, A, a, V, T⟩ := zAr h;have L := a (k * 8);have M := a (k * 8 + 1);have F2 := a (k * 8 + 2);have F3 := a (k * 8 + 3);have U := a (k * 8 + 4);have R := a (k * 8 + 5);have Y := a (k * 8 + 6);have Z := a (k * 8 + 7);have S := A k;simp only at y p m J I E G H F D z C
   obtain ⟨Xc0, Xc1, Xc2, Xc3, Xc4, Xc5, Xc6⟩ := zAe X;obtain ⟨Xf0, Xf1, Xf2, Xf3, Xf4, Xf5, Xf6⟩ := zAo X;have Xlt := (ltH X);go_upto_block 0 with fail
   go_cut [6] (fun q wx => q = .pointer (some ⟨bb, k * 8, none⟩) ∧ HK t g mb mc bb bc k x B3 wx (zBA ws dt, (fgO o c, s3, true, kd, f, l, mk, d)) ∧ wx.heap[w.heap.size]? = some (.cells #[nI r, nI c, nI tq, nI n, nI k, sL ma dt.length mc2, nI gg] 30 (0, 0)) ∧ Below t w wx)
   case first =>
    clear hec HE;by_cases ql : zJE (o, s, true, kd, f, l, mk, d) gg = true
    ·have HS : Hid (s3 = fgS s c) := by unfold Hid; rw [iA, if_pos ql]
     clear iA;have HW : Hid ((gg == 1) = true ∨ ((gg == 1) = false ∧ (kd == 2) = true) ∨ ((gg == 1) = false ∧ (kd == 2) = false ∧ (kd == 4) = true)) := by
      unfold Hid;have q : (decide (gg = 1) || (decide (kd = 2) || decide (kd = 4))) = true := ql;simp only [Bool.or_eq_true, decide_eq_true_eq] at q;by_cases g1 : gg = 1
      ·exact .inl (by simp [g1])
      ·by_cases k2 : kd = 2
       ·exact .inr (.inl ⟨by simp [g1], by simp [k2]⟩)
       ·exact .inr (.inr ⟨by simp [g1], by simp [k2], by simp; omega⟩)
     clear ql;obtain ⟨h2, b2, r2⟩ := zLr h hw (show zA6 c 0 3 = true from by unfold zA6; simp; omega);simp only at h2 b2 r2
     have X2 : (fgW w3 bb (k * 8) o s c).heap[w.heap.size]? = _ := zJI X (by omega);have b : Hid _ := aI h2 (aI X2 (i.trans b2));clear h2 b2 r2 X2 h X i;rcases HW.out with z1 | ⟨z1, z2⟩ | ⟨z1, z2, z3⟩
     ·skip
      go_wp2_with fail
      refine (zBO bb (k * 8) o s c _ p m L M).mono ?_;clear O G1 y p m J I E G H F D z C A a L M F2 F3 U R Y Z S V T Xc0 Xc1 Xc2 Xc3 Xc4 Xc5 Xc6 Xf0 Xf1 Xf2 Xf3 Xf4 Xf5 Xf6 Xlt;rintro e w9 ⟨rfl, N⟩;rw [N];clear N w9;go_wp2_with fail
      go_meet
      exact ⟨rfl, by rw [HS.out]; exact b.out.1, b.out.2⟩
     ·skip
      go_wp2_with fail
      refine (zBO bb (k * 8) o s c _ p m L M).mono ?_;clear O G1 y p m J I E G H F D z C A a L M F2 F3 U R Y Z S V T Xc0 Xc1 Xc2 Xc3 Xc4 Xc5 Xc6 Xf0 Xf1 Xf2 Xf3 Xf4 Xf5 Xf6 Xlt;rintro e w9 ⟨rfl, N⟩;rw [N];clear N w9;go_wp2_with fail
      go_meet
      exact ⟨rfl, by rw [HS.out]; exact b.out.1, b.out.2⟩
     ·skip
      go_wp2_with fail
      refine (zBO bb (k * 8) o s c _ p m L M).mono ?_;clear O G1 y p m J I E G H F D z C A a L M F2 F3 U R Y Z S V T Xc0 Xc1 Xc2 Xc3 Xc4 Xc5 Xc6 Xf0 Xf1 Xf2 Xf3 Xf4 Xf5 Xf6 Xlt;rintro e w9 ⟨rfl, N⟩;rw [N];clear N w9;go_wp2_with fail
      go_meet
      exact ⟨rfl, by rw [HS.out]; exact b.out.1, b.out.2⟩
    ·have HS : Hid (s3 = orI (fgS s c) c) := by unfold Hid; rw [iA, if_neg ql]
     clear iA;have HW : (gg == 1) = false ∧ (kd == 2) = false ∧ (kd == 4) = false := by
      have q : ¬ (decide (gg = 1) || (decide (kd = 2) || decide (kd = 4))) = true := ql;simp only [Bool.or_eq_true, decide_eq_true_eq, not_or] at q;exact ⟨by simp [q.1], by simp [q.2.1], by simp [q.2.2]⟩
     clear ql;obtain ⟨z1, z2, z3⟩ := HW;by_cases qo : o = c
     ·rw [if_pos qo, Prod.mk.injEq] at eh;have fA : Hid _ := eh;clear eh e1 e2;have zo : (o == c) = true := by simp [qo]
      go_upto_region 8 with fail
      go_region
      go_upto_region 10 with fail
      clear O G1 y p m J I E G H F D z C A a L M F2 F3 U R Y Z S V T Xc0 Xc1 Xc2 Xc3 Xc4 Xc5 Xc6 Xf0 Xf1 Xf2 Xf3 Xf4 Xf5 Xf6 Xlt;have gA := zBa h;replace X := zAl (g := bb) (o := k * 8) (v := (nI (-1))) X (by omega);replace i := zAh (g := bb) (o := k * 8) (v := (nI (-1))) i gA.1;replace h := hk_o (n := -1) h (by constructor <;> decide);clear gA;have LA : w3.heap.size ≤ (w3.setCell ⟨bb, k * 8, none⟩ (nI (-1))).heap.size := by simp
      generalize w3.setCell ⟨bb, k * 8, none⟩ (nI (-1)) = w4 at LA h i X ⊢;replace h := zBD h;replace i := i.drew;replace X := zAV X;have JA : w4.heap.size ≤ w4.drew.heap.size := Nat.le_refl _;generalize w4.drew = w5 at JA h i X ⊢;simp only at h
      obtain ⟨wa, wc, da, dc, ⟨O, G1⟩, y, ⟨p, m, J, I, E, G, H, F⟩, ⟨D, -⟩, ⟨z, C⟩, A, a, V, T⟩ := zAr h;have L := a (k * 8);have M := a (k * 8 + 1);have F2 := a (k * 8 + 2);have F3 := a (k * 8 + 3);have U := a (k * 8 + 4);have R := a (k * 8 + 5);have Y := a (k * 8 + 6);have Z := a (k * 8 + 7);have S := A k;simp only at y p m J I E G H F D z C
      obtain ⟨Xc0, Xc1, Xc2, Xc3, Xc4, Xc5, Xc6⟩ := zAe X;obtain ⟨Xf0, Xf1, Xf2, Xf3, Xf4, Xf5, Xf6⟩ := zAo X;have Xlt := (ltH X);have zA : Hid (zA4 (zDX s c)) := by unfold Hid; rw [fA.out.2]; exact zIo hw (show zA6 c 0 3 = true from by unfold zA6; simp; omega)
      first | (go_region_with (first | (go_at_call 127; refine (zFz _ _ _).mono ?_; rintro e w9 ⟨rfl, N⟩; rw [N]; clear N w9) | fail)) | fail
      all_goals
       clear O G1 y p m J I E G H F D z C A a L M F2 F3 U R Y Z S V T Xc0 Xc1 Xc2 Xc3 Xc4 Xc5 Xc6 Xf0 Xf1 Xf2 Xf3 Xf4 Xf5 Xf6 Xlt;have b : Hid _ := aI (zBD (hk_s h zA.out)) (aI (zAV (zAl (g := bb) (o := k * 8 + 1) (v := nI (zDX s c)) X (by omega))) (zAh (g := bb) (o := k * 8 + 1) (v := nI (zDX s c)) i (zBa h).1).drew);clear h X i;go_wp2_with fail
       go_meet
       exact ⟨rfl, by rw [HS.out, ← fA.out.1, ← fA.out.2]; exact b.out.1, b.out.2⟩
     ·rw [if_neg qo, Prod.mk.injEq] at eh;have fA : Hid _ := eh;clear eh e1 e2;have zo : (o == c) = false := by simp [qo]
      have b : Hid _ := aI (zBD h) (aI (zAV X) i.drew);clear h X i qo;go_upto_region 8 with fail
      go_region
      go_wp2_with fail
      go_meet
      exact ⟨rfl, by rw [HS.out, ← fA.out.1, ← fA.out.2]; exact b.out.1, b.out.2⟩
   case rest =>
    clear h X i O G1 y p m J I E G H F D z C A a L M F2 F3 U R Y Z S V T Xc0 Xc1 Xc2 Xc3 Xc4 Xc5 Xc6 Xf0 Xf1 Xf2 Xf3 Xf4 Xf5 Xf6 Xlt;obtain ⟨rfl, h, X, i⟩ := hcut;generalize wc = w6 at h X i ⊢;obtain ⟨wa, wc, da, dc, ⟨O, G1⟩, y, ⟨p, m, J, I, E, G, H, F⟩, ⟨D, -⟩, ⟨z, C⟩, A, a, V, T⟩ := zAr h;have L := a (k * 8);have M := a (k * 8 + 1);have F2 := a (k * 8 + 2);have F3 := a (k * 8 + 3);have U := a (k * 8 + 4);have R := a (k * 8 + 5);have Y := a (k * 8 + 6);have Z := a (k * 8 + 7);have S := A k;simp only at y p m J I E G H F D z C
    obtain ⟨Xc0, Xc1, Xc2, Xc3, Xc4, Xc5, Xc6⟩ := zAe X;obtain ⟨Xf0, Xf1, Xf2, Xf3, Xf4, Xf5, Xf6⟩ := zAo X;have Xlt := (ltH X);go_upto_region 12 with fail
    clear O G1 y p m J I E G H F D z C A a L M F2 F3 U R Y Z S V T Xc0 Xc1 Xc2 Xc3 Xc4 Xc5 Xc6 Xf0 Xf1 Xf2 Xf3 Xf4 Xf5 Xf6 Xlt;have LB := zBa h;have gA := zBa h;replace X := zAl (g := bb) (o := k * 8 + 5) (v := (nI (l - 1))) X (by omega);replace i := zAh (g := bb) (o := k * 8 + 5) (v := (nI (l - 1))) i gA.1;replace h := hk_l (n := l - 1) h ⟨by omega, by omega⟩;clear gA;have FA : w6.heap.size ≤ (w6.setCell ⟨bb, k * 8 + 5, none⟩ (nI (l - 1))).heap.size := by simp
    generalize w6.setCell ⟨bb, k * 8 + 5, none⟩ (nI (l - 1)) = w7 at FA h i X ⊢;simp only at h
    have CA : Hid ((zBA ws dt, (fgO o c, s3, true, kd, f, l - 1, mk, d)) = (zBA ws dt, zDb (o, s, true, kd, f, l, mk, d) c gg)) := by
     unfold Hid zDb;rw [bB.out];split <;> rfl
    by_cases q9 : 0 < l - 1
    ·have pA : Hid (zIn k (ws, (o, s, true, kd, f, l, mk, d)) (r, c, tq, n, (k : Int), dt, gg) = ((zBA ws dt, zDb (o, s, true, kd, f, l, mk, d) c gg), [])) := if_pos q9;obtain ⟨wa, wc, da, dc, ⟨O, G1⟩, y, ⟨p, m, J, I, E, G, H, F⟩, ⟨D, -⟩, ⟨z, C⟩, A, a, V, T⟩ := zAr h;have L := a (k * 8);have M := a (k * 8 + 1);have F2 := a (k * 8 + 2);have F3 := a (k * 8 + 3);have U := a (k * 8 + 4);have R := a (k * 8 + 5);have Y := a (k * 8 + 6);have Z := a (k * 8 + 7);have S := A k;simp only at y p m J I E G H F D z C
     obtain ⟨Xc0, Xc1, Xc2, Xc3, Xc4, Xc5, Xc6⟩ := zAe X;obtain ⟨Xf0, Xf1, Xf2, Xf3, Xf4, Xf5, Xf6⟩ := zAo X;have Xlt := (ltH X);go_wp2;go_ret2
     clear O G1 y p m J I E G H F D z C A a L M F2 F3 U R Y Z S V T Xc0 Xc1 Xc2 Xc3 Xc4 Xc5 Xc6 Xf0 Xf1 Xf2 Xf3 Xf4 Xf5 Xf6 Xlt;rw [pA.out];have KA := zAg w7 (.cells #[] 30);rw [CA.out] at h;exact ⟨_, rfl, B3, zAH h KA, zEx h.2.2.2.1, zBj i KA (zBT h)⟩
    ·have pA : Hid (zIn k (ws, (o, s, true, kd, f, l, mk, d)) (r, c, tq, n, (k : Int), dt, gg) = zDK k (zBA ws dt, zDb (o, s, true, kd, f, l, mk, d) c gg)) := if_neg q9;have hr := h;rw [CA.out] at hr;have AA : Hid _ := aI hr i;clear hr;obtain ⟨wa, wc, da, dc, ⟨O, G1⟩, y, ⟨p, m, J, I, E, G, H, F⟩, ⟨D, -⟩, ⟨z, C⟩, A, a, V, T⟩ := zAr h;have L := a (k * 8);have M := a (k * 8 + 1);have F2 := a (k * 8 + 2);have F3 := a (k * 8 + 3);have U := a (k * 8 + 4);have R := a (k * 8 + 5);have Y := a (k * 8 + 6);have Z := a (k * 8 + 7);have S := A k;simp only at y p m J I E G H F D z C
     obtain ⟨Xc0, Xc1, Xc2, Xc3, Xc4, Xc5, Xc6⟩ := zAe X;obtain ⟨Xf0, Xf1, Xf2, Xf3, Xf4, Xf5, Xf6⟩ := zAo X;have Xlt := (ltH X);go_wp2_with fail
     refine (HE.out _ _ _ AA.out.1 hec).mono ?_;clear O G1 y p m J I E G H F D z C A a L M F2 F3 U R Y Z S V T Xc0 Xc1 Xc2 Xc3 Xc4 Xc5 Xc6 Xf0 Xf1 Xf2 Xf3 Xf4 Xf5 Xf6 Xlt;rintro e w9 ⟨ms, rfl, B9, k9, m9, b9⟩;have HF : Hid _ := aI k9 (aI m9 (AA.out.2.trans b9));clear k9 m9 b9 h X i;go_wp2;go_ret2
     rw [pA.out];exact ⟨ms, rfl, B9, HF.out⟩
end Go.Proofs.YtmaopldahnejdaaGreatDoor
