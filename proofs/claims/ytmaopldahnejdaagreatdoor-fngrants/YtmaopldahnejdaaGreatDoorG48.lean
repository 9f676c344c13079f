import Derived.Test.YtmaopldahnejdaaGreatDoorG00Box
import Derived.Test.YtmaopldahnejdaaGreatDoorG47
namespace Go.Proofs.YtmaopldahnejdaaGreatDoor
open Go.ChangeShapes Go.WideShapes Go.ChangeAt Go.RowKit
set_option linter.unusedVariables false
set_option linter.unusedSimpArgs false
theorem zK4 (x : zA2) (v0 v1 : Value) (c : Int) (w vw : World) (tm : Array Value) (le : w.heap.size + 5 ≤ vw.heap.size) (B : Bl w vw) (X : vw.heap[w.heap.size]? = some (.cells #[v0, v1] 27 (0, 0)))
    (Z2 : vw.heap[w.heap.size + 1 + 1]? = some (.cells #[sL none 0 0, sL none 0 0] 27 (0, 0))) (Z3 : vw.heap[w.heap.size + 1 + 1 + 1]? = some (.cells #[sL none 0 0] 33 (0, 0))) (Z4 : vw.heap[w.heap.size + 1 + 1 + 1 + 1]? = some (.cells #[nI 0] 2 (0, 0)))
    (HC : Hid (∀ W, Bl w W → Calls Tryz.prog 85 #[.agg #[v0, v1]] W fun e w' => ∃ a l c b m d, e = .returned (.agg #[sL a l c, sL b m d]) ∧ zAD zAz W w' [sL a l c, sL b m d] x))
    (r2' : tm[2]? = some (.pointer (some ⟨w.heap.size, 0, none⟩)) ∧ tm[4]? = some (.pointer (some ⟨w.heap.size + 1 + 1, 0, none⟩)) ∧ tm[5]? = some (.pointer (some ⟨w.heap.size + 1 + 1 + 1, 0, none⟩)) ∧ tm[6]? = some (.pointer (some ⟨w.heap.size + 1 + 1 + 1 + 1, 0, none⟩))) :
    bodyPostD Tryz.prog Tryz.f42 (fun e w' => ∃ a l i b m d g, e = .returned (.tuple #[.agg #[sL a l i, sL b m d], sL (some ⟨g, 0, none⟩) 0 0, nI c]) ∧ zAz.own w' (rng (w.heap.size + 5) g) [sL a l i, sL b m d] x ∧ w'.heap[g]? = some (.cells #[] 30 (0, 0)) ∧ Bl w w') (Exit.panic [{ v := .iface 101 (nI c), recovered := false }]) { tmps := tm, defers := [{ target := Target.fn (Fn.func 84) #[.pointer (some ⟨w.heap.size, 0, none⟩), .pointer (some ⟨w.heap.size + 1 + 1, 0, none⟩), .pointer (some ⟨w.heap.size + 1 + 1 + 1, 0, none⟩), .pointer (some ⟨w.heap.size + 1 + 1 + 1 + 1, 0, none⟩)], args := #[] }] } vw := by
 refine leaves_cons (f := 84) (args := #[.pointer (some ⟨w.heap.size, 0, none⟩), .pointer (some ⟨w.heap.size + 1 + 1, 0, none⟩), .pointer (some ⟨w.heap.size + 1 + 1 + 1, 0, none⟩), .pointer (some ⟨w.heap.size + 1 + 1 + 1 + 1, 0, none⟩)]) (by simp) (by simp [go_sem]) ?_;refine (zEo w.heap.size (w.heap.size + 1 + 1) (w.heap.size + 1 + 1 + 1) (w.heap.size + 1 + 1 + 1 + 1) c [] _ _ _ _ _ _ x vw X Z2 Z3 Z4 (by omega) (by omega) (by omega) (fun W hb => HC.out W (zAa B hb))).mono ?_;rintro e u' D ⟨rfl, rfl, j, a, l, i, b, n, d, M, rfl⟩;have F := zAb M.2 Z2;have C := zAb M.2 Z3;have E := zAb M.2 Z4;have e9 : w.heap.size + 5 ≤ j.heap.size := by have := M.2.size; omega
 have q := zKm (a := sL a l i) (b := sL b n d) F;have r := heap_setCell_same _ (w.heap.size + 1 + 1 + 1) 0 _ _ (sL (some ⟨j.heap.size, 0, none⟩) 0 0) (zAl (g := w.heap.size + 1 + 1) (o := 1) (v := sL b n d) (zAl (g := w.heap.size + 1 + 1) (o := 0) (v := sL a l i) C (by omega)) (by omega));have y := heap_setCell_same _ (w.heap.size + 1 + 1 + 1 + 1) 0 _ _ (nI c) (zAl (g := w.heap.size + 1 + 1 + 1) (o := 0) (v := sL (some ⟨j.heap.size, 0, none⟩) 0 0) (zAl (g := w.heap.size + 1 + 1) (o := 1) (v := sL b n d) (zAl (g := w.heap.size + 1 + 1) (o := 0) (v := sL a l i) E (by omega)) (by omega)) (by omega));obtain ⟨G, A⟩ := zAd (zAW (.cells #[] 30) (zAl (g := w.heap.size + 1 + 1 + 1 + 1) (o := 0) (v := nI c) (zAl (g := w.heap.size + 1 + 1 + 1) (o := 0) (v := sL (some ⟨j.heap.size, 0, none⟩) 0 0) q (by omega)) (by omega)));have z := zAW (.cells #[] 30) (zAl (g := w.heap.size + 1 + 1 + 1 + 1) (o := 0) (v := nI c) r (by omega));have s := zAW (.cells #[] 30) y;have H := (cell_of_row _ (w.heap.size + 1 + 1 + 1) 0 _ _ (0, 0) z).trans (show _ = some (sL (some ⟨j.heap.size, 0, none⟩) 0 0) from rfl);have I := (cell_of_row _ (w.heap.size + 1 + 1 + 1 + 1) 0 _ _ (0, 0) s).trans (show _ = some (nI c) from rfl);clear q r y z s;have p : ∀ k, k < w.heap.size + 5 → ¬ rng (w.heap.size + 5) j.heap.size k := fun k hk h => by have := h.1; omega
 refine ⟨.tuple #[.agg #[sL a l i, sL b n d], sL (some ⟨j.heap.size, 0, none⟩) 0 0, nI c], ?_, a, l, i, b, n, d, j.heap.size, rfl, zCY _ (zAn (zAn (zAn (zAn (zAz.own_mono M.1 (zAL (by omega) (Nat.le_refl _))) (p _ (by omega))) (p _ (by omega))) (p _ (by omega))) (p _ (by omega))), zI7 (by simp), zAa (zAh (zAh (zAh (zAh (zAa B M.2) (by omega)) (by omega)) (by omega)) (by omega)) (zAg _ _)⟩;simp [results, Tryz.results42, go_sem, G, A, H, I, r2'.1, r2'.2.1, r2'.2.2.1, r2'.2.2.2]
theorem zDC (x : zA2) (v0 v1 : Value) (c : Int) (w vw : World) (a0 : Act) (le : w.heap.size + 5 ≤ vw.heap.size) (B : Bl w vw) (X : vw.heap[w.heap.size]? = some (.cells #[v0, v1] 27 (0, 0)))
    (Z2 : vw.heap[w.heap.size + 1 + 1]? = some (.cells #[sL none 0 0, sL none 0 0] 27 (0, 0))) (Z3 : vw.heap[w.heap.size + 1 + 1 + 1]? = some (.cells #[sL none 0 0] 33 (0, 0))) (Z4 : vw.heap[w.heap.size + 1 + 1 + 1 + 1]? = some (.cells #[nI 0] 2 (0, 0)))
    (HC : Hid (∀ W, Bl w W → Calls Tryz.prog 85 #[.agg #[v0, v1]] W fun e w' => ∃ a l c b m d, e = .returned (.agg #[sL a l c, sL b m d]) ∧ zAD zAz W w' [sL a l c, sL b m d] x))
    (hd : a0.defers = [{ target := Target.fn (Fn.func 84) #[.pointer (some ⟨w.heap.size, 0, none⟩), .pointer (some ⟨w.heap.size + 1 + 1, 0, none⟩), .pointer (some ⟨w.heap.size + 1 + 1 + 1, 0, none⟩), .pointer (some ⟨w.heap.size + 1 + 1 + 1 + 1, 0, none⟩)], args := #[] }])
    (r2' : a0.tmps[2]? = some (.pointer (some ⟨w.heap.size, 0, none⟩)) ∧ a0.tmps[4]? = some (.pointer (some ⟨w.heap.size + 1 + 1, 0, none⟩)) ∧ a0.tmps[5]? = some (.pointer (some ⟨w.heap.size + 1 + 1 + 1, 0, none⟩)) ∧ a0.tmps[6]? = some (.pointer (some ⟨w.heap.size + 1 + 1 + 1 + 1, 0, none⟩))) :
    bodyPostD Tryz.prog Tryz.f42 (fun e w' => ∃ a l c' b m d g, e = .returned (.tuple #[.agg #[sL a l c', sL b m d], sL (some ⟨g, 0, none⟩) 0 0, nI c]) ∧ zAz.own w' (rng (w.heap.size + 5) g) [sL a l c', sL b m d] x ∧ w'.heap[g]? = some (.cells #[] 30 (0, 0)) ∧ Bl w w') (Exit.panic [{ v := .iface 101 (nI c), recovered := false }]) a0 vw := by
 obtain ⟨f, df⟩ := a0;simp only at hd r2'
 subst hd;exact zK4 x v0 v1 c w vw f le B X Z2 Z3 Z4 HC r2'
set_option maxHeartbeats 8000000 in
set_option maxRecDepth 20000 in
theorem zK5 (x : zA2) (a0 : Option Addr) (c0 : Nat) (a1 : Option Addr) (c1 : Nat) (m : zAS) (ma : Option Addr) (mc : Nat) (w : World) (c : Int)
    (HM : Hid (∀ W, Bl w W → Calls Tryz.prog 87 #[.agg #[nI m.1, nI m.2.1, nI m.2.2.1, nI m.2.2.2.1, nI m.2.2.2.2.1, sL ma m.2.2.2.2.2.1.length mc, nI m.2.2.2.2.2.2]] W fun e w' => e = .returned (.bool true) ∧ Bl W w'))
    (HL : Hid (∀ W, Bl w W → Calls Tryz.prog 56 #[.agg #[sL a0 x.1.length c0, sL a1 x.2.length c1], nI m.2.2.2.2.1] W fun e w' => e = .returned (.bool true) ∧ Bl W w'))
    (HA : Hid (∀ W, Bl w W → Calls Tryz.prog 88 #[.agg #[sL a0 x.1.length c0, sL a1 x.2.length c1], nI m.2.2.2.2.1] W fun e w' => ∃ va, e = .returned va ∧ Bl W w' ∧ ∀ V, Bl w' V → Calls Tryz.prog 89 #[va, .agg #[nI m.1, nI m.2.1, nI m.2.2.1, nI m.2.2.2.1, nI m.2.2.2.2.1, sL ma m.2.2.2.2.2.1.length mc, nI m.2.2.2.2.2.2]] V fun e w'' => e = .panicked [{ v := .iface 101 (nI c), recovered := false }] ∧ Bl V w''))
    (HC : Hid (∀ W, Bl w W → Calls Tryz.prog 85 #[.agg #[sL a0 x.1.length c0, sL a1 x.2.length c1]] W fun e w' => ∃ a l c b m d, e = .returned (.agg #[sL a l c, sL b m d]) ∧ zAD zAz W w' [sL a l c, sL b m d] x)) :
    Calls Tryz.prog 42 #[.agg #[sL a0 x.1.length c0, sL a1 x.2.length c1], .agg #[nI m.1, nI m.2.1, nI m.2.2.1, nI m.2.2.2.1, nI m.2.2.2.2.1, sL ma m.2.2.2.2.2.1.length mc, nI m.2.2.2.2.2.2]] w fun e w' => ∃ a l c' b m d g, e = .returned (.tuple #[.agg #[sL a l c', sL b m d], sL (some ⟨g, 0, none⟩) 0 0, nI c]) ∧ zAz.own w' (rng (w.heap.size + 5) g) [sL a l c', sL b m d] x ∧ w'.heap[g]? = some (.cells #[] 30 (0, 0)) ∧ Bl w w' := by
 have BA : ∀ (fn : Fn) (first cap : Array Value) (w : World), (Instr.makeFunc fn first cap).run Tryz.prog w = .ok (.func fn first cap) w := fun _ _ _ _ => rfl;have B := Below.refl w.heap.size w;go_enter_defers Tryz.func42, Tryz.ntmps42
 go_upto_region 2 with fail
 generalize s : w.alloc _ = u0w;have X := boxH s;have k := boxB s;have nA := boxL s;clear s;replace B := zAa B k;clear k;generalize z : u0w.alloc _ = u1w;have Y := boxH z;have k := boxB z;have pA := boxL z;clear z;rw [show u0w.heap.size = w.heap.size + 1 from by omega] at Y;replace X := zAb k X;replace B := zAa B k;clear k;generalize A : u1w.alloc _ = u2w;have F := boxH A;have k := boxB A;have oA := boxL A;clear A;rw [show u1w.heap.size = w.heap.size + 1 + 1 from by omega] at F;replace X := zAb k X;replace Y := zAb k Y;replace B := zAa B k;clear k;generalize y : u2w.alloc _ = u3w;have G := boxH y;have k := boxB y;have kA := boxL y;clear y;rw [show u2w.heap.size = w.heap.size + 1 + 1 + 1 from by omega] at G;replace X := zAb k X;replace Y := zAb k Y;replace F := zAb k F;replace B := zAa B k;clear k;generalize C : u3w.alloc _ = u4w;have R := boxH C;have k := boxB C;have lA := boxL C;clear C;rw [show u3w.heap.size = w.heap.size + 1 + 1 + 1 + 1 from by omega] at R;replace X := zAb k X;replace Y := zAb k Y;replace F := zAb k F;replace G := zAb k G;replace B := zAa B k;clear k;have e5 : u4w.heap.size = w.heap.size + 5 := by omega
 clear nA pA oA kA lA;obtain ⟨U, M⟩ := zAd X;obtain ⟨I, N, T, H, L, J, O⟩ := zAe Y;go_wp2_with fail
 clear U M I N T H L J O;refine (HM.out _ B).mono ?_;rintro e AA ⟨rfl, p⟩;have qA := p.size;replace X := zAb p X;replace Y := zAb p Y;replace F := zAb p F;replace G := zAb p G;replace R := zAb p R;replace B := zAa B p;clear p;obtain ⟨U, M⟩ := zAd X;obtain ⟨I, N, T, H, L, J, O⟩ := zAe Y;go_wp2_with fail
 clear U M I N T H L J O;refine (HL.out _ B).mono ?_;rintro e j ⟨rfl, p⟩;have sA := p.size;replace X := zAb p X;replace Y := zAb p Y;replace F := zAb p F;replace G := zAb p G;replace R := zAb p R;replace B := zAa B p;clear p;obtain ⟨U, M⟩ := zAd X;obtain ⟨I, N, T, H, L, J, O⟩ := zAe Y;go_wp2_with fail
 refine (zBt 0 _).mono ?_;rintro e jA ⟨rfl, dA⟩;rw [dA];clear dA jA;have t0 : w.heap.size + 5 ≤ j.heap.size := by omega
 go_upto_region 3 with fail
 have K0 : Hid (∀ wx, Bl j wx → Bl j wx ∧ wx.cell? ⟨w.heap.size, 0, none⟩ = some (sL a0 x.1.length c0) ∧ wx.cell? ⟨w.heap.size, 1, none⟩ = some (sL a1 x.2.length c1) ∧ wx.cell? ⟨w.heap.size + 1, 0, none⟩ = some (nI m.1) ∧ wx.cell? ⟨w.heap.size + 1, 1, none⟩ = some (nI m.2.1) ∧ wx.cell? ⟨w.heap.size + 1, 2, none⟩ = some (nI m.2.2.1) ∧ wx.cell? ⟨w.heap.size + 1, 3, none⟩ = some (nI m.2.2.2.1) ∧ wx.cell? ⟨w.heap.size + 1, 4, none⟩ = some (nI m.2.2.2.2.1) ∧ wx.cell? ⟨w.heap.size + 1, 5, none⟩ = some (sL ma m.2.2.2.2.2.1.length mc) ∧ wx.cell? ⟨w.heap.size + 1, 6, none⟩ = some (nI m.2.2.2.2.2.2)) := fun wx h => ⟨h, zAf h U (zAi U), zAf h M (zAi M), zAf h I (zAi I), zAf h N (zAi N), zAf h T (zAi T), zAf h H (zAi H), zAf h L (zAi L), zAf h J (zAi J), zAf h O (zAi O)⟩;have f : Hid _ := aI B (aI X (aI F (aI G (aI R t0))));have Q0 : Hid (Bl j j.drew) := (Below.refl _ _).drew;clear B X Y F G R t0 U M I N T H L J O;have hT : ∀ tm tm' : Array Value, (∀ t ∈ [4, 5, 6], tm[t]? = tm'[t]?) → results Tryz.f42 tm = results Tryz.f42 tm' := fun tm tm' h => by
  have h4 := h 4 (by decide);have h5 := h 5 (by decide);have h6 := h 6 (by decide);simp [results, Tryz.results42, h4, h5, h6]
 refine wp_region_held_drew (S := fun wx => Bl j wx ∧ wx.cell? ⟨w.heap.size, 0, none⟩ = some (sL a0 x.1.length c0) ∧ wx.cell? ⟨w.heap.size, 1, none⟩ = some (sL a1 x.2.length c1) ∧ wx.cell? ⟨w.heap.size + 1, 0, none⟩ = some (nI m.1) ∧ wx.cell? ⟨w.heap.size + 1, 1, none⟩ = some (nI m.2.1) ∧ wx.cell? ⟨w.heap.size + 1, 2, none⟩ = some (nI m.2.2.1) ∧ wx.cell? ⟨w.heap.size + 1, 3, none⟩ = some (nI m.2.2.2.1) ∧ wx.cell? ⟨w.heap.size + 1, 4, none⟩ = some (nI m.2.2.2.2.1) ∧ wx.cell? ⟨w.heap.size + 1, 5, none⟩ = some (sL ma m.2.2.2.2.2.1.length mc) ∧ wx.cell? ⟨w.heap.size + 1, 6, none⟩ = some (nI m.2.2.2.2.2.2)) (by kernel_rfl) (K0.out _ Q0.out) (fun q => ?_);refine wpAnyH_take (i := 0) (oi := _) (v := ?_) rfl (by kernel_rfl) (by kernel_rfl) (by kernel_rfl) (fun c a w h => zFd (d := 20) [4, 5, 6] hT (by decide) _ c a w h) (Or.inl ⟨by rfl, ?_⟩) (by exact q) ?_;rotate_left
 ·intro wS r
  (try dsimp only at r)
  go_simp
  first | done | with_reducible rfl
 (try simp only [Act.put, List.setIfInBounds_toArray, List.set_cons_zero, List.set_cons_succ])
 refine wpAnyH_take (i := 1) (oi := _) (v := ?_) rfl (by kernel_rfl) (by kernel_rfl) (by kernel_rfl) (fun c a w h => zFd (d := 21) [4, 5, 6] hT (by decide) _ c a w h) (Or.inl ⟨by rfl, ?_⟩) (by exact q) ?_;rotate_left
 ·intro wS r
  (try dsimp only at r)
  go_simp
  first | done | with_reducible rfl
 (try simp only [Act.put, List.setIfInBounds_toArray, List.set_cons_zero, List.set_cons_succ])
 refine wpAnyH_take (i := 2) (oi := _) (v := ?_) rfl (by kernel_rfl) (by kernel_rfl) (by kernel_rfl) (fun c a w h => zFd (d := 22) [4, 5, 6] hT (by decide) _ c a w h) (Or.inl ⟨by rfl, ?_⟩) (by exact q) ?_;rotate_left
 ·intro wS r
  (try dsimp only at r)
  go_simp
  first | done | with_reducible rfl
 (try simp only [Act.put, List.setIfInBounds_toArray, List.set_cons_zero, List.set_cons_succ])
 refine wpAnyH_take (i := 4) (oi := _) (v := ?_) rfl (by kernel_rfl) (by kernel_rfl) (by kernel_rfl) (fun c a w h => zFd (d := 24) [4, 5, 6] hT (by decide) _ c a w h) (Or.inl ⟨by rfl, ?_⟩) (by exact q) ?_;rotate_left
 ·intro wS r
  (try dsimp only at r)
  go_simp
  first | done | with_reducible rfl
 (try simp only [Act.put, List.setIfInBounds_toArray, List.set_cons_zero, List.set_cons_succ])
 refine wpAnyH_ready (rs := [3, 9]) (by kernel_rfl) (by simp) ?_;refine AllReadyH.cons (o := _) rfl (fun K hK => ?_) ?_
 ·go_simp
  refine (HA.out _ (zAa f.out.1 Q0.out)).mono ?_;rintro e wq ⟨va, rfl, D, HH⟩;have Q1 : Hid (Bl j wq) := zAa Q0.out D;clear D q;have q := K0.out wq Q1.out;refine hK.out _ _ q (fun _ => ?_);clear hK K
  (try simp only [Act.put, List.setIfInBounds_toArray, List.set_cons_zero, List.set_cons_succ])
  refine wpAnyH_ready (rs := [5, 9]) (by kernel_rfl) (by simp) ?_;refine AllReadyH.cons (o := _) rfl (fun K hK => ?_) ?_
  ·go_simp
   refine (HH _ (Below.refl _ _)).mono ?_;rintro e wr ⟨rfl, D⟩;have n : Bl j wr := zAa Q1.out D;have E : w.heap.size + 5 ≤ wr.heap.size := Nat.le_trans f.out.2.2.2.2.2 n.size;exact zDC x (sL a0 x.1.length c0) (sL a1 x.2.length c1) c w wr _ E (zAa f.out.1 n) (zAb n f.out.2.1) (zAb n f.out.2.2.1) (zAb n f.out.2.2.2.1) (zAb n f.out.2.2.2.2.1) HC rfl ⟨rfl, rfl, rfl, rfl⟩
  refine AllReadyH.cons (o := _) rfl (fun K hK => ?_) AllReadyH.nil;go_simp
  have Z : Hid (Bl j (wq.alloc (.cells #[nI 0, sL none 0 0, nI 0, nI 0, .bool false, nI 0, nI 0, nI 0, nI 0, sL none 0 0] 107))) := zAa Q1.out (zAg _ _);clear q;have q := K0.out _ Z.out;refine hK.out _ _ q (fun _ => ?_);clear hK K
  (try simp only [Act.put, List.setIfInBounds_toArray, List.set_cons_zero, List.set_cons_succ])
  refine wpAnyH_ready (rs := [5]) (by kernel_rfl) (by simp) ?_;refine AllReadyH.cons (o := _) rfl (fun K hK => ?_) AllReadyH.nil;go_simp
  refine (HH _ (zAg _ _)).mono ?_;rintro e wr ⟨rfl, D⟩;have n : Bl j wr := zAa Z.out D;have E : w.heap.size + 5 ≤ wr.heap.size := Nat.le_trans f.out.2.2.2.2.2 n.size;exact zDC x (sL a0 x.1.length c0) (sL a1 x.2.length c1) c w wr _ E (zAa f.out.1 n) (zAb n f.out.2.1) (zAb n f.out.2.2.1) (zAb n f.out.2.2.2.1) (zAb n f.out.2.2.2.2.1) HC rfl ⟨rfl, rfl, rfl, rfl⟩
 refine AllReadyH.cons (o := _) rfl (fun K hK => ?_) AllReadyH.nil;go_simp
 have Z : Hid (Bl j (j.drew.alloc (.cells #[nI 0, sL none 0 0, nI 0, nI 0, .bool false, nI 0, nI 0, nI 0, nI 0, sL none 0 0] 107))) := zAa Q0.out (zAg _ _);clear q;have q := K0.out _ Z.out;refine hK.out _ _ q (fun _ => ?_);clear hK K
 (try simp only [Act.put, List.setIfInBounds_toArray, List.set_cons_zero, List.set_cons_succ])
 refine wpAnyH_ready (rs := [3]) (by kernel_rfl) (by simp) ?_;refine AllReadyH.cons (o := _) rfl (fun K hK => ?_) AllReadyH.nil;go_simp
 refine (HA.out _ (zAa f.out.1 Z.out)).mono ?_;rintro e wq ⟨va, rfl, D, HH⟩;have Q1 : Hid (Bl j wq) := zAa Z.out D;clear D q;have q := K0.out wq Q1.out;refine hK.out _ _ q (fun _ => ?_);clear hK K
 (try simp only [Act.put, List.setIfInBounds_toArray, List.set_cons_zero, List.set_cons_succ])
 refine wpAnyH_ready (rs := [5]) (by kernel_rfl) (by simp) ?_;refine AllReadyH.cons (o := _) rfl (fun K hK => ?_) AllReadyH.nil;go_simp
 refine (HH _ (Below.refl _ _)).mono ?_;rintro e wr ⟨rfl, D⟩;have n : Bl j wr := zAa Q1.out D;have E : w.heap.size + 5 ≤ wr.heap.size := Nat.le_trans f.out.2.2.2.2.2 n.size;exact zDC x (sL a0 x.1.length c0) (sL a1 x.2.length c1) c w wr _ E (zAa f.out.1 n) (zAb n f.out.2.1) (zAb n f.out.2.2.1) (zAb n f.out.2.2.2.1) (zAb n f.out.2.2.2.2.1) HC rfl ⟨rfl, rfl, rfl, rfl⟩
end Go.Proofs.YtmaopldahnejdaaGreatDoor
