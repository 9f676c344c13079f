import Derived.Test.YtmaopldahnejdaaGreatDoorG00Box
import Derived.Defers
import Derived.Test.YtmaopldahnejdaaGreatDoorG27
namespace Go.Proofs.YtmaopldahnejdaaGreatDoor
open Go
section
variable {P : Program} {ops : Array Oper} {Q : Exit → Act → World → Prop} {md : Region.Mode} {S : World → Prop} {s : Nat}
def zE4 (P : Program) (md : Region.Mode) (ops : Array Oper) (Q : Exit → Act → World → Prop) (S : World → Prop) (s : Nat) : Nat → Array Bool → Act → World → Prop
 | 0, listed, a, w => Region.ready md ops listed = [] ∧ Q .normal a w
 | fuel + 1, listed, a, w => (Region.ready md ops listed = [] → Q .normal a w) ∧
  ∀ i ∈ Region.ready md ops listed, wpOp P ops Q i (fun a' w' => (i ≠ s → S w') ∧ zE4 P md ops Q S s fuel (listed.setIfInBounds i true) a' w') a w
theorem zFc : ∀ (fuel : Nat) (listed : Array Bool) (a : Act) (w : World), zE4 P md ops Q S s fuel listed a w → wpAny P md ops Q fuel listed a w
 | 0, _, _, _, h => h
 | fuel + 1, _, _, _, h => ⟨h.1, fun i hi => wpOp_mono (fun a' w' h' => zFc fuel _ a' w' h'.2) (h.2 i hi)⟩
theorem zIG {i : Nat} {oi : Oper} {v : Value} (hi : ops[i]? = some oi) (hsel : ∀ (j : Nat) (o : Oper) cs b, ops[j]? = some o → o.op ≠ .select cs b)
    (hQ : ∀ c a w, Q (.panic c) (a.put oi.dst v) w → Q (.panic c) a w) (hs : ∀ o, ops[s]? = some o → ∃ e ∈ o.after, Region.binds md e = true ∧ e.on = i) :
    ∀ (f : Nat) (d : Array Bool) (a : Act) (w : World),
     (∀ j r, ops[j]? = some r → j ≠ i → d.getD j true = false → (∀ e ∈ r.after, Region.binds md e = true → e.on ≠ i) → oi.apart ops r = true) →
     i ∈ Region.ready md ops d → YieldsIf P ops S oi v a → S w →
     zE4 P md ops Q S s f (d.setIfInBounds i true) (a.put oi.dst v) w → zE4 P md ops Q S s (f + 1) d a w := by
 intro f;induction f with
 | zero =>
  intro d a w _ y D C H;refine ⟨fun h => (by rw [h] at y; cases y), fun j hj => ?_⟩;by_cases g : j = i
  ·subst g; exact D.wpOp hi C ⟨fun _ => C, H⟩
  ·have := ready_mono hj g;rw [H.1] at this;cases this
 | succ f ih =>
  intro d a w l y D C H;refine ⟨fun h => (by rw [h] at y; cases y), fun j hj => ?_⟩;by_cases g : j = i
  ·subst g; exact D.wpOp hi C ⟨fun _ => C, H⟩
  ·have z := H.2 j (ready_mono hj g);obtain ⟨q, r, m, B⟩ := mem_ready.1 hj;have p : ∀ e ∈ r.after, Region.binds md e = true → e.on ≠ i := fun e G I heq => by
    have z := B e G I;have J := (mem_ready.1 y).1;rw [heq] at z;rcases Nat.lt_or_ge i d.size with E | E
    ·simp [E] at J z; rw [J] at z; cases z
    ·simp [Array.getElem?_eq_none E] at z
   have F : j ≠ s := fun e => by
    subst e;obtain ⟨e, G, I, L⟩ := hs r m;exact p e G I L
   have K := wpOp_putIf m (l j r m g q p) (fun cs b => hsel i oi cs b hi) (fun cs b => hsel j r cs b m) hQ D z;have n : ∀ k ok, ops[k]? = some ok → k ≠ i → (d.setIfInBounds j true).getD k true = false →
       (∀ e ∈ ok.after, Region.binds md e = true → e.on ≠ i) → oi.apart ops ok = true := fun k ok hk hki hun hno => by
    refine l k ok hk hki ?_ hno;by_cases A : j = k
    ·subst A; exact q
    ·rw [getD_set_ne true A] at hun; exact hun
   refine wpOp_mono (fun a' w' h3 => ⟨h3.2.1, ih (d.setIfInBounds j true) a' w' n (ready_mono y (Ne.symm g)) h3.1 (h3.2.1 F) ?_⟩) K;rw [Array.setIfInBounds_comm _ _ g];exact h3.2.2
def waits (md : Region.Mode) (ops : Array Oper) (s i : Nat) : Bool := ((ops[s]?).map fun o => o.after.any fun e => Region.binds md e && e.on == i).getD false
theorem zAF {i : Nat} {oi : Oper} {v : Value} {fuel : Nat} {listed : Array Bool} {a : Act} {w : World} (hi : ops[i]? = some oi)
    (hs : Region.noSelect ops = true) (hf : Region.free md ops listed i = true) (hr : (Region.ready md ops listed).contains i = true) (hw : waits md ops s i = true)
    (hQ : ∀ c a w, Q (.panic c) (a.put oi.dst v) w → Q (.panic c) a w) (hy : YieldsIf P ops S oi v a) (hS : S w)
    (h : zE4 P md ops Q S s fuel (listed.setIfInBounds i true) (a.put oi.dst v) w) : zE4 P md ops Q S s (fuel + 1) listed a w :=
 zIG hi (Region.noSelect_spec hs) hQ (fun o ho => by
  simp only [waits, ho, Option.map_some, Option.getD_some] at hw;obtain ⟨e, d, b⟩ := Array.any_eq_true'.1 hw;simp only [Bool.and_eq_true, beq_iff_eq] at b
  exact ⟨e, d, b.1, b.2⟩) fuel listed a w (Region.free_spec hi hf) (by simpa using hr) hy hS h
theorem zHf {i : Nat} {o : Oper} {fuel : Nat} {listed : Array Bool} {a : Act} {w : World} (ho : ops[i]? = some o) (hr : Region.ready md ops listed = [i])
    (h : ∀ K' : Act → World → Prop, Shut (∀ a w, (i ≠ s → S w) → zE4 P md ops Q S s fuel (listed.setIfInBounds i true) a w → K' a w) → if Region.wanted o (yielded ops a.tmps) = true then Oper.wp P o a w K' Q else K' (a.put o.dst undef) w) :
    zE4 P md ops Q S s (fuel + 1) listed a w :=
 ⟨fun h0 => absurd (hr ▸ h0) (by simp), hr ▸ fun j hj => by
  rw [List.mem_singleton] at hj;subst hj
  exact wpOp_step ho (fun K' hK => h K' (fun a w hS hW => hK a w ⟨hS, hW⟩))⟩
theorem zJv {listed : Array Bool} {a : Act} {w : World} (hr : Region.ready md ops listed = []) (h : Q .normal a w) : ∀ fuel, zE4 P md ops Q S s fuel listed a w
 | 0 => ⟨hr, h⟩
 | _ + 1 => ⟨fun _ => h, by rw [hr]; simp⟩
theorem zGC {id : Nat} {a : Act} {w : World} (hm : P.follows .mixedOrders = true) (h : zE4 P .any ops Q S s ops.size (Array.replicate ops.size false) a w.drew) : (Code.region id ops true).wp P Q a w :=
 wp_region_any hm (zFc _ _ _ _ h)
end
theorem zEG {P : Program} {fn : Func} {tm tm' : Array Value} {R : Ending → World → Prop} (h : results fn tm = results fn tm') : ∀ (ds : List Deferred) (u : FrameMode) (w : World), Leaves P fn tm R ds u w → Leaves P fn tm' R ds u w
 | [], .returning, _, ⟨v, hv, hr⟩ => ⟨v, h ▸ hv, hr⟩
 | [], .panicking _, _, hl => hl
 | [], .run, _, hl => hl
 | _ :: ds, _, _, ⟨hu, fv, cap, f, args, h1, h2, h3⟩ => ⟨hu, fv, cap, f, args, h1, h2, CallsD.mono h3 fun e _ _ he => by
     cases e with
     | returned => exact zEG h ds _ _ he
     | panicked => exact zEG h ds _ _ he
     | outgrown => exact he⟩
theorem zFd {P : Program} {fn : Func} {R : Ending → World → Prop} {d : Nat} (T : List Nat) (hT : ∀ tm tm' : Array Value, (∀ t ∈ T, tm[t]? = tm'[t]?) → results fn tm = results fn tm') (hd : d ∉ T) (v : Value) (c : List PanicEntry) (a : Act) (w : World)
    (h : bodyPostD P fn R (.panic c) (a.put (some d) v) w) : bodyPostD P fn R (.panic c) a w :=
 zEG (hT _ _ fun t ht => Array.getElem?_setIfInBounds_ne (fun e => hd (by rw [show d = t from e]; exact ht))) _ _ _ h
open Go.ChangeShapes Go.WideShapes Go.ChangeAt Go.RowKit
set_option linter.unusedVariables false
set_option linter.unusedSimpArgs false
set_option maxHeartbeats 60000000 in
set_option maxRecDepth 20000 in
theorem zK2 {t g mb mc bb bc k B : Nat} {x : zA2}  (o s : Int) (V : Bool) (l mk : Int) (w : World) (p q p2 q2 : Int) (h : HK t g mb mc bb bc k x B w ([p, q], (o, s, V, 4, 5, l, mk, [p2, q2]))) (hx : okW p = true) (hy : okW q = true) (hx2 : okW p2 = true) (hy2 : okW q2 = true) (hm : zA6 mk 0 3 = true) (hk64 : zA4 (k : Int)) :
    Calls Tryz.prog 124 #[.pointer (some ⟨g, 0, none⟩), nI k] w fun e w' => ∃ ms, e = .returned ms ∧ SQ t g mb mc bb bc k x w (((zBz [p, q] [p2, q2] mk, zCD (o, s, V, 4, 5, l, mk, [p2, q2])), [zC1 k 2 5 13 [] 0])).1 (((zBz [p, q] [p2, q2] mk, zCD (o, s, V, 4, 5, l, mk, [p2, q2])), [zC1 k 2 5 13 [] 0])).2 ms w' := by
 have JA := h.2.2.2.2.1;have IA := h.2.2.2.2.2.1;have fB : (k : Int) < (x.1.length : Int) := by omega
 have aB : (k : Int) < (x.2.length : Int) := by omega
 have sA := zBa h;have RA := zGj h;simp only at RA
 have tw : t ≤ w.heap.size := by omega
 have OA : B ≤ w.heap.size := sA.2.2;have n := Below.refl t w;clear JA IA sA;obtain ⟨wa, wc, da, dc, ⟨C, G1⟩, r, ⟨H, F, M, J, E, I, z, y⟩, ⟨D, -⟩, ⟨A, L⟩, G, b, tm, tb⟩ := zAr h;have Y := b (k * 8);have F1 := b (k * 8 + 1);have F2 := b (k * 8 + 2);have F3 := b (k * 8 + 3);have F4 := b (k * 8 + 4);have F5 := b (k * 8 + 5);have F6 := b (k * 8 + 6);have F7 := b (k * 8 + 7);have fm := G k;simp only at r H F M J E I z y D A L
 go_enter Tryz.func124, Tryz.ntmps124;go_upto_region 3 with fail
 clear C G1 r H F M J E I z y D A L G b Y F1 F2 F3 F4 F5 F6 F7 fm tm tb;have X := zAw w (.cells #[nI 2, nI 4, nI 5, nI 11, nI k, sL none 0 0, nI 0] 30);have bq := zAg w (.cells #[nI 2, nI 4, nI 5, nI 11, nI k, sL none 0 0, nI 0] 30);have SA := lE (zAu w (.cells #[nI 2, nI 4, nI 5, nI 11, nI k, sL none 0 0, nI 0] 30)).symm;have GA := bq.size;replace n := zBj n bq (zBT h);replace h := zAH h bq;clear bq;generalize w.alloc (.cells #[nI 2, nI 4, nI 5, nI 11, nI k, sL none 0 0, nI 0] 30) = w0 at GA SA h n X ⊢;have eB : bb < w.heap.size := by have := zBa h; omega
 have EA : t ≤ mb ∧ mb < w.heap.size := by have := zDS h; omega
 have NA : B ≤ w.heap.size := OA;obtain ⟨wa, wc, da, dc, ⟨C, G1⟩, r, ⟨H, F, M, J, E, I, z, y⟩, ⟨D, -⟩, ⟨A, L⟩, G, b, tm, tb⟩ := zAr h;have Y := b (k * 8);have F1 := b (k * 8 + 1);have F2 := b (k * 8 + 2);have F3 := b (k * 8 + 3);have F4 := b (k * 8 + 4);have F5 := b (k * 8 + 5);have F6 := b (k * 8 + 6);have F7 := b (k * 8 + 7);have fm := G k;simp only at r H F M J E I z y D A L
 obtain ⟨Xc0, Xc1, Xc2, Xc3, Xc4, Xc5, Xc6⟩ := zAe X;obtain ⟨Xf0, Xf1, Xf2, Xf3, Xf4, Xf5, Xf6⟩ := zAo X;have Xlt := (ltH X);go_upto_block 0 with fail
 go_cut [1] (fun q9 wx => q9 = nI k ∧ ∃ (m : World) (O : Option Addr) (N : Nat), wx = m.setCell ⟨mb, k, none⟩ (sL O (zBz [p, q] [p2, q2] mk).length N) ∧ HK t g mb mc bb bc k x B m ([p, q], (o, s, V, 4, 5, l, mk, [p2, q2])) ∧ m.heap[w.heap.size]? = some (.cells #[nI 2, nI 4, nI 5, nI 11, nI k, sL none 0 0, nI 0] 30 (0, 0)) ∧ Below t w m ∧ zAm.own m (rng w0.heap.size m.heap.size) [(sL O (zBz [p, q] [p2, q2] mk).length N)] (zBz [p, q] [p2, q2] mk) ∧ w0.heap.size ≤ m.heap.size)
 case first =>
  have rA : zBv zBf w0.drew wa [p, q] := zAt D (Below.refl w0.heap.size w0).drew;have zA : zBv zBf w0.drew da [p2, q2] := zAt A (Below.refl w0.heap.size w0).drew;go_upto_region 21 with fail
  have f : Hid _ := aI h (aI X (aI n (aI rA zA)));have ZA : Hid (∀ wx, Bl w0 wx → wx.cell? ⟨g, 0, none⟩ = some (sL (some ⟨mb, 0, none⟩) x.1.length mc) ∧ wx.cell? ⟨mb, k, none⟩ = some (sL wa 2 wc)) := fun wx hh => ⟨zAf hh C (zAi C), zAf hh r (zAi r)⟩;have Q0 : Hid (Bl w0 w0.drew) := (Below.refl w0.heap.size w0).drew;have KS : Hid (∀ wx, Bl w0 wx → wx.cell? ⟨g, 0, none⟩ = some (sL (some ⟨mb, 0, none⟩) x.1.length mc) ∧ wx.cell? ⟨mb, k, none⟩ = some (sL wa 2 wc) ∧ wx.cell? ⟨bb, k * 8 + 6, none⟩ = some (nI mk) ∧ wx.cell? ⟨bb, k * 8 + 7, none⟩ = some (sL da 2 dc)) := fun wx hh => ⟨zAf hh C (zAi C), zAf hh r (zAi r), zAf hh z (zAi z), zAf hh y (zAi y)⟩;clear h X n rA zA C G1 r H F M J E I z y D A L G b Y F1 F2 F3 F4 F5 F6 F7 fm tm tb Xc0 Xc1 Xc2 Xc3 Xc4 Xc5 Xc6 Xf0 Xf1 Xf2 Xf3 Xf4 Xf5 Xf6 Xlt;refine zGC (s := 22) (S := fun wx => wx.cell? ⟨g, 0, none⟩ = some (sL (some ⟨mb, 0, none⟩) x.1.length mc) ∧ wx.cell? ⟨mb, k, none⟩ = some (sL wa 2 wc) ∧ wx.cell? ⟨bb, k * 8 + 6, none⟩ = some (nI mk) ∧ wx.cell? ⟨bb, k * 8 + 7, none⟩ = some (sL da 2 dc)) (by kernel_rfl) ?_;have c := KS.out _ Q0.out;refine zAF (i := 0) (oi := _) (v := ?_) rfl (by kernel_rfl) (by kernel_rfl) (by kernel_rfl) (by kernel_rfl) (fun _ _ _ h => h) (Or.inl ⟨by rfl, ?_⟩) (by exact c) ?_;rotate_left
  ·intro d a
   (try dsimp only at a)
   go_simp
   first | done | with_reducible rfl
  (try simp only [Act.put, List.setIfInBounds_toArray, List.set_cons_zero, List.set_cons_succ])
  refine zAF (i := 1) (oi := _) (v := ?_) rfl (by kernel_rfl) (by kernel_rfl) (by kernel_rfl) (by kernel_rfl) (fun _ _ _ h => h) (Or.inl ⟨by rfl, ?_⟩) (by exact c) ?_;rotate_left
  ·intro d a
   (try dsimp only at a)
   go_simp
   first | done | with_reducible rfl
  (try simp only [Act.put, List.setIfInBounds_toArray, List.set_cons_zero, List.set_cons_succ])
  refine zAF (i := 2) (oi := _) (v := ?_) rfl (by kernel_rfl) (by kernel_rfl) (by kernel_rfl) (by kernel_rfl) (fun _ _ _ h => h) (Or.inl ⟨by rfl, ?_⟩) (by exact c) ?_;rotate_left
  ·intro d a
   (try dsimp only at a)
   go_simp
   first | done | with_reducible rfl
  (try simp only [Act.put, List.setIfInBounds_toArray, List.set_cons_zero, List.set_cons_succ])
  refine zAF (i := 3) (oi := _) (v := ?_) rfl (by kernel_rfl) (by kernel_rfl) (by kernel_rfl) (by kernel_rfl) (fun _ _ _ h => h) (Or.inl ⟨by rfl, ?_⟩) (by exact c) ?_;rotate_left
  ·intro d a
   (try dsimp only at a)
   go_simp
   first | done | with_reducible rfl
  (try simp only [Act.put, List.setIfInBounds_toArray, List.set_cons_zero, List.set_cons_succ])
  refine zAF (i := 4) (oi := _) (v := ?_) rfl (by kernel_rfl) (by kernel_rfl) (by kernel_rfl) (by kernel_rfl) (fun _ _ _ h => h) (Or.inl ⟨by rfl, ?_⟩) (by exact c) ?_;rotate_left
  ·intro d a
   (try dsimp only at a)
   go_simp
   first | done | with_reducible rfl
  (try simp only [Act.put, List.setIfInBounds_toArray, List.set_cons_zero, List.set_cons_succ])
  refine zAF (i := 5) (oi := _) (v := ?_) rfl (by kernel_rfl) (by kernel_rfl) (by kernel_rfl) (by kernel_rfl) (fun _ _ _ h => h) (Or.inl ⟨by rfl, ?_⟩) (by exact c) ?_;rotate_left
  ·intro d a
   (try dsimp only at a)
   go_simp
   first | done | with_reducible rfl
  (try simp only [Act.put, List.setIfInBounds_toArray, List.set_cons_zero, List.set_cons_succ])
  refine zAF (i := 6) (oi := _) (v := ?_) rfl (by kernel_rfl) (by kernel_rfl) (by kernel_rfl) (by kernel_rfl) (fun _ _ _ h => h) (Or.inl ⟨by rfl, ?_⟩) (by exact c) ?_;rotate_left
  ·intro d a
   (try dsimp only at a)
   go_simp
   first | done | with_reducible rfl
  (try simp only [Act.put, List.setIfInBounds_toArray, List.set_cons_zero, List.set_cons_succ])
  refine zAF (i := 7) (oi := _) (v := ?_) rfl (by kernel_rfl) (by kernel_rfl) (by kernel_rfl) (by kernel_rfl) (fun _ _ _ h => h) (Or.inl ⟨by rfl, ?_⟩) (by exact c) ?_;rotate_left
  ·intro d a
   (try dsimp only at a)
   go_simp
   first | done | with_reducible rfl
  (try simp only [Act.put, List.setIfInBounds_toArray, List.set_cons_zero, List.set_cons_succ])
  refine zAF (i := 8) (oi := _) (v := ?_) rfl (by kernel_rfl) (by kernel_rfl) (by kernel_rfl) (by kernel_rfl) (fun _ _ _ h => h) (Or.inl ⟨by rfl, ?_⟩) (by exact c) ?_;rotate_left
  ·intro d a
   (try dsimp only at a)
   go_simp
   first | done | with_reducible rfl
  (try simp only [Act.put, List.setIfInBounds_toArray, List.set_cons_zero, List.set_cons_succ])
  refine zAF (i := 9) (oi := _) (v := ?_) rfl (by kernel_rfl) (by kernel_rfl) (by kernel_rfl) (by kernel_rfl) (fun _ _ _ h => h) (Or.inl ⟨by rfl, ?_⟩) (by exact c) ?_;rotate_left
  ·intro d a
   (try dsimp only at a)
   go_simp
   first | done | with_reducible rfl
  (try simp only [Act.put, List.setIfInBounds_toArray, List.set_cons_zero, List.set_cons_succ])
  refine zAF (i := 10) (oi := _) (v := ?_) rfl (by kernel_rfl) (by kernel_rfl) (by kernel_rfl) (by kernel_rfl) (fun _ _ _ h => h) (Or.inl ⟨by rfl, ?_⟩) (by exact c) ?_;rotate_left
  ·intro d a
   (try dsimp only at a)
   go_simp
   first | done | with_reducible rfl
  (try simp only [Act.put, List.setIfInBounds_toArray, List.set_cons_zero, List.set_cons_succ])
  refine zAF (i := 11) (oi := _) (v := ?_) rfl (by kernel_rfl) (by kernel_rfl) (by kernel_rfl) (by kernel_rfl) (fun _ _ _ h => h) (Or.inl ⟨by rfl, ?_⟩) (by exact c) ?_;rotate_left
  ·intro d a
   (try dsimp only at a)
   go_simp
   first | done | with_reducible rfl
  (try simp only [Act.put, List.setIfInBounds_toArray, List.set_cons_zero, List.set_cons_succ])
  refine zAF (i := 12) (oi := _) (v := ?_) rfl (by kernel_rfl) (by kernel_rfl) (by kernel_rfl) (by kernel_rfl) (fun _ _ _ h => h) (Or.inl ⟨by rfl, ?_⟩) (by exact c) ?_;rotate_left
  ·intro d a
   (try dsimp only at a)
   go_simp
   first | done | with_reducible rfl
  (try simp only [Act.put, List.setIfInBounds_toArray, List.set_cons_zero, List.set_cons_succ])
  refine zAF (i := 13) (oi := _) (v := ?_) rfl (by kernel_rfl) (by kernel_rfl) (by kernel_rfl) (by kernel_rfl) (fun _ _ _ h => h) (Or.inl ⟨by rfl, ?_⟩) (by exact c) ?_;rotate_left
  ·intro d a
   (try dsimp only at a)
   go_simp
   first | done | with_reducible rfl
  (try simp only [Act.put, List.setIfInBounds_toArray, List.set_cons_zero, List.set_cons_succ])
  refine zAF (i := 14) (oi := _) (v := ?_) rfl (by kernel_rfl) (by kernel_rfl) (by kernel_rfl) (by kernel_rfl) (fun _ _ _ h => h) (Or.inl ⟨by rfl, ?_⟩) (by exact c) ?_;rotate_left
  ·intro d a
   (try dsimp only at a)
   go_simp
   first | done | with_reducible rfl
  (try simp only [Act.put, List.setIfInBounds_toArray, List.set_cons_zero, List.set_cons_succ])
  refine zAF (i := 15) (oi := _) (v := ?_) rfl (by kernel_rfl) (by kernel_rfl) (by kernel_rfl) (by kernel_rfl) (fun _ _ _ h => h) (Or.inl ⟨by rfl, ?_⟩) (by exact c) ?_;rotate_left
  ·intro d a
   (try dsimp only at a)
   go_simp
   first | done | with_reducible rfl
  (try simp only [Act.put, List.setIfInBounds_toArray, List.set_cons_zero, List.set_cons_succ])
  refine zAF (i := 16) (oi := _) (v := ?_) rfl (by kernel_rfl) (by kernel_rfl) (by kernel_rfl) (by kernel_rfl) (fun _ _ _ h => h) (Or.inl ⟨by rfl, ?_⟩) (by exact c) ?_;rotate_left
  ·intro d a
   (try dsimp only at a)
   go_simp
   first | done | with_reducible rfl
  (try simp only [Act.put, List.setIfInBounds_toArray, List.set_cons_zero, List.set_cons_succ])
  refine zAF (i := 17) (oi := _) (v := ?_) rfl (by kernel_rfl) (by kernel_rfl) (by kernel_rfl) (by kernel_rfl) (fun _ _ _ h => h) (Or.inl ⟨by rfl, ?_⟩) (by exact c) ?_;rotate_left
  ·intro d a
   (try dsimp only at a)
   go_simp
   first | done | with_reducible rfl
  (try simp only [Act.put, List.setIfInBounds_toArray, List.set_cons_zero, List.set_cons_succ])
  refine zAF (i := 18) (oi := _) (v := ?_) rfl (by kernel_rfl) (by kernel_rfl) (by kernel_rfl) (by kernel_rfl) (fun _ _ _ h => h) (Or.inl ⟨by rfl, ?_⟩) (by exact c) ?_;rotate_left
  ·intro d a
   (try dsimp only at a)
   go_simp
   first | done | with_reducible rfl
  (try simp only [Act.put, List.setIfInBounds_toArray, List.set_cons_zero, List.set_cons_succ])
  refine zAF (i := 19) (oi := _) (v := ?_) rfl (by kernel_rfl) (by kernel_rfl) (by kernel_rfl) (by kernel_rfl) (fun _ _ _ h => h) (Or.inl ⟨by rfl, ?_⟩) (by exact c) ?_;rotate_left
  ·intro d a
   (try dsimp only at a)
   go_simp
   first | done | with_reducible rfl
  (try simp only [Act.put, List.setIfInBounds_toArray, List.set_cons_zero, List.set_cons_succ])
  refine zHf (i := 20) (o := _) rfl (by kernel_rfl) (fun K hK => ?_);go_simp
  refine (zId _ _ p q p2 q2 _ _ mk _ (zAM f.out.2.2.2.1) (zAM f.out.2.2.2.2) hx hy hx2 hy2 hm).mono ?_;rintro e m ⟨v, rfl, mm⟩;have mr := zB8 mm (zLz (zDn f.out.2.2.2.1) (zDn f.out.2.2.2.2));obtain ⟨O, N, rfl⟩ := zAB mr.1;have Z : Hid (Bl w0 m) := zAa Q0.out mr.2;have LA : Hid _ := mr.1;clear mm mr c;have gB := hk_fm (zAH f.out.1 Z.out);have c := KS.out _ Z.out;refine hK.out _ _ (fun _ => c) ?_;clear hK K
  (try simp only [Act.put, List.setIfInBounds_toArray, List.set_cons_zero, List.set_cons_succ])
  refine zAF (i := 21) (oi := _) (v := ?_) rfl (by kernel_rfl) (by kernel_rfl) (by kernel_rfl) (by kernel_rfl) (fun _ _ _ h => h) (Or.inl ⟨by rfl, ?_⟩) (by exact c) ?_;rotate_left
  ·intro d a
   (try dsimp only at a)
   go_simp
   first | done | with_reducible rfl
  (try simp only [Act.put, List.setIfInBounds_toArray, List.set_cons_zero, List.set_cons_succ])
  obtain ⟨-, M9, -, -⟩ := c;refine zHf (i := 22) (o := _) rfl (by kernel_rfl) (fun K hK => ?_);go_simp
  refine hK.out _ _ (fun h => absurd rfl h) ?_;clear hK K
  (try simp only [Act.put, List.setIfInBounds_toArray, List.set_cons_zero, List.set_cons_succ])
  refine zJv (by kernel_rfl) ?_ _;go_wp2_with fail
  go_meet
  exact ⟨rfl, m, O, N, rfl, zAH f.out.1 Z.out, zAb Z.out f.out.2.1, zBj f.out.2.2.1 Z.out (zBT f.out.1), LA.out, Z.out.size⟩
 case rest =>
  clear h X n C G1 r H F M J E I z y D A L G b Y F1 F2 F3 F4 F5 F6 F7 fm tm tb Xc0 Xc1 Xc2 Xc3 Xc4 Xc5 Xc6 Xf0 Xf1 Xf2 Xf3 Xf4 Xf5 Xf6 Xlt;obtain ⟨rfl, m, O, N, oA, h, X, n, OM, cB⟩ := hcut;rw [oA];clear oA;have ne := hk_ne h;have KA := zDS h;have MA := zBa h;have X2 := zAl (g := mb) (o := k) (v := (sL O (zBz [p, q] [p2, q2] mk).length N)) X (by omega);obtain ⟨Xc0, Xc1, Xc2, Xc3, Xc4, Xc5, Xc6⟩ := zAe X2;obtain ⟨Xf0, Xf1, Xf2, Xf3, Xf4, Xf5, Xf6⟩ := zAo X2;have Xlt := (ltH X2);have WS : Hid (∃ W, W = m.setCell ⟨mb, k, none⟩ (sL O (zBz [p, q] [p2, q2] mk).length N)) := ⟨_, rfl⟩;obtain ⟨W, R⟩ := WS.out;have yA : Below t w W := by rw [R]; exact zAh n EA.1
  rw [← R] at X2 Xc0 Xc1 Xc2 Xc3 Xc4 Xc5 Xc6 Xf0 Xf1 Xf2 Xf3 Xf4 Xf5 Xf6 Xlt ⊢;have pA : Hid _ := R;clear R WS;go_upto_region 23 with fail
  have R := pA.out;clear pA Xc0 Xc1 Xc2 Xc3 Xc4 Xc5 Xc6 Xf0 Xf1 Xf2 Xf3 Xf4 Xf5 Xf6 Xlt X n;have sW : W.heap.size = m.heap.size := by rw [R]; simp
  have X : (W.setCell ⟨w.heap.size, 3, none⟩ (nI 13)).heap[w.heap.size]? = some (.cells #[nI 2, nI 4, nI 5, nI 13, nI k, sL none 0 0, nI 0] 30 (0, 0)) := heap_setCell_same _ (w.heap.size) 3 _ _ (nI 13) X2;replace h := hk_w2 (q := w.heap.size) (B' := m.heap.size) (U := rng w0.heap.size m.heap.size) (v := (sL O (zBz [p, q] [p2, q2] mk).length N)) (W' := W.setCell ⟨w.heap.size, 3, none⟩ (nI 13)) h (by omega) (Nat.le_refl _) (by simp [sW]) OM (fun j hj => ⟨by have := hj.1; omega, hj.2, by have := hj.1; omega⟩) NA (fun j hj => by rw [R]; exact heap_setCell_other _ ⟨w.heap.size, 3, none⟩ j _ hj);have n : Below t w (W.setCell ⟨w.heap.size, 3, none⟩ (nI 13)) := zAh yA tw;have FA : m.heap.size ≤ (W.setCell ⟨w.heap.size, 3, none⟩ (nI 13)).heap.size := by simp [sW]
  simp only at h
  clear OM X2 yA KA MA;generalize W.setCell ⟨w.heap.size, 3, none⟩ (nI 13) = w5 at h X n FA ⊢;clear R sW W;obtain ⟨wa, wc, da, dc, ⟨C, G1⟩, r, ⟨H, F, M, J, E, I, z, y⟩, ⟨D, -⟩, ⟨A, L⟩, G, b, tm, tb⟩ := zAr h;have Y := b (k * 8);have F1 := b (k * 8 + 1);have F2 := b (k * 8 + 2);have F3 := b (k * 8 + 3);have F4 := b (k * 8 + 4);have F5 := b (k * 8 + 5);have F6 := b (k * 8 + 6);have F7 := b (k * 8 + 7);have fm := G k;simp only at r H F M J E I z y D A L
  obtain ⟨Xc0, Xc1, Xc2, Xc3, Xc4, Xc5, Xc6⟩ := zAe X;obtain ⟨Xf0, Xf1, Xf2, Xf3, Xf4, Xf5, Xf6⟩ := zAo X;have Xlt := (ltH X);first | (go_region_with fail) | fail
  all_goals
   go_upto_region 24 with fail
   clear C G1 r H F M J E I z y D A L G b Y F1 F2 F3 F4 F5 F6 F7 fm tm tb Xc0 Xc1 Xc2 Xc3 Xc4 Xc5 Xc6 Xf0 Xf1 Xf2 Xf3 Xf4 Xf5 Xf6 Xlt;have AA := zBa h;replace X : ((((((((w5.setCell ⟨bb, k * 8, none⟩ (nI o)).setCell ⟨bb, k * 8 + 1, none⟩ (nI s)).setCell ⟨bb, k * 8 + 2, none⟩ (.bool false)).setCell ⟨bb, k * 8 + 3, none⟩ (nI 0)).setCell ⟨bb, k * 8 + 4, none⟩ (nI 0)).setCell ⟨bb, k * 8 + 5, none⟩ (nI 0)).setCell ⟨bb, k * 8 + 6, none⟩ (nI 0)).setCell ⟨bb, k * 8 + 7, none⟩ (sL none 0 0)).heap[w.heap.size]? = _ := zH8 X (by omega);replace n : Below t w ((((((((w5.setCell ⟨bb, k * 8, none⟩ (nI o)).setCell ⟨bb, k * 8 + 1, none⟩ (nI s)).setCell ⟨bb, k * 8 + 2, none⟩ (.bool false)).setCell ⟨bb, k * 8 + 3, none⟩ (nI 0)).setCell ⟨bb, k * 8 + 4, none⟩ (nI 0)).setCell ⟨bb, k * 8 + 5, none⟩ (nI 0)).setCell ⟨bb, k * 8 + 6, none⟩ (nI 0)).setCell ⟨bb, k * 8 + 7, none⟩ (sL none 0 0)) := zFr n AA.1;replace h := zIW h;simp only at h
   have vA : w5.heap.size ≤ ((((((((w5.setCell ⟨bb, k * 8, none⟩ (nI o)).setCell ⟨bb, k * 8 + 1, none⟩ (nI s)).setCell ⟨bb, k * 8 + 2, none⟩ (.bool false)).setCell ⟨bb, k * 8 + 3, none⟩ (nI 0)).setCell ⟨bb, k * 8 + 4, none⟩ (nI 0)).setCell ⟨bb, k * 8 + 5, none⟩ (nI 0)).setCell ⟨bb, k * 8 + 6, none⟩ (nI 0)).setCell ⟨bb, k * 8 + 7, none⟩ (sL none 0 0)).heap.size := by simp
   clear AA;generalize ((((((((w5.setCell ⟨bb, k * 8, none⟩ (nI o)).setCell ⟨bb, k * 8 + 1, none⟩ (nI s)).setCell ⟨bb, k * 8 + 2, none⟩ (.bool false)).setCell ⟨bb, k * 8 + 3, none⟩ (nI 0)).setCell ⟨bb, k * 8 + 4, none⟩ (nI 0)).setCell ⟨bb, k * 8 + 5, none⟩ (nI 0)).setCell ⟨bb, k * 8 + 6, none⟩ (nI 0)).setCell ⟨bb, k * 8 + 7, none⟩ (sL none 0 0)) = w6 at vA h n X ⊢;replace h := zBD h;replace n := n.drew;replace X := zAV X;have T : w6.heap.size ≤ w6.drew.heap.size := Nat.le_refl _;generalize w6.drew = w6d at T h n X ⊢;obtain ⟨Xc0, Xc1, Xc2, Xc3, Xc4, Xc5, Xc6⟩ := zAe X;obtain ⟨Xf0, Xf1, Xf2, Xf3, Xf4, Xf5, Xf6⟩ := zAo X;have Xlt := (ltH X);go_wp2;go_ret
   clear Xc0 Xc1 Xc2 Xc3 Xc4 Xc5 Xc6 Xf0 Xf1 Xf2 Xf3 Xf4 Xf5 Xf6 Xlt;have ho := zD4 (B := m.heap.size) (U := fun _ => False) (W := w6d) (zBC (zB7 2) (zB7 4) (zB7 5) (zB7 13) hk64 (zB7 0) (zD3 w6d _)) (fun j q => q.elim) h.2.2.2.1;have V := zAg w6d (.cells #[nI 2, nI 4, nI 5, nI 13, nI k, sL none 0 0, nI 0] 30);exact ⟨_, rfl, m.heap.size, zAH h V, ho, zBj n V (zBT h)⟩
end Go.Proofs.YtmaopldahnejdaaGreatDoor
