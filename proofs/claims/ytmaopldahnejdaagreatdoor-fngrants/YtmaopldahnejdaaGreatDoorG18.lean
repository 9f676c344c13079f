import Derived.Test.YtmaopldahnejdaaGreatDoorG00Box
import Derived.Test.YtmaopldahnejdaaGreatDoorG17
import Derived.Deep.DeepCutAuto
import Derived.Deep.RegionLaw
namespace Go.Proofs.YtmaopldahnejdaaGreatDoor
set_option maxHeartbeats 8000000
set_option maxRecDepth 20000
open Go.ChangeShapes Go.WideShapes Go.ChangeAt Go.RowKit
set_option linter.unusedVariables false
set_option linter.unusedSimpArgs false
theorem zG8 {w : World} {g : Nat} {x0 x1 x2 x3 x4 x5 x6 x7 x8 x9 y0 y1 y2 y3 y4 y5 y6 y7 : Value} {t : TypeId} (h : w.heap[g]? = some (.cells #[x0, x1, x2, x3, x4, x5, x6, x7, x8, x9] t (0, 0))) : (zAy w g 2 [y0, y1, y2, y3, y4, y5, y6, y7]).heap[g]? = some (.cells #[x0, x1, y0, y1, y2, y3, y4, y5, y6, y7] t (0, 0)) := by
 have b : (w.setCell ⟨g, 2, none⟩ y0).heap[g]? = some (.cells #[x0, x1, y0, x3, x4, x5, x6, x7, x8, x9] t (0, 0)) := heap_setCell_same _ g 2 _ t y0 h;have a : ((w.setCell ⟨g, 2, none⟩ y0).setCell ⟨g, 3, none⟩ y1).heap[g]? = some (.cells #[x0, x1, y0, y1, x4, x5, x6, x7, x8, x9] t (0, 0)) := heap_setCell_same _ g 3 _ t y1 b;have k : (((w.setCell ⟨g, 2, none⟩ y0).setCell ⟨g, 3, none⟩ y1).setCell ⟨g, 4, none⟩ y2).heap[g]? = some (.cells #[x0, x1, y0, y1, y2, x5, x6, x7, x8, x9] t (0, 0)) := heap_setCell_same _ g 4 _ t y2 a;have f : ((((w.setCell ⟨g, 2, none⟩ y0).setCell ⟨g, 3, none⟩ y1).setCell ⟨g, 4, none⟩ y2).setCell ⟨g, 5, none⟩ y3).heap[g]? = some (.cells #[x0, x1, y0, y1, y2, y3, x6, x7, x8, x9] t (0, 0)) := heap_setCell_same _ g 5 _ t y3 k;have d : (((((w.setCell ⟨g, 2, none⟩ y0).setCell ⟨g, 3, none⟩ y1).setCell ⟨g, 4, none⟩ y2).setCell ⟨g, 5, none⟩ y3).setCell ⟨g, 6, none⟩ y4).heap[g]? = some (.cells #[x0, x1, y0, y1, y2, y3, y4, x7, x8, x9] t (0, 0)) := heap_setCell_same _ g 6 _ t y4 f;have i : ((((((w.setCell ⟨g, 2, none⟩ y0).setCell ⟨g, 3, none⟩ y1).setCell ⟨g, 4, none⟩ y2).setCell ⟨g, 5, none⟩ y3).setCell ⟨g, 6, none⟩ y4).setCell ⟨g, 7, none⟩ y5).heap[g]? = some (.cells #[x0, x1, y0, y1, y2, y3, y4, y5, x8, x9] t (0, 0)) := heap_setCell_same _ g 7 _ t y5 d;have j : (((((((w.setCell ⟨g, 2, none⟩ y0).setCell ⟨g, 3, none⟩ y1).setCell ⟨g, 4, none⟩ y2).setCell ⟨g, 5, none⟩ y3).setCell ⟨g, 6, none⟩ y4).setCell ⟨g, 7, none⟩ y5).setCell ⟨g, 8, none⟩ y6).heap[g]? = some (.cells #[x0, x1, y0, y1, y2, y3, y4, y5, y6, x9] t (0, 0)) := heap_setCell_same _ g 8 _ t y6 i;have c : ((((((((w.setCell ⟨g, 2, none⟩ y0).setCell ⟨g, 3, none⟩ y1).setCell ⟨g, 4, none⟩ y2).setCell ⟨g, 5, none⟩ y3).setCell ⟨g, 6, none⟩ y4).setCell ⟨g, 7, none⟩ y5).setCell ⟨g, 8, none⟩ y6).setCell ⟨g, 9, none⟩ y7).heap[g]? = some (.cells #[x0, x1, y0, y1, y2, y3, y4, y5, y6, y7] t (0, 0)) := heap_setCell_same _ g 9 _ t y7 j;simp only [zA5, zAK, Nat.reduceAdd];exact c
theorem zDx {α : Type} {R : Rep α} {W : World} {S : zAN} {cs : List Value} {x : α} (h : R.own W S cs x) : R.own W.drew S cs x := R.own_keep h fun _ _ _ => rfl
theorem zCU {W : World} {k : Nat} {o : Obj} (h : W.heap[k]? = some o) : W.drew.heap[k]? = some o := h
theorem zIt {w W : World} {S : zAN} {k : Int} {y : zB0} {l : List zAS} {e : Ending} (h : zC2 w S k y l e W) : zC2 w S k y l e W.drew := by
 obtain ⟨b, c, a, f, d⟩ := h;exact ⟨b, c, a, zDx f, d.drew⟩
theorem zEU {S T U : zAN} {w W : World} {y : zB0} {m : zAS} {ds cm vs : List Value} {k : Int} {r : Nat} (B : Bl w W) (ho : zBM.own W T ds y) (hm : zDk.own W U cm m) (hTU : Dis T U) (hT : ∀ j, T j → (S j ∨ w.heap.size ≤ j) ∧ j < W.heap.size) (hU : ∀ j, U j → (S j ∨ w.heap.size ≤ j) ∧ j < W.heap.size) (hr : w.heap.size ≤ r) (hTr : ¬ T r) (hUr : ¬ U r) :
    zC2 w S k y [m] (.returned (.tuple #[zBw (nI k :: ds), sL (some ⟨W.heap.size, 0, none⟩) 1 1])) ((zAy W r 0 vs).alloc (.cells cm.toArray 30)) := by
 have f : (zAy W r 0 vs).heap.size = W.heap.size := zAq _ _ _;have i := zBM.own_keep (zAX (g := r) (o := 0) (vs := vs) ho hTr) (zAj (zAg (zAy W r 0 vs) (.cells cm.toArray 30)));have d := zKQ (e := 30) (R := zDk) (by decide) (zAX (g := r) (o := 0) (vs := vs) hm hUr) (fun j q => by rw [f]; exact (hU j q).2);rw [f] at d;have hw := B.size;have al := zAu (zAy W r 0 vs) (.cells cm.toArray 30);refine ⟨ds, _, rfl, zDQ i d ?_ ?_ ?_, zAa (zAv (g := r) (o := 0) (vs := vs) B hr) (zAg _ _)⟩
 ·intro j q;obtain ⟨c, l⟩ := hT j q;rcases c with c | c
  ·exact .inl c
  ·exact .inr ⟨c, by omega⟩
 ·intro j q;rcases q with q | q
  ·obtain ⟨c, l⟩ := hU j q;rcases c with c | c
   ·exact .inl c
   ·exact .inr ⟨c, by omega⟩
  ·exact .inr ⟨by omega, by omega⟩
 ·intro j a b;rcases b with b | b
  ·exact hTU j a b
  ·have := (hT j a).2;omega
theorem zIu {S T : zAN} {w W : World} {y : zB0} {ds vs : List Value} {k : Int} {r : Nat} (B : Bl w W) (ho : zBM.own W T ds y) (hT : ∀ j, T j → (S j ∨ w.heap.size ≤ j) ∧ j < W.heap.size) (hr : w.heap.size ≤ r) (hTr : ¬ T r) :
    zC2 w S k y [] (.returned (.tuple #[zBw (nI k :: ds), sL (some ⟨W.heap.size, 0, none⟩) 0 0])) ((zAy W r 0 vs).alloc (.cells #[] 30)) := by
 have i : (zAy W r 0 vs).heap.size = W.heap.size := zAq _ _ _;have f := zBM.own_keep (zAX (g := r) (o := 0) (vs := vs) ho hTr) (zAj (zAg (zAy W r 0 vs) (.cells #[] 30)));have d := zHr (e := 30) (R := zDk) (zAy W r 0 vs);rw [i] at d;have hw := B.size;have al := zAu (zAy W r 0 vs) (.cells #[] 30);refine ⟨ds, _, rfl, zDQ f d ?_ ?_ ?_, zAa (zAv (g := r) (o := 0) (vs := vs) B hr) (zAg _ _)⟩
 ·intro j q;obtain ⟨c, q2⟩ := hT j q;rcases c with c | c
  ·exact .inl c
  ·exact .inr ⟨c, by omega⟩
 ·intro j q;exact .inr ⟨by omega, by omega⟩
 ·intro j a b;have := (hT j a).2;omega
theorem zBu {S S' : zAN} {w W wd : World} {y : zB0} {l : List zAS} {ds vs : List Value} {ms : Value} {k : Int} {r : Nat} (B : Bl w W) (hS' : ∀ j, S' j → (S j ∨ w.heap.size ≤ j) ∧ j < W.heap.size) (DO : (zCg zBM zAT).own wd (zDM S' W wd) (ds ++ [ms]) (y, l)) (DB : Bl W wd) (hr : w.heap.size ≤ r) (hr2 : r < W.heap.size) (hn : ¬ S' r) :
    zC2 w S k y l (.returned (.tuple #[zBw (nI k :: ds), ms])) (zAy wd r 0 vs) := by
 have b : (zAy wd r 0 vs).heap.size = wd.heap.size := zAq _ _ _;have hw := B.size;have c := DB.size;refine ⟨ds, ms, rfl, (zCg zBM zAT).own_mono (zAX (g := r) (o := 0) (vs := vs) DO (fun q => by rcases q with q | q; exact hn q; omega)) ?_, zAv (g := r) (o := 0) (vs := vs) (zAa B DB) hr⟩;intro j q;rcases q with q | q
 ·obtain ⟨a, q2⟩ := hS' j q;rcases a with a | a
  ·exact .inl a
  ·exact .inr ⟨a, by rw [b]; omega⟩
 ·exact .inr ⟨by omega, by rw [b]; exact q.2⟩
theorem zBq {S : zAN} {w : World} {k : Int} {y : zB0} {l : List zAS} {e : Ending} {w' : World} (h : zC2 w S k y l e w') : ∃ (g : Option Addr) (d : Nat) (b : Option Addr) (a : Nat) (f : Option Addr) (c : Nat), e = .returned (.tuple #[.agg #[nI k, sL g y.1.length d, nI y.2.1, nI y.2.2.1, .bool y.2.2.2.1, nI y.2.2.2.2.1, nI y.2.2.2.2.2.1, nI y.2.2.2.2.2.2.1, nI y.2.2.2.2.2.2.2.1, sL b y.2.2.2.2.2.2.2.2.length a], sL f l.length c]) ∧ (zCg zBM zAT).own w' (zDM S w w') ([sL g y.1.length d, nI y.2.1, nI y.2.2.1, .bool y.2.2.2.1, nI y.2.2.2.2.1, nI y.2.2.2.2.2.1, nI y.2.2.2.2.2.2.1, nI y.2.2.2.2.2.2.2.1, sL b y.2.2.2.2.2.2.2.2.length a] ++ [sL f l.length c]) (y, l) ∧ Bl w w' := by
 obtain ⟨z, ms, rfl, j, p⟩ := h;have o : z.length = zBM.size := by
  obtain ⟨c1, e1, q, m, i, v, n, -⟩ := j;have l1 := zBM.rd_len (zBM.own_rd v);have A := zAT.rd_len (zAT.own_rd n);have := congrArg List.length i;simp only [List.length_append, List.length_cons, List.length_nil] at this;rw [A] at this;have : zAT.size = 1 := rfl;omega
 obtain ⟨T1, T2, s, r, -⟩ := zKO j o;obtain ⟨g, d, b, a, q, m, rfl, -⟩ := zA9 s;obtain ⟨f, c, rfl⟩ := zAB r;exact ⟨g, d, b, a, f, c, rfl, j, p⟩
section
variable {α β : Type}
end
theorem zLu {xss : List (List Int)} {rs : List Rw} {k g c : Nat} {xs : List Int} (h : rs.map Rw.xs = xss.take k) (hx : xss[k]? = some xs) : (rs ++ [(⟨g, c, xs⟩ : Rw)]).map Rw.xs = xss.take (k + 1) := zKV h hx
theorem zKn (a : Option Addr) (xss : List (List Int)) (o : Nat) (w : World) (h : zDo w a xss) (hk : zCa xss = true) :
    Calls Tryz.prog 94 #[sL a xss.length o] w fun e w' => ∃ v, e = .returned v ∧ zFQ w w' v xss := by
 obtain ⟨i0, F, O, N, H⟩ := info_parts Tryz.infoS;have hl := zEe hk;go_enter Tryz.func94, Tryz.ntmps94;go_wp2;go_loopw [3, 4] (fun v i wr => ∃ k : Nat, k ≤ xss.length ∧ i = nI k ∧ v ≠ sL none 0 0 ∧ ∃ rs : List Rw, rs.map Rw.xs = xss.take k ∧ wr.ownsRow w.heap.size 28 1 v k (rs.map Rw.v) ∧ Inn w.heap.size wr.heap.size wr rs ∧ Bl w wr)
  (fun _ i _ => xss.length - (intOf i).toNat)
 case atStart => exact ⟨0, by omega, rfl, by simp, [], rfl, World.ownsRow_lit _ #[] 0 (Nat.le_refl _) (Nat.zero_le _) rfl, zHl _ _ _, (Below.refl _ _).alloc (Nat.le_refl _) _⟩
 case round =>
  obtain ⟨k, kA, rfl, hv, rs, p, d, n, s⟩ := hrel;have D := s.size;by_cases U : k < xss.length
  ·have fA : (k : Int) < (xss.length : Int) := by omega
   obtain ⟨xs, E⟩ := zDp U;obtain ⟨b, lA, aj, cj, rfl, g1, S⟩ := zCR (zFw h s) E;rcases zBJ xs with Y | ⟨x, y, rfl, vA, rA⟩
   ·rw [zEf hk E] at Y; cases Y
   obtain ⟨b', B, rfl, _, _⟩ := zDr S;have X : Hid (zBr wr (some ⟨b', B, none⟩) [x, y]) := S;have HP : Hid (∀ g c, _) := fun g c => zLu (g := g) (c := c) p E;have Z : Hid _ := n;have HB : Hid _ := s;clear h E S p n s;go_wp2_with fail
   refine (zFh _ [x, y] _ _ X.out (by simp)).mono ?_;rintro e w1 ⟨v1, rfl, g, c, rfl, l1, J, o1, z⟩;have R := zHw d hv;obtain ⟨G, cG, rfl, qA, M⟩ := R;have l := zDD d z M;have T : Hid _ := zHm (zEc Z.out z (Nat.le_refl _)) (zFY o1 D) l1 J;have L : Hid _ := zAa HB.out z;have C : w.heap.size ≤ w1.heap.size := Nat.le_trans D z.size;clear Z HB z o1 d X g1;go_wp2_with (at_builtin; refine wpList_append_own _ rfl _ _ 24 rfl w.heap.size 28 i0 (sL none 0 0) 1 24 Tryz.underlying24 F O N H rfl (by decide) _ _ _ rfl (World.ownsRow.alloc l _) ⟨_, 0, none⟩ 1 1 [sL (some ⟨g, 0, none⟩) 2 c] rfl rfl ?c1 ?c2 ?c3 ?c4 ?c5 ?_)
   case c1 =>
    intro j u r;match j, r with
    | 0, r => simp at r; subst r; simp [Addr.add]
   case c2 => intro u hu; simp at hu; subst hu; rfl
   case c3 => unfold maxLen; omega
   case c4 => omega
   case c5 => simp; omega
   ·intro v' w2 m f q;have K : v' ≠ sL none 0 0 := q;have AO := zKY (rs := rs) (g := g) (c := c) (xs := [x, y]) (World.ownsRow.alloc l _) (zFI (zEc T.out ((Below.refl _ _).alloc (Nat.le_refl _) _) (by simp)) (by simp)) m f;have HA : Hid _ := AO;have BB := (L.out.alloc C _).grown f (by simp; omega) (fun j r => (l.lt j r).1);clear m f l q AO;go_wp2;go_roundw
    case rel => exact ⟨k + 1, by omega, by go_num, K, _, HP.out g c, HA.out.1, HA.out.2, BB⟩
    case measure => simp [intOf]; omega
  ·have V : k = xss.length := by omega
   subst V;rw [List.take_length] at p;obtain ⟨g, o, rfl, I, A⟩ := zHw d hv;have MM : zFQ w wr (sL (some ⟨g, 0, none⟩) xss.length o) xss := ⟨g, o, rfl, I, A, ⟨rs, p, d, A, n⟩, s⟩;clear d n s;go_wp2;go_ret
   exact ⟨_, rfl, MM⟩
theorem readL_at {xss : List (List Int)} {j : Nat} {xs : List Int} (hk : zCa xss = true) (hb : zA6 (j : Int) 0 ((xss.length : Int) - 1) = true) (hx : xss[j]? = some xs) : zDz xss j = xs := by
 unfold zDz;rw [hk, hb];simp [List.getD_eq_getElem?_getD, hx]
theorem rep_64 (n : Nat) : ∀ b ∈ List.replicate n [(0 : Int), 0], ∀ x ∈ b, zA4 x := by
 intro b h x a;rw [List.eq_of_mem_replicate h] at a;simp at a
 subst a;exact zBN
theorem zIv {lo hi : Nat} {w : World} : ∀ (rs : List Rw), Inn lo hi w rs → (∀ r ∈ rs, ∀ x ∈ r.xs, zA4 x) → zGD zAm w (fun k => ∃ (i : Nat) (r : Rw), rs[i]? = some r ∧ r.g = k) (rs.map Rw.v) (rs.map Rw.xs)
 | [], _, _ => rfl
 | r :: rs, h, h64 => by
  have b : Inn lo hi w rs := ⟨fun i s a => h.1 (i + 1) s (by simpa using a), fun i j s t a ht e => by have := h.2 (i + 1) (j + 1) s t (by simpa using a) (by simpa using ht) e; omega⟩;have c := h.1 0 r rfl;refine ⟨[r.v], rs.map Rw.v, fun k => k = r.g, fun k => ∃ (i : Nat) (s : Rw), rs[i]? = some s ∧ s.g = k, rfl, ?_, zIv rs b (fun s a => h64 s (List.mem_cons_of_mem _ a)), ?_, ?_, ?_⟩
  ·exact zGE (S := fun k => k = r.g) c.1 rfl (h64 r (List.mem_cons_self ..))
  ·rintro k rfl;exact ⟨0, r, rfl, rfl⟩
  ·rintro k ⟨i, s, a, e⟩;exact ⟨i + 1, s, by simpa using a, e⟩
  ·rintro k rfl ⟨i, s, a, e⟩;have := h.2 (i + 1) 0 s r (by simpa using a) rfl e;omega
theorem zEV {w w' : World} {v : Value} {xss : List (List Int)} (h : zFQ w w' v xss) (h64 : ∀ xs ∈ xss, ∀ x ∈ xs, zA4 x) : zAD zBY w w' [v] xss := by
 obtain ⟨G, f, rfl, j, m, ⟨c, rfl, d, g3, a⟩, l⟩ := h;refine ⟨⟨_, c.map Rw.v, fun k => ∃ (i : Nat) (r : Rw), c[i]? = some r ∧ r.g = k, rfl, zEr d (fun _ _ => Nat.zero_le _), fun g hg => ?_, ?_, zIv c a fun r b => h64 r.xs (List.mem_map_of_mem b)⟩, l⟩
 ·simp [Value.ownBlock] at hg
  subst hg;refine ⟨⟨j, m⟩, ?_⟩;rintro ⟨i, r, b, e⟩;exact out_ne d (a.1 i r b).1 e
 ·rintro k ⟨i, r, b, rfl⟩;have := a.1 i r b;exact ⟨(zJ0 this.1).1, this.2⟩
theorem zBh {α : Type} {e : TypeId} {R : Rep α} (w : World) (S : zAN) : (slR e R).own w S [sL none 0 0] [] := ⟨_, [], fun _ => False, rfl, World.ownsRow_nil _ _ _ _, fun g hg => by simp [Value.ownBlock] at hg, fun _ h => h.elim, rfl⟩
noncomputable def zBc (n : Int) : zA2 × Bool := if zA6 n 1 16 then ((List.replicate n.toNat [0, 0], List.replicate n.toNat newE), true) else (([], []), false)
theorem zLv {w w' : World} (h : Bl w w') : zAD zB6 w w' [nI (-1), nI 0, .bool false, nI 0, nI 0, nI 0, nI 0, sL none 0 0] newE := ⟨zB3 i64_m zBN zBN zBN zBN zBN (zD3 _ _), h⟩
def BkI (w : World) (hb : Nat) (mv : Value) (xss : List (List Int)) (k : Nat) (wr : World) : Prop := ∃ au cu,
 wr.heap[hb]? = some (.cells #[mv, .slice au k cu] 27 (0, 0)) ∧ zBY.own wr (rng (w.heap.size + 1) hb) [mv] xss ∧ zCS.own wr (rng (hb + 1) wr.heap.size) [.slice au k cu] (List.replicate k newE) ∧
 wr.heap[w.heap.size]? = some (.cells #[.slice none 0 0, .slice none 0 0] 27 (0, 0)) ∧ Below w.heap.size w wr ∧ w.heap.size < hb
theorem zLw {w wr wr' : World} {hb k : Nat} {mv : Value} {xss : List (List Int)} (h : BkI w hb mv xss k wr) (hq : Bl wr wr') : BkI w hb mv xss k wr' := by
 obtain ⟨b, j, a, i, c, d, f, g⟩ := h;have := hq.size;exact ⟨b, j, zAb hq a, zBY.own_keep i (zAj hq), zCS.own_mono (zCS.own_keep c (zAj hq)) (zAL (Nat.le_refl _) this), zAb hq d, zAa f hq, g⟩
theorem zLx {w wr : World} {hb k : Nat} {mv : Value} {xss : List (List Int)} (h : BkI w hb mv xss k wr) (hk : k ≤ 1000) :
    ∃ i l, wr.heap[hb]? = some (.cells #[mv, sL i k l] 27 (0, 0)) ∧ ∀ w9, Bl wr w9 → w9.heap[hb]? = some (.cells #[mv, sL i k l] 27 (0, 0)) ∧
     ∃ y v m, (Builtin.append_ #[25, 25] 25 #[sL i k l, sL (some ⟨w9.heap.size, 0, none⟩) 1 1]).run Tryz.prog (w9.alloc (.cells #[nI (-1), nI 0, .bool false, nI 0, nI 0, nI 0, nI 0, sL none 0 0] 48)) = .ok (sL (some ⟨y, 0, none⟩) (k + 1) v) m ∧
      m.heap[hb]? = some (.cells #[mv, sL i k l] 27 (0, 0)) ∧ BkI w hb mv xss (k + 1) (m.setCell ⟨hb, 1, none⟩ (sL (some ⟨y, 0, none⟩) (k + 1) v)) := by
 obtain ⟨i, l, z, X, K, U, O, N⟩ := h;refine ⟨i, l, z, fun w9 hb9 => ⟨zAb hb9 z, ?_⟩⟩;have S := zLv hb9;have p : (List.replicate k newE).length = k := List.length_replicate;have D := K;obtain ⟨v0, f, S0, n, d, _, _, _⟩ := D;simp only [List.cons.injEq, and_true] at n;subst n;rw [p] at d;have B : (w9.alloc (.cells #[nI (-1), nI 0, .bool false, nI 0, nI 0, nI 0, nI 0, sL none 0 0] 48)).ownsRow 0 48 8 (sL i k l) k f := zDF d fun g hgb => by
  obtain ⟨H, M⟩ := zDE d hgb;have r := (ltH M);rw [Below.heap_alloc _ _ _ (Nat.lt_of_lt_of_le r hb9.size), hb9.block _ r]
 obtain ⟨T, L, F, E, A⟩ := info_parts Tryz.infoEntry;obtain ⟨v', m, o, c, j, _, s⟩ := run_append_own_at (P := Tryz.prog) (w9.alloc (.cells #[nI (-1), nI 0, .bool false, nI 0, nI 0, nI 0, nI 0, sL none 0 0] 48)) 0 25 25 48 T (.agg #[nI 0, nI 0, .bool false, nI 0, nI 0, nI 0, nI 0, sL none 0 0]) 8 80 Tryz.underlying25 L F E A rfl (by decide) _ _ _ B ⟨w9.heap.size, 0, none⟩ 1 1 [nI (-1), nI 0, .bool false, nI 0, nI 0, nI 0, nI 0, sL none 0 0] rfl (zFk w9 [nI (-1), nI 0, .bool false, nI 0, nI 0, nI 0, nI 0, sL none 0 0] _) (by intro u I; simp at I; rcases I with rfl | rfl | rfl | rfl | rfl <;> rfl) (by unfold maxLen; omega) (by omega) (Nat.zero_le _);obtain ⟨y, v, rfl⟩ := zFj c;obtain ⟨Y, q⟩ := zJ5 (e := 48) (R := zB6) (by decide) K S (fun rows hr' => by rw [p] at hr' ⊢; rw [zE9 hr' d]; exact c) j (s.imp id fun h => ⟨_, h, by have := hb9.size; simp; omega⟩);have z0 := q.size;have G := (ltH z);have C : ∀ x, x ≤ hb → ¬ Old wr (rng (hb + 1) wr.heap.size) x := fun x hx h => by have := h.1.1; omega
 have J := (q.block hb G (C hb (Nat.le_refl _))).trans z;have V := zFV Y;refine ⟨y, v, m, o, J, _, _, heap_setCell_same m hb 1 _ _ _ J, zAn (zBk X q (fun x a b => C x (by have := a.2; omega) b)) (fun h => by have := h.2; omega), ?_, zAl ((q.block _ (by omega) (C _ (by omega))).trans U) (by omega), zAh (q.below O (fun x h => by have := h.1.1; omega) (by omega)) (by omega), N⟩;rw [List.replicate_succ'];refine zAn (zCS.own_mono V ?_) (fun h => by have := h.1; omega);rintro x ⟨h | h, r⟩
 ·exact ⟨h.1.1, by simpa using r⟩
 ·exact ⟨by omega, by simpa using r⟩
theorem implNewHouse_u (a : Int) (w : World) :
    Calls Tryz.prog 10 #[nI a] w fun e f => ∃ ds, e = .returned (.tuple #[zBw ds, .bool (zBc a).2]) ∧ zAD zAz w f ds (zBc a).1 := by
 have i := zAw w (.cells #[sL none 0 0, sL none 0 0] 27);have y := zAg w (.cells #[sL none 0 0, sL none 0 0] 27);have E := zAu w (.cells #[sL none 0 0, sL none 0 0] 27);cases j : zA6 a 1 16
 ·have M : Hid (zBc a = (([], []), false)) := by unfold Hid zBc; rw [j]; rfl
  rw [M.out];have D : Hid (∀ W, Calls Tryz.prog 44 #[nI a] W fun e f => e = .returned (.bool false) ∧ f = W) := fun W => by have := zCA a W; rw [j] at this; exact this
  have HZ : Hid _ := aI i y;obtain ⟨y0, y1⟩ := zAd i;obtain ⟨f0, f1⟩ := zA1 i;have jA := (ltH i);clear i y j;go_enter Tryz.func10, Tryz.ntmps10;go_wp2_with (go_at_call 44; refine (D.out _).mono ?_; rintro e N ⟨rfl, A⟩; rw [A]; clear A N)
  have J : zAD zAz w (w.alloc (.cells #[sL none 0 0, sL none 0 0] 27)) [sL none 0 0, sL none 0 0] ([], []) := ⟨zCt (S0 := fun _ => False) (S1 := fun _ => False) (zBh _ _) (zBh _ _) (fun _ h => h.elim) (fun _ h => h.elim) (fun _ h _ => h), HZ.out.2⟩;exact bodyPost_ret (v := .tuple #[.agg #[sL none 0 0, sL none 0 0], .bool false]) (by simp [results, Tryz.results10, go_sem]) rfl ⟨[sL none 0 0, sL none 0 0], rfl, J⟩
 ·have h1 : 1 ≤ a ∧ a ≤ 16 := by simpa [zA6] using j
  obtain ⟨n, rfl⟩ : ∃ n : Nat, a = n := ⟨a.toNat, by omega⟩;have hn : n ≤ 16 := by omega
  have M : Hid (zBc n = ((List.replicate n [0, 0], List.replicate n newE), true)) := by unfold Hid zBc; rw [j]; rfl
  rw [M.out];have D : Hid (∀ W, Calls Tryz.prog 44 #[nI (n : Int)] W fun e f => e = .returned (.bool true) ∧ f = W) := fun W => by have := zCA (n : Int) W; rw [j] at this; exact this
  have T : Hid (∀ W, Calls Tryz.prog 45 #[nI (n : Int)] W fun e f => ∃ v, e = .returned v ∧ zAD zBY W f [v] (List.replicate n [0, 0])) := fun W => by
   refine (zFn (n : Int) W).mono ?_;rintro e f ⟨v, rfl, m⟩;have e9 : newM (n : Int) = List.replicate n [0, 0] := by unfold newM; rw [j]; rfl
   rw [e9] at m;exact ⟨v, rfl, zEV m (rep_64 n)⟩
  clear j h1;go_enter Tryz.func10, Tryz.ntmps10;go_wp2_with fail
  generalize w.alloc (.cells #[sL none 0 0, sL none 0 0] 27) = W0 at i y E ⊢;refine (D.out _).mono ?_;rintro e N ⟨rfl, A⟩;rw [A];clear A N D;have lA := lE E;have vA := lE E.symm;clear E;go_wp2_with fail
  refine (T.out _).mono ?_;rintro e b ⟨v, rfl, g⟩;obtain ⟨c, d, rfl⟩ := zAB g.1;have s : (List.replicate n [(0 : Int), 0]).length = n := List.length_replicate;rw [s] at g ⊢;clear s T;have Z : BkI w b.heap.size (sL c n d) (List.replicate n [0, 0]) 0 (b.alloc (.cells #[sL c n d, sL none 0 0] 27)) :=
   ⟨none, 0, zAw b _, zBY.own_mono (zBY.own_keep g.1 (zAj (zAg b _))) (fun k S => ⟨by have := S.1; omega, S.2⟩), zBh _ _, zAb (zAg b _) (zAb g.2 i), zAa (zAa y g.2) (zAg b _), by have := g.2.size; omega⟩
  have HI : Hid _ := Z;have L := zAu b (.cells #[sL c n d, sL none 0 0] 27);have rA : w.heap.size < b.heap.size := by have := g.2.size; omega
  clear Z g i y;go_wp2;clear L;go_loopw [13] (fun q wr => ∃ k : Nat, k ≤ n ∧ q = nI k ∧ BkI w b.heap.size (sL c n d) (List.replicate n [0, 0]) k wr) (fun q _ => n - (intOf q).toNat)
  case atStart => exact ⟨0, Nat.zero_le _, rfl, HI.out⟩
  case round =>
   clear HI;obtain ⟨k, S, rfl, I⟩ := hrel;by_cases yA : k < n
   ·have bA : (k : Int) < (n : Int) := by omega
    obtain ⟨o, p, x, U⟩ := zLx (zLw I (below_drewN (Below.refl _ wr) 1)) (by omega);obtain ⟨x0, x1⟩ := zAd (show wr.heap[b.heap.size]? = _ from x);have H := (Array.getElem?_eq_some_iff.1 (show wr.heap[b.heap.size]? = _ from x)).1;have ST : Hid _ := U;clear I U x;go_upto_block 1 with fail
    go_cut [15, 16, 17, 18, 19, 20] (fun _ _ _ _ _ _ wx => BkI w b.heap.size (sL c n d) (List.replicate n [0, 0]) (k + 1) wx)
    case first =>
     go_wp2_with fail
     go_region_law (first
      | (refine zJ6 (by rfl) _ _ _ _ (by rfl) (by rfl) _ _ _ (by rfl) (by rfl) r ?_)
      | (go_simp
         go_at_call 46
         refine (zFA _).mono ?_;rintro e w9 ⟨rfl, Y⟩;obtain ⟨z, g', c', w3, r, G, X⟩ := ST.out w9 Y;have K : Hid _ := X;obtain ⟨q0, q1⟩ := zAd z;obtain ⟨q5, q6⟩ := zAd G;obtain ⟨q7, q8⟩ := zA1 G;have q2 := (ltH z);have q3 := (ltH G)
         clear z G Y X))
     all_goals go_wp2_with fail
     all_goals go_meet
     all_goals exact K.out
    case rest =>
     go_wp2;go_roundw
     case rel => exact ⟨k + 1, by omega, by go_num, hcut⟩
     case measure => simp [intOf]; omega
   ·have O : k = n := by omega
    subst O;obtain ⟨o, p, R, C, B, l, F, i6⟩ := I;obtain ⟨x0, x1⟩ := zAd R;obtain ⟨y0, y1⟩ := zAd l;obtain ⟨f0, f1⟩ := zA1 l;have H := (ltH R);have pA := (ltH l);have HF : Hid _ := aI C (aI B (aI l F));clear R C B l F;go_wp2;obtain ⟨C, B, l, F⟩ := HF.out;have V := zCu (y0 := sL c k d) (y1 := sL o k p) l;obtain ⟨r0, r1⟩ := zAd V;have J : zAD zAz w ((wr.setCell ⟨w.heap.size, 0, none⟩ (sL c k d)).setCell ⟨w.heap.size, 1, none⟩ (sL o k p)) [sL c k d, sL o k p] (List.replicate k [0, 0], List.replicate k newE) := ⟨zCt (S0 := rng (w.heap.size + 1) b.heap.size) (S1 := rng (b.heap.size + 1) wr.heap.size) (zAn (zAn C (fun h => by have := h.1; omega)) (fun h => by have := h.1; omega)) (zAn (zAn B (fun h => by have := h.1; omega)) (fun h => by have := h.1; omega)) (zAL (by omega) (by simp; omega)) (zAL (by omega) (by simp)) (zFe (.inl (by omega))), zAh (zAh F (Nat.le_refl _)) (Nat.le_refl _)⟩;exact bodyPost_ret (v := .tuple #[.agg #[sL c k d, sL o k p], .bool true]) (by simp [results, Tryz.results10, go_sem, r0, r1]) rfl ⟨[sL c k d, sL o k p], rfl, J⟩
theorem zG9 (a : Int) (w : World) :
    Calls Tryz.prog 20 #[nI a] w fun e f => ∃ ds, e = .returned (.tuple #[zBw ds, .bool (zBc a).2]) ∧ zAD zAz w f ds (zBc a).1 := by
 have i := zAw w (.cells #[sL none 0 0, sL none 0 0] 27);have y := zAg w (.cells #[sL none 0 0, sL none 0 0] 27);have E := zAu w (.cells #[sL none 0 0, sL none 0 0] 27);cases l : zA6 a 1 16
 ·have M : Hid (zBc a = (([], []), false)) := by unfold Hid zBc; rw [l]; rfl
  rw [M.out];have D : Hid (∀ W, Calls Tryz.prog 58 #[nI a, nI 1, nI 16] W fun e f => e = .returned (.bool false) ∧ f = W) := fun W => by have := zAx a 1 16 W; rw [l] at this; exact this
  have HZ : Hid _ := aI i y;obtain ⟨y0, y1⟩ := zAd i;obtain ⟨f0, f1⟩ := zA1 i;have jA := (ltH i);clear i y l;go_enter Tryz.func20, Tryz.ntmps20;go_wp2_with (go_at_call 58; refine (D.out _).mono ?_; rintro e N ⟨rfl, A⟩; rw [A]; clear A N)
  have J : zAD zAz w (w.alloc (.cells #[sL none 0 0, sL none 0 0] 27)) [sL none 0 0, sL none 0 0] ([], []) := ⟨zCt (S0 := fun _ => False) (S1 := fun _ => False) (zBh _ _) (zBh _ _) (fun _ h => h.elim) (fun _ h => h.elim) (fun _ h _ => h), HZ.out.2⟩;exact bodyPost_ret (v := .tuple #[.agg #[sL none 0 0, sL none 0 0], .bool false]) (by simp [results, Tryz.results20, go_sem]) rfl ⟨[sL none 0 0, sL none 0 0], rfl, J⟩
 ·have h1 : 1 ≤ a ∧ a ≤ 16 := by simpa [zA6] using l
  obtain ⟨n, rfl⟩ : ∃ n : Nat, a = n := ⟨a.toNat, by omega⟩;have hn : n ≤ 16 := by omega
  have M : Hid (zBc n = ((List.replicate n [0, 0], List.replicate n newE), true)) := by unfold Hid zBc; rw [l]; rfl
  rw [M.out];have D : Hid (∀ W, Calls Tryz.prog 58 #[nI (n : Int), nI 1, nI 16] W fun e f => e = .returned (.bool true) ∧ f = W) := fun W => by have := zAx (n : Int) 1 16 W; rw [l] at this; exact this
  have T : Hid (∀ W, Calls Tryz.prog 59 #[nI (n : Int)] W fun e f => ∃ v, e = .returned v ∧ zAD zBY W f [v] (List.replicate n [0, 0])) := fun W => by
   refine (zKZ n W (by omega)).mono ?_;rintro e f ⟨v, rfl, m⟩;skip
   skip
   exact ⟨v, rfl, zEV m (rep_64 n)⟩
  clear l h1;go_enter Tryz.func20, Tryz.ntmps20;go_wp2_with fail
  generalize w.alloc (.cells #[sL none 0 0, sL none 0 0] 27) = W0 at i y E ⊢;refine (D.out _).mono ?_;rintro e N ⟨rfl, A⟩;rw [A];clear A N D;have kA := lE E;have sA := lE E.symm;clear E;go_wp2_with fail
  refine (T.out _).mono ?_;rintro e b ⟨v, rfl, g⟩;obtain ⟨c, d, rfl⟩ := zAB g.1;have s : (List.replicate n [(0 : Int), 0]).length = n := List.length_replicate;rw [s] at g ⊢;clear s T;have Z : BkI w b.heap.size (sL c n d) (List.replicate n [0, 0]) 0 (b.alloc (.cells #[sL c n d, sL none 0 0] 27)) :=
   ⟨none, 0, zAw b _, zBY.own_mono (zBY.own_keep g.1 (zAj (zAg b _))) (fun k S => ⟨by have := S.1; omega, S.2⟩), zBh _ _, zAb (zAg b _) (zAb g.2 i), zAa (zAa y g.2) (zAg b _), by have := g.2.size; omega⟩
  have HI : Hid _ := Z;have L := zAu b (.cells #[sL c n d, sL none 0 0] 27);have qA : w.heap.size < b.heap.size := by have := g.2.size; omega
  clear Z g i y;go_wp2;clear L;go_loopw [5] (fun q wr => ∃ k : Nat, k ≤ n ∧ q = nI k ∧ BkI w b.heap.size (sL c n d) (List.replicate n [0, 0]) k wr) (fun q _ => n - (intOf q).toNat)
  case atStart => exact ⟨0, Nat.zero_le _, rfl, HI.out⟩
  case round =>
   clear HI;obtain ⟨k, S, rfl, I⟩ := hrel;by_cases vA : k < n
   ·have bA : (k : Int) < (n : Int) := by omega
    obtain ⟨o, p, x, U⟩ := zLx (zLw I (below_drewN (Below.refl _ wr) 1)) (by omega);obtain ⟨x0, x1⟩ := zAd (show wr.heap[b.heap.size]? = _ from x);have H := (Array.getElem?_eq_some_iff.1 (show wr.heap[b.heap.size]? = _ from x)).1;have ST : Hid _ := U;clear I U x;go_upto_block 1 with fail
    go_cut [18, 19, 20, 21, 22, 23] (fun _ _ _ _ _ _ wx => BkI w b.heap.size (sL c n d) (List.replicate n [0, 0]) (k + 1) wx)
    case first =>
     go_wp2_with fail
     go_region_law (first
      | (refine zJ6 (by rfl) _ _ _ _ (by rfl) (by rfl) _ _ _ (by rfl) (by rfl) r ?_)
      | (go_simp
         go_at_call 60
         refine (zDV _).mono ?_;rintro e w9 ⟨rfl, Y⟩;obtain ⟨z, g', c', w3, r, G, X⟩ := ST.out w9 Y;have K : Hid _ := X;obtain ⟨q0, q1⟩ := zAd z;obtain ⟨q5, q6⟩ := zAd G;obtain ⟨q7, q8⟩ := zA1 G;have q2 := (ltH z);have q3 := (ltH G)
         clear z G Y X))
     all_goals go_wp2_with fail
     all_goals go_meet
     all_goals exact K.out
    case rest =>
     go_wp2;go_roundw
     case rel => exact ⟨k + 1, by omega, by go_num, hcut⟩
     case measure => simp [intOf]; omega
   ·have O : k = n := by omega
    subst O;obtain ⟨o, p, R, C, B, j, F, i6⟩ := I;obtain ⟨x0, x1⟩ := zAd R;obtain ⟨y0, y1⟩ := zAd j;obtain ⟨f0, f1⟩ := zA1 j;have H := (ltH R);have oA := (ltH j);have HF : Hid _ := aI C (aI B (aI j F));clear R C B j F;go_wp2;obtain ⟨C, B, j, F⟩ := HF.out;have V := zCu (y0 := sL c k d) (y1 := sL o k p) j;obtain ⟨r0, r1⟩ := zAd V;have J : zAD zAz w ((wr.setCell ⟨w.heap.size, 0, none⟩ (sL c k d)).setCell ⟨w.heap.size, 1, none⟩ (sL o k p)) [sL c k d, sL o k p] (List.replicate k [0, 0], List.replicate k newE) := ⟨zCt (S0 := rng (w.heap.size + 1) b.heap.size) (S1 := rng (b.heap.size + 1) wr.heap.size) (zAn (zAn C (fun h => by have := h.1; omega)) (fun h => by have := h.1; omega)) (zAn (zAn B (fun h => by have := h.1; omega)) (fun h => by have := h.1; omega)) (zAL (by omega) (by simp; omega)) (zAL (by omega) (by simp)) (zFe (.inl (by omega))), zAh (zAh F (Nat.le_refl _)) (Nat.le_refl _)⟩;exact bodyPost_ret (v := .tuple #[.agg #[sL c k d, sL o k p], .bool true]) (by simp [results, Tryz.results20, go_sem, r0, r1]) rfl ⟨[sL c k d, sL o k p], rfl, J⟩
end Go.Proofs.YtmaopldahnejdaaGreatDoor
