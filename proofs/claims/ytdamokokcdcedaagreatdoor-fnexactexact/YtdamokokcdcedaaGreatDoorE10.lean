import Derived.Test.YtdamokokcdcedaaGreatDoorE00Box
import Derived.Test.YtdamokokcdcedaaGreatDoorE09
import Derived.Maps.RangeWalk
namespace Go.Proofs.YtdamokokcdcedaaGreatDoor
set_option maxHeartbeats 2000000
set_option maxRecDepth 100000
open Go.ChangeShapes Go.WideShapes Go.ChangeAt Go.RowKit Go.Shelf
set_option linter.unusedVariables false
def waysN (c : CacheD) : Nat := (c.1.getD 0 []).length
def RowFit (c : CacheD) (i : Nat) : Prop := ∀ row t, c.1[i]? = some row → c.2[i]? = some t → row.length = waysN c ∧ treeB t (waysN c) = true
def Shape (c : CacheD) : Prop := powB c.1.length = true ∧ c.2.length = c.1.length ∧ ∀ i, i < c.1.length → RowFit c i
open Classical in
noncomputable def shapeB (c : CacheD) : Bool := decide (Shape c)
theorem shape_yes {c : CacheD} (h : Shape c) : shapeB c = true := by simp [shapeB, h]
theorem shape_no {c : CacheD} (h : ¬ Shape c) : shapeB c = false := by simp [shapeB, h]
theorem cells_two {w : World} {g : Nat} {x y : Value} {t : TypeId} (h : w.heap[g]? = some (.cells #[x, y] t (0, 0))) :
    w.cell? ⟨g, 0, none⟩ = some x ∧ w.cell? ⟨g, 1, none⟩ = some y := cell_two h
theorem cells_three {w : World} {g : Nat} {x y z : Value} {t : TypeId} (h : w.heap[g]? = some (.cells #[x, y, z] t (0, 0))) :
    w.cell? ⟨g, 0, none⟩ = some x ∧ w.cell? ⟨g, 1, none⟩ = some y ∧ w.cell? ⟨g, 2, none⟩ = some z :=
 ⟨by rw [cell_of_row w g 0 _ t (0, 0) h]; rfl, by rw [cell_of_row w g 1 _ t (0, 0) h]; rfl, by rw [cell_of_row w g 2 _ t (0, 0) h]; rfl⟩
theorem set_at {w : World} {a : Option Addr} {xs : List (List WayD)} {j : Nat} {row : List WayD} (h : SlRd waysR w a xs) (hx : xs[j]? = some row) :
    ∃ b d i g, a = some ⟨b, d, none⟩ ∧ w.cell? ⟨b, d + j, none⟩ = some (sL i row.length g) ∧ row.length ≤ g ∧ g ≤ maxLen ∧ SlRd wayR w i row := by
 obtain ⟨b, d, c, rfl, ⟨i, g, rfl, m, n, l⟩, f⟩ := slrd_at h hx;have k := f 0 _ rfl;rw [show j * waysR.size + 0 = j from Nat.mul_one j] at k;exact ⟨b, d, i, g, rfl, k, m, n, l⟩
theorem int_at {w : World} {a : Option Addr} {xs : List Int} {j : Nat} {x : Int} (h : SlRd intR w a xs) (hx : xs[j]? = some x) :
    ∃ b d, a = some ⟨b, d, none⟩ ∧ w.cell? ⟨b, d + j, none⟩ = some (nI x) := by
 obtain ⟨b, d, c, rfl, ⟨rfl, _⟩, f⟩ := slrd_at h hx;have g := f 0 _ rfl;rw [show j * intR.size + 0 = j from Nat.mul_one j] at g;exact ⟨b, d, rfl, g⟩
theorem shapeOk_any (a b : Option Addr) (c : CacheD) (cap cp : Nat) (w : World) (h1 : SlRd waysR w a c.1) (h2 : SlRd intR w b c.2) (m1 : c.1.length ≤ maxLen) (m2 : c.2.length ≤ maxLen) (m3 : ∀ f ∈ c.1, f.length ≤ maxLen) :
    Calls Tryz.prog 256 #[.agg #[sL a c.1.length cap, sL b c.2.length cp]] w fun e g => e = .returned (.bool (shapeB c)) ∧ Bl w g := by
 have aB : c.1.length ≤ 9223372036854775807 := m1;have VA : c.2.length ≤ 9223372036854775807 := m2;have HB : Hid _ := box_below w;cases N : powB c.1.length
 ·have H : Hid (shapeB c = false) := shape_no fun h => by rw [h.1] at N; cases N
  clear h1 h2 m1 m2 m3;go_enter Tryz.func256, Tryz.ntmps256;go_wp2_with (go_at_call 188; refine (sizeOk_any _ _).mono ?_; rintro e g ⟨rfl, rfl⟩; rw [N])
  go_ret
  exact ⟨ret_bool H.out.symm, HB.out _⟩
 by_cases hl : c.2.length = c.1.length
 ·rw [hl];have HP : Hid (powB c.1.length = true) := N;have HM : Hid (∀ f ∈ c.1, f.length ≤ maxLen) := m3;have r : 0 < c.1.length := by simp [powB] at N; omega
  have I : c.1[0]? = some (c.1.getD 0 []) := by rw [List.getD_eq_getElem?_getD, List.getElem?_eq_getElem r]; rfl
  have O : (c.1.getD 0 []).length ≤ maxLen := m3 _ (List.mem_of_getElem? I);obtain ⟨o, p, T, U, rfl, C, -, -, -⟩ := set_at h1 I;have H1 : Hid _ := h1;have H2 : Hid _ := h2;have G : Hid (c.2.length = c.1.length) := hl;have M : Hid ((c.1.getD 0 []).length = waysN c) := rfl;have G0 : Hid (w.cell? ⟨o, p + 0, none⟩ = some (sL T (c.1.getD 0 []).length U)) := C;clear h1 h2 m1 m2 m3 I hl C;generalize (c.1.getD 0 []).length = m at O M G0;go_enter Tryz.func256, Tryz.ntmps256;go_wp2_with (go_at_call 188; refine (sizeOk_any _ _).mono ?_; rintro e g ⟨rfl, rfl⟩; rw [N])
  generalize L : w.alloc _ = W0;have X0 := boxH L;have B0 := boxB L;clear L;go_loopw [22] (fun i wr => ∃ k : Nat, k ≤ c.1.length ∧ i = nI k ∧ (∀ j, j < k → RowFit c j) ∧ Bl w wr ∧ wr.heap[w.heap.size]? = some (.cells #[sL (some ⟨o, p, none⟩) c.1.length cap, sL b c.1.length cp] 95 (0, 0))) (fun i _ => c.1.length - (intOf i).toNat)
  case atStart => exact ⟨0, Nat.zero_le _, rfl, fun j hj => by omega, B0, X0⟩
  case round =>
   clear B0 X0;obtain ⟨k, hk, rfl, E, F, X⟩ := hrel;by_cases kA : k < c.1.length
   ·have AA : (k : Int) < (c.1.length : Int) := by omega
    obtain ⟨f, l⟩ : ∃ f, c.1[k]? = some f := ⟨_, List.getElem?_eq_getElem kA⟩;obtain ⟨t, ht⟩ : ∃ t, c.2[k]? = some t := ⟨_, List.getElem?_eq_getElem (by have := G.out; omega)⟩;obtain ⟨_, _, ak, ck, e1, S, -, -, -⟩ := set_at H1.out l;cases e1;obtain ⟨z, B, rfl, J⟩ := int_at H2.out ht;have gA : f.length ≤ maxLen := HM.out _ (List.mem_of_getElem? l);have l1 := cell_lt S;have l2 := cell_lt J;have KW : Hid (∀ g, Bl w g → g.cell? ⟨o, p, none⟩ = some (sL T m U) ∧ g.cell? ⟨o, p + k, none⟩ = some (sL ak f.length ck) ∧ g.cell? ⟨z, B + k, none⟩ = some (nI t)) :=
     fun g hb => ⟨cell_keep hb G0.out l1, cell_keep hb S l1, cell_keep hb J l2⟩
    have HR : Hid (∀ r' t', c.1[k]? = some r' → c.2[k]? = some t' → r' = f ∧ t' = t) := fun r' t' h h' => by rw [l] at h; rw [ht] at h'; cases h; cases h'; exact ⟨rfl, rfl⟩
    have HF : Hid (¬ RowFit c k → shapeB c = false) := fun h => shape_no fun s => h (s.2.2 k kA);have HN : Hid (RowFit c k → f.length = m ∧ treeB t m = true) := fun h => by have := h f t l ht; rwa [← M.out] at this
    have HY : Hid (f.length = m → treeB t m = true → RowFit c k) := fun e1 e2 r' t' h h' => by obtain ⟨rfl, rfl⟩ := HR.out r' t' h h'; rw [← M.out]; exact ⟨e1, e2⟩
    have BA : f.length ≤ 9223372036854775807 := gA;have bB : m ≤ 9223372036854775807 := O;clear S J l ht gA O G0;have n0 : ∀ n : Cls (fun wx => Bl w wx ∧ wx.heap[w.heap.size]? = some (.cells #[sL (some ⟨o, p, none⟩) c.1.length cap, sL (some ⟨z, B, none⟩) c.1.length cp] 95 (0, 0))), n.w.cell? ⟨w.heap.size, 0, none⟩ = some (sL (some ⟨o, p, none⟩) c.1.length cap) := fun n => (cells_two n.h.2).1;have n1 : ∀ n : Cls (fun wx => Bl w wx ∧ wx.heap[w.heap.size]? = some (.cells #[sL (some ⟨o, p, none⟩) c.1.length cap, sL (some ⟨z, B, none⟩) c.1.length cp] 95 (0, 0))), n.w.cell? ⟨w.heap.size, 1, none⟩ = some (sL (some ⟨z, B, none⟩) c.1.length cp) := fun n => (cells_two n.h.2).2;have C : ∀ n : Cls (fun wx => Bl w wx ∧ wx.heap[w.heap.size]? = some (.cells #[sL (some ⟨o, p, none⟩) c.1.length cap, sL (some ⟨z, B, none⟩) c.1.length cp] 95 (0, 0))), n.w.cell? ⟨o, p, none⟩ = some (sL T m U) := fun n => (KW.out _ n.h.1).1;have J : ∀ n : Cls (fun wx => Bl w wx ∧ wx.heap[w.heap.size]? = some (.cells #[sL (some ⟨o, p, none⟩) c.1.length cap, sL (some ⟨z, B, none⟩) c.1.length cp] 95 (0, 0))), n.w.cell? ⟨z, B + k, none⟩ = some (nI t) := fun n => (KW.out _ n.h.1).2.2;obtain ⟨-, S, -⟩ := KW.out _ F;by_cases hm : f.length = m
    ·have UA : ((f.length : Int) == (m : Int)) = true := by simp [hm]
     cases D : treeB t m
     ·have q : Hid (∀ w, Calls Tryz.prog 275 #[nI t, nI m] w fun e g => e = .returned (.bool false) ∧ g = w) := fun w => by have := implTreeOk_any t m w; rwa [D] at this
      go_wp2_with fail
      refine region_class (fun wx => Bl w wx ∧ wx.heap[w.heap.size]? = some (.cells #[sL (some ⟨o, p, none⟩) c.1.length cap, sL (some ⟨z, B, none⟩) c.1.length cp] 95 (0, 0))) (by kernel_rfl) (by kernel_rfl) ⟨F.drew, X⟩ ?_;intro y;repeat (quiet_step (first | (go_at_call 237; exact calls_class (ways_any o p c.1.length cap _ _ _ _ rfl T m U _ r (C _)) (fun g hc bb => ⟨below_step hc.1 bb, row_keep bb hc.2⟩)) | (go_at_call 275; exact calls_class_same (q.out _))))
      refine wpQuiet_nil ?_;rintro wx ⟨v, R⟩;clear n0 n1 C J S F X y;go_wp2;go_ret
      exact ⟨ret_bool (HF.out fun h => by have := (HN.out h).2; rw [D] at this; cases this).symm, v⟩
     ·have q : Hid (∀ w, Calls Tryz.prog 275 #[nI t, nI m] w fun e g => e = .returned (.bool true) ∧ g = w) := fun w => by have := implTreeOk_any t m w; rwa [D] at this
      go_wp2_with fail
      refine region_class (fun wx => Bl w wx ∧ wx.heap[w.heap.size]? = some (.cells #[sL (some ⟨o, p, none⟩) c.1.length cap, sL (some ⟨z, B, none⟩) c.1.length cp] 95 (0, 0))) (by kernel_rfl) (by kernel_rfl) ⟨F.drew, X⟩ ?_;intro y;repeat (quiet_step (first | (go_at_call 237; exact calls_class (ways_any o p c.1.length cap _ _ _ _ rfl T m U _ r (C _)) (fun g hc bb => ⟨below_step hc.1 bb, row_keep bb hc.2⟩)) | (go_at_call 275; exact calls_class_same (q.out _))))
      refine wpQuiet_nil ?_;rintro wx ⟨v, R⟩;clear n0 n1 C J S F X y;go_wp2;go_roundw
      case rel =>
       refine ⟨k + 1, by omega, by go_num, fun j hj => ?_, v, R⟩;by_cases he : j < k
       ·exact E j he
       ·have : j = k := by omega
        subst this;exact HY.out hm D
      case measure => simp [intOf]; omega
    ·have sA : ((f.length : Int) != (m : Int)) = true := by simp; omega
     go_wp2_with fail
     refine region_class (fun wx => Bl w wx ∧ wx.heap[w.heap.size]? = some (.cells #[sL (some ⟨o, p, none⟩) c.1.length cap, sL (some ⟨z, B, none⟩) c.1.length cp] 95 (0, 0))) (by kernel_rfl) (by kernel_rfl) ⟨F.drew, X⟩ ?_;intro y;iterate 5 (quiet_step ((go_at_call 237; exact calls_class (ways_any o p c.1.length cap _ _ _ _ rfl T m U _ r (C _)) (fun g hc bb => ⟨below_step hc.1 bb, row_keep bb hc.2⟩))))
     clear sA;refine wpQuiet_step (fun K hK => ?_);go_simp
     refine hid_act K _ ?_;intro A hA;refine hK A ?_;clear hK K;have aA : A.tmps[32]? = some (.bool true) := by rw [hA]; rfl
     refine wpQuiet_skip (b := false) (d := 32) aA rfl rfl rfl (by decide) ?_;intro A0 e0 bA;clear aA;refine wpQuiet_skip (b := false) (d := 32) bA rfl rfl rfl (by decide) ?_;intro A1 e1 Z;clear bA;refine wpQuiet_skip (b := false) (d := 32) Z rfl rfl rfl (by decide) ?_;intro A2 e2 dA;clear Z;refine wpQuiet_skip (b := false) (d := 32) dA rfl rfl rfl (by decide) ?_;intro A3 e3 jA;clear dA;refine wpQuiet_skip (b := false) (d := 32) jA rfl rfl rfl (by decide) ?_;intro A4 e4 eA;clear jA;refine wpQuiet_skip (b := false) (d := 32) eA rfl rfl rfl (by decide) ?_;intro A5 e5 Y;clear eA;refine wpQuiet_skip (b := false) (d := 32) Y rfl rfl rfl (by decide) ?_;intro A6 e6 iA;clear Y;refine wpQuiet_skip (b := false) (d := 32) iA rfl rfl rfl (by decide) ?_;intro A7 e7 cA;clear iA;refine wpQuiet_skip (b := false) (d := 32) cA rfl rfl rfl (by decide) ?_;intro A8 e8 XA;clear cA;subst e8 e7 e6 e5 e4 e3 e2 e1 e0;subst hA;refine wpQuiet_step (fun K hK => ?_);go_simp
     refine hK _ ?_;clear hK K;refine wpQuiet_nil ?_;rintro wx ⟨v, R⟩;clear n0 n1 C J S F X y;go_wp2;go_ret
     exact ⟨ret_bool (HF.out fun h => hm (HN.out h).1).symm, v⟩
   ·have V : k = c.1.length := by omega
    have H : Hid (shapeB c = true) := shape_yes ⟨HP.out, G.out, by rw [← V]; exact E⟩;subst V;go_wp2;go_ret
    exact ⟨ret_bool H.out.symm, F⟩
 ·have H : Hid (shapeB c = false) := shape_no fun h => hl h.2.1;have YA : ((c.2.length : Int) == (c.1.length : Int)) = false := by simp; omega
  clear h1 h2 m1 m2 m3;go_enter Tryz.func256, Tryz.ntmps256;go_wp2_with (go_at_call 188; refine (sizeOk_any _ _).mono ?_; rintro e g ⟨rfl, rfl⟩; rw [N])
  go_ret
  exact ⟨ret_bool H.out.symm, HB.out _⟩
open Go.ChangeShapes Go.WideShapes Go.ChangeAt Go.RowKit
open Go.Maps (Keyed)
set_option linter.unusedSimpArgs false
abbrev Trip := Int × Int × Bool
abbrev kk (t : Trip) : Value := .agg #[.int .i64 t.1, .int .i64 t.2.1, .bool t.2.2]
def KeyT (t : Trip) : Prop := (Lit.int .i64 t.1).wf = true ∧ (Lit.int .i64 t.2.1).wf = true
theorem keepRow : (171 : TypeId) < Tryz.prog.types.size := of_decide_eq_true (by kernel_rfl)
theorem keepWide : (match Tryz.prog.underlying 171 with | some (.array _ _) | some (.struct _) => true | _ => false) = true := by kernel_rfl
theorem keepLaw : WideMaps.KeyLaw Tryz.prog 171 := deep_law_laid laidOutB_ok (m := 2) (by omega) keepRow (by kernel_rfl) keepWide
theorem keepKeyed : Keyed Tryz.prog 171 := Keyed.of_law keepLaw
theorem key_three {P : Program} {t u v : TypeId} {f0 f1 f2 : Field} (ht : P.underlying t = some (.struct #[f0, f1, f2])) (hu : P.underlying u = some (.int .i64)) (hv : P.underlying v = some .bool) (h0 : f0.type = u) (h1 : f1.type = u) (h2 : f2.type = v) (o0 : f0.offset = 0) (o1 : f1.offset = 1) (o2 : f2.offset = 2)
    (n0 : (f0.name != "_") = true) (n1 : (f1.name != "_") = true) (n2 : (f2.name != "_") = true) (hc : P.cellsOf t = 3) (hcu : P.cellsOf u = 1) (hcv : P.cellsOf v = 1) (hk : P.keyType t = true) (hsz : 0 < P.types.size) {x : Trip} (hs : KeyT x) : ∃ l, keyOf P t (kk x) = some l := by
 have g2 : (kk x).formed P t = true := by simp [Value.formed, ht, hc]
 obtain ⟨m, hm⟩ : ∃ m, P.types.size = m + 1 := ⟨P.types.size - 1, by omega⟩;have h3 : P.keyLits (P.types.size + 1) t (kk x).cells.toList = some [.int .i64 x.1, .int .i64 x.2.1, .bool x.2.2] := by
  rw [hm];simp only [Program.keyLits, ht, Value.cells];simp [hc, n0, n1, n2, h0, h1, h2, o0, o1, o2, hcu, hcv, hu, hv, hs.1, hs.2]
 refine ⟨.string (keyBytes [.int .i64 x.1, .int .i64 x.2.1, .bool x.2.2]), ?_⟩;unfold keyOf;rw [ht];simp only [hk, g2, h3, Bool.and_self, if_true, Option.map_some]
theorem kk_key {t : Trip} (h : KeyT t) : ∃ l, keyOf Tryz.prog 171 (kk t) = some l :=
 key_three Tryz.underlying171 Tryz.underlying2 Tryz.underlying4 rfl rfl rfl rfl rfl rfl (by decide) (by decide) (by decide) (by kernel_rfl) (by kernel_rfl) (by kernel_rfl) (by kernel_rfl) (of_decide_eq_true (by kernel_rfl)) h
def SetK (w : World) (b n : Nat) (L : List Trip) : Prop :=
 ∃ D : DataW Unit, w.ownsMap Tryz.prog 171 unitElem b n D ∧ ∀ l, Maps.has D l = true ↔ ∃ t ∈ L, KeyT t ∧ keyOf Tryz.prog 171 (kk t) = some l
theorem setK_made (w : World) : SetK (w.alloc (.map #[] 0)) w.heap.size 0 [] := ⟨.map [], World.ownsMap_made w Tryz.prog _ _, fun l => ⟨fun h => (by cases h), fun ⟨t, h, _⟩ => (by cases h)⟩⟩
theorem SetK.lt {w : World} {b n : Nat} {L : List Trip} (h : SetK w b n L) : b < w.heap.size := by obtain ⟨D, h, _⟩ := h; exact h.lt
theorem SetK.block {w w' : World} {b n : Nat} {L : List Trip} (h : SetK w b n L) (hb : w'.heap[b]? = w.heap[b]?) : SetK w' b n L := by
 obtain ⟨D, ⟨es, clock, h0, r⟩, hf⟩ := h; exact ⟨D, ⟨es, clock, by rw [hb]; exact h0, r⟩, hf⟩
theorem SetK.below {w w' : World} {b n m : Nat} {L : List Trip} (h : SetK w b n L) (hB : Below m w w') (hm : b < m) : SetK w' b n L := h.block (hB.block b hm)
theorem SetK.mono {w : World} {b n n' : Nat} {L : List Trip} (h : SetK w b n L) (hn : n ≤ n') : SetK w b n' L := by obtain ⟨D, h, hf⟩ := h; exact ⟨D, h.mono hn, hf⟩
theorem setK_put {D : DataW Unit} {w w' : World} {b n : Nat} {L : List Trip} {t : Trip} {l : Lit} (h : w.ownsMap Tryz.prog 171 unitElem b n D) (hf : ∀ l, Maps.has D l = true ↔ ∃ t ∈ L, KeyT t ∧ keyOf Tryz.prog 171 (kk t) = some l) (ht : KeyT t) (hl : keyOf Tryz.prog 171 (kk t) = some l)
    (h1 : w'.ownsMap Tryz.prog 171 unitElem b (n + 1) (D.put l (.agg []))) : SetK w' b (n + 1) (L ++ [t]) := by
 refine ⟨_, h1, fun m => ?_⟩;by_cases he : m = l
 ·subst he;rw [Maps.has_put_same h.isMap (keepKeyed.key hl)];exact ⟨fun _ => ⟨t, by simp, ht, hl⟩, fun _ => rfl⟩
 ·rw [Maps.has_put_other he, hf m];constructor
  ·rintro ⟨u, hu, hk⟩;exact ⟨u, by simp [hu], hk⟩
  ·rintro ⟨u, hu, hk, hk2⟩;rcases List.mem_append.1 hu with hu | hu
   ·exact ⟨u, hu, hk, hk2⟩
   ·simp only [List.mem_singleton] at hu;subst hu;rw [hl] at hk2;exact absurd (Option.some.inj hk2).symm he
theorem zeroU (w : World) : (zeroValue 231).run Tryz.prog w = .ok (.agg #[]) w := by kernel_rfl
theorem add_any (b n : Nat) (L : List Trip) (t : Trip) (w : World) (h : SetK w b n L) (hn : n < maxLen) (ht : KeyT t) :
    Calls Tryz.prog 175 #[.map (some b), kk t] w fun e w' => (∃ v, e = .returned v) ∧ SetK w' b (n + 1) (L ++ [t]) ∧ w.grownBy w' (some b) := by
 obtain ⟨l, hl⟩ := kk_key ht;have hb := h.lt;have B := box_below w (.cells #[.int .i64 t.1, .int .i64 t.2.1, .bool t.2.2] 171);have X := heap_at w (.cells #[.int .i64 t.1, .int .i64 t.2.1, .bool t.2.2] 171);obtain ⟨D, ho, hf⟩ := h.below B hb;have HF : Hid _ := hf;have HL : Hid _ := hl;clear hf h hl;go_enter Tryz.func175, Tryz.ntmps175;go_upto_region 1 with fail
 generalize w.alloc (.cells #[.int .i64 t.1, .int .i64 t.2.1, .bool t.2.2] 171) = u1w at B X ho ⊢;obtain ⟨x0, x1, x2⟩ := cells_three X;have HO : Hid _ := ho;clear X ho;go_wp2_with (at_mapUpdate; refine wpList_mapUpdate_own _ rfl _ _ _ 168 rfl 171 231 keepKeyed Tryz.underlying168 unitElem b n D rfl HO.out hn _ _ l rfl rfl HL.out (.agg []) [] unitElem_mk ?_; intro w1 hown1 hgrow1)
 have HS : Hid (SetK w1 b (n + 1) (L ++ [t])) := setK_put HO.out HF.out ht HL.out hown1;have HG : Hid (w.grownBy w1 (some b)) := by
  refine ⟨hgrow1.os.trans B.os, hgrow1.tape.trans B.tape, hgrow1.output.trans B.output, Nat.le_trans B.size hgrow1.size, fun i hi hne => ?_⟩;exact (hgrow1.block i (Nat.lt_of_lt_of_le hi B.size) hne).trans (B.block i hi)
 clear hown1 hgrow1;go_wp2;exact bodyPost_end (v := .tuple #[]) (by simp [results, Tryz.results175, go_sem]) rfl ⟨⟨_, rfl⟩, HS.out, HG.out⟩
theorem nodup_sub {α : Type} [DecidableEq α] : ∀ {l1 l2 : List α}, l1.Pairwise (· ≠ ·) → (∀ x ∈ l1, x ∈ l2) → l2.length ≤ l1.length → ∀ x ∈ l2, x ∈ l1
 | [], l2, _, _, hl, x, hx => by
  have : l2 = [] := List.eq_nil_of_length_eq_zero (by simpa using hl);rw [this] at hx;exact hx
 | a :: r, l2, hp, hs, hl, x, hx => by
  obtain ⟨h1, h2⟩ := List.pairwise_cons.1 hp;by_cases he : x = a
  ·simp [he]
  ·have ha := hs a (by simp);have := nodup_sub (l1 := r) (l2 := l2.erase a) h2 (fun y hy => (List.mem_erase_of_ne (fun e => h1 y hy e.symm)).2 (hs y (by simp [hy]))) (by rw [List.length_erase_of_mem ha]; simp at hl; omega) x ((List.mem_erase_of_ne he).2 hx);simp [this]
theorem nodup_len {α : Type} [DecidableEq α] : ∀ {l1 l2 : List α}, l1.Pairwise (· ≠ ·) → (∀ x ∈ l1, x ∈ l2) → l1.length ≤ l2.length
 | [], l2, _, _ => Nat.zero_le _
 | a :: r, l2, hp, hs => by
  obtain ⟨h1, h2⟩ := List.pairwise_cons.1 hp;have ha := hs a (by simp);have := nodup_len (l1 := r) (l2 := l2.erase a) h2 (fun y hy => (List.mem_erase_of_ne (fun e => h1 y hy e.symm)).2 (hs y (by simp [hy])));rw [List.length_erase_of_mem ha] at this;have : 0 < l2.length := List.length_pos_of_mem ha;simp
  omega
theorem has_mem {D : DataW Unit} {w : World} {b n : Nat} (h : w.ownsMap Tryz.prog 171 unitElem b n D) : ∃ ks : List Lit, ks.Pairwise (· ≠ ·) ∧ ks.length = Maps.size D ∧ ∀ l, Maps.has D l = true ↔ l ∈ ks := by
 obtain ⟨es, rfl, hp, hk⟩ := h.entries keepKeyed;refine ⟨es.map (·.1), List.pairwise_map.2 hp, by simp [Maps.size], fun l => ?_⟩;rw [Maps.has_eq, List.any_eq_true];constructor
 ·rintro ⟨p, hp1, hp2⟩;exact List.mem_map.2 ⟨p, hp1, WideAt.sameKey_eq hp2⟩
 ·intro hl;obtain ⟨p, hp1, rfl⟩ := List.mem_map.1 hl;exact ⟨p, hp1, WideAt.sameKey_self (hk p hp1)⟩
open Classical in
theorem sets_same {D1 D2 : DataW Unit} {w : World} {b1 n1 b2 n2 : Nat} (h1 : w.ownsMap Tryz.prog 171 unitElem b1 n1 D1) (h2 : w.ownsMap Tryz.prog 171 unitElem b2 n2 D2) :
    (∀ l, Maps.has D1 l = true ↔ Maps.has D2 l = true) ↔ (Maps.size D1 = Maps.size D2 ∧ ∀ l, Maps.has D1 l = true → Maps.has D2 l = true) := by
 obtain ⟨k1, p1, s1, m1⟩ := has_mem h1;obtain ⟨k2, p2, s2, m2⟩ := has_mem h2;constructor
 ·intro h;have a := nodup_len p1 fun x hx => (m2 x).1 ((h x).1 ((m1 x).2 hx));have b := nodup_len p2 fun x hx => (m1 x).1 ((h x).2 ((m2 x).2 hx));exact ⟨by omega, fun l hl => (h l).1 hl⟩
 ·rintro ⟨hs, h⟩ l;refine ⟨h l, fun hl => ?_⟩;rw [m1];exact nodup_sub p1 (fun x hx => (m2 x).1 (h x ((m1 x).2 hx))) (by omega) l ((m2 l).1 hl)
theorem linesOk_any (k : Int) (w : World) : Calls Tryz.prog 89 #[nI k] w fun e a => e = .returned (.bool (betw k 1 16)) ∧ a = w := by
 go_enter Tryz.func89, Tryz.ntmps89;go_wp2_with (go_at_call 156; refine (between_any _ _ _ _).mono ?_; rintro e a ⟨rfl, rfl⟩)
 go_ret
 exact ⟨rfl, rfl⟩
def codeI (c s y l : Int) : Int := if betw c 1 4 then (if powB s then (if powB y then (if betw l 1 16 then 0 else 4) else 3) else 2) else 1
theorem specCode_any (c s y l : Int) (w : World) :
    Calls Tryz.prog 66 #[.agg #[nI c, nI s, nI y, nI l]] w fun e a => e = .returned (nI (codeI c s y l)) ∧ Bl w a := by
 have B := (Below.refl w.heap.size w).alloc (Nat.le_refl _);unfold codeI;cases h1 : betw c 1 4 <;> cases h2 : powB s <;> cases h3 : powB y <;> cases h4 : betw l 1 16
 all_goals
  go_enter Tryz.func66, Tryz.ntmps66
  go_wp2_with (first
   | (go_at_call 126; refine (l1In_any _ _ _ _).mono ?_; rintro e a ⟨rfl, rfl⟩)
   | (go_at_call 127; refine (l2Pow_any _ _).mono ?_; rintro e a ⟨rfl, rfl⟩))
  go_ret
  exact ⟨rfl, B _⟩
theorem firstWrong_any (c s y l : Int) (w : World) :
    Calls Tryz.prog 145 #[.agg #[nI c, nI s, nI y, nI l], nI 1] w fun e a => e = .returned (nI (codeI c s y l)) ∧ Bl w a := by
 have B := (Below.refl w.heap.size w).alloc (Nat.le_refl _);unfold codeI;cases h1 : betw c 1 4 <;> cases h2 : powB s <;> cases h3 : powB y <;> cases h4 : betw l 1 16
 all_goals
  go_enter Tryz.func145, Tryz.ntmps145
  go_wp2_with (first
   | (go_at_call 156; refine (between_any _ _ _ _).mono ?_; rintro e a ⟨rfl, rfl⟩)
   | (go_at_call 89; refine (linesOk_any _ _).mono ?_; rintro e a ⟨rfl, rfl⟩)
   | (go_at_call 188; refine (sizeOk_any _ _).mono ?_; rintro e a ⟨rfl, rfl⟩))
  go_ret
  exact ⟨rfl, B _⟩
theorem implCode_any (c s y l : Int) (w : World) :
    Calls Tryz.prog 83 #[.agg #[nI c, nI s, nI y, nI l]] w fun e a => e = .returned (nI (codeI c s y l)) ∧ Bl w a := by
 have B := (Below.refl w.heap.size w).alloc (Nat.le_refl _);go_enter Tryz.func83, Tryz.ntmps83;go_wp2_with (go_at_call 145; refine (firstWrong_any _ _ _ _ _).mono ?_; rintro e a ⟨rfl, b⟩)
 go_ret
 exact ⟨rfl, below_step (B _) b⟩
theorem code_zero {c s y l : Int} (h : codeI c s y l = 0) : (1 ≤ l ∧ l ≤ 16) ∧ (s = 1 ∨ s = 2 ∨ s = 4) := by
 unfold codeI at h;cases f : betw c 1 4 <;> cases a : powB s <;> cases d : powB y <;> cases b : betw l 1 16 <;> simp [f, a, d, b] at h
 simp [betw] at b
 simp [powB] at a
 exact ⟨b, a⟩
def lineB (c s y l k : Int) : Bool := decide (codeI c s y l = 0 ∧ 0 ≤ k ∧ k < l)
def addrB (c s y l k : Int) : Bool := decide (codeI c s y l = 0 ∧ 0 ≤ k ∧ k < 2 * l)
theorem box_cell {w w1 : World} {cs : Array Value} {t : TypeId} (h : Below (w.alloc (.cells cs t)).heap.size (w.alloc (.cells cs t)) w1) (j : Nat) : w1.cell? ⟨w.heap.size, j, none⟩ = cs[j]? := by
 rw [h.cell (by simp), cell_of_row (w.alloc (.cells cs t)) w.heap.size j cs t (0, 0) (heap_alloc_new w _)]
theorem hasLine_any (c s y l k : Int) (w : World) :
    Calls Tryz.prog 212 #[.agg #[nI c, nI s, nI y, nI l], nI k] w fun e g => e = .returned (.bool (lineB c s y l k)) ∧ Bl w g := by
 have B := (Below.refl w.heap.size w).alloc (Nat.le_refl _);by_cases a : codeI c s y l = 0
 ·obtain ⟨hl, i⟩ := code_zero a;have d : (codeI c s y l == 0) = true := by simp [a]
  have f : Hid (lineB c s y l k = betw k 0 (l - 1)) := by
   unfold Hid lineB betw;simp only [a, true_and];rw [Bool.eq_iff_iff];simp
   omega
  clear a i;go_enter Tryz.func212, Tryz.ntmps212;go_wp2_with fail
  refine (implCode_any _ _ _ _ _).mono ?_;rintro e j ⟨rfl, b⟩;have m := (box_cell b 3);simp only [List.getElem?_toArray, List.getElem?_cons_succ, List.getElem?_cons_zero] at m;go_wp2_with (go_at_call 156; refine (between_any _ _ _ _).mono ?_; rintro e g ⟨rfl, rfl⟩)
  go_ret
  exact ⟨ret_bool f.out.symm, below_step (B _) b⟩
 ·have d : (codeI c s y l == 0) = false := by simp [a]
  have f : Hid (lineB c s y l k = false) := by
   unfold Hid lineB;simp [a]
  clear a;go_enter Tryz.func212, Tryz.ntmps212;go_wp2_with (go_at_call 83; refine (implCode_any _ _ _ _ _).mono ?_; rintro e j ⟨rfl, b⟩)
  go_ret
  exact ⟨ret_bool f.out.symm, below_step (B _) b⟩
theorem lineB_eq {c s y l a : Int} (h : codeI c s y l = 0) : lineB c s y l a = betw a 0 (l - 1) := by
 unfold lineB betw;simp only [h, true_and];rw [Bool.eq_iff_iff];simp
 omega
theorem l2Addr_any (c s y l a : Int) (w : World) (hl : 1 ≤ l ∧ l ≤ 16) :
    Calls Tryz.prog 137 #[.agg #[nI c, nI s, nI y, nI l], nI a] w fun e w' => e = .returned (.bool (betw a 0 (2 * l - 1))) ∧ Bl w w' := by
 have B := (Below.refl w.heap.size w).alloc (Nat.le_refl _);by_cases h1 : 0 ≤ a
 ·by_cases h2 : a < 2 * l
  all_goals
   go_enter Tryz.func137, Tryz.ntmps137;go_wp2;go_ret
   exact ⟨ret_bool (by unfold betw; rw [Bool.eq_iff_iff]; simp; omega), B _⟩
 ·go_enter Tryz.func137, Tryz.ntmps137;go_wp2;go_ret
  exact ⟨ret_bool (by unfold betw; rw [Bool.eq_iff_iff]; simp; omega), B _⟩
theorem addrB_half (c s y l a : Int) (h : 0 ≤ a) : lineB c s y l (a / 2) = addrB c s y l a := by
 unfold addrB lineB;rw [Bool.eq_iff_iff];simp
 intro _;omega
theorem addrB_neg (c s y l a : Int) (h : ¬ 0 ≤ a) : addrB c s y l a = false := by
 unfold addrB;simp
 omega
theorem hasAddr_any (c s y l a : Int) (w : World) (hw : 0 ≤ a → wrap64 (a.tdiv 2) = a / 2) :
    Calls Tryz.prog 264 #[.agg #[nI c, nI s, nI y, nI l], nI a] w fun e w' => e = .returned (.bool (addrB c s y l a)) ∧ Bl w w' := by
 have B := (Below.refl w.heap.size w).alloc (Nat.le_refl _);by_cases d : 0 ≤ a
 ·have H := addrB_half c s y l a d;have b : Hid _ := H;have g := hw d;clear H hw;go_enter Tryz.func264, Tryz.ntmps264;go_wp2_with (go_at_call 212; refine (hasLine_any _ _ _ _ _ _).mono ?_; rintro e w1 ⟨rfl, f⟩)
  go_ret
  exact ⟨ret_bool b.out, below_step (B _) f⟩
 ·have b : Hid _ := addrB_neg c s y l a d;clear hw;go_enter Tryz.func264, Tryz.ntmps264;go_wp2;go_ret
  exact ⟨ret_bool b.out.symm, B _⟩
end Go.Proofs.YtdamokokcdcedaaGreatDoor
