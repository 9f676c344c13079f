import Derived.Test.YtcocbafhcpdheaaGreatDoorS00Box
import Derived.Test.YtcocbafhcpdheaaGreatDoorS29
import Derived.Deep.RegionHeld3
namespace Go.Proofs.YtcocbafhcpdheaaGreatDoor
open Go.ChangeShapes Go.WideShapes Go.ChangeAt Go.RowKit Go.Shelf
set_option linter.unusedVariables false
noncomputable def findI (c : CacheD) (line : Int) : WayD × Int := findC isL treeB c line
theorem find_bad {c : CacheD} {line : Int} (h : okB isL treeB c = false) : findI c line = (emptyW, -1) := by
 unfold findI findC;rw [h];rfl
theorem isL_len {d : List Int} (h : isL d = true) : d.length = 2 := by
 rcases isL_cases d with a | ⟨x, y, rfl, _, _⟩
 ·rw [h] at a;cases a
 ·rfl
theorem ok_len {c : CacheD} (h : OkC isL treeB c) {s j : Nat} {row : List WayD} {u : WayD} (hr : c.1[s]? = some row) (hu : row[j]? = some u) : u.2.2.length ≤ 2 := by
 obtain ⟨h1, h2, m, hm, d⟩ := h;rcases (d s row hr).2.2.1 j u hu with b | ⟨a, _⟩
 ·rw [clear_eq b];simp [emptyW]
 ·rw [full_eq] at a;simp only [Bool.and_eq_true] at a;rw [isL_len a.2.2];exact Nat.le_refl _
theorem wayown_setC {w1 : World} {lo hi g o : Nat} {v : Value} {cs : List Value} {u : WayD} (h : wayR.own w1 (rng lo hi) cs u) (hg : g < lo ∨ hi ≤ g) : wayR.own (w1.setCell ⟨g, o, none⟩ v) (rng lo hi) cs u :=
 own_setC h (fun h' => by have := h'.1; have := h'.2; omega)
theorem made_on {w w1 w2 : World} {cs : List Value} {u : WayD} (h : MadeR wayR w w1 cs u) (hb : Below w1.heap.size w1 w2) : MadeR wayR w w2 cs u :=
 ⟨wayR.own_mono (own_next h.1 hb) (rng_sub (Nat.le_refl _) hb.size), below_step h.2 hb⟩
theorem cs1 {w : World} {g b o k : Nat} {u v : Value} (hne : ¬ (b = g)) (h : w.cell? ⟨b, k, none⟩ = some u) : (w.setCell ⟨g, o, none⟩ v).cell? ⟨b, k, none⟩ = some u :=
 (World.cell?_of_block (w := w) (a := ⟨b, k, none⟩) (heap_setCell_other w ⟨g, o, none⟩ b v hne)).trans h
theorem cs3 {w : World} {g b k : Nat} {u x y z : Value} (hne : ¬ (b = g)) (h : w.cell? ⟨b, k, none⟩ = some u) : (((w.setCell ⟨g, 0, none⟩ x).setCell ⟨g, 1, none⟩ y).setCell ⟨g, 2, none⟩ z).cell? ⟨b, k, none⟩ = some u := cs1 hne (cs1 hne (cs1 hne h))
theorem fin_own {w1 : World} {lo hi g : Nat} {cs : List Value} {u : WayD} {x y z : Value} (h : wayR.own w1 (rng lo hi) cs u) (hg : g < lo) : wayR.own (((w1.setCell ⟨g, 0, none⟩ x).setCell ⟨g, 1, none⟩ y).setCell ⟨g, 2, none⟩ z) (rng lo hi) cs u :=
 wayown_setC (wayown_setC (wayown_setC h (.inl hg)) (.inl hg)) (.inl hg)
theorem fin_made {w w0 w1 : World} {g : Nat} {cs : List Value} {u : WayD} {x y z : Value} (hb : Below w.heap.size w w0) (h : MadeR wayR w0 w1 cs u) (hg : g < w0.heap.size) (hw : w.heap.size ≤ g) : MadeR wayR w (((w1.setCell ⟨g, 0, none⟩ x).setCell ⟨g, 1, none⟩ y).setCell ⟨g, 2, none⟩ z) cs u :=
 ⟨wayR.own_mono (fin_own h.1 hg) (rng_sub hb.size (by simp)), below_setC (below_setC (below_setC (below_step hb h.2) hw) hw) hw⟩
set_option maxHeartbeats 2000000 in
theorem implFindW_any (a b : Option Addr) (c : CacheD) (cap cp : Nat) (line : Int) (w : World) (h1 : SlRd waysR w a c.1) (h2 : SlRd intR w b c.2) (m1 : c.1.length ≤ maxLen) (m2 : c.2.length ≤ maxLen) (m3 : ∀ row ∈ c.1, row.length ≤ maxLen) :
    Calls Tryz.prog 132 #[.agg #[.slice a c.1.length cap, .slice b c.2.length cp], .int .i64 line] w fun e w' => ∃ i g, e = .returned (.tuple #[.agg #[.int .i64 (findI c line).1.1, .int .i64 (findI c line).1.2.1, .slice i (findI c line).1.2.2.length g], .int .i64 (findI c line).2]) ∧
     MadeR wayR w w' [.int .i64 (findI c line).1.1, .int .i64 (findI c line).1.2.1, .slice i (findI c line).1.2.2.length g] (findI c line).1 := by
 have m : Hid (∀ W, Below w.heap.size w W → Calls Tryz.prog 194 #[.agg #[.slice a c.1.length cap, .slice b c.2.length cp]] W fun e w' => e = .returned (.bool (okB isL treeB c)) ∧ Below W.heap.size W w') := fun W hb =>
  implCacheOk_any a b c cap cp W (slrd_keep h1 fun k hk => hb.block k hk) (slrd_keep h2 fun k hk => hb.block k hk) m1 m2 m3
 cases s : okB isL treeB c
 ·rw [s] at m;rw [find_bad s];show Calls Tryz.prog 132 _ w fun e w' => ∃ i g, e = .returned (.tuple #[.agg #[.int .i64 (-1), .int .i64 0, .slice i 0 g], .int .i64 (-1)]) ∧ MadeR wayR w w' [.int .i64 (-1), .int .i64 0, .slice i 0 g] emptyW
  clear h1 h2 m1 m2 m3;have X := heap_on (.cells #[.int .i64 0, .int .i64 0, .slice none 0 0] 88) (heap_at w (.cells #[.slice a c.1.length cap, .slice b c.2.length cp] 92));have Y := heap_at (w.alloc (.cells #[.slice a c.1.length cap, .slice b c.2.length cp] 92)) (.cells #[.int .i64 0, .int .i64 0, .slice none 0 0] 88);rw [alloc_len] at Y;have B := below_step (box_below w (.cells #[.slice a c.1.length cap, .slice b c.2.length cp] 92)) (box_below _ (.cells #[.int .i64 0, .int .i64 0, .slice none 0 0] 88));go_enter Tryz.func132, Tryz.ntmps132;go_wp2_with fail
  generalize (w.alloc (.cells #[.slice a c.1.length cap, .slice b c.2.length cp] 92)).alloc (.cells #[.int .i64 0, .int .i64 0, .slice none 0 0] 88) = W0 at X Y B ⊢;refine (m.out _ B).mono ?_;rintro e w1 ⟨rfl, f⟩;replace B := below_step B f;replace Y := row_keep f Y;clear f X m;go_wp2_with fail
  have I := (ltH Y);refine (emptyWay_any _).mono ?_;rintro e w9 ⟨i, g, rfl, n⟩;replace Y := row_keep n.2 Y;obtain ⟨y0, y1, y2⟩ := cells_3 Y;obtain ⟨f0, f1, f2⟩ := cells_froz Y;have HM : Hid _ := And.intro Y n;clear Y n;go_wp2;obtain ⟨Y, n⟩ := HM.out;obtain ⟨S, T, K⟩ := cells_3 (put3 (a := .int .i64 (-1)) (b := .int .i64 0) (c := .slice i 0 g) Y);refine bodyPost_ret (v := .tuple #[.agg #[.int .i64 (-1), .int .i64 0, .slice i 0 g], .int .i64 (-1)]) (by simp [results, Tryz.results132, go_sem, S, T, K]) rfl ⟨i, g, rfl, fin_made B n I (by omega)⟩
 ·have d := okB_iff.1 s;rw [s] at m;have j : Hid (∀ W, Below w.heap.size w W → Calls Tryz.prog 196 #[.agg #[.slice a c.1.length cap, .slice b c.2.length cp], .int .i64 line] W fun e w' => e = .returned (.tuple #[.agg #[.int .i64 (findP c line).1, .int .i64 (findP c line).2.1], .bool (findP c line).2.2]) ∧ Below W.heap.size W w') :=
   fun W hbw => implFind_any a b c cap cp line W d (slrd_keep h1 fun k hk => hbw.block k hk)
  cases o : atC c line with
  | none =>
   have E : Hid (findI c line = (emptyW, -1)) := find_none o;have N : (findP c line).2.2 = false := by rw [findP_eq d, o]; split <;> rfl
   rw [N] at j;rw [E.out];show Calls Tryz.prog 132 _ w fun e w' => ∃ i g, e = .returned (.tuple #[.agg #[.int .i64 (-1), .int .i64 0, .slice i 0 g], .int .i64 (-1)]) ∧ MadeR wayR w w' [.int .i64 (-1), .int .i64 0, .slice i 0 g] emptyW
   clear h1 h2 m1 m2 m3 d N;generalize (findP c line).1 = f1 at j;generalize (findP c line).2.1 = f2 at j;have X := heap_on (.cells #[.int .i64 0, .int .i64 0, .slice none 0 0] 88) (heap_at w (.cells #[.slice a c.1.length cap, .slice b c.2.length cp] 92));have Y := heap_at (w.alloc (.cells #[.slice a c.1.length cap, .slice b c.2.length cp] 92)) (.cells #[.int .i64 0, .int .i64 0, .slice none 0 0] 88);rw [alloc_len] at Y;have B := below_step (box_below w (.cells #[.slice a c.1.length cap, .slice b c.2.length cp] 92)) (box_below _ (.cells #[.int .i64 0, .int .i64 0, .slice none 0 0] 88));go_enter Tryz.func132, Tryz.ntmps132;go_wp2_with fail
   generalize (w.alloc (.cells #[.slice a c.1.length cap, .slice b c.2.length cp] 92)).alloc (.cells #[.int .i64 0, .int .i64 0, .slice none 0 0] 88) = W0 at X Y B ⊢;refine (m.out _ B).mono ?_;rintro e w1 ⟨rfl, f⟩;replace B := below_step B f;replace X := row_keep f X;replace Y := row_keep f Y;obtain ⟨x0, x1⟩ := cells_two X;clear f m;go_wp2_with fail
   refine (j.out _ B).mono ?_;rintro e w2 ⟨rfl, f⟩;have A := box_below w2 (.cells #[.int .i64 f1, .int .i64 f2] 217);replace B := below_step (below_step B f) A;replace Y := row_keep A (row_keep f Y);clear f A x0 x1 X j;go_wp2_with fail
   generalize w2.alloc (.cells #[.int .i64 f1, .int .i64 f2] 217) = w3 at Y B ⊢;have I := (ltH Y);refine (emptyWay_any _).mono ?_;rintro e w9 ⟨i, g, rfl, n⟩;replace Y := row_keep n.2 Y;obtain ⟨y0, y1, y2⟩ := cells_3 Y;obtain ⟨f0, f1, f2⟩ := cells_froz Y;have HM : Hid _ := And.intro Y n;clear Y n;go_wp2;obtain ⟨Y, n⟩ := HM.out;obtain ⟨S, T, K⟩ := cells_3 (put3 (a := .int .i64 (-1)) (b := .int .i64 0) (c := .slice i 0 g) Y);refine bodyPost_ret (v := .tuple #[.agg #[.int .i64 (-1), .int .i64 0, .slice i 0 g], .int .i64 (-1)]) (by simp [results, Tryz.results132, go_sem, S, T, K]) rfl ⟨i, g, rfl, fin_made B n I (by omega)⟩
  | some fi =>
   obtain ⟨aB, u, R, AA⟩ := at_some o;have hb : betw line 0 15 = true := by
    cases IA : betw line 0 15
    ·rw [at_out d IA] at o;cases o
    ·rfl
   have E : Hid (findI c line = (u, (fi : Int))) := find_some d o R;have N : findP c line = (((setNo c line : Nat) : Int), (fi : Int), true) := by rw [findP_eq d, if_pos hb, o]; rfl
   rw [N] at j;rw [E.out];obtain ⟨hp, q, rA, pA, aA, DA⟩ := ok_row d line;have GA := ok_len d q R;obtain ⟨z, F, aj, cj, rfl, k2, -, -, V⟩ := set_at h1 q;have LA := (List.getElem?_eq_some_iff.1 R).1;obtain ⟨r, p, cs, rfl, y, l⟩ := slrd_at V R;obtain ⟨ad, C, rfl, i1, i2, -, -, U⟩ := way_rd y;have M := l 0 _ rfl;have k5 := l 1 _ rfl;have k6 := l 2 _ rfl;rw [show p + (fi * wayR.size + 0) = p + fi * 3 from rfl] at M;rw [show p + (fi * wayR.size + 1) = p + fi * 3 + 1 from rfl] at k5;rw [show p + (fi * wayR.size + 2) = p + fi * 3 + 2 from rfl] at k6;have JA : (fi : Int) < ((rowFor c line).length : Int) := by omega
   have O : ((setNo c line : Nat) : Int) < (c.1.length : Int) := by omega
   have HI : Hid (In64 u.1 ∧ In64 u.2.1) := ⟨i1, i2⟩;have HD : Hid (∀ W, Below w.heap.size w W → SlRd intR W ad u.2.2) := fun W hbw => slrd_keep U fun k hk => hbw.block k hk;have H : Hid (u.2.2.length ≤ 1048576) := by unfold Hid; omega
   have L : Hid (∀ W, Below w.heap.size w W → W.cell? ⟨z, F + setNo c line, none⟩ = some (.slice (some ⟨r, p, none⟩) (rowFor c line).length cj) ∧ W.cell? ⟨r, p + fi * 3, none⟩ = some (.int .i64 u.1) ∧ W.cell? ⟨r, p + fi * 3 + 1, none⟩ = some (.int .i64 u.2.1) ∧ W.cell? ⟨r, p + fi * 3 + 2, none⟩ = some (.slice ad u.2.2.length C)) :=
    fun W hbw => ⟨cell_keep hbw k2 (cell_lt k2), cell_keep hbw M (cell_lt M), cell_keep hbw k5 (cell_lt k5), cell_keep hbw k6 (cell_lt k6)⟩
   have fB := cell_lt k2;have kB := cell_lt M;clear h1 h2 m1 m2 m3 d q rA pA aA R AA V y l i1 i2 U k2 M k5 k6 N GA hp;generalize setNo c line = sn at j L DA O;generalize (rowFor c line).length = rn at L JA LA;obtain ⟨ul, us, ud⟩ := u;simp only at HI HD H L
   have X := heap_on (.cells #[.int .i64 0, .int .i64 0, .slice none 0 0] 88) (heap_at w (.cells #[.slice (some ⟨z, F, none⟩) c.1.length cap, .slice b c.2.length cp] 92));have Y := heap_at (w.alloc (.cells #[.slice (some ⟨z, F, none⟩) c.1.length cap, .slice b c.2.length cp] 92)) (.cells #[.int .i64 0, .int .i64 0, .slice none 0 0] 88);rw [alloc_len] at Y;have B := below_step (box_below w (.cells #[.slice (some ⟨z, F, none⟩) c.1.length cap, .slice b c.2.length cp] 92)) (box_below _ (.cells #[.int .i64 0, .int .i64 0, .slice none 0 0] 88));go_enter Tryz.func132, Tryz.ntmps132;go_wp2_with fail
   generalize (w.alloc (.cells #[.slice (some ⟨z, F, none⟩) c.1.length cap, .slice b c.2.length cp] 92)).alloc (.cells #[.int .i64 0, .int .i64 0, .slice none 0 0] 88) = W0 at X Y B ⊢;refine (m.out _ B).mono ?_;rintro e w1 ⟨rfl, f⟩;replace B := below_step B f;replace X := row_keep f X;replace Y := row_keep f Y;obtain ⟨x0, x1⟩ := cells_two X;clear f m;go_wp2_with fail
   refine (j.out _ B).mono ?_;rintro e G ⟨rfl, f⟩;have KA : Hid (w.heap.size + 1 < G.heap.size) := (Array.getElem?_eq_some_iff.1 (row_keep f Y)).1;have A := box_below G (.cells #[.int .i64 (sn : Int), .int .i64 (fi : Int)] 217);replace B := below_step (below_step B f) A;replace X := row_keep A (row_keep f X);replace Y := row_keep A (row_keep f Y);clear f A x0 x1 j;go_wp2_with fail
   generalize J : G.alloc _ = w5;have Z := boxH J;clear J;have I := (ltH Y);obtain ⟨x0, x1⟩ := cells_two X;obtain ⟨z0, z1⟩ := cells_two Z;obtain ⟨p0, p1, p2, p3⟩ := L.out _ B;have HX : Hid _ := And.intro X (And.intro Y Z);have bA : ¬ (G.heap.size = w.heap.size + 1) := by have := KA.out; omega
   have CA : ¬ (z = w.heap.size + 1) := by omega
   have D : ¬ (r = w.heap.size + 1) := by omega
   clear X Y Z;go_region_held3 (fun wx => wx.cell? ⟨w.heap.size, 0, none⟩ = some (.slice (some ⟨z, F, none⟩) c.1.length cap) ∧ wx.cell? ⟨G.heap.size, 0, none⟩ = some (.int .i64 (sn : Int)) ∧ wx.cell? ⟨G.heap.size, 1, none⟩ = some (.int .i64 (fi : Int)) ∧ wx.cell? ⟨z, F + sn, none⟩ = some (.slice (some ⟨r, p, none⟩) rn cj) ∧ wx.cell? ⟨r, p + fi * 3, none⟩ = some (.int .i64 ul) ∧ wx.cell? ⟨r, p + fi * 3 + 1, none⟩ = some (.int .i64 us) ∧ wx.cell? ⟨r, p + fi * 3 + 2, none⟩ = some (.slice ad ud.length C)) (first | (go_keep; done) | (exact ⟨cs3 (by omega) sA, cs3 bA zA, cs3 bA BA, cs3 CA vA, cs3 D EA, cs3 D HA, cs3 D FA⟩)) (first | (go_at_call 197; refine (wayCopied_any ul us ud ad C _ HI.out.1 HI.out.2 (HD.out _ B.drew) H.out).mono ?_; rintro e w9 ⟨i, g, rfl, n⟩; have BB := below_step B.drew n.2; obtain ⟨X, Y, Z⟩ := HX.out; replace X := row_keep (w := w5.drew) n.2 X; replace Y := row_keep (w := w5.drew) n.2 Y; replace Z := row_keep (w := w5.drew) n.2 Z; obtain ⟨sA, VA⟩ := cells_two X; obtain ⟨zA, BA⟩ := cells_two Z; obtain ⟨vA, EA, HA, FA⟩ := L.out _ BB; obtain ⟨eB, nB, XA⟩ := cells_3 Y; obtain ⟨gB, lB, ZA⟩ := cells_froz Y))
   all_goals
    go_wp2;obtain ⟨S, T, K⟩ := cells_3 (put3 (a := .int .i64 ul) (b := .int .i64 us) (c := .slice i ud.length g) Y);refine bodyPost_ret (v := .tuple #[.agg #[.int .i64 ul, .int .i64 us, .slice i ud.length g], .int .i64 (fi : Int)]) (by simp [results, Tryz.results132, go_sem, S, T, K]) rfl ⟨i, g, rfl, fin_made B.drew n (by exact I) (by omega)⟩
theorem sumbk_ints (d : List Int) : sumbk intM d = 0 := by
 induction d with
 | nil => rfl
 | cons x d ih =>
  simp only [sumbk, List.map_cons, List.sum_cons] at ih ⊢;rw [ih];rfl
set_option maxHeartbeats 1000000 in
theorem l6Way_in (b : Option Addr) (c : CacheD) (cap cp b0 o0 bj oj cj fi cpw : Nat) (ad : Option Addr) (line : Int) (ul us : Int) (ud : List Int) (w : World) (hokc : OkC isL treeB c) (h1 : SlRd waysR w (some ⟨b0, o0, none⟩) c.1) (hat : atC c line = some fi)
    (k2 : w.cell? ⟨b0, o0 + setNo c line, none⟩ = some (.slice (some ⟨bj, oj, none⟩) (rowFor c line).length cj)) (k4 : w.cell? ⟨bj, oj + fi * 3, none⟩ = some (.int .i64 ul)) (k5 : w.cell? ⟨bj, oj + fi * 3 + 1, none⟩ = some (.int .i64 us)) (k6 : w.cell? ⟨bj, oj + fi * 3 + 2, none⟩ = some (.slice ad ud.length cpw)) :
    Calls Tryz.prog 103 #[.agg #[.slice (some ⟨b0, o0, none⟩) c.1.length cap, .slice b c.2.length cp], .int .i64 line] w fun e w' => e = .returned (.agg #[.int .i64 ul, .int .i64 us, .slice ad ud.length cpw]) ∧ Below w.heap.size w w' := by
 obtain ⟨E, u, G, D⟩ := at_some hat;have m : Hid (∀ W, Below w.heap.size w W → Calls Tryz.prog 150 #[.agg #[.slice (some ⟨b0, o0, none⟩) c.1.length cap, .slice b c.2.length cp], .int .i64 line] W fun e w' => e = .returned (.int .i64 (fi : Int)) ∧ Below W.heap.size W w') := fun W hbw => by
  have := specAt_any (some ⟨b0, o0, none⟩) b c cap cp line W hokc (slrd_keep h1 fun k hk => hbw.block k hk);rwa [hat] at this
 obtain ⟨O, i, z, o, f, s⟩ := ok_row hokc line;have C := (List.getElem?_eq_some_iff.1 G).1;have y : (fi : Int) < ((rowFor c line).length : Int) := by omega
 have j : ((setNo c line : Nat) : Int) < (c.1.length : Int) := by omega
 have d : line % (c.1.length : Int) = ((setNo c line : Nat) : Int) := f.symm;have Z : (c.1.length : Int) ≠ 0 := by omega
 have T : ((c.1.length : Int) == 0) = false := beq_false_of_ne Z;have l : ¬ (c.1.length = 0) := by omega
 have V : ¬ (c.1 = []) := fun e => by rw [e] at l; exact l rfl
 have p : Int.tmod line (c.1.length : Int) = ((setNo c line : Nat) : Int) := by rw [Int.tmod_eq_emod_of_nonneg E, d]
 have F : ¬ ((fi : Int) < 0) := by omega
 have A : Hid (∀ W, Below w.heap.size w W → W.cell? ⟨b0, o0 + setNo c line, none⟩ = some (.slice (some ⟨bj, oj, none⟩) (rowFor c line).length cj) ∧ W.cell? ⟨bj, oj + fi * 3, none⟩ = some (.int .i64 ul) ∧ W.cell? ⟨bj, oj + fi * 3 + 1, none⟩ = some (.int .i64 us) ∧ W.cell? ⟨bj, oj + fi * 3 + 2, none⟩ = some (.slice ad ud.length cpw)) :=
  fun W hbw => ⟨cell_keep hbw k2 (cell_lt k2), cell_keep hbw k4 (cell_lt k4), cell_keep hbw k5 (cell_lt k5), cell_keep hbw k6 (cell_lt k6)⟩
 have bA := cell_lt k2;have R := cell_lt k4;clear h1 hokc i z o f G D k2 k4 k5 k6 O hat;generalize setNo c line = sn at A s j d p;generalize (rowFor c line).length = rn at A y C;have X := heap_on (.cells #[.int .i64 0, .int .i64 0, .slice none 0 0] 88) (heap_at w (.cells #[.slice (some ⟨b0, o0, none⟩) c.1.length cap, .slice b c.2.length cp] 92));have Y := heap_at (w.alloc (.cells #[.slice (some ⟨b0, o0, none⟩) c.1.length cap, .slice b c.2.length cp] 92)) (.cells #[.int .i64 0, .int .i64 0, .slice none 0 0] 88);rw [alloc_len] at Y;have B := below_step (box_below w (.cells #[.slice (some ⟨b0, o0, none⟩) c.1.length cap, .slice b c.2.length cp] 92)) (box_below _ (.cells #[.int .i64 0, .int .i64 0, .slice none 0 0] 88));go_enter Tryz.func103, Tryz.ntmps103;go_wp2_with fail
 generalize (w.alloc (.cells #[.slice (some ⟨b0, o0, none⟩) c.1.length cap, .slice b c.2.length cp] 92)).alloc (.cells #[.int .i64 0, .int .i64 0, .slice none 0 0] 88) = W0 at X Y B ⊢;refine (m.out _ B).mono ?_;rintro e I ⟨rfl, n⟩;replace B := below_step B n;replace X := row_keep n X;replace Y := row_keep n Y;clear n m;obtain ⟨M, x1⟩ := cells_two X;obtain ⟨y0, y1, y2⟩ := cells_3 Y;obtain ⟨f0, f1, f2⟩ := cells_froz Y;obtain ⟨S, p1, N, K⟩ := A.out _ B;have r : ¬ (w.heap.size = w.heap.size + 1) := by omega
 have q : ¬ (b0 = w.heap.size + 1) := by omega
 have g : ¬ (bj = w.heap.size + 1) := by omega
 have J : Hid _ := Y;clear X Y;go_wp2_with fail
 go_region_held3 (fun wx => wx.cell? ⟨w.heap.size, 0, none⟩ = some (.slice (some ⟨b0, o0, none⟩) c.1.length cap) ∧ wx.cell? ⟨b0, o0 + sn, none⟩ = some (.slice (some ⟨bj, oj, none⟩) rn cj) ∧ wx.cell? ⟨bj, oj + fi * 3, none⟩ = some (.int .i64 ul) ∧ wx.cell? ⟨bj, oj + fi * 3 + 1, none⟩ = some (.int .i64 us) ∧ wx.cell? ⟨bj, oj + fi * 3 + 2, none⟩ = some (.slice ad ud.length cpw)) (first | (go_keep; done) | (exact ⟨cs3 r M, cs3 q S, cs3 g p1, cs3 g N, cs3 g K⟩)) (fail)
 all_goals
  go_wp2;obtain ⟨H, L, U⟩ := cells_3 (put3 (w := I) (a := .int .i64 ul) (b := .int .i64 us) (c := .slice ad ud.length cpw) J.out);refine bodyPost_ret (v := .agg #[.int .i64 ul, .int .i64 us, .slice ad ud.length cpw]) (by simp [results, Tryz.results103, go_sem, H, L, U]) rfl ⟨rfl, (below_setC (below_setC (below_setC B (by omega)) (by omega)) (by omega)).drew⟩
end Go.Proofs.YtcocbafhcpdheaaGreatDoor
